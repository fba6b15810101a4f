/-
  A row of memory that holds heights, and what spec.l03Depths returns for a module that is ok: the heights that are told.
-/
import Derived.Test.YtmmcockkbhnopaaGreatOV11
import Derived.Test.YtmmcockkbhnopaaGreatOV6
import Derived.Test.YtmmcockkbhnopaaGreatOV8
import Derived.Deep.RegionHeld3
import Derived.Deep.LoopGhost
namespace Go.Proofs.YtmmcockkbhnopaaGreat
open Go.RowKit

/-- The block 'g' holds the heights 'd'. -/
def Ht (w : World) (g cap : Nat) (d : List Int) : Prop := ∃ cur : Array Value, w.heap[g]? = some (Obj.cells cur 3 (0, 0)) ∧ cur.size = cap ∧ d.length ≤ cap ∧ ∀ j (h : j < d.length), cur[j]? = some (.int .i64 d[j])

theorem Ht.mono {w w' : World} {g cap : Nat} {d : List Int} (h : Ht w g cap d) (hb : Below w.heap.size w w') : Ht w' g cap d := by
  obtain ⟨c, h1, h2⟩ := h
  exact ⟨c, block_kept h1 hb, h2⟩
theorem Ht.lt {w : World} {g cap : Nat} {d : List Int} (h : Ht w g cap d) : g < w.heap.size := by
  obtain ⟨c, h1, -⟩ := h
  exact lt_block h1
theorem Ht.cell {w : World} {g cap : Nat} {d : List Int} (h : Ht w g cap d) {j : Nat} (hj : j < d.length) : w.cell? ⟨g, j, none⟩ = some (.int .i64 d[j]) := by
  obtain ⟨c, h1, -, -, h4⟩ := h
  rw [block_cell h1]
  exact h4 j hj
theorem Ht.free {w : World} {g cap : Nat} {d : List Int} (h : Ht w g cap d) (j : Nat) : w.frozen? ⟨g, j, none⟩ = false := by
  obtain ⟨c, h1, -⟩ := h
  exact block_free h1 j
theorem Ht.set {w : World} {g cap : Nat} {d : List Int} (h : Ht w g cap d) {j : Nat} (hj : j < d.length) (x : Int) : Ht (w.setCell ⟨g, j, none⟩ (.int .i64 x)) g cap (d.set j x) := by
  obtain ⟨c, h1, h2, h3, h4⟩ := h
  refine ⟨_, block_set h1 _, by simpa using h2, by simpa using h3, fun i hi => ?_⟩
  rw [List.length_set] at hi
  by_cases e : i = j
  · subst e
    rw [set_self _ (by omega)]
    simp
  · rw [set_else _ e, List.getElem_set_ne (fun q => e q.symm)]
    exact h4 i hi
theorem Ht.ints {w : World} {g cap lo : Nat} {d : List Int} (h : Ht w g cap d) (hg : lo ≤ g) : IntsAt w lo (some ⟨g, 0, none⟩) d := fun i hi => ⟨g, 0, rfl, hg, by rw [Nat.zero_add]; exact h.cell hi⟩
theorem Ht.own {w : World} {B n : Nat} {v : Value} {vs : List Value} {d : List Int} (h : w.ownsRow B 3 1 v n vs) (hv : vs = d.map (Value.int .i64)) (hn : n = d.length) (h0 : 0 < n) : ∃ g cap, v = .slice (some ⟨g, 0, none⟩) n cap ∧ B ≤ g ∧ Ht w g cap d := by
  subst hv
  subst hn
  rcases h.2 with ⟨-, hn⟩ | ⟨g, cap, cur, hv, hb, hh, hn, -, hs, htake⟩
  · omega
  · refine ⟨g, cap, hv, hb, cur, hh, by omega, hn, fun i hi => ?_⟩
    have h1 : (cur.toList.take (d.length * 1))[i]? = (d.map (Value.int .i64))[i]? := by rw [htake]
    rw [List.getElem?_take_of_lt (by omega)] at h1
    simpa [hi] using h1

theorem stepB_no {fs : List Fn} {x : Int × Int} {pc : Nat} {h : List Int} {z t l : Int} (hz : h.getD pc (-1) = z) (ht : (usesB fs x.1 x.2).1 = t) (hl : (usesB fs x.1 x.2).2 = l) (hc : z < t ∨ 16 < z - t + l) : stepB fs x pc h = h := by
  unfold stepB
  rw [hz, ht, hl, if_pos hc]
theorem stepB_yes {fs : List Fn} {x : Int × Int} {pc : Nat} {h : List Int} {z t l : Int} (hz : h.getD pc (-1) = z) (ht : (usesB fs x.1 x.2).1 = t) (hl : (usesB fs x.1 x.2).2 = l) (hc : ¬ (z < t ∨ 16 < z - t + l)) : stepB fs x pc h = (nextB x.1 x.2 pc).foldl (layB (z - t + l)) h := by
  unfold stepB
  rw [hz, ht, hl, if_neg hc]
theorem part_succ {fs : List Fn} {code : List (Int × Int)} {k : Nat} (hk : k < code.length) (h : List Int) : partB fs code (k + 1) h = stepB fs code[k] k (partB fs code k h) := by
  show stepB fs (code.getD k (0, 0)) k (partB fs code k h) = _
  rw [getD_code hk]

/-- What may follow an instruction of a function lies in it, or just behind it. -/
theorem next_in {fs : List Fn} {code : List (Int × Int)} (F : Fine fs code) {k : Nat} (hk : k < code.length) : ∀ nx ∈ nextB code[k].1 code[k].2 k, 0 ≤ nx ∧ nx ≤ code.length := by
  intro nx hnx
  unfold nextB at hnx
  split at hnx
  · simp at hnx
  · split at hnx
    · simp at hnx; have := F.jump k hk (by omega); omega
    · split at hnx
      · simp at hnx
        rcases hnx with h | h
        · omega
        · have := F.jump k hk (by omega); omega
      · simp at hnx; omega

theorem fold_take {α β : Type} {f : β → α → β} {l : List α} {k : Nat} (hk : k < l.length) (b : β) : (l.take (k + 1)).foldl f b = f ((l.take k).foldl f b) l[k] := by
  rw [List.take_succ_eq_append_getElem hk, List.foldl_append]
  rfl
end Go.Proofs.YtmmcockkbhnopaaGreat
