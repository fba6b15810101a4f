/-
  Rows of a call's own: a cell written; what they hold, as lists of texts and functions.
-/
import Derived.Test.YtffeejkghmpkkaaROwn
namespace Go.Proofs.Ytffeejkghmpkkaa
open Go.RowKit

theorem own_put {w : World} {base e size n c : Nat} {a : Option Addr} {xs : List Value} (h : w.ownsRow base e size (.slice a n c) n xs) (j : Nat) (hj : j < n * size) :
    ∃ g, a = some ⟨g, 0, none⟩ ∧ base ≤ g ∧ w.frozen? ⟨g, j, none⟩ = false ∧ w.cell? ⟨g, j, none⟩ = xs[j]? ∧ (∃ u, xs[j]? = some u) ∧ (∀ v, (w.setCell ⟨g, j, none⟩ v).ownsRow base e size (.slice a n c) n (xs.set j v)) ∧ ∀ v, Only g w (w.setCell ⟨g, j, none⟩ v) := by
  have hxl := h.1
  rcases h.2 with ⟨-, hn⟩ | ⟨g, cap, cur, hv, hb, hh, hnc, hcm, hs, htake⟩
  · subst hn; simp at hj
  · cases hv
    refine ⟨g, rfl, hb, block_free hh j, ?_, ⟨xs[j]'(by omega), by simp [hxl, hj]⟩, fun v => ?_, fun v => (Only.refl _ _).set _ _⟩
    · rw [block_cell hh, ← htake, List.getElem?_take_of_lt hj, Array.getElem?_toList]
    · refine ⟨by simpa using hxl, .inr ⟨g, c, cur.setIfInBounds j v, rfl, hb, block_set hh v, hnc, hcm, by simpa using hs, ?_⟩⟩
      rw [← htake, Array.toList_setIfInBounds, List.take_set]
theorem Only.keeps {g B : Nat} {ts : List Nat} {w w' : World} {c : Array Value} {t : TypeId} (h : Only g w w') (hg : w.heap[g]? = some (.cells c t (0, 0))) (ht : t ∈ ts) (hB : B ≤ g) : Keeps B ts w w' :=
  ⟨h.os, h.tape, h.output, h.size, fun k o hk ho => by
    by_cases e : k = g
    · subst e
      rw [hg] at hk
      cases hk
      rcases ho with ho | ho
      · omega
      · exact absurd ht ho
    · rw [h.block k (lt_block hk) (by simpa using e)]; exact hk⟩
theorem own_blk {w : World} {base e size n c g : Nat} {a : Option Addr} {xs : List Value} (h : w.ownsRow base e size (.slice a n c) n xs) (ha : a = some ⟨g, 0, none⟩) : ∃ cur, w.heap[g]? = some (.cells cur e (0, 0)) := by
  rcases h.2 with ⟨hv, -⟩ | ⟨g', cap, cur, hv, -, hh, -⟩
  · cases hv; cases ha
  · cases hv; cases ha
    exact ⟨cur, hh⟩
/-- A row is kept where only another block is written. -/
theorem own_other {w w' : World} {base e size n c : Nat} {a : Option Addr} {xs : List Value} {r : Option Nat} (h : w.ownsRow base e size (.slice a n c) n xs) (hg : w.grownBy w' r) (hne : ∀ g, a = some ⟨g, 0, none⟩ → r ≠ some g) : w'.ownsRow base e size (.slice a n c) n xs := by
  refine ⟨h.1, ?_⟩
  rcases h.2 with hn | ⟨g, cap, cur, hv, hb, hh, q⟩
  · exact .inl hn
  · cases hv
    exact .inr ⟨g, c, cur, rfl, hb, by rw [hg.block g (lt_block hh) (fun e => hne g rfl e.symm)]; exact hh, q⟩
theorem fnVals_len {fs : List Fn} {cs : List (Option Addr × Nat)} (h : fs.length = cs.length) : (fnVals fs cs).length = fs.length * 3 := by
  induction fs generalizing cs with
  | nil => rfl
  | cons f fs ih =>
    cases cs with
    | nil => simp at h
    | cons c cs =>
      have := ih (cs := cs) (by simpa using h)
      unfold fnVals at *
      simp only [List.zip_cons_cons, List.flatMap_cons, List.length_append, List.length_cons, List.length_nil, this]
      omega

theorem own_cell {w : World} {base e size n c : Nat} {a : Option Addr} {xs : List Value} (h : w.ownsRow base e size (.slice a n c) n xs) (j : Nat) (hj : j < n * size) : ∃ g, a = some ⟨g, 0, none⟩ ∧ base ≤ g ∧ w.cell? ⟨g, j, none⟩ = xs[j]? := by
  rcases h.2 with ⟨-, hn⟩ | ⟨g, cap, cur, hv, hb, hh, -, -, hs, htake⟩
  · subst hn; simp at hj
  · cases hv
    refine ⟨g, rfl, hb, ?_⟩
    rw [block_cell hh, ← htake, List.getElem?_take_of_lt hj, Array.getElem?_toList]
theorem texts_at {w : World} {base c : Nat} {a : Option Addr} {ts : List ByteArray} (h : w.ownsRow base 9 1 (.slice a ts.length c) ts.length (ts.map .string)) : StrsAt w base a ts := by
  intro i hi
  obtain ⟨g, hg, hb, hc⟩ := own_cell h i (by omega)
  exact ⟨g, 0, hg, hb, by rw [Nat.zero_add, hc]; simp [hi]⟩
theorem codeVals_at (xs : List (Int × Int)) : ∀ i (h : i < xs.length), (codeVals xs)[i * 2]? = some (.int .i64 xs[i].1) ∧ (codeVals xs)[i * 2 + 1]? = some (.int .i64 xs[i].2) := by
  induction xs with
  | nil => intro i h; simp at h
  | cons x xs ih =>
    intro i h
    have e : codeVals (x :: xs) = .int .i64 x.1 :: .int .i64 x.2 :: codeVals xs := by simp [codeVals]
    rw [e]
    cases i with
    | zero => exact ⟨rfl, rfl⟩
    | succ i =>
      have := ih i (by simpa using h)
      rw [show (i + 1) * 2 = i * 2 + 1 + 1 by omega]
      simpa using this
theorem code_at {w : World} {base c : Nat} {a : Option Addr} {xs : List (Int × Int)} (h : w.ownsRow base 54 2 (.slice a xs.length c) xs.length (codeVals xs)) : CodeAt w base a xs := by
  intro i hi
  obtain ⟨g, hg, hb, h1⟩ := own_cell h (i * 2) (by omega)
  obtain ⟨g', hg', -, h2⟩ := own_cell h (i * 2 + 1) (by omega)
  rw [hg] at hg'
  cases hg'
  have hv := codeVals_at xs i hi
  exact ⟨g, 0, hg, hb, by rw [Nat.zero_add, h1, hv.1], by rw [show 0 + i * 2 + 1 = i * 2 + 1 by omega, h2, hv.2]⟩
theorem fnVals_at : ∀ (fs : List Fn) (cs : List (Option Addr × Nat)), fs.length = cs.length → ∀ i (h : i < fs.length) (h' : i < cs.length), (fnVals fs cs)[i * 3]? = some (.int .i64 fs[i].params) ∧ (fnVals fs cs)[i * 3 + 1]? = some (.int .i64 fs[i].locals) ∧ (fnVals fs cs)[i * 3 + 2]? = some (.slice cs[i].1 fs[i].code.length cs[i].2) := by
  intro fs
  induction fs with
  | nil => intro cs _ i h; simp at h
  | cons f fs ih =>
    intro cs hl i h h'
    cases cs with
    | nil => simp at hl
    | cons c cs =>
      have e : fnVals (f :: fs) (c :: cs) = .int .i64 f.params :: .int .i64 f.locals :: .slice c.1 f.code.length c.2 :: fnVals fs cs := by simp [fnVals]
      rw [e]
      cases i with
      | zero => exact ⟨rfl, rfl, rfl⟩
      | succ i =>
        have := ih cs (by simpa using hl) i (by simpa using h) (by simpa using h')
        rw [show (i + 1) * 3 = i * 3 + 1 + 1 + 1 by omega]
        simpa using this
theorem ModOwn.fns {w : World} {base c1 c2 : Nat} {a1 a2 : Option Addr} {ts : List ByteArray} {fs : List Fn} {cs : List (Option Addr × Nat)} (h : ModOwn w base a1 c1 a2 c2 ts fs cs) : FnsAt w base a2 fs := by
  intro i hi
  have hi' : i < cs.length := by rw [← h.codes.len]; exact hi
  have hv := fnVals_at fs cs h.codes.len i hi hi'
  obtain ⟨g, hg, hb, h1⟩ := own_cell h.funcs (i * 3) (by omega)
  obtain ⟨g', hg', -, h2⟩ := own_cell h.funcs (i * 3 + 1) (by omega)
  obtain ⟨g'', hg'', -, h3⟩ := own_cell h.funcs (i * 3 + 2) (by omega)
  rw [hg] at hg' hg''
  cases hg'
  cases hg''
  exact ⟨g, 0, cs[i].1, cs[i].2, hg, hb, by rw [Nat.zero_add, h1, hv.1], by rw [show 0 + i * 3 + 1 = i * 3 + 1 by omega, h2, hv.2.1], by rw [show 0 + i * 3 + 2 = i * 3 + 2 by omega, h3, hv.2.2], code_at (h.codes.own i hi hi')⟩
theorem ModOwn.strs {w : World} {base c1 c2 : Nat} {a1 a2 : Option Addr} {ts : List ByteArray} {fs : List Fn} {cs : List (Option Addr × Nat)} (h : ModOwn w base a1 c1 a2 c2 ts fs cs) : StrsAt w base a1 ts := texts_at h.texts

end Go.Proofs.Ytffeejkghmpkkaa
