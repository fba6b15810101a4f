/-
  What spec.l03Next returns: the places that may follow, in memory of the call's own.
-/
import Derived.Test.YtoabnejocbnflaaGreatZW1
import Derived.Test.YtoabnejocbnflaaGreatZV0
import Derived.Test.YtoabnejocbnflaaGreatZMem3
namespace Go.Proofs.YtoabnejocbnflaaGreat
open Go.RowKit

theorem info3 : (Tryz.prog.info? 3).map (fun i => (i.zero, i.size, i.bytes)) = some (some (.int .i64 0), 1, 8) := by kernel_rfl

/-- The cells of a slice of numbers. -/
def IntsAt (w : World) (lo : Nat) (a : Option Addr) (xs : List Int) : Prop :=
  ∀ i (h : i < xs.length), ∃ b off, a = some ⟨b, off, none⟩ ∧ lo ≤ b ∧ w.cell? ⟨b, off + i, none⟩ = some (.int .i64 xs[i])

theorem IntsAt.mono {w w' : World} {lo : Nat} {a : Option Addr} {xs : List Int} (h : IntsAt w lo a xs) (hb : Below w.heap.size w w') : IntsAt w' lo a xs := by
  intro i hi
  obtain ⟨b, off, h1, h2, h3⟩ := h i hi
  exact ⟨b, off, h1, h2, cell_later hb h3⟩
theorem IntsAt.low {w : World} {lo lo' : Nat} {a : Option Addr} {xs : List Int} (h : IntsAt w lo a xs) (hl : lo' ≤ lo) : IntsAt w lo' a xs := fun i hi => by
  obtain ⟨b, off, h1, h2, h3⟩ := h i hi
  exact ⟨b, off, h1, by omega, h3⟩
theorem IntsAt.above {w w' : World} {lo : Nat} {a : Option Addr} {xs : List Int} (h : IntsAt w lo a xs) (hb : Above lo w w') : IntsAt w' lo a xs := by
  intro i hi
  obtain ⟨b, off, h1, h2, h3⟩ := h i hi
  exact ⟨b, off, h1, h2, hb.cell h2 h3⟩

theorem IntsAt.own {w : World} {B n cap : Nat} {a : Option Addr} {xs : List Int} {vs : List Value} (h : w.ownsRow B 3 1 (.slice a n cap) n vs) (hv : vs = xs.map (Value.int .i64)) (hn : n = xs.length) : IntsAt w B a xs := by
  subst hv
  subst hn
  rcases h.2 with ⟨-, hn⟩ | ⟨g, cap, cur, hv, hb, hh, hn, -, hs, htake⟩
  · exact fun i hi => by omega
  · cases hv
    refine fun i hi => ⟨g, 0, rfl, hb, ?_⟩
    rw [block_cell hh, Nat.zero_add]
    have h1 : (cur.toList.take (xs.length * 1))[i]? = (xs.map (Value.int .i64))[i]? := by rw [htake]
    rw [List.getElem?_take_of_lt (by omega)] at h1
    simpa [hi] using h1

theorem next25 (a : Int) (pc : Nat) : nextB 25 a pc = [] := rfl
theorem next17 (a : Int) (pc : Nat) : nextB 17 a pc = [a] := rfl
theorem next18 (a : Int) (pc : Nat) : nextB 18 a pc = [(pc : Int) + 1, a] := rfl
theorem next19 (a : Int) (pc : Nat) : nextB 19 a pc = [(pc : Int) + 1, a] := rfl
theorem next_else {op : Int} (a : Int) (pc : Nat) (h1 : op ≠ 25) (h2 : op ≠ 17) (h3 : op ≠ 18) (h4 : op ≠ 19) : nextB op a pc = [(pc : Int) + 1] := by
  unfold nextB
  rw [if_neg h1, if_neg h2, if_neg (by omega)]

theorem one_new (W : World) (n : Nat) (hn : W.heap.size = n) (v : Value) (t : TypeId) : ∀ (j : Nat) (u : Value), [v][j]? = some u → (W.alloc (.cells #[v] t)).cell? ((⟨n, 0, none⟩ : Addr).add j) = some u := by
  subst hn
  exact cell_one_new _ _ _

set_option maxRecDepth 100000 in
set_option maxHeartbeats 800000 in
theorem sNext_any (op a : Int) (pc : Nat) (w : World) (hpc : pc ≤ 1048576) :
    Calls Tryz.prog 92 #[.agg #[.int .i64 op, .int .i64 a], .int .i64 pc] w fun e w' => ∃ ad cap, e = .returned (.slice ad (nextB op a pc).length cap) ∧ IntsAt w' w.heap.size ad (nextB op a pc) ∧ Below w.heap.size w w' := by
  obtain ⟨i0, hi, hz0, hz1, hz2⟩ := info_parts info3
  by_cases h25 : op = 25
  · subst h25
    rw [next25]
    go_enter Tryz.func92, Tryz.ntmps92
    go_wp2
    go_ret
    exact ⟨_, _, rfl, fun i hi => absurd hi (by simp), ((Below.refl _ _).alloc (Nat.le_refl _) _).alloc (by simp) _⟩
  have hM0 := block_old (block_new w #[.int .i64 op, .int .i64 a] 135) (.cells #[] 3)
  have hE0 : ((w.alloc (.cells #[.int .i64 op, .int .i64 a] 135)).alloc (.cells #[] 3)).ownsRow w.heap.size 3 1 (.slice (some ⟨w.heap.size + 1, 0, none⟩) 0 0) 0 [] := by
    have := World.ownsRow_made (base := w.heap.size) (e := 3) (size := 1) (w.alloc (.cells #[.int .i64 op, .int .i64 a] 135)) #[] 0 (by simp) (by unfold maxLen; omega) rfl
    simpa using this
  have hbA : Below w.heap.size w ((w.alloc (.cells #[.int .i64 op, .int .i64 a] 135)).alloc (.cells #[] 3)) := ((Below.refl _ _).alloc (Nat.le_refl _) _).alloc (by simp) _
  by_cases h17 : op = 17
  · subst h17
    rw [next17]
    go_enter Tryz.func92, Tryz.ntmps92
    go_wp2_with (first | (at_builtin; refine wpList_append_lies _ rfl _ _ 146 rfl w.heap.size 3 i0 (.int .i64 0) 1 8 Tryz.underlying146 hi hz0 hz1 hz2 rfl (by decide) _ _ _ rfl (World.ownsRow.alloc hE0 _) ⟨w.heap.size + 1 + 1, 0, none⟩ 1 1 [.int .i64 a] rfl rfl (one_new _ _ (by simp) _ _) (by intro u hu; simp at hu; subst hu; rfl) (by decide) (by unfold maxLen; omega) (by omega) (by simp; omega) _ rfl ?_; intro g cap w1 hown1 hgrow1 hat1 hlt1))
    have hb1 : Below w.heap.size w w1 := (hbA.alloc (by simp; omega) _).trans ((Keeps.grown (ts := [3]) (World.ownsRow.alloc hE0 _) hgrow1 (by simp)).toBelow (by simp; omega))
    go_ret
    exact ⟨_, _, rfl, IntsAt.own hown1 (by simp) (by simp), hb1⟩
  by_cases h2 : op = 18 ∨ op = 19
  · rcases h2 with rfl | rfl
    all_goals
      first | rw [next18] | rw [next19]
      clear h25 h17
      go_enter Tryz.func92, Tryz.ntmps92
      go_wp2_with (first | (at_builtin; refine wpList_append_lies _ rfl _ _ 146 rfl w.heap.size 3 i0 (.int .i64 0) 1 8 Tryz.underlying146 hi hz0 hz1 hz2 rfl (by decide) _ _ _ rfl (World.ownsRow.alloc hE0 _) ⟨w.heap.size + 1 + 1, 0, none⟩ 1 1 [.int .i64 ((pc : Int) + 1)] rfl rfl (one_new _ _ (by simp) _ _) (by intro u hu; simp at hu; subst hu; rfl) (by decide) (by unfold maxLen; omega) (by omega) (by simp; omega) _ rfl ?_; intro g cap w1 hown1 hgrow1 hat1 hlt1; have hk1 := Keeps.grown (ts := [3]) (World.ownsRow.alloc hE0 _) hgrow1 (by simp); have hb1 : Below w.heap.size w w1 := (hbA.alloc (by simp; omega) _).trans (hk1.toBelow (by simp; omega)); have hM1 := hk1.cell (block_old hM0 _) (by simp); have x1 := block_cell hM1; have hsz1 := hb1.size; simp only [Nat.zero_add, List.nil_append] at hown1; clear hk1 hgrow1 hat1 hlt1 hE0 hM0 hM1 hbA; go_wp2_with (at_builtin; refine wpList_append_lies _ rfl _ _ 146 rfl w.heap.size 3 i0 (.int .i64 0) 1 8 Tryz.underlying146 hi hz0 hz1 hz2 rfl (by decide) (.slice (some ⟨g, 0, none⟩) 1 cap) 1 [.int .i64 ((pc : Int) + 1)] rfl (World.ownsRow.alloc hown1 _) ⟨w1.heap.size, 0, none⟩ 1 1 [.int .i64 a] rfl rfl (cell_one_new _ _ _) (by intro u hu; simp at hu; subst hu; rfl) (by decide) (by unfold maxLen; omega) (by omega) (by simp; omega) _ rfl ?_; intro g2 cap2 w2 hown2 hgrow2 hat2 hlt2)))
      have hb2 : Below w.heap.size w w2 := (hb1.alloc hb1.size _).trans ((Keeps.grown (ts := [3]) (World.ownsRow.alloc hown1 _) hgrow2 (by simp)).toBelow (by simp; omega))
      go_ret
      exact ⟨_, _, rfl, IntsAt.own hown2 (by simp) (by simp), hb2⟩
  · have h18 : op ≠ 18 := fun h => h2 (Or.inl h)
    have h19 : op ≠ 19 := fun h => h2 (Or.inr h)
    rw [next_else a pc h25 h17 h18 h19]
    have b25 : (op != 25) = true := by simpa using h25
    have b17 : (op != 17) = true := by simpa using h17
    have d17 : (op == 17) = false := by simpa using h17
    have b18 : (op == 18) = false := by simpa using h18
    have b19 : (op == 19) = false := by simpa using h19
    clear h2 h25 h17 h18 h19
    go_enter Tryz.func92, Tryz.ntmps92
    go_wp2_with (first | (at_builtin; refine wpList_append_lies _ rfl _ _ 146 rfl w.heap.size 3 i0 (.int .i64 0) 1 8 Tryz.underlying146 hi hz0 hz1 hz2 rfl (by decide) _ _ _ rfl (World.ownsRow.alloc hE0 _) ⟨w.heap.size + 1 + 1, 0, none⟩ 1 1 [.int .i64 ((pc : Int) + 1)] rfl rfl (one_new _ _ (by simp) _ _) (by intro u hu; simp at hu; subst hu; rfl) (by decide) (by unfold maxLen; omega) (by omega) (by simp; omega) _ rfl ?_; intro g cap w1 hown1 hgrow1 hat1 hlt1; have hk1 := Keeps.grown (ts := [3]) (World.ownsRow.alloc hE0 _) hgrow1 (by simp); have hb1 : Below w.heap.size w w1 := (hbA.alloc (by simp; omega) _).trans (hk1.toBelow (by simp; omega)); have hM1 := hk1.cell (block_old hM0 _) (by simp); have x1 := block_cell hM1))
    go_ret
    exact ⟨_, _, rfl, IntsAt.own hown1 (by simp) (by simp), hb1⟩
end Go.Proofs.YtoabnejocbnflaaGreat
