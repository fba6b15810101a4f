/-
  Straight of both sides.
-/
import Derived.Test.YtenmbdegaldngaaDoorL7
import Derived.Test.YtenmbdegaldngaaDoorW1
namespace Go.Proofs.YtenmbdegaldngaaDoor
open Go.RowKit

/-- What Straight is to tell. -/
def StrP (ts : List ByteArray) (fs : List Fn) (f : Int) : Prop :=
  Good ts fs ∧ ∃ (k : Nat) (hk : k < fs.length) (d : List Int), f = k ∧ Done fs fs[k].code d ∧ (∀ j, j < fs[k].code.length → LP fs[k].code d fs[k].code.length j → j = 0) ∧ (∀ j, j < fs[k].code.length → ¬ HP fs[k].code d fs[k].code.length j) ∧ fs[k].code.length ≤ 24

theorem way_iff {code : List (Int × Int)} {d : List Int} (HJ : JOk code) (G : GJ code d) : flowB (jl code d code.length) = ((1, 0), (0, 0)) ↔ (∀ j, j < code.length → LP code d code.length j → j = 0) ∧ (∀ j, j < code.length → ¬ HP code d code.length j) := by
  have hb := flow_bits (d := d) HJ (Nat.le_refl _)
  have hm := G.most
  have h1 : ∀ j, j < 128 → (bhas (1, 0) j = true ↔ j = 0) := fun j hj => by
    have := bhas_bw (s := (0, 0)) (k := 0) (j := j) (by decide) hj
    rw [show bw (0, 0) 0 = (1, 0) from rfl, bhas_zero, Bool.false_or] at this
    rw [this, decide_eq_true_eq]
    exact eq_comm
  constructor
  · intro e
    rw [e] at hb
    refine ⟨fun j hj h => ?_, fun j hj h => ?_⟩
    · exact (h1 j (by omega)).1 ((hb j (by omega)).1.2 h)
    · have := (hb j (by omega)).2.2 h
      rw [bhas_zero] at this
      cases this
  · rintro ⟨hl, hh⟩
    have ok := flowB_ok (jl code d code.length)
    apply Prod.ext
    · refine bset_ext ok.1 ⟨by decide, by decide⟩ fun j hj => ?_
      rw [Bool.eq_iff_iff, (hb j hj).1, h1 j hj]
      constructor
      · exact fun h => hl j (h.lt G (Nat.le_refl _)) h
      · rintro rfl; exact LP.zero _ _ _
    · refine bset_ext ok.2 ⟨by decide, by decide⟩ fun j hj => ?_
      rw [Bool.eq_iff_iff, (hb j hj).2, bhas_zero]
      constructor
      · exact fun h => absurd h (hh j (h.lt G (Nat.le_refl _)))
      · intro h; cases h

theorem lst_one {P : Nat → Prop} {n : Nat} (h0 : P 0) (hn : 1 ≤ n) : (lst P n).length = 1 ↔ ∀ j, j < n → P j → j = 0 := by
  have hm : 0 ∈ lst P n := mem_lst.2 ⟨by omega, h0⟩
  have hnd : (lst P n).Nodup := List.nodup_range.sublist List.filter_sublist
  constructor
  · intro h j hj hp
    obtain ⟨x, hx⟩ := List.length_eq_one_iff.1 h
    have h2 : j ∈ lst P n := mem_lst.2 ⟨hj, hp⟩
    rw [hx] at hm h2
    simp at hm h2
    omega
  · intro h
    have hall : ∀ x ∈ lst P n, x = 0 := fun x hx => h x (mem_lst.1 hx).1 (mem_lst.1 hx).2
    rcases hl : lst P n with _ | ⟨x, _ | ⟨y, l⟩⟩
    · rw [hl] at hm; simp at hm
    · rfl
    · rw [hl] at hnd hall
      have h1 := hall x (by simp)
      have h2 := hall y (by simp)
      rw [h1, h2] at hnd
      simp at hnd
theorem lst_none {P : Nat → Prop} {n : Nat} : (lst P n).length = 0 ↔ ∀ j, j < n → ¬ P j := by
  rw [List.length_eq_zero_iff]
  constructor
  · intro h j hj hp
    have := mem_lst.2 ⟨hj, hp⟩
    rw [h] at this
    cases this
  · intro h
    rw [List.eq_nil_iff_forall_not_mem]
    intro j hj
    exact h j (mem_lst.1 hj).1 (mem_lst.1 hj).2
theorem lstI_length (P : Nat → Prop) (n : Nat) : (lstI P n).length = (lst P n).length := by simp [lstI]

theorem StrP.iff {ts : List ByteArray} {fs : List Fn} {k : Nat} (hG : Good ts fs) (hk : k < fs.length) {d : List Int} (hD : Done fs fs[k].code d) :
    StrP ts fs k ↔ (∀ j, j < fs[k].code.length → LP fs[k].code d fs[k].code.length j → j = 0) ∧ (∀ j, j < fs[k].code.length → ¬ HP fs[k].code d fs[k].code.length j) ∧ fs[k].code.length ≤ 24 := by
  constructor
  · rintro ⟨-, k', hk', d', e, hd', h⟩
    obtain rfl : k = k' := by omega
    obtain rfl := hD.one hd'
    exact h
  · intro h
    exact ⟨hG, k, hk, d, rfl, hD, h⟩

set_option maxRecDepth 100000 in
set_option maxHeartbeats 1000000 in
theorem sIs_any (a1 a2 : Option Addr) (c1 c2 : Nat) (ts : List ByteArray) (fs : List Fn) (f : Int) (w : World) (hs : Small ts fs) (hst : StrsAt w 0 a1 ts) (hfn : FnsAt w 0 a2 fs) :
    Calls Tryd.prog 21 #[.agg #[.slice a1 ts.length c1, .slice a2 fs.length c2], .int .i64 f] w fun e w' => e = .returned (.bool (pB (Good ts fs ∧ 0 ≤ f ∧ f < fs.length))) ∧ Below w.heap.size w w' := by
  have hbA : Below w.heap.size w (w.alloc (.cells #[.slice a1 ts.length c1, .slice a2 fs.length c2] 31)) := (Below.refl _ _).alloc (Nat.le_refl _) _
  have hM0 := block_new w #[.slice a1 ts.length c1, .slice a2 fs.length c2] 31
  have hn := hs.funcs
  go_enter Tryd.func21, Tryd.ntmps21
  go_wp2_with fail
  refine (sGood_any _ _ _ _ ts fs _ hs (hst.mono hbA) (hfn.mono hbA)).mono ?_
  rintro e w1 ⟨he, hb1⟩
  have hM1 := block_kept hM0 hb1
  have hB1 := hbA.trans (hb1.mono hbA.size)
  clear hM0 hbA hb1
  by_cases hG : Good ts fs
  case neg =>
    rw [pB_no hG] at he
    subst he
    go_wp2
    go_ret
    exact ⟨ret_bool (pB_no (fun h => hG h.1)).symm, hB1⟩
  rw [pB_yes hG] at he
  subst he
  have m1 := block_cell hM1
  have HV : Hid (pB (Good ts fs ∧ 0 ≤ f ∧ f < fs.length) = (decide (0 ≤ f) && decide (f ≤ (fs.length : Int) - 1))) := by
    show _ = _
    by_cases h : 0 ≤ f ∧ f < fs.length
    · rw [pB_yes ⟨hG, h⟩, decide_eq_true h.1, decide_eq_true (by omega)]; rfl
    · rw [pB_no (fun q => h q.2), ← Bool.decide_and, decide_eq_false (by omega)]
  clear hG
  go_wp2_with fail
  refine (between_any _ _ _ _).mono ?_
  rintro e w2 ⟨rfl, rfl⟩
  rw [← HV.out]
  clear m1 hM1
  go_wp2
  go_ret
  exact ⟨rfl, hB1⟩

end Go.Proofs.YtenmbdegaldngaaDoor
