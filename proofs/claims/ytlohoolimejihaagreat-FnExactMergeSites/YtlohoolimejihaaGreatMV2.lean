/-
  A drawn region whose operations read, and whose callees may make new memory besides, is walked once, in the order of the text.
  ascending, of sites and of guesses: each is ahead of the next.
-/
import Derived.Test.YtlohoolimejihaaGreatW3
import Derived.Deep.Quiet
import Derived.Test.YtlohoolimejihaaGreatY5
import Derived.Deep.CutRange
namespace Go.Proofs.YtlohoolimejihaaGreat
open Go.RowKit

section
variable {P : Program} {ops : Array Oper} {C : World → Prop} {Q : Act → Prop} {a : Act} {o : Oper} {rest : List Oper}
theorem q_skip (hw : Region.wanted o (yielded ops a.tmps) = false) (h : wpQuiet P ops C Q rest (a.put o.dst undef)) : wpQuiet P ops C Q (o :: rest) a := by
  unfold wpQuiet
  rw [if_neg (by rw [hw]; exact Bool.false_ne_true)]
  exact h
theorem q_want {v : Value} (hw : Region.wanted o (yielded ops a.tmps) = true) (hv : ∀ w, C w → Oper.quietUpon P C w v ((execOp a.eval o).run P w)) (h : wpQuiet P ops C Q rest (a.put o.dst v)) : wpQuiet P ops C Q (o :: rest) a := by
  unfold wpQuiet
  rw [if_pos hw]
  exact ⟨v, hv, h⟩
end
theorem wp_below {P : Program} {id : Nat} {Q : Exit → Act → World → Prop} {a : Act} {w : World} {l : List Oper} (hm : P.follows .mixedOrders = true) (hB : Region.lexB .any l.toArray = true)
    (h : wpQuiet P l.toArray (fun w' => Below w.heap.size w w') (fun a' => ∀ w', Below w.heap.size w w' → Q .normal a' w') l a) : (Code.region id l.toArray true).wp P Q a w :=
  wp_region_quiet (C := fun w' => Below w.heap.size w w') hm hB (Below.refl _ _).drew (by simpa using h)
end Go.Proofs.YtlohoolimejihaaGreat

namespace Go.Proofs.YtlohoolimejihaaGreat
open Go.RowKit

/-- Each is ahead of the next. -/
def AscI (ss : List Si) : Prop := ∀ i (h : i < ss.length), 0 < i → SiteLess ss[i - 1] ss[i]

set_option maxRecDepth 100000 in
set_option maxHeartbeats 2000000 in
theorem ascSites_any (a : Option Addr) (ss : List Si) (cap : Nat) (w : World) (hn : ss.length ≤ 1048576) (hs : SitesAt w 0 a ss) :
    Calls Tryz.prog 97 #[.slice a ss.length cap, .func (.func 76) #[] #[]] w fun e w' => e = .returned (.bool (pB (AscI ss))) ∧ Below w.heap.size w w' := by
  go_enter Tryz.func97, Tryz.ntmps97
  go_wp2
  go_loopw [5] (fun i wr => ∃ (k : Nat), 1 ≤ k ∧ (k ≤ ss.length ∨ k = 1) ∧ i = .int .i64 k ∧ Hid (∀ j (hj : j < ss.length), j < k → 0 < j → SiteLess ss[j - 1] ss[j]) ∧ Below w.heap.size w wr) (fun i _ => ss.length + 1 - (intOf i).toNat)
  case atStart => exact ⟨1, by omega, by omega, rfl, fun j _ h1 h2 => absurd h1 (by omega), Below.refl _ _⟩
  case round =>
    obtain ⟨k, hk1, hk, rfl, hdone, hb⟩ := hrel
    by_cases hlt : k < ss.length
    case neg =>
      have HD : Hid (AscI ss) := fun j hj h0 => hdone.out j hj (by omega) h0
      clear hdone
      go_wp2
      go_ret
      exact ⟨ret_bool (pB_yes HD.out).symm, hb⟩
    case pos =>
      obtain ⟨j, rfl⟩ : ∃ j, k = j + 1 := ⟨k - 1, by omega⟩
      have hj1 : j < ss.length := by omega
      obtain ⟨b, off, rfl, -, d1, d2, d3, d4⟩ := hs (j + 1) hlt
      obtain ⟨b', off', hbe, -, e1, e2, e3, e4⟩ := hs j hj1
      cases hbe
      have HF : Hid (∀ w', Below wr.heap.size wr w' → w'.cell? ⟨b, off + (j + 1) * 4, none⟩ = some (.int .i64 ss[j + 1].f) ∧ w'.cell? ⟨b, off + (j + 1) * 4 + 1, none⟩ = some (.int .i64 ss[j + 1].pc) ∧ w'.cell? ⟨b, off + (j + 1) * 4 + 2, none⟩ = some (.int .i64 ss[j + 1].seen) ∧ w'.cell? ⟨b, off + (j + 1) * 4 + 3, none⟩ = some (.int .i64 ss[j + 1].target)) := fun w' q =>
        ⟨cell_later q (cell_later hb d1), cell_later q (cell_later hb d2), cell_later q (cell_later hb d3), cell_later q (cell_later hb d4)⟩
      have HE : Hid (∀ w', Below wr.heap.size wr w' → w'.cell? ⟨b, off + j * 4, none⟩ = some (.int .i64 ss[j].f) ∧ w'.cell? ⟨b, off + j * 4 + 1, none⟩ = some (.int .i64 ss[j].pc) ∧ w'.cell? ⟨b, off + j * 4 + 2, none⟩ = some (.int .i64 ss[j].seen) ∧ w'.cell? ⟨b, off + j * 4 + 3, none⟩ = some (.int .i64 ss[j].target)) := fun w' q =>
        ⟨cell_later q (cell_later hb e1), cell_later q (cell_later hb e2), cell_later q (cell_later hb e3), cell_later q (cell_later hb e4)⟩
      clear d1 d2 d3 d4 e1 e2 e3 e4 hs
      have hC0 : 0 ≤ orI (cmpI ss[j].f ss[j + 1].f) (cmpI ss[j].pc ss[j + 1].pc) ↔ ¬ SiteLess ss[j] ss[j + 1] := cmp_less ss[j] ss[j + 1]
      obtain ⟨cr, hcr⟩ : ∃ cr, cr = orI (cmpI ss[j].f ss[j + 1].f) (cmpI ss[j].pc ss[j + 1].pc) := ⟨_, rfl⟩
      rw [← hcr] at hC0
      have HC0 : Hid (0 ≤ cr ↔ ¬ SiteLess ss[j] ss[j + 1]) := hC0
      have HCR : Hid (cr = orI (cmpI ss[j].f ss[j + 1].f) (cmpI ss[j].pc ss[j + 1].pc)) := hcr
      clear hC0 hcr
      go_upto_region 4 with fail
      refine wp_below (by kernel_rfl) (by kernel_rfl) ?_
      iterate 3
        refine q_want (v := ?_) (by kernel_rfl) ?_ ?_
        rotate_left
        · intro w' hC
          obtain ⟨j0, j1, j2, j3⟩ := HE.out w' hC
          go_simp
          try with_reducible rfl
        try simp only [Act.put, List.setIfInBounds_toArray, List.set_cons_zero, List.set_cons_succ]
      refine q_want (v := .int .i64 (j : Int)) (by kernel_rfl) ?_ ?_
      · intro w' hC
        go_simp
        (rw [IntKind.wrap_i64]; omega)
      try simp only [Act.put, List.setIfInBounds_toArray, List.set_cons_zero, List.set_cons_succ]
      have hj2 : (0 : Int) ≤ (j : Int) := by omega
      have hj3 : (j : Int) < (ss.length : Int) := by omega
      have hj4 : (0 : Int) ≤ (j : Int) + 1 := by omega
      have hj5 : (j : Int) + 1 < (ss.length : Int) := by omega
      have hj6 : ((j : Int) + 1).toNat = j + 1 := by omega
      iterate 2
        refine q_want (v := ?_) (by kernel_rfl) ?_ ?_
        rotate_left
        · intro w' hC
          obtain ⟨j0, j1, j2, j3⟩ := HE.out w' hC
          go_simp
          try with_reducible rfl
        try simp only [Act.put, List.setIfInBounds_toArray, List.set_cons_zero, List.set_cons_succ]
      refine q_want (v := .agg #[.int .i64 ss[j].f, .int .i64 ss[j].pc]) (by kernel_rfl) ?_ ?_
      · intro w' hC
        go_simp
        refine (placeOf_any _ _ _ _ w').mono ?_
        rintro e w'' ⟨rfl, hb2⟩
        exact ⟨rfl, hC.trans (hb2.mono hC.size)⟩
      try simp only [Act.put, List.setIfInBounds_toArray, List.set_cons_zero, List.set_cons_succ]
      iterate 5
        refine q_want (v := ?_) (by kernel_rfl) ?_ ?_
        rotate_left
        · intro w' hC
          obtain ⟨j0, j1, j2, j3⟩ := HF.out w' hC
          go_simp
          try with_reducible rfl
        try simp only [Act.put, List.setIfInBounds_toArray, List.set_cons_zero, List.set_cons_succ]
      refine q_want (v := .agg #[.int .i64 ss[j + 1].f, .int .i64 ss[j + 1].pc]) (by kernel_rfl) ?_ ?_
      · intro w' hC
        go_simp
        refine (placeOf_any _ _ _ _ w').mono ?_
        rintro e w'' ⟨rfl, hb2⟩
        exact ⟨rfl, hC.trans (hb2.mono hC.size)⟩
      try simp only [Act.put, List.setIfInBounds_toArray, List.set_cons_zero, List.set_cons_succ]
      refine q_want (v := .int .i64 cr) (by kernel_rfl) ?_ ?_
      · intro w' hC
        go_simp
        refine (comparePlaces_any _ _ _ _ w').mono ?_
        rintro e w'' ⟨rfl, hb2⟩
        exact ⟨by rw [HCR.out], hC.trans (hb2.mono hC.size)⟩
      try simp only [Act.put, List.setIfInBounds_toArray, List.set_cons_zero, List.set_cons_succ]
      by_cases h0 : 0 ≤ cr
      · have HX : Hid (¬ SiteLess ss[j] ss[j + 1]) := HC0.out.1 h0
        iterate 1
          refine q_want (v := ?_) (by kernel_rfl) ?_ ?_
          rotate_left
          · intro w' hC
            go_simp
            try with_reducible rfl
          try simp only [Act.put, List.setIfInBounds_toArray, List.set_cons_zero, List.set_cons_succ]
        refine wpQuiet_nil ?_
        intro w2 q2
        go_wp2
        go_ret
        exact ⟨ret_bool (pB_no (fun h => HX.out (by simpa using h (j + 1) hlt (by omega)))).symm, hb.trans (q2.mono hb.size)⟩
      · have HX : Hid (SiteLess ss[j] ss[j + 1]) := Classical.byContradiction (fun h => h0 (HC0.out.2 h))
        iterate 1
          refine q_want (v := ?_) (by kernel_rfl) ?_ ?_
          rotate_left
          · intro w' hC
            go_simp
            try with_reducible rfl
          try simp only [Act.put, List.setIfInBounds_toArray, List.set_cons_zero, List.set_cons_succ]
        refine wpQuiet_nil ?_
        intro w2 q2
        go_wp2
        go_roundw
        case rel =>
          refine ⟨j + 1 + 1, by omega, by omega, by go_num, ?_, hb.trans (q2.mono hb.size)⟩
          intro i hi h1 h2
          by_cases e : i = j + 1
          · subst e; exact HX.out
          · exact hdone.out i hi (by omega) h2
        case measure => simp [intOf]; omega

end Go.Proofs.YtlohoolimejihaaGreat
