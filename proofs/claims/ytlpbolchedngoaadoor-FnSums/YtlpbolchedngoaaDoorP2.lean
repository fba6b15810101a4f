/-
  The drawing functions of the document's model: a value, and two values, drawn.
-/
import Derived.Test.YtlpbolchedngoaaDoorP1
namespace Go.Proofs.YtlpbolchedngoaaDoor
open Go.RowKit

def isS : Value → Bool
  | .string z => decide (z.size ≤ 64)
  | _ => false
/-- A cell of a list of texts that was written out, behind a number taken off the cursor. -/
theorem lit_text {w w' : World} {C k : Nat} {cs : Array Value} (hP : Px C (w.alloc (.cells cs 9)) w') (hne : w.heap.size ≠ C) (hall : cs.toList.all isS = true) (hk : k < cs.size) : ∃ z : ByteArray, z.size ≤ 64 ∧ w'.cell? ⟨w.heap.size, k, none⟩ = some (.string z) := by
  have hb : w'.heap[w.heap.size]? = some (.cells cs 9 (0, 0)) := by rw [hP.block _ hne]; exact block_new _ _ _
  rw [block_cell hb, Array.getElem?_eq_getElem hk]
  have := List.all_eq_true.1 hall cs[k] (by simp)
  revert this
  cases cs[k] with
  | string z => intro h; exact ⟨z, by simpa [isS] using h, rfl⟩
  | _ => simp [isS]
theorem Px.kept {C B : Nat} {w w' : World} {o : Obj} (h : Px C w w') (hne : B ≠ C) (hb : w.heap[B]? = some o) : w'.heap[B]? = some o := by rw [h.block B hne, hb]
theorem Fr.kept {C M B : Nat} {w w' : World} {o : Obj} (h : Fr C C M w w') (hne : B ≠ C) (hM : B < M) (hb : w.heap[B]? = some o) : w'.heap[B]? = some o := by rw [h.block B hM hne hne, hb]
theorem Fr.low {C A M M' : Nat} {w w' : World} (h : Fr C A M w w') (hM : M' ≤ M) : Fr C A M' w w' := ⟨h.os, h.tape, h.output, h.size, fun k h1 h2 h3 => h.block k (by omega) h2 h3⟩

set_option maxRecDepth 100000 in
set_option maxHeartbeats 4000000 in
theorem drawValue_any (W : World) (C xc M : Nat) (xa : Option Addr) (bs : List Int) (w : World) (h : CurAt W w C xa bs xc M) (hM : M ≤ 1000000) :
    Calls Tryd.prog 24 #[.pointer (some ⟨C, 0, none⟩)] w fun e w' => ∃ (k n : Int) (s : ByteArray), e = .returned (.agg #[.int .i64 k, .int .i64 n, .string s]) ∧ s.size ≤ 64 ∧ CurAt W w' C xa bs xc (M + 10) ∧ Fr C C w.heap.size w w' := by
  obtain ⟨p, q, hc, -⟩ := h.blk
  have hlt := lt_block hc
  have HNE : Hid (w.heap.size ≠ C) := by intro e; omega
  have HW : Hid (W.heap.size ≤ w.heap.size) := h.below.size
  clear hc p q
  have HL : Hid (C < w.heap.size) := hlt
  clear hlt
  have h0 := h.later ((Below.refl _ _).alloc (Nat.le_refl _) (.cells #[.int .i64 0, .int .i64 0, .string ⟨#[]⟩] 25))
  have hF0 : Fr C C w.heap.size w (w.alloc (.cells #[.int .i64 0, .int .i64 0, .string ⟨#[]⟩] 25)) := Fr.below ((Below.refl _ _).alloc (Nat.le_refl _) _) (Nat.le_refl _)
  have hk0 := block_new w #[.int .i64 0, .int .i64 0, .string ⟨#[]⟩] 25
  have HS0 : Hid ((w.alloc (.cells #[.int .i64 0, .int .i64 0, .string ⟨#[]⟩] 25)).heap.size = w.heap.size + 1) := by show _ = _; simp
  go_enter Tryd.func24, Tryd.ntmps24
  go_wp2_with fail
  refine (pick_any W C xc M xa bs _ _ h0 (by omega)).mono ?_
  rintro e w1 ⟨r, rfl, r0, r1, hC, hP⟩
  have hk1 := hP.kept HNE.out hk0
  have hF : Fr C C w.heap.size w w1 := hF0.trans (Fr.px hP)
  have HS1 : Hid (w1.heap.size = w.heap.size + 1) := hP.size.trans HS0.out
  clear hP hk0 hF0 h0 HS0
  have r9 : r < 9 := by omega
  clear r1
  by_cases e0 : r = 0
  · subst e0
    have hk := hk1
    have hc := block_cell hk
    have hf := block_free hk
    clear hk1
    go_wp2
    have zz := block_cell (stored3 (a := .int .i64 (0)) (b := .int .i64 (0)) (c := .string (⟨#[]⟩)) hk)
    have z0 := zz 0
    have z1 := zz 1
    have z2 := zz 2
    refine bodyPost_ret (v := .agg #[.int .i64 (0), .int .i64 (0), .string (⟨#[]⟩)]) (by simp [results, Tryd.results24, go_sem, z0, z1, z2]) rfl ⟨_, _, _, rfl, by decide, ?_, ?_⟩
    · exact (((CurAt.grow hC (by omega)).set (by simp; exact HNE.out) HW.out _).set (by simp; exact HNE.out) HW.out _).set (by simp; exact HNE.out) HW.out _
    · exact ((hF.setFar (Nat.le_refl _) _).setFar (Nat.le_refl _) _).setFar (Nat.le_refl _) _
  by_cases e1 : r = 1 ∨ r = 2 ∨ r = 3
  · have num : Calls Tryd.prog 37 #[.pointer (some ⟨C, 0, none⟩)] w1 fun e w' => ∃ x : Int, e = .returned (.int .i64 x) ∧ CurAt W w' C xa bs xc (M + 1 + 2) ∧ Fr C C w.heap.size w w' ∧ w'.heap[w.heap.size]? = some (.cells #[.int .i64 0, .int .i64 0, .string ⟨#[]⟩] 25 (0, 0)) := by
      refine (number_any W C xc (M + 1) xa bs w1 hC (by omega)).mono ?_
      rintro e w2 ⟨x, rfl, hC2, hF2⟩
      exact ⟨x, rfl, hC2, hF.trans (hF2.low (by have := HS1.out; omega)), hF2.kept HNE.out (by have := HS1.out; omega) hk1⟩
    have HN : Hid (Calls Tryd.prog 37 #[.pointer (some ⟨C, 0, none⟩)] w1 fun e w' => ∃ x : Int, e = .returned (.int .i64 x) ∧ CurAt W w' C xa bs xc (M + 1 + 2) ∧ Fr C C w.heap.size w w' ∧ w'.heap[w.heap.size]? = some (.cells #[.int .i64 0, .int .i64 0, .string ⟨#[]⟩] 25 (0, 0))) := num
    clear num hC hF hk1
    rcases e1 with e1 | e1 | e1
    all_goals
      subst e1
      go_wp2_with fail
      refine HN.out.mono ?_
      rintro e w2 ⟨x, rfl, hC2, hF2, hk2⟩
      go_wp2_with fail
      refine (sInt_any _ _).mono ?_
      rintro e w3 ⟨rfl, hb3⟩
      have hC3 := hC2.later hb3
      have hF3 := hF2.trans (Fr.below hb3 (Nat.le_of_lt (lt_block hk2)))
      have hk := block_kept hk2 hb3
      have hc := block_cell hk
      have hf := block_free hk
      clear hC2 hF2 hk2 hb3
      go_wp2
      have zz := block_cell (stored3 (a := .int .i64 (1)) (b := .int .i64 (x)) (c := .string (⟨#[]⟩)) hk)
      have z0 := zz 0
      have z1 := zz 1
      have z2 := zz 2
      refine bodyPost_ret (v := .agg #[.int .i64 (1), .int .i64 (x), .string (⟨#[]⟩)]) (by simp [results, Tryd.results24, go_sem, z0, z1, z2]) rfl ⟨_, _, _, rfl, by decide, ?_, ?_⟩
      · exact (((CurAt.grow hC3 (by omega)).set (by simp; exact HNE.out) HW.out _).set (by simp; exact HNE.out) HW.out _).set (by simp; exact HNE.out) HW.out _
      · exact ((hF3.setFar (Nat.le_refl _) _).setFar (Nat.le_refl _) _).setFar (Nat.le_refl _) _
  have b0 : (r == 0) = false := by simpa using e0
  have b1 : (r == 1) = false := by simp; omega
  have b2 : (r == 2) = false := by simp; omega
  have b3 : (r == 3) = false := by simp; omega
  clear e0 e1
  by_cases e4 : r = 4
  · subst e4
    have HK : Hid (w1.heap[w.heap.size]? = some (.cells #[.int .i64 0, .int .i64 0, .string ⟨#[]⟩] 25 (0, 0))) := hk1
    clear hk1
    go_wp2_with fail
    refine (pick_any W C xc (M + 1) xa bs _ _ hC (by omega)).mono ?_
    rintro e w2 ⟨x, rfl, x0, x1, hC2, hP2⟩
    have hF2 := hF.trans (Fr.px hP2)
    have hk := hP2.kept HNE.out HK.out
    have hc := block_cell hk
    have hf := block_free hk
    clear hP2 hF hC
    go_wp2
    have zz := block_cell (stored3 (a := .int .i64 (2)) (b := .int .i64 (x)) (c := .string (⟨#[]⟩)) hk)
    have z0 := zz 0
    have z1 := zz 1
    have z2 := zz 2
    refine bodyPost_ret (v := .agg #[.int .i64 (2), .int .i64 (x), .string (⟨#[]⟩)]) (by simp [results, Tryd.results24, go_sem, z0, z1, z2]) rfl ⟨_, _, _, rfl, by decide, ?_, ?_⟩
    · exact (((CurAt.grow hC2 (by omega)).set (by simp; exact HNE.out) HW.out _).set (by simp; exact HNE.out) HW.out _).set (by simp; exact HNE.out) HW.out _
    · exact ((hF2.setFar (Nat.le_refl _) _).setFar (Nat.le_refl _) _).setFar (Nat.le_refl _) _
  have b4 : (r == 4) = false := by simpa using e4
  clear e4
  by_cases e5 : r = 5
  · subst e5
    have HK : Hid (w1.heap[w.heap.size]? = some (.cells #[.int .i64 0, .int .i64 0, .string ⟨#[]⟩] 25 (0, 0))) := hk1
    have hne : w1.heap.size ≠ C := by have := HS1.out; have := HL.out; omega
    clear hk1
    go_wp2_with fail
    refine (pick_any W C xc _ xa bs _ _ (hC.later ((Below.refl _ _).alloc (Nat.le_refl _) _)) (by omega)).mono ?_
    rintro e w2 ⟨x, rfl, x0, x1, hC2, hP2⟩
    obtain ⟨i, rfl⟩ : ∃ i : Nat, x = i := ⟨x.toNat, by omega⟩
    have hi4 : (i : Int) < 4 := by omega
    have hF2 := (hF.trans (Fr.below ((Below.refl _ _).alloc (Nat.le_refl _) _) (by have := HS1.out; omega))).trans (Fr.px hP2)
    have hk := hP2.kept HNE.out (block_kept HK.out ((Below.refl _ _).alloc (Nat.le_refl _) _))
    have hc := block_cell hk
    have hf := block_free hk
    obtain ⟨z, hz, hzc⟩ := lit_text (k := i) hP2 hne rfl (by simp; omega)
    have HZ : Hid (z.size ≤ 64) := hz
    clear hP2 hF hC hz
    go_wp2
    have zz := block_cell (stored3 (a := .int .i64 (3)) (b := .int .i64 (0)) (c := .string (z)) hk)
    have z0 := zz 0
    have z1 := zz 1
    have z2 := zz 2
    refine bodyPost_ret (v := .agg #[.int .i64 (3), .int .i64 (0), .string (z)]) (by simp [results, Tryd.results24, go_sem, z0, z1, z2]) rfl ⟨_, _, _, rfl, HZ.out, ?_, ?_⟩
    · exact (((CurAt.grow hC2 (by omega)).set (by simp; exact HNE.out) HW.out _).set (by simp; exact HNE.out) HW.out _).set (by simp; exact HNE.out) HW.out _
    · exact ((hF2.setFar (Nat.le_refl _) _).setFar (Nat.le_refl _) _).setFar (Nat.le_refl _) _
  have b5 : (r == 5) = false := by simpa using e5
  clear e5
  by_cases e6 : r = 6
  · subst e6
    have HK : Hid (w1.heap[w.heap.size]? = some (.cells #[.int .i64 0, .int .i64 0, .string ⟨#[]⟩] 25 (0, 0))) := hk1
    clear hk1
    go_wp2_with fail
    refine (pick_any W C xc (M + 1) xa bs _ _ hC (by omega)).mono ?_
    rintro e w2 ⟨x, rfl, x0, x1, hC2, hP2⟩
    have hF2 := hF.trans (Fr.px hP2)
    have hk := hP2.kept HNE.out HK.out
    have hc := block_cell hk
    have hf := block_free hk
    clear hP2 hF hC
    go_wp2
    have zz := block_cell (stored3 (a := .int .i64 (4)) (b := .int .i64 (x)) (c := .string (⟨#[]⟩)) hk)
    have z0 := zz 0
    have z1 := zz 1
    have z2 := zz 2
    refine bodyPost_ret (v := .agg #[.int .i64 (4), .int .i64 (x), .string (⟨#[]⟩)]) (by simp [results, Tryd.results24, go_sem, z0, z1, z2]) rfl ⟨_, _, _, rfl, by decide, ?_, ?_⟩
    · exact (((CurAt.grow hC2 (by omega)).set (by simp; exact HNE.out) HW.out _).set (by simp; exact HNE.out) HW.out _).set (by simp; exact HNE.out) HW.out _
    · exact ((hF2.setFar (Nat.le_refl _) _).setFar (Nat.le_refl _) _).setFar (Nat.le_refl _) _
  have b6 : (r == 6) = false := by simpa using e6
  clear e6
  by_cases e7 : r = 7
  · subst e7
    have HK : Hid (w1.heap[w.heap.size]? = some (.cells #[.int .i64 0, .int .i64 0, .string ⟨#[]⟩] 25 (0, 0))) := hk1
    clear hk1
    go_wp2_with fail
    refine (pick_any W C xc (M + 1) xa bs _ _ hC (by omega)).mono ?_
    rintro e w2 ⟨x, rfl, x0, x1, hC2, hP2⟩
    have hF2 := hF.trans (Fr.px hP2)
    have hk := hP2.kept HNE.out HK.out
    have hc := block_cell hk
    have hf := block_free hk
    clear hP2 hF hC
    go_wp2
    have zz := block_cell (stored3 (a := .int .i64 (5)) (b := .int .i64 (x)) (c := .string (⟨#[]⟩)) hk)
    have z0 := zz 0
    have z1 := zz 1
    have z2 := zz 2
    refine bodyPost_ret (v := .agg #[.int .i64 (5), .int .i64 (x), .string (⟨#[]⟩)]) (by simp [results, Tryd.results24, go_sem, z0, z1, z2]) rfl ⟨_, _, _, rfl, by decide, ?_, ?_⟩
    · exact (((CurAt.grow hC2 (by omega)).set (by simp; exact HNE.out) HW.out _).set (by simp; exact HNE.out) HW.out _).set (by simp; exact HNE.out) HW.out _
    · exact ((hF2.setFar (Nat.le_refl _) _).setFar (Nat.le_refl _) _).setFar (Nat.le_refl _) _
  have b7 : (r == 7) = false := by simpa using e7
  clear e7
  have HK : Hid (w1.heap[w.heap.size]? = some (.cells #[.int .i64 0, .int .i64 0, .string ⟨#[]⟩] 25 (0, 0))) := hk1
  clear hk1
  go_wp2_with fail
  refine (pick_any W C xc (M + 1) xa bs _ _ hC (by omega)).mono ?_
  rintro e w2 ⟨x, rfl, x0, x1, hC2, hP2⟩
  have hF2 := hF.trans (Fr.px hP2)
  have hk2 := hP2.kept HNE.out HK.out
  have HS2 : Hid (w2.heap.size = w.heap.size + 1) := hP2.size.trans HS1.out
  have HK2 : Hid (w2.heap[w.heap.size]? = some (.cells #[.int .i64 0, .int .i64 0, .string ⟨#[]⟩] 25 (0, 0))) := hk2
  have x8 : x < 8 := by omega
  clear hP2 hF hC HK hk2 x1
  go_wp2_with fail
  refine (pick_any W C xc (M + 1 + 1) xa bs _ _ hC2 (by omega)).mono ?_
  rintro e w3 ⟨y, rfl, y0, y1, hC3, hP3⟩
  have hF3 := hF2.trans (Fr.px hP3)
  have hk3 := hP3.kept HNE.out HK2.out
  have HS3 : Hid (w3.heap.size = w.heap.size + 1) := hP3.size.trans HS2.out
  have HK3 : Hid (w3.heap[w.heap.size]? = some (.cells #[.int .i64 0, .int .i64 0, .string ⟨#[]⟩] 25 (0, 0))) := hk3
  have hne : w3.heap.size ≠ C := by have := HS3.out; have := HL.out; omega
  have y4 : y < 4 := by omega
  clear hP3 hF2 hC2 HK2 hk3 y1
  go_wp2_with fail
  refine (pick_any W C xc _ xa bs _ _ (hC3.later ((Below.refl _ _).alloc (Nat.le_refl _) _)) (by omega)).mono ?_
  rintro e w4 ⟨i', rfl, i0, i1, hC4, hP4⟩
  obtain ⟨i, rfl⟩ : ∃ i : Nat, i' = i := ⟨i'.toNat, by omega⟩
  have hi3 : (i : Int) < 3 := by omega
  have hF4 := (hF3.trans (Fr.below ((Below.refl _ _).alloc (Nat.le_refl _) _) (by have := HS3.out; omega))).trans (Fr.px hP4)
  have hk := hP4.kept HNE.out (block_kept HK3.out ((Below.refl _ _).alloc (Nat.le_refl _) _))
  have hc := block_cell hk
  have hf := block_free hk
  obtain ⟨z, hz, hzc⟩ := lit_text (k := i) hP4 hne rfl (by simp; omega)
  have HZ : Hid (z.size ≤ 64) := hz
  clear hP4 hF3 hC3 hz
  go_wp2
  have zz := block_cell (stored3 (a := .int .i64 (x - 1)) (b := .int .i64 (y - 1)) (c := .string (z)) hk)
  have z0 := zz 0
  have z1 := zz 1
  have z2 := zz 2
  refine bodyPost_ret (v := .agg #[.int .i64 (x - 1), .int .i64 (y - 1), .string (z)]) (by simp [results, Tryd.results24, go_sem, z0, z1, z2]) rfl ⟨_, _, _, rfl, HZ.out, ?_, ?_⟩
  · exact (((CurAt.grow hC4 (by omega)).set (by simp; exact HNE.out) HW.out _).set (by simp; exact HNE.out) HW.out _).set (by simp; exact HNE.out) HW.out _
  · exact ((hF4.setFar (Nat.le_refl _) _).setFar (Nat.le_refl _) _).setFar (Nat.le_refl _) _

end Go.Proofs.YtlpbolchedngoaaDoor
