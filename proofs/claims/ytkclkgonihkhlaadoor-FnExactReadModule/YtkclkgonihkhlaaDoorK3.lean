/-
  Marked functions and modules are found again.
-/
import Derived.Test.YtkclkgonihkhlaaDoorK2
namespace Go.Proofs.YtkclkgonihkhlaaDoor
open Go.RowKit

set_option maxHeartbeats 1600000 in
theorem heldFns_is (a : Option Addr) (c : Nat) (fs : List Fn) (k0 : Nat) (w : World) (hn : fs.length ≤ 1048576) (hc : ∀ f ∈ fs, f.code.length ≤ 1048576) (h1 : k0 ≤ 10000000) (hs : FnsAt w 0 a (mFns k0 fs)) :
    Calls Tryd.prog 42 #[.slice a fs.length c, .int .i64 k0] w fun e w' => e = .returned (.int .i64 (endF k0 fs : Nat)) ∧ Below w.heap.size w w' := by
  go_enter Tryd.func42, Tryd.ntmps42
  go_wp2
  go_loopw [1, 5] (fun q i wr => ∃ (k r : Nat), k ≤ fs.length ∧ i = .int .i64 k ∧ q = .int .i64 (r : Nat) ∧ Hid (r = endF k0 (fs.take k)) ∧ r ≤ k0 + k * 3000000 ∧ Below w.heap.size w wr) (fun _ i _ => fs.length - (intOf i).toNat)
  case atStart => exact ⟨0, k0, by omega, rfl, rfl, by show _ = _; simp [endF], by omega, Below.refl _ _⟩
  case round =>
    obtain ⟨k, r, hk, rfl, rfl, HR, hr, hb⟩ := hrel
    by_cases hlt : k < fs.length
    · obtain ⟨b, off, ca, cc, rfl, -, e1, e2, e3, e4⟩ := hs k (by rw [mFns_len]; exact hlt)
      have hm : (mFns k0 fs)[k]'(by rw [mFns_len]; exact hlt) = ⟨(r : Int), (r : Int) + 1, mCode (r + 2) fs[k].code.length⟩ := by
        have := mFns_at (k0 := k0) hlt
        rw [List.getElem?_eq_getElem (by rw [mFns_len]; exact hlt), ← HR.out] at this
        simpa using this
      rw [hm] at e1 e2 e3 e4
      simp only [mCode_len] at e3
      have f1 := cell_later hb e1
      have f2 := cell_later hb e2
      have f3 := cell_later hb e3
      have f4 := e4.mono hb
      have hck := hc fs[k] (List.getElem_mem hlt)
      have HR2 : Hid (r + 2 + 2 * fs[k].code.length = endF k0 (fs.take (k + 1))) := by
        show _ = _
        rw [endF_succ hlt, ← HR.out]
      clear e1 e2 e3 e4 hm HR
      go_wp2_with fail
      rw [show ((r : Int) + 1 + 1) = ((r + 2 : Nat) : Int) by omega]
      refine (heldIns_is ca cc fs[k].code.length (r + 2) wr hck (by omega) f4).mono ?_
      rintro e w2 ⟨rfl, hb2⟩
      have hb3 := hb.trans (hb2.mono hb.size)
      have hbd : r + 2 + 2 * fs[k].code.length ≤ k0 + (k + 1) * 3000000 := by omega
      clear f1 f2 f3 f4 hb2
      go_wp2
      go_roundw
      case rel => exact ⟨k + 1, r + 2 + 2 * fs[k].code.length, by omega, by go_num, rfl, HR2, hbd, hb3⟩
      case measure => simp [intOf]; omega
    · have hke : k = fs.length := by omega
      have hre : Hid (r = endF k0 fs) := by
        show _ = _
        rw [HR.out, hke, endF_all]
      clear HR
      subst hke
      go_wp2
      go_ret
      exact ⟨by rw [← hre.out]; rfl, hb⟩

set_option maxHeartbeats 800000 in
theorem markModule_is (base : Nat) (a1 a2 : Option Addr) (c1 c2 : Nat) (ts : List ByteArray) (fs : List Fn) (cs : List (Option Addr × Nat)) (w : World) (hs : Small ts fs) (hm : ModOwn w base a1 c1 a2 c2 ts fs cs) :
    Calls Tryd.prog 16 #[.agg #[.slice a1 ts.length c1, .slice a2 fs.length c2], .int .i64 1] w fun e w' => e = .returned (.int .i64 (endF (1 + ts.length) fs : Nat)) ∧ ModOwn w' base a1 c1 a2 c2 (mTexts 1 ts.length) (mFns (1 + ts.length) fs) cs ∧ Keeps base [9, 25, 55] w w' := by
  have s1 := hs.texts
  have hbA : Below w.heap.size w (w.alloc (.cells #[.slice a1 ts.length c1, .slice a2 fs.length c2] 36)) := (Below.refl _ _).alloc (Nat.le_refl _) _
  have hM := block_new w #[.slice a1 ts.length c1, .slice a2 fs.length c2] 36
  have hmA := hm.below hbA
  go_enter Tryd.func16, Tryd.ntmps16
  go_wp2_with fail
  refine (markStrs_is base a1 c1 ts 1 _ hs.texts (by omega) (by omega) hmA.texts).mono ?_
  rintro e w1 ⟨rfl, ho1, hk1⟩
  have hM1 := hk1.cell hM (by simp)
  have x1 := block_cell hM1
  have hf1 := own_keeps hmA.funcs hk1 (by simp)
  have hc1 := hmA.codes.keeps hk1 (by simp)
  have hk2 : Keeps base [9, 25, 55] w w1 := (Keeps.below hbA).trans (hk1.mono (Nat.le_refl _) (by simp))
  clear hM hbA hmA hk1 hM1
  go_wp2_with fail
  refine (markFns_is base a2 c2 fs cs (1 + ts.length) w1 hs.funcs hs.code (by omega) hf1 hc1).mono ?_
  rintro e w2 ⟨rfl, ho2, hc2, hk3⟩
  have ho1' := own_keeps ho1 hk3 (by simp)
  have hk4 : Keeps base [9, 25, 55] w w2 := hk2.trans (hk3.mono (Nat.le_refl _) (by simp))
  have hl1 : (mTexts 1 ts.length).length = ts.length := by simp [mTexts]
  have hfin : ModOwn w2 base a1 c1 a2 c2 (mTexts 1 ts.length) (mFns (1 + ts.length) fs) cs := ⟨by rw [hl1]; exact ho1', by rw [mFns_len]; exact ho2, hc2⟩
  clear ho1 ho2 hc2 ho1' hf1 hc1 hk3 hk2 hl1
  go_wp2
  go_ret
  exact ⟨rfl, hfin, hk4⟩
set_option maxHeartbeats 800000 in
theorem heldModule_is (base : Nat) (a1 a2 : Option Addr) (c1 c2 : Nat) (ts : List ByteArray) (fs : List Fn) (cs : List (Option Addr × Nat)) (w : World) (hs : Small ts fs) (hm : ModOwn w base a1 c1 a2 c2 (mTexts 1 ts.length) (mFns (1 + ts.length) fs) cs) :
    Calls Tryd.prog 17 #[.agg #[.slice a1 ts.length c1, .slice a2 fs.length c2], .int .i64 1] w fun e w' => e = .returned (.int .i64 (endF (1 + ts.length) fs : Nat)) ∧ Below w.heap.size w w' := by
  have s1 := hs.texts
  have hbA : Below w.heap.size w (w.alloc (.cells #[.slice a1 ts.length c1, .slice a2 fs.length c2] 36)) := (Below.refl _ _).alloc (Nat.le_refl _) _
  have hM := block_new w #[.slice a1 ts.length c1, .slice a2 fs.length c2] 36
  have hmA := (hm.below hbA).low (Nat.zero_le _)
  go_enter Tryd.func17, Tryd.ntmps17
  go_wp2_with fail
  refine (heldStrs_is a1 c1 ts.length 1 _ hs.texts (by omega) (by omega) hmA.strs).mono ?_
  rintro e w1 ⟨rfl, hb1⟩
  have x1 := block_cell (block_kept hM hb1)
  have hm1 := hmA.below hb1
  have hbw : Below w.heap.size w w1 := hbA.trans (hb1.mono hbA.size)
  clear hM hbA hmA hb1
  go_wp2_with fail
  refine (heldFns_is a2 c2 fs (1 + ts.length) w1 hs.funcs hs.code (by omega) hm1.fns).mono ?_
  rintro e w2 ⟨rfl, hb2⟩
  have hbz := hbw.trans (hb2.mono hbw.size)
  clear hb2 hm1 x1
  go_wp2
  go_ret
  exact ⟨rfl, hbz⟩

end Go.Proofs.YtkclkgonihkhlaaDoor
