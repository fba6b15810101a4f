/-
  The drawing functions of the document's model: code for records.
-/
import Derived.Test.YtfodkgjoilaajaaDoorD2
namespace Go.Proofs.YtfodkgjoilaajaaDoor
open Go.RowKit

set_option maxRecDepth 100000 in
set_option maxHeartbeats 2000000 in
theorem record_any {W w0 w : World} {C A N : Nat} {xa : Option Addr} {bs : List Int} {xc : Nat} {fa : Option Addr} {fc : Nat} {ps : List Int} {tx lc : Int} {mb : Bool} {M L K : Nat} (n : Nat) (hV0 : ValueOk n) (b1 : VP n ≤ 20000) (b2 : VL n ≤ 2000) (deep : Int) (hlo : -1000 ≤ deep) (hd : deep - 2 ≤ n) (hA : AsmAt W w0 w C A N xa bs xc fa fc ps tx lc mb M L K) (hM : M + 100000 * n ≤ 910000) (hK : K + 10000 * n ≤ 91000) :
    Calls Tryd.prog 77 #[.pointer (some ⟨A, 0, none⟩), .int .i64 deep] w fun e w' => e = .returned (.tuple #[]) ∧ AsmAt W w0 w' C A N xa bs xc fa fc ps tx lc mb (M + 3 * VP n + 8) (L + 1) (K + 3 * VL n + 8) := by
  have hV : Hid (ValueOk n) := hV0
  clear hV0
  obtain ⟨q0, q2, q3, q4⟩ := hA.cells
  go_enter Tryd.func77, Tryd.ntmps77
  go_wp2_with fail
  refine (pickA hA _ (by omega)).mono ?_
  rintro e u1 ⟨rn, rfl, rna, rnb, hA', -⟩
  clear hA q0 q2 q3 q4
  have hA := hA'
  clear hA'
  obtain ⟨q0, q2, q3, q4⟩ := hA.cells
  go_wp2_with fail
  refine (putA hA _ _ (by omega)).mono ?_
  rintro e u2 ⟨rfl, hA'⟩
  clear hA q0 q2 q3 q4
  have hA := hA'
  clear hA'
  obtain ⟨q0, q2, q3, q4⟩ := hA.cells
  go_wp2_with fail
  refine (pickA hA _ (by omega)).mono ?_
  rintro e u3 ⟨rk, rfl, rka, rkb, hA', -⟩
  clear hA q0 q2 q3 q4
  have hA := hA'
  clear hA'
  obtain ⟨q0, q2, q3, q4⟩ := hA.cells
  obtain ⟨k0, rfl⟩ : ∃ k0 : Nat, rk = k0 := ⟨rk.toNat, by omega⟩
  have hk0 : k0 ≤ 3 := by omega
  go_wp2
  go_loopw [5] (fun i wr => ∃ (k j : Nat), k + j = k0 ∧ i = .int .i64 k ∧ AsmAt W w0 wr C A N xa bs xc fa fc ps tx lc mb (M + 2 + j * (VP n + 1)) (L + 1) (K + 1 + j * (VL n + 2))) (fun i _ => (intOf i).toNat)
  case atStart => exact ⟨k0, 0, by omega, rfl, hA.mono (by omega) (by omega) (by omega)⟩
  case round =>
    obtain ⟨k, j, hkj, rfl, hA'⟩ := hrel
    clear hA q0 q2 q3 q4
    have hA := hA'
    clear hA'
    obtain ⟨q0, q2, q3, q4⟩ := hA.cells
    have m1 : j * (VP n + 1) ≤ 3 * (VP n + 1) := Nat.mul_le_mul_right _ (by omega)
    have m2 : j * (VL n + 2) ≤ 3 * (VL n + 2) := Nat.mul_le_mul_right _ (by omega)
    by_cases hk : 0 < k
    · have hk' : (0 : Int) < (k : Int) := by omega
      go_wp2_with fail
      refine (putA hA _ _ (by omega)).mono ?_
      rintro e u11 ⟨rfl, hA'⟩
      clear hA q0 q2 q3 q4
      have hA := hA'
      clear hA'
      obtain ⟨q0, q2, q3, q4⟩ := hA.cells
      go_wp2_with fail
      refine (hV.out _ (by omega) hA (by omega) (by omega)).mono ?_
      rintro e u12 ⟨rfl, hA'⟩
      clear hA q0 q2 q3 q4
      have hA := hA'
      clear hA'
      obtain ⟨q0, q2, q3, q4⟩ := hA.cells
      go_wp2_with fail
      refine (pickA hA _ (by omega)).mono ?_
      rintro e u13 ⟨r13, rfl, r13a, r13b, hA', -⟩
      clear hA q0 q2 q3 q4
      have hA := hA'
      clear hA'
      obtain ⟨q0, q2, q3, q4⟩ := hA.cells
      go_wp2_with fail
      refine (putA hA _ _ (by omega)).mono ?_
      rintro e u14 ⟨rfl, hA'⟩
      clear hA q0 q2 q3 q4
      have hA := hA'
      clear hA'
      obtain ⟨q0, q2, q3, q4⟩ := hA.cells
      have e1 : (j + 1) * (VP n + 1) = j * (VP n + 1) + (VP n + 1) := Nat.succ_mul _ _
      have e2 : (j + 1) * (VL n + 2) = j * (VL n + 2) + (VL n + 2) := Nat.succ_mul _ _
      have hA' : AsmAt W w0 u14 C A N xa bs xc fa fc ps tx lc mb (M + 2 + (j + 1) * (VP n + 1)) (L + 1) (K + 1 + (j + 1) * (VL n + 2)) := hA.mono (by omega) (by omega) (by omega)
      clear e1 e2 m1 m2
      go_wp2
      go_roundw
      case rel => exact ⟨k - 1, j + 1, by omega, by congr 1; omega, hA'⟩
      case measure => simp [intOf]; omega
    · have hk' : (k : Int) ≤ 0 := by omega
      go_wp2_with fail
      refine (onceA hA _ (by omega) (by omega) (by omega)).mono ?_
      rintro e u21 ⟨r21, rfl, hA'⟩
      clear hA q0 q2 q3 q4
      have hA := hA'
      clear hA'
      obtain ⟨q0, q2, q3, q4⟩ := hA.cells
      cases r21 with
      | true =>
        go_wp2_with fail
        refine (pickA hA _ (by omega)).mono ?_
        rintro e u22 ⟨r22, rfl, r22a, r22b, hA', -⟩
        clear hA q0 q2 q3 q4
        have hA := hA'
        clear hA'
        obtain ⟨q0, q2, q3, q4⟩ := hA.cells
        go_wp2_with fail
        refine (putA hA _ _ (by omega)).mono ?_
        rintro e u23 ⟨rfl, hA'⟩
        clear hA q0 q2 q3 q4
        have hA := hA'
        clear hA'
        obtain ⟨q0, q2, q3, q4⟩ := hA.cells
        go_wp2
        (try simp only [Exit.inBlock, Exit.then])
        first | (refine bodyPost_end (results_none rfl _ _ _) rfl ?_) | (refine bodyPost_ret (results_none rfl _ _ _) rfl ?_)
        exact ⟨rfl, hA.mono (by omega) (by omega) (by omega)⟩
      | false =>
        go_wp2
        (try simp only [Exit.inBlock, Exit.then])
        first | (refine bodyPost_end (results_none rfl _ _ _) rfl ?_) | (refine bodyPost_ret (results_none rfl _ _ _) rfl ?_)
        exact ⟨rfl, hA.mono (by omega) (by omega) (by omega)⟩
end Go.Proofs.YtfodkgjoilaajaaDoor
