/-
  The drawing functions of the document's model: code that leaves a value, to a depth.
  The drawing functions of the document's model: code for records.
-/
import Derived.Test.YtpmkfdinkomaiaaGreatDoorD1
namespace Go.Proofs.YtpmkfdinkomaiaaGreatDoor
open Go.RowKit

theorem pickA {W w0 w : World} {C A N : Nat} {xa : Option Addr} {bs : List Int} {xc : Nat} {fa : Option Addr} {fc : Nat} {ps : List Int} {tx lc : Int} {mb : Bool} {M L K : Nat} (h : AsmAt W w0 w C A N xa bs xc fa fc ps tx lc mb M L K) (n : Int) (hM : M ≤ 100000000) :
    Calls Tryz.prog 30 #[.pointer (some ⟨C, 0, none⟩), .int .i64 n] w fun e w' => ∃ r : Int, e = .returned (.int .i64 r) ∧ 0 ≤ r ∧ (r < n ∨ r < 1) ∧ AsmAt W w0 w' C A N xa bs xc fa fc ps tx lc mb (M + 1) L K ∧ Px C w w' := by
  refine (pick_any W C xc M xa bs n w h.cur hM).mono ?_
  rintro e w1 ⟨r, rfl, r0, r1, hC, hP⟩
  exact ⟨r, rfl, r0, r1, h.px hC hP, hP⟩
theorem onceA {W w0 w : World} {C A N : Nat} {xa : Option Addr} {bs : List Int} {xc : Nat} {fa : Option Addr} {fc : Nat} {ps : List Int} {tx lc : Int} {mb : Bool} {M L K : Nat} (h : AsmAt W w0 w C A N xa bs xc fa fc ps tx lc mb M L K) (n : Int) (hM : M ≤ 100000000) (h0 : 0 ≤ n) (h1 : n ≤ 1000000) :
    Calls Tryz.prog 29 #[.pointer (some ⟨C, 0, none⟩), .int .i64 n] w fun e w' => ∃ r : Bool, e = .returned (.bool r) ∧ AsmAt W w0 w' C A N xa bs xc fa fc ps tx lc mb (M + 1) L K := by
  refine (once_any W C xc M xa bs n w h.cur hM h0 h1).mono ?_
  rintro e w1 ⟨r, rfl, hC, hP⟩
  exact ⟨r, rfl, h.px hC hP⟩
theorem putA {W w0 w : World} {C A N : Nat} {xa : Option Addr} {bs : List Int} {xc : Nat} {fa : Option Addr} {fc : Nat} {ps : List Int} {tx lc : Int} {mb : Bool} {M L K : Nat} (h : AsmAt W w0 w C A N xa bs xc fa fc ps tx lc mb M L K) (op x : Int) (hK : K ≤ 1000000) :
    Calls Tryz.prog 50 #[.pointer (some ⟨A, 0, none⟩), .int .i64 op, .int .i64 x] w fun e w' => e = .returned (.tuple #[]) ∧ AsmAt W w0 w' C A N xa bs xc fa fc ps tx lc mb M (L + 1) (K + 1) :=
  put_any W w0 C A N xc fc M L K xa fa bs ps tx lc mb op x w h hK

def isI : Value → Bool
  | .int .i64 _ => true
  | _ => false
/-- A cell of a list of numbers that was written out, behind a number taken off the cursor. -/
theorem lit_cell {w w' : World} {C k : Nat} {cs : Array Value} (hP : Px C (w.alloc (.cells cs 3)) w') (hne : w.heap.size ≠ C) (hall : cs.toList.all isI = true) (hk : k < cs.size) : ∃ z, w'.cell? ⟨w.heap.size, k, none⟩ = some (.int .i64 z) := by
  have hb : w'.heap[w.heap.size]? = some (.cells cs 3 (0, 0)) := by rw [hP.block _ hne]; exact block_new _ _ _
  rw [block_cell hb, Array.getElem?_eq_getElem hk]
  have := List.all_eq_true.1 hall cs[k] (by simp)
  revert this
  cases cs[k] with
  | int kd z => cases kd <;> simp [isI]
  | _ => simp [isI]

/-- How many instructions, and how many numbers, code for a value takes, to a depth. -/
def VL : Nat → Nat
  | 0 => 1
  | n + 1 => 3 * VL n + 20
def VP : Nat → Nat
  | 0 => 10
  | n + 1 => 3 * VP n + 40
theorem VL_pos (n : Nat) : 1 ≤ VL n := by cases n <;> simp [VL]
theorem VP_pos (n : Nat) : 10 ≤ VP n := by cases n <;> simp [VP]

/-- What is to be known of 'value' to depth n. -/
def ValueOk (n : Nat) : Prop := ∀ {W w0 w : World} {C A N : Nat} {xa : Option Addr} {bs : List Int} {xc : Nat} {fa : Option Addr} {fc : Nat} {ps : List Int} {tx lc : Int} {mb : Bool} {M L K : Nat} (deep : Int), deep ≤ n → AsmAt W w0 w C A N xa bs xc fa fc ps tx lc mb M L K → M + 100000 * n ≤ 1000000 → K + 10000 * n ≤ 100000 →
  Calls Tryz.prog 49 #[.pointer (some ⟨A, 0, none⟩), .int .i64 deep] w fun e w' => e = .returned (.tuple #[]) ∧ AsmAt W w0 w' C A N xa bs xc fa fc ps tx lc mb (M + VP n) (L + 1) (K + VL n)

set_option maxRecDepth 100000 in
set_option maxHeartbeats 2000000 in
theorem value_flat {W w0 w : World} {C A N : Nat} {xa : Option Addr} {bs : List Int} {xc : Nat} {fa : Option Addr} {fc : Nat} {ps : List Int} {tx lc : Int} {mb : Bool} {M L K : Nat} (deep : Int) (hd : deep ≤ 0 ∨ 90 < L) (hA : AsmAt W w0 w C A N xa bs xc fa fc ps tx lc mb M L K) (hM : M ≤ 1100000) (hK : K ≤ 110000) :
    Calls Tryz.prog 49 #[.pointer (some ⟨A, 0, none⟩), .int .i64 deep] w fun e w' => e = .returned (.tuple #[]) ∧ AsmAt W w0 w' C A N xa bs xc fa fc ps tx lc mb (M + 3) (L + 1) (K + 1) := by
  have h1 := hA.lc0
  have h2 := hA.lc1
  have h3 := hA.tx0
  have h4 := hA.tx1
  obtain ⟨q0, q2, q3, q4⟩ := hA.cells
  obtain ⟨ca, cc, n, hb, -, hn0, hn1⟩ := hA.code
  have hcc := block_cell hb
  clear hb
  rcases (show deep ≤ 0 ∨ (0 < deep ∧ 90 < L) by omega) with hd' | ⟨hd1, hd2⟩
  all_goals
    clear hd
    go_enter Tryz.func49, Tryz.ntmps49
    go_wp2_with fail
    clear hcc
    refine (pickA hA _ (by omega)).mono ?_
    rintro e u1 ⟨r, rfl, ra, rb, hA', -⟩
    clear hA q0 q2 q3 q4
    have hA := hA'
    clear hA'
    obtain ⟨q0, q2, q3, q4⟩ := hA.cells
    by_cases r0 : r = 0
    · subst r0
      go_wp2_with fail
      refine (pickA hA _ (by omega)).mono ?_
      rintro e u2 ⟨r2, rfl, r2a, r2b, hA', -⟩
      clear hA q0 q2 q3 q4
      have hA := hA'
      clear hA'
      obtain ⟨q0, q2, q3, q4⟩ := hA.cells
      go_wp2_with fail
      refine (putA hA _ _ (by omega)).mono ?_
      rintro e u3 ⟨rfl, hA'⟩
      clear hA q0 q2 q3 q4
      have hA := hA'
      clear hA'
      obtain ⟨q0, q2, q3, q4⟩ := hA.cells
      go_wp2
      refine bodyPost_ret (results_none rfl _ _ _) rfl ⟨rfl, hA.mono (by omega) (by omega) (by omega)⟩
    · by_cases r1 : r = 1
      · subst r1
        by_cases ht : 0 < tx
        · skip
          go_wp2_with fail
          refine (pickA hA _ (by omega)).mono ?_
          rintro e u2 ⟨r2, rfl, r2a, r2b, hA', -⟩
          clear hA q0 q2 q3 q4
          have hA := hA'
          clear hA'
          obtain ⟨q0, q2, q3, q4⟩ := hA.cells
          go_wp2_with fail
          refine (putA hA _ _ (by omega)).mono ?_
          rintro e u3 ⟨rfl, hA'⟩
          clear hA q0 q2 q3 q4
          have hA := hA'
          clear hA'
          obtain ⟨q0, q2, q3, q4⟩ := hA.cells
          go_wp2
          refine bodyPost_ret (results_none rfl _ _ _) rfl ⟨rfl, hA.mono (by omega) (by omega) (by omega)⟩
        · skip
          go_wp2_with fail
          refine (putA hA _ _ (by omega)).mono ?_
          rintro e u2 ⟨rfl, hA'⟩
          clear hA q0 q2 q3 q4
          have hA := hA'
          clear hA'
          obtain ⟨q0, q2, q3, q4⟩ := hA.cells
          go_wp2
          refine bodyPost_ret (results_none rfl _ _ _) rfl ⟨rfl, hA.mono (by omega) (by omega) (by omega)⟩
      · have b0 : (r == 0) = false := by simpa using r0
        have b1 : (r == 1) = false := by simpa using r1
        clear r0 r1
        go_wp2_with fail
        refine (pickA hA _ (by omega)).mono ?_
        rintro e u2 ⟨r2, rfl, r2a, r2b, hA', -⟩
        clear hA q0 q2 q3 q4
        have hA := hA'
        clear hA'
        obtain ⟨q0, q2, q3, q4⟩ := hA.cells
        go_wp2_with fail
        refine (putA hA _ _ (by omega)).mono ?_
        rintro e u3 ⟨rfl, hA'⟩
        clear hA q0 q2 q3 q4
        have hA := hA'
        clear hA'
        obtain ⟨q0, q2, q3, q4⟩ := hA.cells
        go_wp2
        refine bodyPost_ret (results_none rfl _ _ _) rfl ⟨rfl, hA.mono (by omega) (by omega) (by omega)⟩
end Go.Proofs.YtpmkfdinkomaiaaGreatDoor

namespace Go.Proofs.YtpmkfdinkomaiaaGreatDoor
open Go.RowKit

set_option maxRecDepth 100000 in
set_option maxHeartbeats 2000000 in
theorem record_any {W w0 w : World} {C A N : Nat} {xa : Option Addr} {bs : List Int} {xc : Nat} {fa : Option Addr} {fc : Nat} {ps : List Int} {tx lc : Int} {mb : Bool} {M L K : Nat} (n : Nat) (hV0 : ValueOk n) (b1 : VP n ≤ 20000) (b2 : VL n ≤ 2000) (deep : Int) (hlo : -1000 ≤ deep) (hd : deep - 2 ≤ n) (hA : AsmAt W w0 w C A N xa bs xc fa fc ps tx lc mb M L K) (hM : M + 100000 * n ≤ 910000) (hK : K + 10000 * n ≤ 91000) :
    Calls Tryz.prog 65 #[.pointer (some ⟨A, 0, none⟩), .int .i64 deep] w fun e w' => e = .returned (.tuple #[]) ∧ AsmAt W w0 w' C A N xa bs xc fa fc ps tx lc mb (M + 3 * VP n + 8) (L + 1) (K + 3 * VL n + 8) := by
  have hV : Hid (ValueOk n) := hV0
  clear hV0
  obtain ⟨q0, q2, q3, q4⟩ := hA.cells
  go_enter Tryz.func65, Tryz.ntmps65
  go_wp2_with fail
  refine (pickA hA _ (by omega)).mono ?_
  rintro e u1 ⟨rn, rfl, rna, rnb, hA', -⟩
  clear hA q0 q2 q3 q4
  have hA := hA'
  clear hA'
  obtain ⟨q0, q2, q3, q4⟩ := hA.cells
  go_wp2_with fail
  refine (putA hA _ _ (by omega)).mono ?_
  rintro e u2 ⟨rfl, hA'⟩
  clear hA q0 q2 q3 q4
  have hA := hA'
  clear hA'
  obtain ⟨q0, q2, q3, q4⟩ := hA.cells
  go_wp2_with fail
  refine (pickA hA _ (by omega)).mono ?_
  rintro e u3 ⟨rk, rfl, rka, rkb, hA', -⟩
  clear hA q0 q2 q3 q4
  have hA := hA'
  clear hA'
  obtain ⟨q0, q2, q3, q4⟩ := hA.cells
  obtain ⟨k0, rfl⟩ : ∃ k0 : Nat, rk = k0 := ⟨rk.toNat, by omega⟩
  have hk0 : k0 ≤ 3 := by omega
  go_wp2
  go_loopw [5] (fun i wr => ∃ (k j : Nat), k + j = k0 ∧ i = .int .i64 k ∧ AsmAt W w0 wr C A N xa bs xc fa fc ps tx lc mb (M + 2 + j * (VP n + 1)) (L + 1) (K + 1 + j * (VL n + 2))) (fun i _ => (intOf i).toNat)
  case atStart => exact ⟨k0, 0, by omega, rfl, hA.mono (by omega) (by omega) (by omega)⟩
  case round =>
    obtain ⟨k, j, hkj, rfl, hA'⟩ := hrel
    clear hA q0 q2 q3 q4
    have hA := hA'
    clear hA'
    obtain ⟨q0, q2, q3, q4⟩ := hA.cells
    have m1 : j * (VP n + 1) ≤ 3 * (VP n + 1) := Nat.mul_le_mul_right _ (by omega)
    have m2 : j * (VL n + 2) ≤ 3 * (VL n + 2) := Nat.mul_le_mul_right _ (by omega)
    by_cases hk : 0 < k
    · have hk' : (0 : Int) < (k : Int) := by omega
      go_wp2_with fail
      refine (putA hA _ _ (by omega)).mono ?_
      rintro e u11 ⟨rfl, hA'⟩
      clear hA q0 q2 q3 q4
      have hA := hA'
      clear hA'
      obtain ⟨q0, q2, q3, q4⟩ := hA.cells
      go_wp2_with fail
      refine (hV.out _ (by omega) hA (by omega) (by omega)).mono ?_
      rintro e u12 ⟨rfl, hA'⟩
      clear hA q0 q2 q3 q4
      have hA := hA'
      clear hA'
      obtain ⟨q0, q2, q3, q4⟩ := hA.cells
      go_wp2_with fail
      refine (pickA hA _ (by omega)).mono ?_
      rintro e u13 ⟨r13, rfl, r13a, r13b, hA', -⟩
      clear hA q0 q2 q3 q4
      have hA := hA'
      clear hA'
      obtain ⟨q0, q2, q3, q4⟩ := hA.cells
      go_wp2_with fail
      refine (putA hA _ _ (by omega)).mono ?_
      rintro e u14 ⟨rfl, hA'⟩
      clear hA q0 q2 q3 q4
      have hA := hA'
      clear hA'
      obtain ⟨q0, q2, q3, q4⟩ := hA.cells
      have e1 : (j + 1) * (VP n + 1) = j * (VP n + 1) + (VP n + 1) := Nat.succ_mul _ _
      have e2 : (j + 1) * (VL n + 2) = j * (VL n + 2) + (VL n + 2) := Nat.succ_mul _ _
      have hA' : AsmAt W w0 u14 C A N xa bs xc fa fc ps tx lc mb (M + 2 + (j + 1) * (VP n + 1)) (L + 1) (K + 1 + (j + 1) * (VL n + 2)) := hA.mono (by omega) (by omega) (by omega)
      clear e1 e2 m1 m2
      go_wp2
      go_roundw
      case rel => exact ⟨k - 1, j + 1, by omega, by congr 1; omega, hA'⟩
      case measure => simp [intOf]; omega
    · have hk' : (k : Int) ≤ 0 := by omega
      go_wp2_with fail
      refine (onceA hA _ (by omega) (by omega) (by omega)).mono ?_
      rintro e u21 ⟨r21, rfl, hA'⟩
      clear hA q0 q2 q3 q4
      have hA := hA'
      clear hA'
      obtain ⟨q0, q2, q3, q4⟩ := hA.cells
      cases r21 with
      | true =>
        go_wp2_with fail
        refine (pickA hA _ (by omega)).mono ?_
        rintro e u22 ⟨r22, rfl, r22a, r22b, hA', -⟩
        clear hA q0 q2 q3 q4
        have hA := hA'
        clear hA'
        obtain ⟨q0, q2, q3, q4⟩ := hA.cells
        go_wp2_with fail
        refine (putA hA _ _ (by omega)).mono ?_
        rintro e u23 ⟨rfl, hA'⟩
        clear hA q0 q2 q3 q4
        have hA := hA'
        clear hA'
        obtain ⟨q0, q2, q3, q4⟩ := hA.cells
        go_wp2
        (try simp only [Exit.inBlock, Exit.then])
        first | (refine bodyPost_end (results_none rfl _ _ _) rfl ?_) | (refine bodyPost_ret (results_none rfl _ _ _) rfl ?_)
        exact ⟨rfl, hA.mono (by omega) (by omega) (by omega)⟩
      | false =>
        go_wp2
        (try simp only [Exit.inBlock, Exit.then])
        first | (refine bodyPost_end (results_none rfl _ _ _) rfl ?_) | (refine bodyPost_ret (results_none rfl _ _ _) rfl ?_)
        exact ⟨rfl, hA.mono (by omega) (by omega) (by omega)⟩
end Go.Proofs.YtpmkfdinkomaiaaGreatDoor
