/-
  The drawing functions of the document's model: code that leaves a value, to one depth more.
-/
import Derived.Test.YtpmkfdinkomaiaaGreatDoorGQ8
namespace Go.Proofs.YtpmkfdinkomaiaaGreatDoor
open Go.RowKit

section
variable {W w0 w : World} {C A N : Nat} {xa : Option Addr} {bs : List Int} {xc : Nat} {fa : Option Addr} {fc : Nat} {ps : List Int} {tx lc : Int} {mb : Bool} {M L K : Nat}
theorem AsmAt.exact (h : AsmAt W w0 w C A N xa bs xc fa fc ps tx lc mb M L K) : ∃ ca cc n, w.heap[A]? = some (.cells #[.pointer (some ⟨C, 0, none⟩), .slice ca n cc, .slice fa ps.length fc, .int .i64 tx, .int .i64 lc, .bool mb] 82 (0, 0)) ∧ L ≤ n ∧ n ≤ K ∧ AsmAt W w0 w C A N xa bs xc fa fc ps tx lc mb M n n := by
  obtain ⟨ca, cc, n, hb, hr, h0, h1⟩ := h.code
  exact ⟨ca, cc, n, hb, h0, h1, { h with code := ⟨ca, cc, n, hb, hr, Nat.le_refl _, Nat.le_refl _⟩ }⟩
theorem AsmAt.parAt (h : AsmAt W w0 w C A N xa bs xc fa fc ps tx lc mb M L K) {i b off : Nat} (hi : i < ps.length) (e : fa = some ⟨b, off, none⟩) : w.cell? ⟨b, off + i * 3, none⟩ = some (.int .i64 ps[i]) := by
  obtain ⟨b', off', e', -, -, -, h4⟩ := h.par i hi
  rw [e] at e'
  cases e'
  exact h4
theorem RowI.cut {ca : Option Addr} {n cc : Nat} (h : RowI w N (.slice ca n cc) n) (hn : 1 ≤ n) : RowI w N (.slice ca (n - 1) cc) (n - 1) := by
  obtain ⟨vs, ho, hv⟩ := h
  rcases ho.2 with ⟨-, h0⟩ | ⟨g, cap, cur, e, hg, hh, h1, h2, h3, h4⟩
  · omega
  · cases e
    refine ⟨vs.take ((n - 1) * 2), ⟨?_, .inr ⟨g, cc, cur, rfl, hg, hh, by omega, h2, h3, ?_⟩⟩, fun u hu => hv u (List.mem_of_mem_take hu)⟩
    · have := ho.1
      rw [List.length_take]
      omega
    · rw [← h4, List.take_take, Nat.min_eq_left (by omega)]
theorem RowI.le {ca : Option Addr} {n cc : Nat} (h : RowI w N (.slice ca n cc) n) : n ≤ cc := by
  obtain ⟨vs, ho, hv⟩ := h
  rcases ho.2 with ⟨e, h0⟩ | ⟨g, cap, cur, e, hg, hh, h1, h2, h3, h4⟩
  · omega
  · cases e
    exact h1
/-- The last instruction is taken back. -/
theorem AsmAt.cut (h : AsmAt W w0 w C A N xa bs xc fa fc ps tx lc mb M L K) {ca : Option Addr} {n cc : Nat} (hb : w.heap[A]? = some (.cells #[.pointer (some ⟨C, 0, none⟩), .slice ca n cc, .slice fa ps.length fc, .int .i64 tx, .int .i64 lc, .bool mb] 82 (0, 0))) (hL : 1 ≤ L) :
    AsmAt W w0 (w.setCell ⟨A, 1, none⟩ (.slice ca (n - 1) cc)) C A N xa bs xc fa fc ps tx lc mb M (L - 1) K := by
  obtain ⟨ca', cc', n', hb', hr, h0, h1⟩ := h.code
  rw [hb] at hb'
  cases hb'
  have haN := h.aN
  refine h.step ((Fr.refl _ _ _ _).setA 1 _) ⟨ca, cc, n - 1, ?_, (hr.cut (by omega)).keep (fun k hk _ => Below.heap_setCell _ _ _ _ (by simp; omega)), by omega, by omega⟩
  have := block_set (i := 1) hb (.slice ca (n - 1) cc)
  simpa using this
theorem AsmAt.drew (h : AsmAt W w0 w C A N xa bs xc fa fc ps tx lc mb M L K) : AsmAt W w0 w.drew C A N xa bs xc fa fc ps tx lc mb M L K := h.below ((Below.refl _ _).drew)
end

set_option maxHeartbeats 400000 in
theorem numberA (A : Nat) (f : Int) (w : World) (h0 : 0 ≤ f) (h1 : f ≤ 1000) :
    Calls Tryz.prog 66 #[.pointer (some ⟨A, 0, none⟩), .int .i64 f] w fun e w' => e = .returned (.int .i64 (f + 1)) ∧ w' = w := by
  go_enter Tryz.func66, Tryz.ntmps66
  go_wp2
  go_ret
  exact ⟨rfl, rfl⟩

set_option maxRecDepth 100000 in
set_option maxHeartbeats 4000000 in
theorem value_step (n : Nat) (hV0 : ValueOk n) (b1 : VP n ≤ 20000) (b2 : VL n ≤ 2000) : ValueOk (n + 1) := by
  intro W w0 w C A N xa bs xc fa fc ps tx lc mb M L K deep hd hA hM hK
  have hV : Hid (ValueOk n) := hV0
  have eP : VP (n + 1) = 3 * VP n + 40 := rfl
  have eL : VL (n + 1) = 3 * VL n + 20 := rfl
  have g1 := VP_pos n
  have g2 := VL_pos n
  obtain ⟨ca, cc, n', hb, hn0, hn1, hX⟩ := hA.exact
  by_cases hbase : deep ≤ 0 ∨ 90 < n'
  · refine (value_flat deep hbase hX (by omega) (by omega)).mono ?_
    rintro e w1 ⟨rfl, hA'⟩
    exact ⟨rfl, hA'.mono (by omega) (by omega) (by omega)⟩
  have hd1 : 0 < deep := by omega
  have hn90 : n' ≤ 90 := by omega
  have l1 := hA.lc0
  have l2 := hA.lc1
  have l3 := hA.psl
  have hcc := block_cell hb
  obtain ⟨q0, q2, q3, q4⟩ := hA.cells
  clear hbase hX hb hV0
  rw [eP, eL]
  clear eP eL
  have hd2 : deep ≤ (n : Int) + 1 := by omega
  have hM2 : M + 100000 * n ≤ 900000 := by omega
  have hK2 : K + 10000 * n ≤ 90000 := by omega
  clear hd hM hK
  go_enter Tryz.func49, Tryz.ntmps49
  go_wp2_with fail
  clear hcc
  refine (pickA hA _ (by omega)).mono ?_
  rintro e u1 ⟨r, rfl, ra, rb, hA', -⟩
  clear hA q0 q2 q3 q4
  have hA := hA'
  clear hA'
  obtain ⟨q0, q2, q3, q4⟩ := hA.cells
  rcases (show r = 0 ∨ r = 1 ∨ r = 2 ∨ r = 3 ∨ r = 4 ∨ r = 5 ∨ r = 6 ∨ r = 7 ∨ r = 8 ∨ r = 9 ∨ r = 10 ∨ r = 11 ∨ r = 12 ∨ r = 13 ∨ r = 14 ∨ r = 15 by omega) with rfl | rfl | rfl | rfl | rfl | rfl | rfl | rfl | rfl | rfl | rfl | rfl | rfl | rfl | rfl | rfl
  · go_wp2_with fail
    have hne2 : u1.heap.size ≠ C := by have h1 := hA.cN; have h2 := hA.size; omega
    refine (pickA (hA.below ((Below.refl _ _).alloc (Nat.le_refl _) _)) _ (by omega)).mono ?_
    rintro e u2 ⟨r2, rfl, r2a, r2b, hA', hP⟩
    obtain ⟨k2, rfl⟩ : ∃ k2 : Nat, r2 = k2 := ⟨r2.toNat, by omega⟩
    obtain ⟨z2, hz2⟩ := lit_cell (k := k2) hP hne2 rfl (by simp; omega)
    clear hP
    clear hA q0 q2 q3 q4
    have hA := hA'
    clear hA'
    obtain ⟨q0, q2, q3, q4⟩ := hA.cells
    go_wp2_with fail
    refine (putA hA _ _ (by omega)).mono ?_
    rintro e u3 ⟨rfl, hA'⟩
    clear hA q0 q2 q3 q4
    have hA := hA'
    clear hA'
    obtain ⟨q0, q2, q3, q4⟩ := hA.cells
    go_wp2
    (try simp only [Exit.inBlock, Exit.then])
    first | (refine bodyPost_end (results_none rfl _ _ _) rfl ?_) | (refine bodyPost_ret (results_none rfl _ _ _) rfl ?_)
    exact ⟨rfl, hA.mono (by omega) (by omega) (by omega)⟩
  · go_wp2_with fail
    refine (pickA hA _ (by omega)).mono ?_
    rintro e u2 ⟨r2, rfl, r2a, r2b, hA', -⟩
    clear hA q0 q2 q3 q4
    have hA := hA'
    clear hA'
    obtain ⟨q0, q2, q3, q4⟩ := hA.cells
    go_wp2_with fail
    refine (putA hA _ _ (by omega)).mono ?_
    rintro e u3 ⟨rfl, hA'⟩
    clear hA q0 q2 q3 q4
    have hA := hA'
    clear hA'
    obtain ⟨q0, q2, q3, q4⟩ := hA.cells
    go_wp2
    (try simp only [Exit.inBlock, Exit.then])
    first | (refine bodyPost_end (results_none rfl _ _ _) rfl ?_) | (refine bodyPost_ret (results_none rfl _ _ _) rfl ?_)
    exact ⟨rfl, hA.mono (by omega) (by omega) (by omega)⟩
  · go_wp2_with fail
    refine (hV.out _ (by omega) hA (by omega) (by omega)).mono ?_
    rintro e u2 ⟨rfl, hA'⟩
    clear hA q0 q2 q3 q4
    have hA := hA'
    clear hA'
    obtain ⟨q0, q2, q3, q4⟩ := hA.cells
    go_wp2_with fail
    refine (hV.out _ (by omega) hA (by omega) (by omega)).mono ?_
    rintro e u3 ⟨rfl, hA'⟩
    clear hA q0 q2 q3 q4
    have hA := hA'
    clear hA'
    obtain ⟨q0, q2, q3, q4⟩ := hA.cells
    go_wp2_with fail
    have hne4 : u3.heap.size ≠ C := by have h1 := hA.cN; have h2 := hA.size; omega
    refine (pickA (hA.below ((Below.refl _ _).alloc (Nat.le_refl _) _)) _ (by omega)).mono ?_
    rintro e u4 ⟨r4, rfl, r4a, r4b, hA', hP⟩
    obtain ⟨k4, rfl⟩ : ∃ k4 : Nat, r4 = k4 := ⟨r4.toNat, by omega⟩
    obtain ⟨z4, hz4⟩ := lit_cell (k := k4) hP hne4 rfl (by simp; omega)
    clear hP
    clear hA q0 q2 q3 q4
    have hA := hA'
    clear hA'
    obtain ⟨q0, q2, q3, q4⟩ := hA.cells
    go_wp2_with fail
    refine (putA hA _ _ (by omega)).mono ?_
    rintro e u5 ⟨rfl, hA'⟩
    clear hA q0 q2 q3 q4
    have hA := hA'
    clear hA'
    obtain ⟨q0, q2, q3, q4⟩ := hA.cells
    go_wp2
    (try simp only [Exit.inBlock, Exit.then])
    first | (refine bodyPost_end (results_none rfl _ _ _) rfl ?_) | (refine bodyPost_ret (results_none rfl _ _ _) rfl ?_)
    exact ⟨rfl, hA.mono (by omega) (by omega) (by omega)⟩
  · go_wp2_with fail
    refine (hV.out _ (by omega) hA (by omega) (by omega)).mono ?_
    rintro e u2 ⟨rfl, hA'⟩
    clear hA q0 q2 q3 q4
    have hA := hA'
    clear hA'
    obtain ⟨q0, q2, q3, q4⟩ := hA.cells
    go_wp2_with fail
    refine (hV.out _ (by omega) hA (by omega) (by omega)).mono ?_
    rintro e u3 ⟨rfl, hA'⟩
    clear hA q0 q2 q3 q4
    have hA := hA'
    clear hA'
    obtain ⟨q0, q2, q3, q4⟩ := hA.cells
    go_wp2_with fail
    have hne4 : u3.heap.size ≠ C := by have h1 := hA.cN; have h2 := hA.size; omega
    refine (pickA (hA.below ((Below.refl _ _).alloc (Nat.le_refl _) _)) _ (by omega)).mono ?_
    rintro e u4 ⟨r4, rfl, r4a, r4b, hA', hP⟩
    obtain ⟨k4, rfl⟩ : ∃ k4 : Nat, r4 = k4 := ⟨r4.toNat, by omega⟩
    obtain ⟨z4, hz4⟩ := lit_cell (k := k4) hP hne4 rfl (by simp; omega)
    clear hP
    clear hA q0 q2 q3 q4
    have hA := hA'
    clear hA'
    obtain ⟨q0, q2, q3, q4⟩ := hA.cells
    go_wp2_with fail
    refine (putA hA _ _ (by omega)).mono ?_
    rintro e u5 ⟨rfl, hA'⟩
    clear hA q0 q2 q3 q4
    have hA := hA'
    clear hA'
    obtain ⟨q0, q2, q3, q4⟩ := hA.cells
    go_wp2
    (try simp only [Exit.inBlock, Exit.then])
    first | (refine bodyPost_end (results_none rfl _ _ _) rfl ?_) | (refine bodyPost_ret (results_none rfl _ _ _) rfl ?_)
    exact ⟨rfl, hA.mono (by omega) (by omega) (by omega)⟩
  · go_wp2_with fail
    refine (hV.out _ (by omega) hA (by omega) (by omega)).mono ?_
    rintro e u2 ⟨rfl, hA'⟩
    clear hA q0 q2 q3 q4
    have hA := hA'
    clear hA'
    obtain ⟨q0, q2, q3, q4⟩ := hA.cells
    go_wp2_with fail
    refine (hV.out _ (by omega) hA (by omega) (by omega)).mono ?_
    rintro e u3 ⟨rfl, hA'⟩
    clear hA q0 q2 q3 q4
    have hA := hA'
    clear hA'
    obtain ⟨q0, q2, q3, q4⟩ := hA.cells
    go_wp2_with fail
    have hne4 : u3.heap.size ≠ C := by have h1 := hA.cN; have h2 := hA.size; omega
    refine (pickA (hA.below ((Below.refl _ _).alloc (Nat.le_refl _) _)) _ (by omega)).mono ?_
    rintro e u4 ⟨r4, rfl, r4a, r4b, hA', hP⟩
    obtain ⟨k4, rfl⟩ : ∃ k4 : Nat, r4 = k4 := ⟨r4.toNat, by omega⟩
    obtain ⟨z4, hz4⟩ := lit_cell (k := k4) hP hne4 rfl (by simp; omega)
    clear hP
    clear hA q0 q2 q3 q4
    have hA := hA'
    clear hA'
    obtain ⟨q0, q2, q3, q4⟩ := hA.cells
    go_wp2_with fail
    refine (putA hA _ _ (by omega)).mono ?_
    rintro e u5 ⟨rfl, hA'⟩
    clear hA q0 q2 q3 q4
    have hA := hA'
    clear hA'
    obtain ⟨q0, q2, q3, q4⟩ := hA.cells
    go_wp2
    (try simp only [Exit.inBlock, Exit.then])
    first | (refine bodyPost_end (results_none rfl _ _ _) rfl ?_) | (refine bodyPost_ret (results_none rfl _ _ _) rfl ?_)
    exact ⟨rfl, hA.mono (by omega) (by omega) (by omega)⟩
  · go_wp2_with fail
    refine (hV.out _ (by omega) hA (by omega) (by omega)).mono ?_
    rintro e u2 ⟨rfl, hA'⟩
    clear hA q0 q2 q3 q4
    have hA := hA'
    clear hA'
    obtain ⟨q0, q2, q3, q4⟩ := hA.cells
    go_wp2_with fail
    refine (hV.out _ (by omega) hA (by omega) (by omega)).mono ?_
    rintro e u3 ⟨rfl, hA'⟩
    clear hA q0 q2 q3 q4
    have hA := hA'
    clear hA'
    obtain ⟨q0, q2, q3, q4⟩ := hA.cells
    go_wp2_with fail
    have hne4 : u3.heap.size ≠ C := by have h1 := hA.cN; have h2 := hA.size; omega
    refine (pickA (hA.below ((Below.refl _ _).alloc (Nat.le_refl _) _)) _ (by omega)).mono ?_
    rintro e u4 ⟨r4, rfl, r4a, r4b, hA', hP⟩
    obtain ⟨k4, rfl⟩ : ∃ k4 : Nat, r4 = k4 := ⟨r4.toNat, by omega⟩
    obtain ⟨z4, hz4⟩ := lit_cell (k := k4) hP hne4 rfl (by simp; omega)
    clear hP
    clear hA q0 q2 q3 q4
    have hA := hA'
    clear hA'
    obtain ⟨q0, q2, q3, q4⟩ := hA.cells
    go_wp2_with fail
    refine (putA hA _ _ (by omega)).mono ?_
    rintro e u5 ⟨rfl, hA'⟩
    clear hA q0 q2 q3 q4
    have hA := hA'
    clear hA'
    obtain ⟨q0, q2, q3, q4⟩ := hA.cells
    go_wp2
    (try simp only [Exit.inBlock, Exit.then])
    first | (refine bodyPost_end (results_none rfl _ _ _) rfl ?_) | (refine bodyPost_ret (results_none rfl _ _ _) rfl ?_)
    exact ⟨rfl, hA.mono (by omega) (by omega) (by omega)⟩
  · go_wp2_with fail
    refine (hV.out _ (by omega) hA (by omega) (by omega)).mono ?_
    rintro e u2 ⟨rfl, hA'⟩
    clear hA q0 q2 q3 q4
    have hA := hA'
    clear hA'
    obtain ⟨q0, q2, q3, q4⟩ := hA.cells
    go_wp2_with fail
    refine (hV.out _ (by omega) hA (by omega) (by omega)).mono ?_
    rintro e u3 ⟨rfl, hA'⟩
    clear hA q0 q2 q3 q4
    have hA := hA'
    clear hA'
    obtain ⟨q0, q2, q3, q4⟩ := hA.cells
    go_wp2_with fail
    have hne4 : u3.heap.size ≠ C := by have h1 := hA.cN; have h2 := hA.size; omega
    refine (pickA (hA.below ((Below.refl _ _).alloc (Nat.le_refl _) _)) _ (by omega)).mono ?_
    rintro e u4 ⟨r4, rfl, r4a, r4b, hA', hP⟩
    obtain ⟨k4, rfl⟩ : ∃ k4 : Nat, r4 = k4 := ⟨r4.toNat, by omega⟩
    obtain ⟨z4, hz4⟩ := lit_cell (k := k4) hP hne4 rfl (by simp; omega)
    clear hP
    clear hA q0 q2 q3 q4
    have hA := hA'
    clear hA'
    obtain ⟨q0, q2, q3, q4⟩ := hA.cells
    go_wp2_with fail
    refine (putA hA _ _ (by omega)).mono ?_
    rintro e u5 ⟨rfl, hA'⟩
    clear hA q0 q2 q3 q4
    have hA := hA'
    clear hA'
    obtain ⟨q0, q2, q3, q4⟩ := hA.cells
    go_wp2
    (try simp only [Exit.inBlock, Exit.then])
    first | (refine bodyPost_end (results_none rfl _ _ _) rfl ?_) | (refine bodyPost_ret (results_none rfl _ _ _) rfl ?_)
    exact ⟨rfl, hA.mono (by omega) (by omega) (by omega)⟩
  · go_wp2_with fail
    refine (hV.out _ (by omega) hA (by omega) (by omega)).mono ?_
    rintro e u2 ⟨rfl, hA'⟩
    clear hA q0 q2 q3 q4
    have hA := hA'
    clear hA'
    obtain ⟨q0, q2, q3, q4⟩ := hA.cells
    go_wp2_with fail
    refine (putA hA _ _ (by omega)).mono ?_
    rintro e u3 ⟨rfl, hA'⟩
    clear hA q0 q2 q3 q4
    have hA := hA'
    clear hA'
    obtain ⟨q0, q2, q3, q4⟩ := hA.cells
    go_wp2
    (try simp only [Exit.inBlock, Exit.then])
    first | (refine bodyPost_end (results_none rfl _ _ _) rfl ?_) | (refine bodyPost_ret (results_none rfl _ _ _) rfl ?_)
    exact ⟨rfl, hA.mono (by omega) (by omega) (by omega)⟩
  · go_wp2_with fail
    refine (record_any n hV.out b1 b2 deep (by omega) (by omega) hA (by omega) (by omega)).mono ?_
    rintro e u2 ⟨rfl, hA'⟩
    clear hA q0 q2 q3 q4
    have hA := hA'
    clear hA'
    go_wp2
    (try simp only [Exit.inBlock, Exit.then])
    first | (refine bodyPost_end (results_none rfl _ _ _) rfl ?_) | (refine bodyPost_ret (results_none rfl _ _ _) rfl ?_)
    exact ⟨rfl, hA.mono (by omega) (by omega) (by omega)⟩
  · go_wp2_with fail
    refine (record_any n hV.out b1 b2 deep (by omega) (by omega) hA (by omega) (by omega)).mono ?_
    rintro e u2 ⟨rfl, hA'⟩
    clear hA q0 q2 q3 q4
    have hA := hA'
    clear hA'
    go_wp2
    (try simp only [Exit.inBlock, Exit.then])
    first | (refine bodyPost_end (results_none rfl _ _ _) rfl ?_) | (refine bodyPost_ret (results_none rfl _ _ _) rfl ?_)
    exact ⟨rfl, hA.mono (by omega) (by omega) (by omega)⟩
  · go_wp2_with fail
    refine (hV.out _ (by omega) hA (by omega) (by omega)).mono ?_
    rintro e u2 ⟨rfl, hA'⟩
    clear hA q0 q2 q3 q4
    have hA := hA'
    clear hA'
    obtain ⟨q0, q2, q3, q4⟩ := hA.cells
    go_wp2_with fail
    refine (pickA hA _ (by omega)).mono ?_
    rintro e u3 ⟨r3, rfl, r3a, r3b, hA', -⟩
    clear hA q0 q2 q3 q4
    have hA := hA'
    clear hA'
    obtain ⟨q0, q2, q3, q4⟩ := hA.cells
    go_wp2_with fail
    refine (putA hA _ _ (by omega)).mono ?_
    rintro e u4 ⟨rfl, hA'⟩
    clear hA q0 q2 q3 q4
    have hA := hA'
    clear hA'
    obtain ⟨q0, q2, q3, q4⟩ := hA.cells
    go_wp2
    (try simp only [Exit.inBlock, Exit.then])
    first | (refine bodyPost_end (results_none rfl _ _ _) rfl ?_) | (refine bodyPost_ret (results_none rfl _ _ _) rfl ?_)
    exact ⟨rfl, hA.mono (by omega) (by omega) (by omega)⟩
  · by_cases hps : 0 < ps.length
    · have hps' : (0 : Int) < (ps.length : Int) := by omega
      obtain ⟨fb, fo, rfl, -⟩ := hA.par 0 hps
      go_wp2_with fail
      refine (pickA hA _ (by omega)).mono ?_
      rintro e u2 ⟨rf, rfl, rfa, rfb, hA', -⟩
      clear hA q0 q2 q3 q4
      have hA := hA'
      clear hA'
      obtain ⟨q0, q2, q3, q4⟩ := hA.cells
      obtain ⟨fi, rfl⟩ : ∃ fi : Nat, rf = fi := ⟨rf.toNat, by omega⟩
      have hfi : fi < ps.length := by omega
      have hp0 := hA.pok ps[fi] (List.getElem_mem hfi)
      have p1 := hA.parAt hfi rfl
      go_wp2
      go_loopw [6] (fun i wr => ∃ (k : Nat), (k : Int) ≤ ps[fi] ∧ i = .int .i64 k ∧ AsmAt W w0 wr C A N xa bs xc (some ⟨fb, fo, none⟩) fc ps tx lc mb (M + 2 + k * VP n) L (K + k * VL n)) (fun i _ => (ps[fi]).toNat - (intOf i).toNat)
      case atStart => exact ⟨0, by omega, rfl, hA.mono (by omega) (by omega) (by omega)⟩
      case round =>
        obtain ⟨k, hk, rfl, hA'⟩ := hrel
        clear hA q0 q2 q3 q4 p1
        have hA := hA'
        clear hA'
        obtain ⟨q0, q2, q3, q4⟩ := hA.cells
        have p1 := hA.parAt hfi rfl
        have m1 : k * VP n ≤ 2 * VP n := Nat.mul_le_mul_right _ (by omega)
        have m2 : k * VL n ≤ 2 * VL n := Nat.mul_le_mul_right _ (by omega)
        by_cases hk2 : (k : Int) < ps[fi]
        · go_wp2_with fail
          refine (hV.out _ (by omega) hA (by omega) (by omega)).mono ?_
          rintro e u41 ⟨rfl, hA'⟩
          clear hA q0 q2 q3 q4
          have hA := hA'
          clear hA'
          obtain ⟨q0, q2, q3, q4⟩ := hA.cells
          have e1 : (k + 1) * VP n = k * VP n + VP n := Nat.succ_mul _ _
          have e2 : (k + 1) * VL n = k * VL n + VL n := Nat.succ_mul _ _
          have hA' : AsmAt W w0 u41 C A N xa bs xc (some ⟨fb, fo, none⟩) fc ps tx lc mb (M + 2 + (k + 1) * VP n) L (K + (k + 1) * VL n) := hA.mono (by omega) (by omega) (by omega)
          clear e1 e2 m1 m2
          go_wp2
          go_roundw
          case rel => exact ⟨k + 1, by omega, by go_num, hA'⟩
          case measure => simp [intOf]; omega
        · go_wp2_with fail
          refine (numberA A fi _ (by omega) (by omega)).mono ?_
          rintro e u60 ⟨rfl, hw⟩
          rw [hw]
          clear hw u60
          go_wp2_with fail
          refine (putA hA _ _ (by omega)).mono ?_
          rintro e u61 ⟨rfl, hA'⟩
          clear hA q0 q2 q3 q4
          have hA := hA'
          clear hA'
          obtain ⟨q0, q2, q3, q4⟩ := hA.cells
          go_wp2
          (try simp only [Exit.inBlock, Exit.then])
          first | (refine bodyPost_end (results_none rfl _ _ _) rfl ?_) | (refine bodyPost_ret (results_none rfl _ _ _) rfl ?_)
          exact ⟨rfl, hA.mono (by omega) (by omega) (by omega)⟩
    · have hps0 : ps = [] := List.eq_nil_of_length_eq_zero (by omega)
      subst hps0
      go_wp2_with fail
      refine (hV.out _ (by omega) hA (by omega) (by omega)).mono ?_
      rintro e u2 ⟨rfl, hA'⟩
      clear hA q0 q2 q3 q4
      have hA := hA'
      clear hA'
      obtain ⟨q0, q2, q3, q4⟩ := hA.cells
      go_wp2
      (try simp only [Exit.inBlock, Exit.then])
      first | (refine bodyPost_end (results_none rfl _ _ _) rfl ?_) | (refine bodyPost_ret (results_none rfl _ _ _) rfl ?_)
      exact ⟨rfl, hA.mono (by omega) (by omega) (by omega)⟩
  · by_cases hps : 0 < ps.length
    · have hps' : (0 : Int) < (ps.length : Int) := by omega
      obtain ⟨fb, fo, rfl, -⟩ := hA.par 0 hps
      go_wp2_with fail
      refine (pickA hA _ (by omega)).mono ?_
      rintro e u2 ⟨rf, rfl, rfa, rfb, hA', -⟩
      clear hA q0 q2 q3 q4
      have hA := hA'
      clear hA'
      obtain ⟨q0, q2, q3, q4⟩ := hA.cells
      obtain ⟨fi, rfl⟩ : ∃ fi : Nat, rf = fi := ⟨rf.toNat, by omega⟩
      have hfi : fi < ps.length := by omega
      have hp0 := hA.pok ps[fi] (List.getElem_mem hfi)
      have p1 := hA.parAt hfi rfl
      go_wp2
      go_loopw [6] (fun i wr => ∃ (k : Nat), (k : Int) ≤ ps[fi] ∧ i = .int .i64 k ∧ AsmAt W w0 wr C A N xa bs xc (some ⟨fb, fo, none⟩) fc ps tx lc mb (M + 2 + k * VP n) L (K + k * VL n)) (fun i _ => (ps[fi]).toNat - (intOf i).toNat)
      case atStart => exact ⟨0, by omega, rfl, hA.mono (by omega) (by omega) (by omega)⟩
      case round =>
        obtain ⟨k, hk, rfl, hA'⟩ := hrel
        clear hA q0 q2 q3 q4 p1
        have hA := hA'
        clear hA'
        obtain ⟨q0, q2, q3, q4⟩ := hA.cells
        have p1 := hA.parAt hfi rfl
        have m1 : k * VP n ≤ 2 * VP n := Nat.mul_le_mul_right _ (by omega)
        have m2 : k * VL n ≤ 2 * VL n := Nat.mul_le_mul_right _ (by omega)
        by_cases hk2 : (k : Int) < ps[fi]
        · go_wp2_with fail
          refine (hV.out _ (by omega) hA (by omega) (by omega)).mono ?_
          rintro e u41 ⟨rfl, hA'⟩
          clear hA q0 q2 q3 q4
          have hA := hA'
          clear hA'
          obtain ⟨q0, q2, q3, q4⟩ := hA.cells
          have e1 : (k + 1) * VP n = k * VP n + VP n := Nat.succ_mul _ _
          have e2 : (k + 1) * VL n = k * VL n + VL n := Nat.succ_mul _ _
          have hA' : AsmAt W w0 u41 C A N xa bs xc (some ⟨fb, fo, none⟩) fc ps tx lc mb (M + 2 + (k + 1) * VP n) L (K + (k + 1) * VL n) := hA.mono (by omega) (by omega) (by omega)
          clear e1 e2 m1 m2
          go_wp2
          go_roundw
          case rel => exact ⟨k + 1, by omega, by go_num, hA'⟩
          case measure => simp [intOf]; omega
        · go_wp2_with fail
          refine (numberA A fi _ (by omega) (by omega)).mono ?_
          rintro e u60 ⟨rfl, hw⟩
          rw [hw]
          clear hw u60
          go_wp2_with fail
          refine (putA hA _ _ (by omega)).mono ?_
          rintro e u61 ⟨rfl, hA'⟩
          clear hA q0 q2 q3 q4
          have hA := hA'
          clear hA'
          obtain ⟨q0, q2, q3, q4⟩ := hA.cells
          go_wp2
          (try simp only [Exit.inBlock, Exit.then])
          first | (refine bodyPost_end (results_none rfl _ _ _) rfl ?_) | (refine bodyPost_ret (results_none rfl _ _ _) rfl ?_)
          exact ⟨rfl, hA.mono (by omega) (by omega) (by omega)⟩
    · have hps0 : ps = [] := List.eq_nil_of_length_eq_zero (by omega)
      subst hps0
      go_wp2_with fail
      refine (hV.out _ (by omega) hA (by omega) (by omega)).mono ?_
      rintro e u2 ⟨rfl, hA'⟩
      clear hA q0 q2 q3 q4
      have hA := hA'
      clear hA'
      obtain ⟨q0, q2, q3, q4⟩ := hA.cells
      go_wp2
      (try simp only [Exit.inBlock, Exit.then])
      first | (refine bodyPost_end (results_none rfl _ _ _) rfl ?_) | (refine bodyPost_ret (results_none rfl _ _ _) rfl ?_)
      exact ⟨rfl, hA.mono (by omega) (by omega) (by omega)⟩
  · by_cases hps : 0 < ps.length
    · have hps' : (0 : Int) < (ps.length : Int) := by omega
      obtain ⟨fb, fo, rfl, -⟩ := hA.par 0 hps
      go_wp2_with fail
      refine (pickA hA _ (by omega)).mono ?_
      rintro e u2 ⟨rf, rfl, rfa, rfb, hA', -⟩
      clear hA q0 q2 q3 q4
      have hA := hA'
      clear hA'
      obtain ⟨q0, q2, q3, q4⟩ := hA.cells
      obtain ⟨fi, rfl⟩ : ∃ fi : Nat, rf = fi := ⟨rf.toNat, by omega⟩
      have hfi : fi < ps.length := by omega
      have hp0 := hA.pok ps[fi] (List.getElem_mem hfi)
      have p1 := hA.parAt hfi rfl
      go_wp2_with fail
      refine (numberA A fi _ (by omega) (by omega)).mono ?_
      rintro e u60 ⟨rfl, hw⟩
      rw [hw]
      clear hw u60
      go_wp2_with fail
      refine (putA hA _ _ (by omega)).mono ?_
      rintro e u3 ⟨rfl, hA'⟩
      clear hA q0 q2 q3 q4
      have hA := hA'
      clear hA'
      obtain ⟨q0, q2, q3, q4⟩ := hA.cells
      go_wp2_with fail
      refine (onceA hA _ (by omega) (by omega) (by omega)).mono ?_
      rintro e u4 ⟨r4, rfl, hA'⟩
      clear hA q0 q2 q3 q4
      have hA := hA'
      clear hA'
      obtain ⟨q0, q2, q3, q4⟩ := hA.cells
      have p1 := hA.parAt hfi rfl
      cases r4 with
      | true =>
        obtain ⟨ca2, cc2, n2, hb2, hr2, hn2, hn3⟩ := hA.code
        obtain ⟨m2, rfl⟩ : ∃ m2, n2 = m2 + 1 := ⟨n2 - 1, by omega⟩
        have hle2 := hr2.le
        have hle3 : (m2 : Int) ≤ (cc2 : Int) := by omega
        have hD2 : AsmAt W w0 (u4.setCell ⟨A, 1, none⟩ (.slice ca2 m2 cc2)).drew C A N xa bs xc (some ⟨fb, fo, none⟩) fc ps tx lc mb (M + 1 + 1 + 1) (L + 1 - 1) (K + 1) := (hA.cut (n := m2 + 1) hb2 (by omega)).drew
        have c2 := block_cell (w := u4) hb2
        have c3 := block_cell (w := u4.drew) hb2
        have c4 := block_free (w := u4.drew) hb2
        go_wp2
        go_region
        all_goals
          generalize (u4.setCell ⟨A, 1, none⟩ (.slice ca2 m2 cc2)).drew = wz at hD2 ⊢
          clear hA q0 q2 q3 q4 c2 c3 c4 hb2 p1 hr2 hle2 hle3
          have hA := hD2
          clear hD2
          obtain ⟨q0, q2, q3, q4⟩ := hA.cells
          have p1 := hA.parAt hfi rfl
          go_wp2_with fail
          refine (pickA hA _ (by omega)).mono ?_
          rintro e u31 ⟨r31, rfl, r31a, r31b, hA', -⟩
          clear hA q0 q2 q3 q4
          have hA := hA'
          clear hA'
          obtain ⟨q0, q2, q3, q4⟩ := hA.cells
          go_wp2_with fail
          refine (putA hA _ _ (by omega)).mono ?_
          rintro e u32 ⟨rfl, hA'⟩
          clear hA q0 q2 q3 q4
          have hA := hA'
          clear hA'
          obtain ⟨q0, q2, q3, q4⟩ := hA.cells
          have p1 := hA.parAt hfi rfl
          go_wp2
          go_loopw [8] (fun i wr => ∃ (k : Nat), (k : Int) ≤ ps[fi] ∧ i = .int .i64 k ∧ AsmAt W w0 wr C A N xa bs xc (some ⟨fb, fo, none⟩) fc ps tx lc mb (M + 5 + k * VP n) L ((K + 2) + k * VL n)) (fun i _ => (ps[fi]).toNat - (intOf i).toNat)
          case atStart => exact ⟨0, by omega, rfl, hA.mono (by omega) (by omega) (by omega)⟩
          case round =>
            obtain ⟨k, hk, rfl, hA'⟩ := hrel
            clear hA q0 q2 q3 q4 p1
            have hA := hA'
            clear hA'
            obtain ⟨q0, q2, q3, q4⟩ := hA.cells
            have p1 := hA.parAt hfi rfl
            have m1 : k * VP n ≤ 2 * VP n := Nat.mul_le_mul_right _ (by omega)
            have m2 : k * VL n ≤ 2 * VL n := Nat.mul_le_mul_right _ (by omega)
            by_cases hk2 : (k : Int) < ps[fi]
            · go_wp2_with fail
              refine (hV.out _ (by omega) hA (by omega) (by omega)).mono ?_
              rintro e u41 ⟨rfl, hA'⟩
              clear hA q0 q2 q3 q4
              have hA := hA'
              clear hA'
              obtain ⟨q0, q2, q3, q4⟩ := hA.cells
              have e1 : (k + 1) * VP n = k * VP n + VP n := Nat.succ_mul _ _
              have e2 : (k + 1) * VL n = k * VL n + VL n := Nat.succ_mul _ _
              have hA' : AsmAt W w0 u41 C A N xa bs xc (some ⟨fb, fo, none⟩) fc ps tx lc mb (M + 5 + (k + 1) * VP n) L ((K + 2) + (k + 1) * VL n) := hA.mono (by omega) (by omega) (by omega)
              clear e1 e2 m1 m2
              go_wp2
              go_roundw
              case rel => exact ⟨k + 1, by omega, by go_num, hA'⟩
              case measure => simp [intOf]; omega
            · go_wp2_with fail
              refine (putA hA _ _ (by omega)).mono ?_
              rintro e u61 ⟨rfl, hA'⟩
              clear hA q0 q2 q3 q4
              have hA := hA'
              clear hA'
              obtain ⟨q0, q2, q3, q4⟩ := hA.cells
              go_wp2
              (try simp only [Exit.inBlock, Exit.then])
              first | (refine bodyPost_end (results_none rfl _ _ _) rfl ?_) | (refine bodyPost_ret (results_none rfl _ _ _) rfl ?_)
              exact ⟨rfl, hA.mono (by omega) (by omega) (by omega)⟩
      | false =>
        go_wp2
        go_loopw [8] (fun i wr => ∃ (k : Nat), (k : Int) ≤ ps[fi] ∧ i = .int .i64 k ∧ AsmAt W w0 wr C A N xa bs xc (some ⟨fb, fo, none⟩) fc ps tx lc mb (M + 4 + k * VP n) (L + 1) ((K + 1) + k * VL n)) (fun i _ => (ps[fi]).toNat - (intOf i).toNat)
        case atStart => exact ⟨0, by omega, rfl, hA.mono (by omega) (by omega) (by omega)⟩
        case round =>
          obtain ⟨k, hk, rfl, hA'⟩ := hrel
          clear hA q0 q2 q3 q4 p1
          have hA := hA'
          clear hA'
          obtain ⟨q0, q2, q3, q4⟩ := hA.cells
          have p1 := hA.parAt hfi rfl
          have m1 : k * VP n ≤ 2 * VP n := Nat.mul_le_mul_right _ (by omega)
          have m2 : k * VL n ≤ 2 * VL n := Nat.mul_le_mul_right _ (by omega)
          by_cases hk2 : (k : Int) < ps[fi]
          · go_wp2_with fail
            refine (hV.out _ (by omega) hA (by omega) (by omega)).mono ?_
            rintro e u41 ⟨rfl, hA'⟩
            clear hA q0 q2 q3 q4
            have hA := hA'
            clear hA'
            obtain ⟨q0, q2, q3, q4⟩ := hA.cells
            have e1 : (k + 1) * VP n = k * VP n + VP n := Nat.succ_mul _ _
            have e2 : (k + 1) * VL n = k * VL n + VL n := Nat.succ_mul _ _
            have hA' : AsmAt W w0 u41 C A N xa bs xc (some ⟨fb, fo, none⟩) fc ps tx lc mb (M + 4 + (k + 1) * VP n) (L + 1) ((K + 1) + (k + 1) * VL n) := hA.mono (by omega) (by omega) (by omega)
            clear e1 e2 m1 m2
            go_wp2
            go_roundw
            case rel => exact ⟨k + 1, by omega, by go_num, hA'⟩
            case measure => simp [intOf]; omega
          · go_wp2_with fail
            refine (putA hA _ _ (by omega)).mono ?_
            rintro e u61 ⟨rfl, hA'⟩
            clear hA q0 q2 q3 q4
            have hA := hA'
            clear hA'
            obtain ⟨q0, q2, q3, q4⟩ := hA.cells
            go_wp2
            (try simp only [Exit.inBlock, Exit.then])
            first | (refine bodyPost_end (results_none rfl _ _ _) rfl ?_) | (refine bodyPost_ret (results_none rfl _ _ _) rfl ?_)
            exact ⟨rfl, hA.mono (by omega) (by omega) (by omega)⟩
    · have hps0 : ps = [] := List.eq_nil_of_length_eq_zero (by omega)
      subst hps0
      go_wp2_with fail
      refine (hV.out _ (by omega) hA (by omega) (by omega)).mono ?_
      rintro e u2 ⟨rfl, hA'⟩
      clear hA q0 q2 q3 q4
      have hA := hA'
      clear hA'
      obtain ⟨q0, q2, q3, q4⟩ := hA.cells
      go_wp2
      (try simp only [Exit.inBlock, Exit.then])
      first | (refine bodyPost_end (results_none rfl _ _ _) rfl ?_) | (refine bodyPost_ret (results_none rfl _ _ _) rfl ?_)
      exact ⟨rfl, hA.mono (by omega) (by omega) (by omega)⟩
  · go_wp2_with fail
    refine (hV.out _ (by omega) hA (by omega) (by omega)).mono ?_
    rintro e u2 ⟨rfl, hA'⟩
    clear hA q0 q2 q3 q4
    have hA := hA'
    clear hA'
    obtain ⟨q0, q2, q3, q4⟩ := hA.cells
    go_wp2_with fail
    refine (putA hA _ _ (by omega)).mono ?_
    rintro e u3 ⟨rfl, hA'⟩
    clear hA q0 q2 q3 q4
    have hA := hA'
    clear hA'
    obtain ⟨q0, q2, q3, q4⟩ := hA.cells
    go_wp2_with fail
    have hne4 : u3.heap.size ≠ C := by have h1 := hA.cN; have h2 := hA.size; omega
    refine (pickA (hA.below ((Below.refl _ _).alloc (Nat.le_refl _) _)) _ (by omega)).mono ?_
    rintro e u4 ⟨r4, rfl, r4a, r4b, hA', hP⟩
    obtain ⟨k4, rfl⟩ : ∃ k4 : Nat, r4 = k4 := ⟨r4.toNat, by omega⟩
    obtain ⟨z4, hz4⟩ := lit_cell (k := k4) hP hne4 rfl (by simp; omega)
    clear hP
    clear hA q0 q2 q3 q4
    have hA := hA'
    clear hA'
    obtain ⟨q0, q2, q3, q4⟩ := hA.cells
    go_wp2_with fail
    refine (putA hA _ _ (by omega)).mono ?_
    rintro e u5 ⟨rfl, hA'⟩
    clear hA q0 q2 q3 q4
    have hA := hA'
    clear hA'
    obtain ⟨q0, q2, q3, q4⟩ := hA.cells
    go_wp2
    (try simp only [Exit.inBlock, Exit.then])
    first | (refine bodyPost_end (results_none rfl _ _ _) rfl ?_) | (refine bodyPost_ret (results_none rfl _ _ _) rfl ?_)
    exact ⟨rfl, hA.mono (by omega) (by omega) (by omega)⟩
  · go_wp2_with fail
    refine (pickA hA _ (by omega)).mono ?_
    rintro e u2 ⟨r2, rfl, r2a, r2b, hA', -⟩
    clear hA q0 q2 q3 q4
    have hA := hA'
    clear hA'
    obtain ⟨q0, q2, q3, q4⟩ := hA.cells
    go_wp2_with fail
    refine (putA hA _ _ (by omega)).mono ?_
    rintro e u3 ⟨rfl, hA'⟩
    clear hA q0 q2 q3 q4
    have hA := hA'
    clear hA'
    obtain ⟨q0, q2, q3, q4⟩ := hA.cells
    go_wp2
    (try simp only [Exit.inBlock, Exit.then])
    first | (refine bodyPost_end (results_none rfl _ _ _) rfl ?_) | (refine bodyPost_ret (results_none rfl _ _ _) rfl ?_)
    exact ⟨rfl, hA.mono (by omega) (by omega) (by omega)⟩
end Go.Proofs.YtpmkfdinkomaiaaGreatDoor
