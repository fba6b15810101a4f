/-
  The drawing functions of the document's model: statements, to one depth more.
-/
import Derived.Test.YtpmkfdinkomaiaaGreatDoorD5
namespace Go.Proofs.YtpmkfdinkomaiaaGreatDoor
open Go.RowKit

set_option maxRecDepth 100000 in
set_option maxHeartbeats 2000000 in
theorem stmt_zero : StmtOk 0 := by
  intro W w0 w C A N xa bs xc fa fc ps tx lc mb M L K deep hd0 hd hA hM hK
  have hV : Hid ValOk := val_ok
  have l1 := hA.lc0
  have l2 := hA.lc1
  obtain ⟨q0, q2, q3, q4⟩ := hA.cells
  obtain rfl : deep = 0 := by omega
  have s1 : SM 0 = 300 := rfl
  have s2 : SK 0 = 100 := rfl
  rw [s1, s2]
  clear s1 s2
  go_enter Tryz.func64, Tryz.ntmps64
  go_wp2_with fail
  refine (pickA hA _ (by omega)).mono ?_
  rintro e u1 ⟨r, rfl, ra, rb, hA', -⟩
  clear hA q0 q2 q3 q4
  have hA := hA'
  clear hA'
  obtain ⟨q0, q2, q3, q4⟩ := hA.cells
  rcases (show r = 0 ∨ r = 1 ∨ r = 2 ∨ r = 3 ∨ r = 4 ∨ r = 5 ∨ r = 6 ∨ r = 7 ∨ r = 8 by omega) with rfl | rfl | rfl | rfl | rfl | rfl | rfl | rfl | rfl
  · go_wp2_with fail
    refine (hV.out _ (by omega) hA (by omega) (by omega)).mono ?_
    rintro e u2 ⟨rfl, hA'⟩
    clear hA q0 q2 q3 q4
    have hA := hA'
    clear hA'
    obtain ⟨q0, q2, q3, q4⟩ := hA.cells
    go_wp2_with fail
    refine (pickA hA _ (by omega)).mono ?_
    rintro e u3 ⟨r3, rfl, r3a, r3b, hA', -⟩
    clear hA q0 q2 q3 q4
    have hA := hA'
    clear hA'
    obtain ⟨q0, q2, q3, q4⟩ := hA.cells
    go_wp2_with fail
    refine (putA hA _ _ (by omega)).mono ?_
    rintro e u4 ⟨rfl, hA'⟩
    clear hA q0 q2 q3 q4
    have hA := hA'
    clear hA'
    obtain ⟨q0, q2, q3, q4⟩ := hA.cells
    go_wp2
    (try simp only [Exit.inBlock, Exit.then])
    first | (refine bodyPost_end (results_none rfl _ _ _) rfl ?_) | (refine bodyPost_ret (results_none rfl _ _ _) rfl ?_)
    exact ⟨rfl, hA.mono (by omega) (by omega) (by omega)⟩
  · go_wp2_with fail
    refine (hV.out _ (by omega) hA (by omega) (by omega)).mono ?_
    rintro e u2 ⟨rfl, hA'⟩
    clear hA q0 q2 q3 q4
    have hA := hA'
    clear hA'
    obtain ⟨q0, q2, q3, q4⟩ := hA.cells
    go_wp2_with fail
    refine (pickA hA _ (by omega)).mono ?_
    rintro e u3 ⟨r3, rfl, r3a, r3b, hA', -⟩
    clear hA q0 q2 q3 q4
    have hA := hA'
    clear hA'
    obtain ⟨q0, q2, q3, q4⟩ := hA.cells
    go_wp2_with fail
    refine (putA hA _ _ (by omega)).mono ?_
    rintro e u4 ⟨rfl, hA'⟩
    clear hA q0 q2 q3 q4
    have hA := hA'
    clear hA'
    obtain ⟨q0, q2, q3, q4⟩ := hA.cells
    go_wp2
    (try simp only [Exit.inBlock, Exit.then])
    first | (refine bodyPost_end (results_none rfl _ _ _) rfl ?_) | (refine bodyPost_ret (results_none rfl _ _ _) rfl ?_)
    exact ⟨rfl, hA.mono (by omega) (by omega) (by omega)⟩
  · go_wp2_with fail
    refine (hV.out _ (by omega) hA (by omega) (by omega)).mono ?_
    rintro e u2 ⟨rfl, hA'⟩
    clear hA q0 q2 q3 q4
    have hA := hA'
    clear hA'
    obtain ⟨q0, q2, q3, q4⟩ := hA.cells
    go_wp2_with fail
    refine (pickA hA _ (by omega)).mono ?_
    rintro e u3 ⟨r3, rfl, r3a, r3b, hA', -⟩
    clear hA q0 q2 q3 q4
    have hA := hA'
    clear hA'
    obtain ⟨q0, q2, q3, q4⟩ := hA.cells
    go_wp2_with fail
    refine (putA hA _ _ (by omega)).mono ?_
    rintro e u4 ⟨rfl, hA'⟩
    clear hA q0 q2 q3 q4
    have hA := hA'
    clear hA'
    obtain ⟨q0, q2, q3, q4⟩ := hA.cells
    go_wp2
    (try simp only [Exit.inBlock, Exit.then])
    first | (refine bodyPost_end (results_none rfl _ _ _) rfl ?_) | (refine bodyPost_ret (results_none rfl _ _ _) rfl ?_)
    exact ⟨rfl, hA.mono (by omega) (by omega) (by omega)⟩
  · go_wp2_with fail
    refine (hV.out _ (by omega) hA (by omega) (by omega)).mono ?_
    rintro e u2 ⟨rfl, hA'⟩
    clear hA q0 q2 q3 q4
    have hA := hA'
    clear hA'
    obtain ⟨q0, q2, q3, q4⟩ := hA.cells
    go_wp2_with fail
    refine (putA hA _ _ (by omega)).mono ?_
    rintro e u3 ⟨rfl, hA'⟩
    clear hA q0 q2 q3 q4
    have hA := hA'
    clear hA'
    obtain ⟨q0, q2, q3, q4⟩ := hA.cells
    go_wp2
    (try simp only [Exit.inBlock, Exit.then])
    first | (refine bodyPost_end (results_none rfl _ _ _) rfl ?_) | (refine bodyPost_ret (results_none rfl _ _ _) rfl ?_)
    exact ⟨rfl, hA.mono (by omega) (by omega) (by omega)⟩
  · go_wp2_with fail
    refine (hV.out _ (by omega) hA (by omega) (by omega)).mono ?_
    rintro e u2 ⟨rfl, hA'⟩
    clear hA q0 q2 q3 q4
    have hA := hA'
    clear hA'
    obtain ⟨q0, q2, q3, q4⟩ := hA.cells
    go_wp2_with fail
    refine (putA hA _ _ (by omega)).mono ?_
    rintro e u3 ⟨rfl, hA'⟩
    clear hA q0 q2 q3 q4
    have hA := hA'
    clear hA'
    obtain ⟨q0, q2, q3, q4⟩ := hA.cells
    go_wp2
    (try simp only [Exit.inBlock, Exit.then])
    first | (refine bodyPost_end (results_none rfl _ _ _) rfl ?_) | (refine bodyPost_ret (results_none rfl _ _ _) rfl ?_)
    exact ⟨rfl, hA.mono (by omega) (by omega) (by omega)⟩
  · go_wp2_with fail
    refine (pickA hA _ (by omega)).mono ?_
    rintro e u2 ⟨r2, rfl, r2a, r2b, hA', -⟩
    clear hA q0 q2 q3 q4
    have hA := hA'
    clear hA'
    obtain ⟨q0, q2, q3, q4⟩ := hA.cells
    go_wp2_with fail
    refine (putA hA _ _ (by omega)).mono ?_
    rintro e u3 ⟨rfl, hA'⟩
    clear hA q0 q2 q3 q4
    have hA := hA'
    clear hA'
    obtain ⟨q0, q2, q3, q4⟩ := hA.cells
    go_wp2_with fail
    refine (hV.out _ (by omega) hA (by omega) (by omega)).mono ?_
    rintro e u4 ⟨rfl, hA'⟩
    clear hA q0 q2 q3 q4
    have hA := hA'
    clear hA'
    obtain ⟨q0, q2, q3, q4⟩ := hA.cells
    go_wp2_with fail
    refine (pickA hA _ (by omega)).mono ?_
    rintro e u5 ⟨r5, rfl, r5a, r5b, hA', -⟩
    clear hA q0 q2 q3 q4
    have hA := hA'
    clear hA'
    obtain ⟨q0, q2, q3, q4⟩ := hA.cells
    go_wp2_with fail
    refine (putA hA _ _ (by omega)).mono ?_
    rintro e u6 ⟨rfl, hA'⟩
    clear hA q0 q2 q3 q4
    have hA := hA'
    clear hA'
    obtain ⟨q0, q2, q3, q4⟩ := hA.cells
    go_wp2
    (try simp only [Exit.inBlock, Exit.then])
    first | (refine bodyPost_end (results_none rfl _ _ _) rfl ?_) | (refine bodyPost_ret (results_none rfl _ _ _) rfl ?_)
    exact ⟨rfl, hA.mono (by omega) (by omega) (by omega)⟩
  · go_wp2
    (try simp only [Exit.inBlock, Exit.then])
    first | (refine bodyPost_end (results_none rfl _ _ _) rfl ?_) | (refine bodyPost_ret (results_none rfl _ _ _) rfl ?_)
    exact ⟨rfl, hA.mono (by omega) (by omega) (by omega)⟩
  · go_wp2
    (try simp only [Exit.inBlock, Exit.then])
    first | (refine bodyPost_end (results_none rfl _ _ _) rfl ?_) | (refine bodyPost_ret (results_none rfl _ _ _) rfl ?_)
    exact ⟨rfl, hA.mono (by omega) (by omega) (by omega)⟩
  · go_wp2
    (try simp only [Exit.inBlock, Exit.then])
    first | (refine bodyPost_end (results_none rfl _ _ _) rfl ?_) | (refine bodyPost_ret (results_none rfl _ _ _) rfl ?_)
    exact ⟨rfl, hA.mono (by omega) (by omega) (by omega)⟩

set_option maxRecDepth 100000 in
set_option maxHeartbeats 4000000 in
theorem stmt_step (d : Nat) (hS0 : StmtOk d) (b1 : SM d ≤ 5000) (b2 : SK d ≤ 2000) : StmtOk (d + 1) := by
  intro W w0 w C A N xa bs xc fa fc ps tx lc mb M L K deep hd0 hd hA hM hK
  have hV : Hid ValOk := val_ok
  have l1 := hA.lc0
  have l2 := hA.lc1
  obtain ⟨q0, q2, q3, q4⟩ := hA.cells
  have hS : Hid (StmtOk d) := hS0
  have s1 : SM (d + 1) = 2 * SM d + 700 := rfl
  have s2 : SK (d + 1) = 2 * SK d + 300 := rfl
  have hM2 : M + 50000 * d ≤ 450000 := by omega
  have hK2 : K + 15000 * d ≤ 35000 := by omega
  have hd2 : deep ≤ (d : Int) + 1 := by omega
  rw [s1, s2]
  clear s1 s2 hS0 hM hK hd
  go_enter Tryz.func64, Tryz.ntmps64
  go_wp2_with fail
  refine (pickA hA _ (by omega)).mono ?_
  rintro e u1 ⟨r, rfl, ra, rb, hA', -⟩
  clear hA q0 q2 q3 q4
  have hA := hA'
  clear hA'
  obtain ⟨q0, q2, q3, q4⟩ := hA.cells
  rcases (show r = 0 ∨ r = 1 ∨ r = 2 ∨ r = 3 ∨ r = 4 ∨ r = 5 ∨ r = 6 ∨ r = 7 ∨ r = 8 by omega) with rfl | rfl | rfl | rfl | rfl | rfl | rfl | rfl | rfl
  · go_wp2_with fail
    refine (hV.out _ (by omega) hA (by omega) (by omega)).mono ?_
    rintro e u2 ⟨rfl, hA'⟩
    clear hA q0 q2 q3 q4
    have hA := hA'
    clear hA'
    obtain ⟨q0, q2, q3, q4⟩ := hA.cells
    go_wp2_with fail
    refine (pickA hA _ (by omega)).mono ?_
    rintro e u3 ⟨r3, rfl, r3a, r3b, hA', -⟩
    clear hA q0 q2 q3 q4
    have hA := hA'
    clear hA'
    obtain ⟨q0, q2, q3, q4⟩ := hA.cells
    go_wp2_with fail
    refine (putA hA _ _ (by omega)).mono ?_
    rintro e u4 ⟨rfl, hA'⟩
    clear hA q0 q2 q3 q4
    have hA := hA'
    clear hA'
    obtain ⟨q0, q2, q3, q4⟩ := hA.cells
    go_wp2
    (try simp only [Exit.inBlock, Exit.then])
    first | (refine bodyPost_end (results_none rfl _ _ _) rfl ?_) | (refine bodyPost_ret (results_none rfl _ _ _) rfl ?_)
    exact ⟨rfl, hA.mono (by omega) (by omega) (by omega)⟩
  · go_wp2_with fail
    refine (hV.out _ (by omega) hA (by omega) (by omega)).mono ?_
    rintro e u2 ⟨rfl, hA'⟩
    clear hA q0 q2 q3 q4
    have hA := hA'
    clear hA'
    obtain ⟨q0, q2, q3, q4⟩ := hA.cells
    go_wp2_with fail
    refine (pickA hA _ (by omega)).mono ?_
    rintro e u3 ⟨r3, rfl, r3a, r3b, hA', -⟩
    clear hA q0 q2 q3 q4
    have hA := hA'
    clear hA'
    obtain ⟨q0, q2, q3, q4⟩ := hA.cells
    go_wp2_with fail
    refine (putA hA _ _ (by omega)).mono ?_
    rintro e u4 ⟨rfl, hA'⟩
    clear hA q0 q2 q3 q4
    have hA := hA'
    clear hA'
    obtain ⟨q0, q2, q3, q4⟩ := hA.cells
    go_wp2
    (try simp only [Exit.inBlock, Exit.then])
    first | (refine bodyPost_end (results_none rfl _ _ _) rfl ?_) | (refine bodyPost_ret (results_none rfl _ _ _) rfl ?_)
    exact ⟨rfl, hA.mono (by omega) (by omega) (by omega)⟩
  · go_wp2_with fail
    refine (hV.out _ (by omega) hA (by omega) (by omega)).mono ?_
    rintro e u2 ⟨rfl, hA'⟩
    clear hA q0 q2 q3 q4
    have hA := hA'
    clear hA'
    obtain ⟨q0, q2, q3, q4⟩ := hA.cells
    go_wp2_with fail
    refine (pickA hA _ (by omega)).mono ?_
    rintro e u3 ⟨r3, rfl, r3a, r3b, hA', -⟩
    clear hA q0 q2 q3 q4
    have hA := hA'
    clear hA'
    obtain ⟨q0, q2, q3, q4⟩ := hA.cells
    go_wp2_with fail
    refine (putA hA _ _ (by omega)).mono ?_
    rintro e u4 ⟨rfl, hA'⟩
    clear hA q0 q2 q3 q4
    have hA := hA'
    clear hA'
    obtain ⟨q0, q2, q3, q4⟩ := hA.cells
    go_wp2
    (try simp only [Exit.inBlock, Exit.then])
    first | (refine bodyPost_end (results_none rfl _ _ _) rfl ?_) | (refine bodyPost_ret (results_none rfl _ _ _) rfl ?_)
    exact ⟨rfl, hA.mono (by omega) (by omega) (by omega)⟩
  · go_wp2_with fail
    refine (hV.out _ (by omega) hA (by omega) (by omega)).mono ?_
    rintro e u2 ⟨rfl, hA'⟩
    clear hA q0 q2 q3 q4
    have hA := hA'
    clear hA'
    obtain ⟨q0, q2, q3, q4⟩ := hA.cells
    go_wp2_with fail
    refine (putA hA _ _ (by omega)).mono ?_
    rintro e u3 ⟨rfl, hA'⟩
    clear hA q0 q2 q3 q4
    have hA := hA'
    clear hA'
    obtain ⟨q0, q2, q3, q4⟩ := hA.cells
    go_wp2
    (try simp only [Exit.inBlock, Exit.then])
    first | (refine bodyPost_end (results_none rfl _ _ _) rfl ?_) | (refine bodyPost_ret (results_none rfl _ _ _) rfl ?_)
    exact ⟨rfl, hA.mono (by omega) (by omega) (by omega)⟩
  · go_wp2_with fail
    refine (hV.out _ (by omega) hA (by omega) (by omega)).mono ?_
    rintro e u2 ⟨rfl, hA'⟩
    clear hA q0 q2 q3 q4
    have hA := hA'
    clear hA'
    obtain ⟨q0, q2, q3, q4⟩ := hA.cells
    go_wp2_with fail
    refine (putA hA _ _ (by omega)).mono ?_
    rintro e u3 ⟨rfl, hA'⟩
    clear hA q0 q2 q3 q4
    have hA := hA'
    clear hA'
    obtain ⟨q0, q2, q3, q4⟩ := hA.cells
    go_wp2
    (try simp only [Exit.inBlock, Exit.then])
    first | (refine bodyPost_end (results_none rfl _ _ _) rfl ?_) | (refine bodyPost_ret (results_none rfl _ _ _) rfl ?_)
    exact ⟨rfl, hA.mono (by omega) (by omega) (by omega)⟩
  · go_wp2_with fail
    refine (pickA hA _ (by omega)).mono ?_
    rintro e u2 ⟨r2, rfl, r2a, r2b, hA', -⟩
    clear hA q0 q2 q3 q4
    have hA := hA'
    clear hA'
    obtain ⟨q0, q2, q3, q4⟩ := hA.cells
    go_wp2_with fail
    refine (putA hA _ _ (by omega)).mono ?_
    rintro e u3 ⟨rfl, hA'⟩
    clear hA q0 q2 q3 q4
    have hA := hA'
    clear hA'
    obtain ⟨q0, q2, q3, q4⟩ := hA.cells
    go_wp2_with fail
    refine (hV.out _ (by omega) hA (by omega) (by omega)).mono ?_
    rintro e u4 ⟨rfl, hA'⟩
    clear hA q0 q2 q3 q4
    have hA := hA'
    clear hA'
    obtain ⟨q0, q2, q3, q4⟩ := hA.cells
    go_wp2_with fail
    refine (pickA hA _ (by omega)).mono ?_
    rintro e u5 ⟨r5, rfl, r5a, r5b, hA', -⟩
    clear hA q0 q2 q3 q4
    have hA := hA'
    clear hA'
    obtain ⟨q0, q2, q3, q4⟩ := hA.cells
    go_wp2_with fail
    refine (putA hA _ _ (by omega)).mono ?_
    rintro e u6 ⟨rfl, hA'⟩
    clear hA q0 q2 q3 q4
    have hA := hA'
    clear hA'
    obtain ⟨q0, q2, q3, q4⟩ := hA.cells
    go_wp2
    (try simp only [Exit.inBlock, Exit.then])
    first | (refine bodyPost_end (results_none rfl _ _ _) rfl ?_) | (refine bodyPost_ret (results_none rfl _ _ _) rfl ?_)
    exact ⟨rfl, hA.mono (by omega) (by omega) (by omega)⟩
  · by_cases hdp : 0 < deep
    · skip
      go_wp2_with fail
      refine (test_any hA (by omega) (by omega)).mono ?_
      rintro e u2 ⟨rfl, hA'⟩
      clear hA q0 q2 q3 q4
      have hA := hA'
      clear hA'
      obtain ⟨q0, q2, q3, q4⟩ := hA.cells
      obtain ⟨ca_at1, cc_at1, at1, hb_at1, at1a, at1b, hA'⟩ := hA.exact
      have hc_at1 := block_cell hb_at1
      clear hA q0 q2 q3 q4
      have hA := hA'
      clear hA'
      obtain ⟨q0, q2, q3, q4⟩ := hA.cells
      go_wp2_with fail
      refine (putA hA _ _ (by omega)).mono ?_
      rintro e u3 ⟨rfl, hA'⟩
      clear hA q0 q2 q3 q4
      have hA := hA'
      clear hA'
      obtain ⟨q0, q2, q3, q4⟩ := hA.cells
      clear hc_at1 hb_at1
      go_wp2_with fail
      refine (list_any d hS.out b1 b2 (deep - 1) (by omega) (by omega) 2 (by omega) (by omega) hA (by omega) (by omega)).mono ?_
      rintro e u4 ⟨rfl, hA'⟩
      clear hA q0 q2 q3 q4
      have hA := hA'
      clear hA'
      obtain ⟨q0, q2, q3, q4⟩ := hA.cells
      obtain ⟨caf, ccf, nf, hbf, -, hf0, hf1⟩ := hA.code
      obtain ⟨gf, vf, rfl, ff1, ff2, ff3, hfix⟩ := hA.fix hbf (show at1 < _ by omega)
      have hA2 := (hfix (nf : Int)).drew
      have k1 := block_cell (w := u4) hbf
      have k2 := block_cell (w := u4.drew) hbf
      have ff4 : u4.drew.cell? ⟨gf, at1 * 2 + 1, none⟩ = some vf := ff1
      have ff5 : u4.drew.frozen? ⟨gf, at1 * 2 + 1, none⟩ = false := ff2
      go_wp2
      go_region
      all_goals
        generalize (u4.setCell ⟨gf, at1 * 2 + 1, none⟩ (.int .i64 (nf : Int))).drew = wz at hA2 ⊢
        clear hA hfix k1 k2 ff1 ff2 ff4 ff5 hbf
        have hA := hA2
        clear hA2
        go_wp2
        (try simp only [Exit.inBlock, Exit.then])
        first | (refine bodyPost_end (results_none rfl _ _ _) rfl ?_) | (refine bodyPost_ret (results_none rfl _ _ _) rfl ?_)
        exact ⟨rfl, hA.mono (by omega) (by omega) (by omega)⟩
    · skip
      go_wp2
      (try simp only [Exit.inBlock, Exit.then])
      first | (refine bodyPost_end (results_none rfl _ _ _) rfl ?_) | (refine bodyPost_ret (results_none rfl _ _ _) rfl ?_)
      exact ⟨rfl, hA.mono (by omega) (by omega) (by omega)⟩
  · by_cases hdp : 0 < deep
    · skip
      go_wp2_with fail
      refine (pickA hA _ (by omega)).mono ?_
      rintro e u2 ⟨ri, rfl, ria, rib, hA', -⟩
      clear hA q0 q2 q3 q4
      have hA := hA'
      clear hA'
      obtain ⟨q0, q2, q3, q4⟩ := hA.cells
      go_wp2_with fail
      refine (pickA hA _ (by omega)).mono ?_
      rintro e u3 ⟨rj, rfl, rja, rjb, hA', -⟩
      clear hA q0 q2 q3 q4
      have hA := hA'
      clear hA'
      obtain ⟨q0, q2, q3, q4⟩ := hA.cells
      by_cases hj : 0 < rj
      · skip
        go_wp2_with fail
        refine (putA hA _ _ (by omega)).mono ?_
        rintro e u4 ⟨rfl, hA'⟩
        clear hA q0 q2 q3 q4
        have hA := hA'
        clear hA'
        obtain ⟨q0, q2, q3, q4⟩ := hA.cells
        go_wp2_with fail
        refine (putA hA _ _ (by omega)).mono ?_
        rintro e u5 ⟨rfl, hA'⟩
        clear hA q0 q2 q3 q4
        have hA := hA'
        clear hA'
        obtain ⟨q0, q2, q3, q4⟩ := hA.cells
        obtain ⟨ca_hd1, cc_hd1, hd1, hb_hd1, hd1a, hd1b, hA'⟩ := hA.exact
        have hc_hd1 := block_cell hb_hd1
        clear hA q0 q2 q3 q4
        have hA := hA'
        clear hA'
        obtain ⟨q0, q2, q3, q4⟩ := hA.cells
        go_wp2_with fail
        refine (putA hA _ _ (by omega)).mono ?_
        rintro e u6 ⟨rfl, hA'⟩
        clear hA q0 q2 q3 q4
        have hA := hA'
        clear hA'
        obtain ⟨q0, q2, q3, q4⟩ := hA.cells
        clear hc_hd1 hb_hd1
        go_wp2_with fail
        refine (pickA hA _ (by omega)).mono ?_
        rintro e u7 ⟨r7, rfl, r7a, r7b, hA', -⟩
        clear hA q0 q2 q3 q4
        have hA := hA'
        clear hA'
        obtain ⟨q0, q2, q3, q4⟩ := hA.cells
        go_wp2_with fail
        refine (putA hA _ _ (by omega)).mono ?_
        rintro e u8 ⟨rfl, hA'⟩
        clear hA q0 q2 q3 q4
        have hA := hA'
        clear hA'
        obtain ⟨q0, q2, q3, q4⟩ := hA.cells
        go_wp2_with fail
        refine (putA hA _ _ (by omega)).mono ?_
        rintro e u9 ⟨rfl, hA'⟩
        clear hA q0 q2 q3 q4
        have hA := hA'
        clear hA'
        obtain ⟨q0, q2, q3, q4⟩ := hA.cells
        obtain ⟨ca_at1, cc_at1, at1, hb_at1, at1a, at1b, hA'⟩ := hA.exact
        have hc_at1 := block_cell hb_at1
        clear hA q0 q2 q3 q4
        have hA := hA'
        clear hA'
        obtain ⟨q0, q2, q3, q4⟩ := hA.cells
        go_wp2_with fail
        refine (putA hA _ _ (by omega)).mono ?_
        rintro e u10 ⟨rfl, hA'⟩
        clear hA q0 q2 q3 q4
        have hA := hA'
        clear hA'
        obtain ⟨q0, q2, q3, q4⟩ := hA.cells
        clear hc_at1 hb_at1
        go_wp2_with fail
        refine (list_any d hS.out b1 b2 (deep - 1) (by omega) (by omega) 2 (by omega) (by omega) hA (by omega) (by omega)).mono ?_
        rintro e u11 ⟨rfl, hA'⟩
        clear hA q0 q2 q3 q4
        have hA := hA'
        clear hA'
        obtain ⟨q0, q2, q3, q4⟩ := hA.cells
        go_wp2_with fail
        refine (putA hA _ _ (by omega)).mono ?_
        rintro e u12 ⟨rfl, hA'⟩
        clear hA q0 q2 q3 q4
        have hA := hA'
        clear hA'
        obtain ⟨q0, q2, q3, q4⟩ := hA.cells
        go_wp2_with fail
        refine (putA hA _ _ (by omega)).mono ?_
        rintro e u13 ⟨rfl, hA'⟩
        clear hA q0 q2 q3 q4
        have hA := hA'
        clear hA'
        obtain ⟨q0, q2, q3, q4⟩ := hA.cells
        go_wp2_with fail
        refine (putA hA _ _ (by omega)).mono ?_
        rintro e u14 ⟨rfl, hA'⟩
        clear hA q0 q2 q3 q4
        have hA := hA'
        clear hA'
        obtain ⟨q0, q2, q3, q4⟩ := hA.cells
        go_wp2_with fail
        refine (putA hA _ _ (by omega)).mono ?_
        rintro e u15 ⟨rfl, hA'⟩
        clear hA q0 q2 q3 q4
        have hA := hA'
        clear hA'
        obtain ⟨q0, q2, q3, q4⟩ := hA.cells
        go_wp2_with fail
        refine (putA hA _ _ (by omega)).mono ?_
        rintro e u16 ⟨rfl, hA'⟩
        clear hA q0 q2 q3 q4
        have hA := hA'
        clear hA'
        obtain ⟨q0, q2, q3, q4⟩ := hA.cells
        obtain ⟨caf, ccf, nf, hbf, -, hf0, hf1⟩ := hA.code
        obtain ⟨gf, vf, rfl, ff1, ff2, ff3, hfix⟩ := hA.fix hbf (show at1 < _ by omega)
        have hA2 := (hfix (nf : Int)).drew
        have k1 := block_cell (w := u16) hbf
        have k2 := block_cell (w := u16.drew) hbf
        have ff4 : u16.drew.cell? ⟨gf, at1 * 2 + 1, none⟩ = some vf := ff1
        have ff5 : u16.drew.frozen? ⟨gf, at1 * 2 + 1, none⟩ = false := ff2
        go_wp2
        go_region
        all_goals
          generalize (u16.setCell ⟨gf, at1 * 2 + 1, none⟩ (.int .i64 (nf : Int))).drew = wz at hA2 ⊢
          clear hA hfix k1 k2 ff1 ff2 ff4 ff5 hbf
          have hA := hA2
          clear hA2
          go_wp2
          (try simp only [Exit.inBlock, Exit.then])
          first | (refine bodyPost_end (results_none rfl _ _ _) rfl ?_) | (refine bodyPost_ret (results_none rfl _ _ _) rfl ?_)
          exact ⟨rfl, hA.mono (by omega) (by omega) (by omega)⟩
      · skip
        obtain ⟨ca_hd1, cc_hd1, hd1, hb_hd1, hd1a, hd1b, hA'⟩ := hA.exact
        have hc_hd1 := block_cell hb_hd1
        clear hA q0 q2 q3 q4
        have hA := hA'
        clear hA'
        obtain ⟨q0, q2, q3, q4⟩ := hA.cells
        go_wp2_with fail
        refine (putA hA _ _ (by omega)).mono ?_
        rintro e u4 ⟨rfl, hA'⟩
        clear hA q0 q2 q3 q4
        have hA := hA'
        clear hA'
        obtain ⟨q0, q2, q3, q4⟩ := hA.cells
        clear hc_hd1 hb_hd1
        go_wp2_with fail
        refine (pickA hA _ (by omega)).mono ?_
        rintro e u5 ⟨r5, rfl, r5a, r5b, hA', -⟩
        clear hA q0 q2 q3 q4
        have hA := hA'
        clear hA'
        obtain ⟨q0, q2, q3, q4⟩ := hA.cells
        go_wp2_with fail
        refine (putA hA _ _ (by omega)).mono ?_
        rintro e u6 ⟨rfl, hA'⟩
        clear hA q0 q2 q3 q4
        have hA := hA'
        clear hA'
        obtain ⟨q0, q2, q3, q4⟩ := hA.cells
        go_wp2_with fail
        refine (putA hA _ _ (by omega)).mono ?_
        rintro e u7 ⟨rfl, hA'⟩
        clear hA q0 q2 q3 q4
        have hA := hA'
        clear hA'
        obtain ⟨q0, q2, q3, q4⟩ := hA.cells
        obtain ⟨ca_at1, cc_at1, at1, hb_at1, at1a, at1b, hA'⟩ := hA.exact
        have hc_at1 := block_cell hb_at1
        clear hA q0 q2 q3 q4
        have hA := hA'
        clear hA'
        obtain ⟨q0, q2, q3, q4⟩ := hA.cells
        go_wp2_with fail
        refine (putA hA _ _ (by omega)).mono ?_
        rintro e u8 ⟨rfl, hA'⟩
        clear hA q0 q2 q3 q4
        have hA := hA'
        clear hA'
        obtain ⟨q0, q2, q3, q4⟩ := hA.cells
        clear hc_at1 hb_at1
        go_wp2_with fail
        refine (list_any d hS.out b1 b2 (deep - 1) (by omega) (by omega) 2 (by omega) (by omega) hA (by omega) (by omega)).mono ?_
        rintro e u9 ⟨rfl, hA'⟩
        clear hA q0 q2 q3 q4
        have hA := hA'
        clear hA'
        obtain ⟨q0, q2, q3, q4⟩ := hA.cells
        go_wp2_with fail
        refine (putA hA _ _ (by omega)).mono ?_
        rintro e u10 ⟨rfl, hA'⟩
        clear hA q0 q2 q3 q4
        have hA := hA'
        clear hA'
        obtain ⟨q0, q2, q3, q4⟩ := hA.cells
        go_wp2_with fail
        refine (putA hA _ _ (by omega)).mono ?_
        rintro e u11 ⟨rfl, hA'⟩
        clear hA q0 q2 q3 q4
        have hA := hA'
        clear hA'
        obtain ⟨q0, q2, q3, q4⟩ := hA.cells
        go_wp2_with fail
        refine (putA hA _ _ (by omega)).mono ?_
        rintro e u12 ⟨rfl, hA'⟩
        clear hA q0 q2 q3 q4
        have hA := hA'
        clear hA'
        obtain ⟨q0, q2, q3, q4⟩ := hA.cells
        go_wp2_with fail
        refine (putA hA _ _ (by omega)).mono ?_
        rintro e u13 ⟨rfl, hA'⟩
        clear hA q0 q2 q3 q4
        have hA := hA'
        clear hA'
        obtain ⟨q0, q2, q3, q4⟩ := hA.cells
        go_wp2_with fail
        refine (putA hA _ _ (by omega)).mono ?_
        rintro e u14 ⟨rfl, hA'⟩
        clear hA q0 q2 q3 q4
        have hA := hA'
        clear hA'
        obtain ⟨q0, q2, q3, q4⟩ := hA.cells
        obtain ⟨caf, ccf, nf, hbf, -, hf0, hf1⟩ := hA.code
        obtain ⟨gf, vf, rfl, ff1, ff2, ff3, hfix⟩ := hA.fix hbf (show at1 < _ by omega)
        have hA2 := (hfix (nf : Int)).drew
        have k1 := block_cell (w := u14) hbf
        have k2 := block_cell (w := u14.drew) hbf
        have ff4 : u14.drew.cell? ⟨gf, at1 * 2 + 1, none⟩ = some vf := ff1
        have ff5 : u14.drew.frozen? ⟨gf, at1 * 2 + 1, none⟩ = false := ff2
        go_wp2
        go_region
        all_goals
          generalize (u14.setCell ⟨gf, at1 * 2 + 1, none⟩ (.int .i64 (nf : Int))).drew = wz at hA2 ⊢
          clear hA hfix k1 k2 ff1 ff2 ff4 ff5 hbf
          have hA := hA2
          clear hA2
          go_wp2
          (try simp only [Exit.inBlock, Exit.then])
          first | (refine bodyPost_end (results_none rfl _ _ _) rfl ?_) | (refine bodyPost_ret (results_none rfl _ _ _) rfl ?_)
          exact ⟨rfl, hA.mono (by omega) (by omega) (by omega)⟩
    · skip
      go_wp2
      (try simp only [Exit.inBlock, Exit.then])
      first | (refine bodyPost_end (results_none rfl _ _ _) rfl ?_) | (refine bodyPost_ret (results_none rfl _ _ _) rfl ?_)
      exact ⟨rfl, hA.mono (by omega) (by omega) (by omega)⟩
  · by_cases hdp : 0 < deep
    · skip
      go_wp2_with fail
      refine (pickA hA _ (by omega)).mono ?_
      rintro e u2 ⟨ri, rfl, ria, rib, hA', -⟩
      clear hA q0 q2 q3 q4
      have hA := hA'
      clear hA'
      obtain ⟨q0, q2, q3, q4⟩ := hA.cells
      go_wp2_with fail
      refine (pickA hA _ (by omega)).mono ?_
      rintro e u3 ⟨rj, rfl, rja, rjb, hA', -⟩
      clear hA q0 q2 q3 q4
      have hA := hA'
      clear hA'
      obtain ⟨q0, q2, q3, q4⟩ := hA.cells
      by_cases hj : 0 < rj
      · skip
        go_wp2_with fail
        refine (putA hA _ _ (by omega)).mono ?_
        rintro e u4 ⟨rfl, hA'⟩
        clear hA q0 q2 q3 q4
        have hA := hA'
        clear hA'
        obtain ⟨q0, q2, q3, q4⟩ := hA.cells
        go_wp2_with fail
        refine (putA hA _ _ (by omega)).mono ?_
        rintro e u5 ⟨rfl, hA'⟩
        clear hA q0 q2 q3 q4
        have hA := hA'
        clear hA'
        obtain ⟨q0, q2, q3, q4⟩ := hA.cells
        obtain ⟨ca_hd1, cc_hd1, hd1, hb_hd1, hd1a, hd1b, hA'⟩ := hA.exact
        have hc_hd1 := block_cell hb_hd1
        clear hA q0 q2 q3 q4
        have hA := hA'
        clear hA'
        obtain ⟨q0, q2, q3, q4⟩ := hA.cells
        go_wp2_with fail
        refine (putA hA _ _ (by omega)).mono ?_
        rintro e u6 ⟨rfl, hA'⟩
        clear hA q0 q2 q3 q4
        have hA := hA'
        clear hA'
        obtain ⟨q0, q2, q3, q4⟩ := hA.cells
        clear hc_hd1 hb_hd1
        go_wp2_with fail
        refine (pickA hA _ (by omega)).mono ?_
        rintro e u7 ⟨r7, rfl, r7a, r7b, hA', -⟩
        clear hA q0 q2 q3 q4
        have hA := hA'
        clear hA'
        obtain ⟨q0, q2, q3, q4⟩ := hA.cells
        go_wp2_with fail
        refine (putA hA _ _ (by omega)).mono ?_
        rintro e u8 ⟨rfl, hA'⟩
        clear hA q0 q2 q3 q4
        have hA := hA'
        clear hA'
        obtain ⟨q0, q2, q3, q4⟩ := hA.cells
        go_wp2_with fail
        refine (putA hA _ _ (by omega)).mono ?_
        rintro e u9 ⟨rfl, hA'⟩
        clear hA q0 q2 q3 q4
        have hA := hA'
        clear hA'
        obtain ⟨q0, q2, q3, q4⟩ := hA.cells
        obtain ⟨ca_at1, cc_at1, at1, hb_at1, at1a, at1b, hA'⟩ := hA.exact
        have hc_at1 := block_cell hb_at1
        clear hA q0 q2 q3 q4
        have hA := hA'
        clear hA'
        obtain ⟨q0, q2, q3, q4⟩ := hA.cells
        go_wp2_with fail
        refine (putA hA _ _ (by omega)).mono ?_
        rintro e u10 ⟨rfl, hA'⟩
        clear hA q0 q2 q3 q4
        have hA := hA'
        clear hA'
        obtain ⟨q0, q2, q3, q4⟩ := hA.cells
        clear hc_at1 hb_at1
        go_wp2_with fail
        refine (list_any d hS.out b1 b2 (deep - 1) (by omega) (by omega) 2 (by omega) (by omega) hA (by omega) (by omega)).mono ?_
        rintro e u11 ⟨rfl, hA'⟩
        clear hA q0 q2 q3 q4
        have hA := hA'
        clear hA'
        obtain ⟨q0, q2, q3, q4⟩ := hA.cells
        go_wp2_with fail
        refine (putA hA _ _ (by omega)).mono ?_
        rintro e u12 ⟨rfl, hA'⟩
        clear hA q0 q2 q3 q4
        have hA := hA'
        clear hA'
        obtain ⟨q0, q2, q3, q4⟩ := hA.cells
        go_wp2_with fail
        refine (putA hA _ _ (by omega)).mono ?_
        rintro e u13 ⟨rfl, hA'⟩
        clear hA q0 q2 q3 q4
        have hA := hA'
        clear hA'
        obtain ⟨q0, q2, q3, q4⟩ := hA.cells
        go_wp2_with fail
        refine (putA hA _ _ (by omega)).mono ?_
        rintro e u14 ⟨rfl, hA'⟩
        clear hA q0 q2 q3 q4
        have hA := hA'
        clear hA'
        obtain ⟨q0, q2, q3, q4⟩ := hA.cells
        go_wp2_with fail
        refine (putA hA _ _ (by omega)).mono ?_
        rintro e u15 ⟨rfl, hA'⟩
        clear hA q0 q2 q3 q4
        have hA := hA'
        clear hA'
        obtain ⟨q0, q2, q3, q4⟩ := hA.cells
        go_wp2_with fail
        refine (putA hA _ _ (by omega)).mono ?_
        rintro e u16 ⟨rfl, hA'⟩
        clear hA q0 q2 q3 q4
        have hA := hA'
        clear hA'
        obtain ⟨q0, q2, q3, q4⟩ := hA.cells
        obtain ⟨caf, ccf, nf, hbf, -, hf0, hf1⟩ := hA.code
        obtain ⟨gf, vf, rfl, ff1, ff2, ff3, hfix⟩ := hA.fix hbf (show at1 < _ by omega)
        have hA2 := (hfix (nf : Int)).drew
        have k1 := block_cell (w := u16) hbf
        have k2 := block_cell (w := u16.drew) hbf
        have ff4 : u16.drew.cell? ⟨gf, at1 * 2 + 1, none⟩ = some vf := ff1
        have ff5 : u16.drew.frozen? ⟨gf, at1 * 2 + 1, none⟩ = false := ff2
        go_wp2
        go_region
        all_goals
          generalize (u16.setCell ⟨gf, at1 * 2 + 1, none⟩ (.int .i64 (nf : Int))).drew = wz at hA2 ⊢
          clear hA hfix k1 k2 ff1 ff2 ff4 ff5 hbf
          have hA := hA2
          clear hA2
          go_wp2
          (try simp only [Exit.inBlock, Exit.then])
          first | (refine bodyPost_end (results_none rfl _ _ _) rfl ?_) | (refine bodyPost_ret (results_none rfl _ _ _) rfl ?_)
          exact ⟨rfl, hA.mono (by omega) (by omega) (by omega)⟩
      · skip
        obtain ⟨ca_hd1, cc_hd1, hd1, hb_hd1, hd1a, hd1b, hA'⟩ := hA.exact
        have hc_hd1 := block_cell hb_hd1
        clear hA q0 q2 q3 q4
        have hA := hA'
        clear hA'
        obtain ⟨q0, q2, q3, q4⟩ := hA.cells
        go_wp2_with fail
        refine (putA hA _ _ (by omega)).mono ?_
        rintro e u4 ⟨rfl, hA'⟩
        clear hA q0 q2 q3 q4
        have hA := hA'
        clear hA'
        obtain ⟨q0, q2, q3, q4⟩ := hA.cells
        clear hc_hd1 hb_hd1
        go_wp2_with fail
        refine (pickA hA _ (by omega)).mono ?_
        rintro e u5 ⟨r5, rfl, r5a, r5b, hA', -⟩
        clear hA q0 q2 q3 q4
        have hA := hA'
        clear hA'
        obtain ⟨q0, q2, q3, q4⟩ := hA.cells
        go_wp2_with fail
        refine (putA hA _ _ (by omega)).mono ?_
        rintro e u6 ⟨rfl, hA'⟩
        clear hA q0 q2 q3 q4
        have hA := hA'
        clear hA'
        obtain ⟨q0, q2, q3, q4⟩ := hA.cells
        go_wp2_with fail
        refine (putA hA _ _ (by omega)).mono ?_
        rintro e u7 ⟨rfl, hA'⟩
        clear hA q0 q2 q3 q4
        have hA := hA'
        clear hA'
        obtain ⟨q0, q2, q3, q4⟩ := hA.cells
        obtain ⟨ca_at1, cc_at1, at1, hb_at1, at1a, at1b, hA'⟩ := hA.exact
        have hc_at1 := block_cell hb_at1
        clear hA q0 q2 q3 q4
        have hA := hA'
        clear hA'
        obtain ⟨q0, q2, q3, q4⟩ := hA.cells
        go_wp2_with fail
        refine (putA hA _ _ (by omega)).mono ?_
        rintro e u8 ⟨rfl, hA'⟩
        clear hA q0 q2 q3 q4
        have hA := hA'
        clear hA'
        obtain ⟨q0, q2, q3, q4⟩ := hA.cells
        clear hc_at1 hb_at1
        go_wp2_with fail
        refine (list_any d hS.out b1 b2 (deep - 1) (by omega) (by omega) 2 (by omega) (by omega) hA (by omega) (by omega)).mono ?_
        rintro e u9 ⟨rfl, hA'⟩
        clear hA q0 q2 q3 q4
        have hA := hA'
        clear hA'
        obtain ⟨q0, q2, q3, q4⟩ := hA.cells
        go_wp2_with fail
        refine (putA hA _ _ (by omega)).mono ?_
        rintro e u10 ⟨rfl, hA'⟩
        clear hA q0 q2 q3 q4
        have hA := hA'
        clear hA'
        obtain ⟨q0, q2, q3, q4⟩ := hA.cells
        go_wp2_with fail
        refine (putA hA _ _ (by omega)).mono ?_
        rintro e u11 ⟨rfl, hA'⟩
        clear hA q0 q2 q3 q4
        have hA := hA'
        clear hA'
        obtain ⟨q0, q2, q3, q4⟩ := hA.cells
        go_wp2_with fail
        refine (putA hA _ _ (by omega)).mono ?_
        rintro e u12 ⟨rfl, hA'⟩
        clear hA q0 q2 q3 q4
        have hA := hA'
        clear hA'
        obtain ⟨q0, q2, q3, q4⟩ := hA.cells
        go_wp2_with fail
        refine (putA hA _ _ (by omega)).mono ?_
        rintro e u13 ⟨rfl, hA'⟩
        clear hA q0 q2 q3 q4
        have hA := hA'
        clear hA'
        obtain ⟨q0, q2, q3, q4⟩ := hA.cells
        go_wp2_with fail
        refine (putA hA _ _ (by omega)).mono ?_
        rintro e u14 ⟨rfl, hA'⟩
        clear hA q0 q2 q3 q4
        have hA := hA'
        clear hA'
        obtain ⟨q0, q2, q3, q4⟩ := hA.cells
        obtain ⟨caf, ccf, nf, hbf, -, hf0, hf1⟩ := hA.code
        obtain ⟨gf, vf, rfl, ff1, ff2, ff3, hfix⟩ := hA.fix hbf (show at1 < _ by omega)
        have hA2 := (hfix (nf : Int)).drew
        have k1 := block_cell (w := u14) hbf
        have k2 := block_cell (w := u14.drew) hbf
        have ff4 : u14.drew.cell? ⟨gf, at1 * 2 + 1, none⟩ = some vf := ff1
        have ff5 : u14.drew.frozen? ⟨gf, at1 * 2 + 1, none⟩ = false := ff2
        go_wp2
        go_region
        all_goals
          generalize (u14.setCell ⟨gf, at1 * 2 + 1, none⟩ (.int .i64 (nf : Int))).drew = wz at hA2 ⊢
          clear hA hfix k1 k2 ff1 ff2 ff4 ff5 hbf
          have hA := hA2
          clear hA2
          go_wp2
          (try simp only [Exit.inBlock, Exit.then])
          first | (refine bodyPost_end (results_none rfl _ _ _) rfl ?_) | (refine bodyPost_ret (results_none rfl _ _ _) rfl ?_)
          exact ⟨rfl, hA.mono (by omega) (by omega) (by omega)⟩
    · skip
      go_wp2
      (try simp only [Exit.inBlock, Exit.then])
      first | (refine bodyPost_end (results_none rfl _ _ _) rfl ?_) | (refine bodyPost_ret (results_none rfl _ _ _) rfl ?_)
      exact ⟨rfl, hA.mono (by omega) (by omega) (by omega)⟩

theorem stmt_two : StmtOk 2 := stmt_step 1 (stmt_step 0 stmt_zero (by simp [SM]) (by simp [SK])) (by simp [SM]) (by simp [SK])
theorem stmt_one : StmtOk 1 := stmt_step 0 stmt_zero (by simp [SM]) (by simp [SK])
end Go.Proofs.YtpmkfdinkomaiaaGreatDoor
