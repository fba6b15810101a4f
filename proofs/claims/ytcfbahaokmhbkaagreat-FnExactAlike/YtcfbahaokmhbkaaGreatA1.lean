/-
  The law laws.FnExactAlike, walked.
-/
import Derived.Test.YtcfbahaokmhbkaaGreatKA24
import Derived.Test.YtcfbahaokmhbkaaGreatKA19
import Derived.Test.YtcfbahaokmhbkaaGreatKA20
namespace Go.Proofs.YtcfbahaokmhbkaaGreat
set_option maxRecDepth 100000
open Go.RowKit
set_option maxHeartbeats 16000000 in
theorem lawAlike (a1 a2 : Option Addr) (ts : List ByteArray) (fs : List Fn) (c1 c2 : Nat) (x y : VmD) (fa ha oa fb hb ob : Option Addr) (fc hc oc fd hd od : Nat) (w : World) (hn : ts.length ≤ maxLen) (hcc : ∀ s ∈ ts, s.size ≤ maxLen) (hst0 : StrsAt w 0 a1 ts)
  (hn2 : fs.length ≤ maxLen) (hc2 : ∀ f ∈ fs, f.code.length ≤ maxLen) (hfn0 : FnsAt w 0 a2 fs) (hxm : VmMax x) (hym : VmMax y) (hv1 : VmAt w 0 fa ha oa x) (hv2 : VmAt w 0 fb hb ob y) :
  Calls Tryz.prog 4 #[.agg #[.slice a1 ts.length c1, .slice a2 fs.length c2], .agg (vmCells fa ha oa fc hc oc x), .agg (vmCells fb hb ob fd hd od y)] w fun e w' => e = .returned (.bool true) ∧ Below w.heap.size w w' := by
 conv => arg 3; unfold vmCells
 obtain ⟨w0, hw0⟩ : ∃ w0, w0 = ((w.alloc (.cells #[.slice a1 ts.length c1, .slice a2 fs.length c2] 25)).alloc (.cells #[.slice fa x.frames.length fc, .slice ha x.heap.length hc, .int .i64 x.made, .slice oa x.out.length oc, .int .i64 x.status, .int .i64 x.trap, .int .i64 x.value.k, .int .i64 x.value.n, .string x.value.s, .int .i64 x.steps] 31)).alloc (.cells #[.slice fb y.frames.length fd, .slice hb y.heap.length hd, .int .i64 y.made, .slice ob y.out.length od, .int .i64 y.status, .int .i64 y.trap, .int .i64 y.value.k, .int .i64 y.value.n, .string y.value.s, .int .i64 y.steps] 31) := ⟨_, rfl⟩
 have hB : Below w.heap.size w w0 := by rw [hw0]; exact (((Below.refl _ _).alloc (Nat.le_refl _) _).alloc (by simp) _).alloc (by simp; omega) _
 have hM : w0.heap[w.heap.size]? = some (.cells #[.slice a1 ts.length c1, .slice a2 fs.length c2] 25 (0, 0)) := by rw [hw0]; exact block_old (block_old (block_new _ _ _) _) _
 have hX : w0.heap[w.heap.size + 1]? = some (.cells #[.slice fa x.frames.length fc, .slice ha x.heap.length hc, .int .i64 x.made, .slice oa x.out.length oc, .int .i64 x.status, .int .i64 x.trap, .int .i64 x.value.k, .int .i64 x.value.n, .string x.value.s, .int .i64 x.steps] 31 (0, 0)) := by rw [hw0]; exact block_old (block_new_at _ _ _ _ (by simp)) _
 have hY : w0.heap[w.heap.size + 1 + 1]? = some (.cells #[.slice fb y.frames.length fd, .slice hb y.heap.length hd, .int .i64 y.made, .slice ob y.out.length od, .int .i64 y.status, .int .i64 y.trap, .int .i64 y.value.k, .int .i64 y.value.n, .string y.value.s, .int .i64 y.steps] 31 (0, 0)) := by rw [hw0]; exact block_new_at _ _ _ _ (by simp)
 go_enter Tryz.func4, Tryz.ntmps4
 go_wp2_with fail
 rw [← hw0]
 clear hw0
 refine (szModule_le a1 a2 ts fs c1 c2 _ hn hcc (hst0.mono hB) hn2 hc2 (hfn0.mono hB)).mono ?_
 rintro e w1 ⟨l, rfl, hl, hsm, hb1⟩
 have hM_n := block_kept hM hb1
 have hX_n := block_kept hX hb1
 have hY_n := block_kept hY hb1
 have hB_n := hB.trans (hb1.mono hB.size)
 clear hM hX hY hB
 have hM := hM_n
 have hX := hX_n
 have hY := hY_n
 have hB := hB_n
 clear hM_n hX_n hY_n hB_n
 clear hb1 hn hcc hn2 hc2
 by_cases hl0 : l < 0
 ·
  go_wp2_with fail
  go_ret
  exact ⟨rfl, hB⟩
 have hs := hsm (by omega)
 clear hsm
 have z1 := block_cell hX
 go_wp2_with fail
 clear z1
 refine (szVm_any fa ha oa fc hc oc x l _ (by omega) (by omega) hxm (hv1.frs.mono hB) (hv1.recs.mono hB) (hv1.out.mono hB)).mono ?_
 rintro e w2 ⟨l2, rfl, hl2, hsm, hb2⟩
 have hM_n := block_kept hM hb2
 have hX_n := block_kept hX hb2
 have hY_n := block_kept hY hb2
 have hB_n := hB.trans (hb2.mono hB.size)
 clear hM hX hY hB
 have hM := hM_n
 have hX := hX_n
 have hY := hY_n
 have hB := hB_n
 clear hM_n hX_n hY_n hB_n
 clear hb2 hxm
 by_cases hl1 : l2 < 0
 ·
  go_wp2_with fail
  go_ret
  exact ⟨rfl, hB⟩
 have hxx := hsm (by omega)
 clear hsm
 have z1 := block_cell hY
 go_wp2_with fail
 clear z1
 refine (szVm_any fb hb ob fd hd od y l2 _ (by omega) (by omega) hym (hv2.frs.mono hB) (hv2.recs.mono hB) (hv2.out.mono hB)).mono ?_
 rintro e w3 ⟨l3, rfl, hl3, hsm, hb3⟩
 have hM_n := block_kept hM hb3
 have hX_n := block_kept hX hb3
 have hY_n := block_kept hY hb3
 have hB_n := hB.trans (hb3.mono hB.size)
 clear hM hX hY hB
 have hM := hM_n
 have hX := hX_n
 have hY := hY_n
 have hB := hB_n
 clear hM_n hX_n hY_n hB_n
 clear hb3 hym
 by_cases hl4 : l3 < 0
 ·
  go_wp2_with fail
  go_ret
  exact ⟨rfl, hB⟩
 have hxy := hsm (by omega)
 clear hsm hl hl0 hl2 hl1 hl3
 have hS : ∀ w', Below w3.heap.size w3 w' → w'.cell? ⟨w.heap.size, 0, none⟩ = some (.slice a1 ts.length c1) ∧ w'.cell? ⟨w.heap.size, 1, none⟩ = some (.slice a2 fs.length c2) ∧ w'.cell? ⟨w.heap.size + 1, 0, none⟩ = some (.slice fa x.frames.length fc) ∧ w'.cell? ⟨w.heap.size + 1, 1, none⟩ = some (.slice ha x.heap.length hc) ∧ w'.cell? ⟨w.heap.size + 1, 2, none⟩ = some (.int .i64 x.made) ∧ w'.cell? ⟨w.heap.size + 1, 3, none⟩ = some (.slice oa x.out.length oc) ∧ w'.cell? ⟨w.heap.size + 1, 4, none⟩ = some (.int .i64 x.status) ∧ w'.cell? ⟨w.heap.size + 1, 5, none⟩ = some (.int .i64 x.trap) ∧ w'.cell? ⟨w.heap.size + 1, 6, none⟩ = some (.int .i64 x.value.k) ∧ w'.cell? ⟨w.heap.size + 1, 7, none⟩ = some (.int .i64 x.value.n) ∧ w'.cell? ⟨w.heap.size + 1, 8, none⟩ = some (.string x.value.s) ∧ w'.cell? ⟨w.heap.size + 1, 9, none⟩ = some (.int .i64 x.steps) ∧ w'.cell? ⟨w.heap.size + 1 + 1, 0, none⟩ = some (.slice fb y.frames.length fd) ∧ w'.cell? ⟨w.heap.size + 1 + 1, 1, none⟩ = some (.slice hb y.heap.length hd) ∧ w'.cell? ⟨w.heap.size + 1 + 1, 2, none⟩ = some (.int .i64 y.made) ∧ w'.cell? ⟨w.heap.size + 1 + 1, 3, none⟩ = some (.slice ob y.out.length od) ∧ w'.cell? ⟨w.heap.size + 1 + 1, 4, none⟩ = some (.int .i64 y.status) ∧ w'.cell? ⟨w.heap.size + 1 + 1, 5, none⟩ = some (.int .i64 y.trap) ∧ w'.cell? ⟨w.heap.size + 1 + 1, 6, none⟩ = some (.int .i64 y.value.k) ∧ w'.cell? ⟨w.heap.size + 1 + 1, 7, none⟩ = some (.int .i64 y.value.n) ∧ w'.cell? ⟨w.heap.size + 1 + 1, 8, none⟩ = some (.string y.value.s) ∧ w'.cell? ⟨w.heap.size + 1 + 1, 9, none⟩ = some (.int .i64 y.steps) := fun w' q => ⟨by rw [block_cell (block_kept hM q)]; rfl, by rw [block_cell (block_kept hM q)]; rfl, by rw [block_cell (block_kept hX q)]; rfl, by rw [block_cell (block_kept hX q)]; rfl, by rw [block_cell (block_kept hX q)]; rfl, by rw [block_cell (block_kept hX q)]; rfl, by rw [block_cell (block_kept hX q)]; rfl, by rw [block_cell (block_kept hX q)]; rfl, by rw [block_cell (block_kept hX q)]; rfl, by rw [block_cell (block_kept hX q)]; rfl, by rw [block_cell (block_kept hX q)]; rfl, by rw [block_cell (block_kept hX q)]; rfl, by rw [block_cell (block_kept hY q)]; rfl, by rw [block_cell (block_kept hY q)]; rfl, by rw [block_cell (block_kept hY q)]; rfl, by rw [block_cell (block_kept hY q)]; rfl, by rw [block_cell (block_kept hY q)]; rfl, by rw [block_cell (block_kept hY q)]; rfl, by rw [block_cell (block_kept hY q)]; rfl, by rw [block_cell (block_kept hY q)]; rfl, by rw [block_cell (block_kept hY q)]; rfl, by rw [block_cell (block_kept hY q)]; rfl⟩
 have HS := hid hS
 obtain ⟨j0, j1, j2, j3, j4, j5, j6, j7, j8, j9, j10, j11, j12, j13, j14, j15, j16, j17, j18, j19, j20, j21⟩ := hS w3 (Below.refl _ _)
 have HMH := hid hM
 have HXH := hid hX
 have HYH := hid hY
 have HBH := hid hB
 clear hS hB hM hX hY
 have q : Below w3.heap.size w3 w3.drew := (Below.refl _ _).drew
 go_wp2
 go_region_held3 (fun w' => w'.cell? ⟨w.heap.size, 0, none⟩ = some (.slice a1 ts.length c1) ∧ w'.cell? ⟨w.heap.size, 1, none⟩ = some (.slice a2 fs.length c2) ∧ w'.cell? ⟨w.heap.size + 1, 0, none⟩ = some (.slice fa x.frames.length fc) ∧ w'.cell? ⟨w.heap.size + 1, 1, none⟩ = some (.slice ha x.heap.length hc) ∧ w'.cell? ⟨w.heap.size + 1, 2, none⟩ = some (.int .i64 x.made) ∧ w'.cell? ⟨w.heap.size + 1, 3, none⟩ = some (.slice oa x.out.length oc) ∧ w'.cell? ⟨w.heap.size + 1, 4, none⟩ = some (.int .i64 x.status) ∧ w'.cell? ⟨w.heap.size + 1, 5, none⟩ = some (.int .i64 x.trap) ∧ w'.cell? ⟨w.heap.size + 1, 6, none⟩ = some (.int .i64 x.value.k) ∧ w'.cell? ⟨w.heap.size + 1, 7, none⟩ = some (.int .i64 x.value.n) ∧ w'.cell? ⟨w.heap.size + 1, 8, none⟩ = some (.string x.value.s) ∧ w'.cell? ⟨w.heap.size + 1, 9, none⟩ = some (.int .i64 x.steps) ∧ w'.cell? ⟨w.heap.size + 1 + 1, 0, none⟩ = some (.slice fb y.frames.length fd) ∧ w'.cell? ⟨w.heap.size + 1 + 1, 1, none⟩ = some (.slice hb y.heap.length hd) ∧ w'.cell? ⟨w.heap.size + 1 + 1, 2, none⟩ = some (.int .i64 y.made) ∧ w'.cell? ⟨w.heap.size + 1 + 1, 3, none⟩ = some (.slice ob y.out.length od) ∧ w'.cell? ⟨w.heap.size + 1 + 1, 4, none⟩ = some (.int .i64 y.status) ∧ w'.cell? ⟨w.heap.size + 1 + 1, 5, none⟩ = some (.int .i64 y.trap) ∧ w'.cell? ⟨w.heap.size + 1 + 1, 6, none⟩ = some (.int .i64 y.value.k) ∧ w'.cell? ⟨w.heap.size + 1 + 1, 7, none⟩ = some (.int .i64 y.value.n) ∧ w'.cell? ⟨w.heap.size + 1 + 1, 8, none⟩ = some (.string y.value.s) ∧ w'.cell? ⟨w.heap.size + 1 + 1, 9, none⟩ = some (.int .i64 y.steps))
  (first | exact ⟨j0, j1, j2, j3, j4, j5, j6, j7, j8, j9, j10, j11, j12, j13, j14, j15, j16, j17, j18, j19, j20, j21⟩ | exact HS.out _ q)
  (first
   | (go_at_call 8; refine (toModule_any a1 a2 ts fs c1 c2 _ hs (by exact hst0.mono (HBH.out.trans (q.mono HBH.out.size))) (by exact hfn0.mono (HBH.out.trans (q.mono HBH.out.size)))).mono ?_; rintro e wm ⟨gm, gm2, -, -, rfl, hst, hfn, kd⟩; have q := q.trans (kd.mono q.size))
   | (go_at_call_of 9 fa; refine (toVm_any fa ha oa fc hc oc x _ hxx (by exact hv1.mono (HBH.out.trans (q.mono HBH.out.size)))).mono ?_; rintro e wx ⟨gx1, gx2, gx3, rfl, hvx, kd⟩; have hst := hst.mono kd; have hfn := hfn.mono kd; have q := q.trans (kd.mono q.size))
   | (go_at_call_of 9 fb; refine (toVm_any fb hb ob fd hd od y _ hxy (by exact hv2.mono (HBH.out.trans (q.mono HBH.out.size)))).mono ?_; rintro e wy ⟨gy1, gy2, gy3, rfl, hvy, kd⟩; have hst := hst.mono kd; have hfn := hfn.mono kd; have hvx := hvx.mono kd; have q := q.trans (kd.mono q.size))
   | (go_at_call 16; refine (sAlike_any _ _ _ _ ts fs x y _ _ _ _ _ _ _ _ _ _ _ _ _ hs (by exact hst.low (Nat.zero_le _)) (by exact hfn.low (Nat.zero_le _)) hxx hxy (by exact hvx.low (Nat.zero_le _)) (by exact hvy.low (Nat.zero_le _))).mono ?_; rintro e w4 ⟨rfl, kd⟩; have q := q.trans (kd.mono q.size)))
 have hM := block_kept HMH.out q
 have hX := block_kept HXH.out q
 have hY := block_kept HYH.out q
 have hB := HBH.out.trans (q.mono HBH.out.size)
 clear HS HBH HMH HXH HYH j0 j1 j2 j3 j4 j5 j6 j7 j8 j9 j10 j11 j12 j13 j14 j15 j16 j17 j18 j19 j20 j21
 clear hst hfn hvx hvy kd q hl4
 have z1 := block_cell hM
 go_wp2_with fail
 clear z1
 refine (toModule_any a1 a2 ts fs c1 c2 _ hs (hst0.mono hB) (hfn0.mono hB)).mono ?_
 rintro e w5 ⟨p, p2, -, -, rfl, hst, hfn, hb5⟩
 have hM_n := block_kept hM hb5
 have hX_n := block_kept hX hb5
 have hY_n := block_kept hY hb5
 have hB_n := hB.trans (hb5.mono hB.size)
 clear hM hX hY hB
 have hM := hM_n
 have hX := hX_n
 have hY := hY_n
 have hB := hB_n
 clear hM_n hX_n hY_n hB_n
 clear hb5
 have hst := hst.low (Nat.zero_le _)
 have hfn := hfn.low (Nat.zero_le _)
 obtain ⟨w6, hw6⟩ : ∃ w6, w6 = w5.alloc (.cells #[.slice (some ⟨p, 0, none⟩) ts.length ts.length, .slice (some ⟨p2, 0, none⟩) fs.length fs.length] 42) := ⟨_, rfl⟩
 have hbq : Below w5.heap.size w5 w6 := by rw [hw6]; exact (Below.refl _ _).alloc (Nat.le_refl _) _
 have hP : w6.heap[w5.heap.size]? = some (.cells #[.slice (some ⟨p, 0, none⟩) ts.length ts.length, .slice (some ⟨p2, 0, none⟩) fs.length fs.length] 42 (0, 0)) := by rw [hw6]; exact block_new _ _ _
 have z1 := block_cell (block_old hX (.cells #[.slice (some ⟨p, 0, none⟩) ts.length ts.length, .slice (some ⟨p2, 0, none⟩) fs.length fs.length] 42))
 have hM_n := block_kept hM hbq
 have hX_n := block_kept hX hbq
 have hY_n := block_kept hY hbq
 have hst_n := hst.mono hbq
 have hfn_n := hfn.mono hbq
 have hB_n := hB.trans (hbq.mono hB.size)
 clear hM hX hY hst hfn hB
 have hM := hM_n
 have hX := hX_n
 have hY := hY_n
 have hst := hst_n
 have hfn := hfn_n
 have hB := hB_n
 clear hM_n hX_n hY_n hst_n hfn_n hB_n
 go_wp2_with fail
 rw [← hw6]
 clear hw6 z1 hbq
 refine (toVm_any fa ha oa fc hc oc x _ hxx (hv1.mono hB)).mono ?_
 rintro e w7 ⟨gx1, gx2, gx3, rfl, hvx, hb7⟩
 unfold vmCells
 have hvx := hvx.low (Nat.zero_le _)
 have hM_n := block_kept hM hb7
 have hX_n := block_kept hX hb7
 have hY_n := block_kept hY hb7
 have hP_n := block_kept hP hb7
 have hst_n := hst.mono hb7
 have hfn_n := hfn.mono hb7
 have hB_n := hB.trans (hb7.mono hB.size)
 clear hM hX hY hP hst hfn hB
 have hM := hM_n
 have hX := hX_n
 have hY := hY_n
 have hP := hP_n
 have hst := hst_n
 have hfn := hfn_n
 have hB := hB_n
 clear hM_n hX_n hY_n hP_n hst_n hfn_n hB_n
 obtain ⟨w8, hw8⟩ : ∃ w8, w8 = w7.alloc (.cells #[.slice (some ⟨gx1, 0, none⟩) x.frames.length x.frames.length, .slice (some ⟨gx2, 0, none⟩) x.heap.length x.heap.length, .int .i64 x.made, .slice (some ⟨gx3, 0, none⟩) x.out.length x.out.length, .int .i64 x.status, .int .i64 x.trap, .int .i64 x.value.k, .int .i64 x.value.n, .string x.value.s, .int .i64 x.steps] 38) := ⟨_, rfl⟩
 have hbq : Below w7.heap.size w7 w8 := by rw [hw8]; exact (Below.refl _ _).alloc (Nat.le_refl _) _
 have hQ : w8.heap[w7.heap.size]? = some (.cells #[.slice (some ⟨gx1, 0, none⟩) x.frames.length x.frames.length, .slice (some ⟨gx2, 0, none⟩) x.heap.length x.heap.length, .int .i64 x.made, .slice (some ⟨gx3, 0, none⟩) x.out.length x.out.length, .int .i64 x.status, .int .i64 x.trap, .int .i64 x.value.k, .int .i64 x.value.n, .string x.value.s, .int .i64 x.steps] 38 (0, 0)) := by rw [hw8]; exact block_new _ _ _
 have z1 := block_cell (block_old hY (.cells #[.slice (some ⟨gx1, 0, none⟩) x.frames.length x.frames.length, .slice (some ⟨gx2, 0, none⟩) x.heap.length x.heap.length, .int .i64 x.made, .slice (some ⟨gx3, 0, none⟩) x.out.length x.out.length, .int .i64 x.status, .int .i64 x.trap, .int .i64 x.value.k, .int .i64 x.value.n, .string x.value.s, .int .i64 x.steps] 38))
 have hM_n := block_kept hM hbq
 have hX_n := block_kept hX hbq
 have hY_n := block_kept hY hbq
 have hP_n := block_kept hP hbq
 have hst_n := hst.mono hbq
 have hfn_n := hfn.mono hbq
 have hvx_n := hvx.mono hbq
 have hB_n := hB.trans (hbq.mono hB.size)
 clear hM hX hY hP hst hfn hvx hB
 have hM := hM_n
 have hX := hX_n
 have hY := hY_n
 have hP := hP_n
 have hst := hst_n
 have hfn := hfn_n
 have hvx := hvx_n
 have hB := hB_n
 clear hM_n hX_n hY_n hP_n hst_n hfn_n hvx_n hB_n
 go_wp2_with fail
 rw [← hw8]
 clear hw8 z1 hbq hb7
 refine (toVm_any fb hb ob fd hd od y _ hxy (hv2.mono hB)).mono ?_
 rintro e w9 ⟨gy1, gy2, gy3, rfl, hvy, hb9⟩
 unfold vmCells
 have hvy := hvy.low (Nat.zero_le _)
 have hM_n := block_kept hM hb9
 have hX_n := block_kept hX hb9
 have hY_n := block_kept hY hb9
 have hP_n := block_kept hP hb9
 have hQ_n := block_kept hQ hb9
 have hst_n := hst.mono hb9
 have hfn_n := hfn.mono hb9
 have hvx_n := hvx.mono hb9
 have hB_n := hB.trans (hb9.mono hB.size)
 clear hM hX hY hP hQ hst hfn hvx hB
 have hM := hM_n
 have hX := hX_n
 have hY := hY_n
 have hP := hP_n
 have hQ := hQ_n
 have hst := hst_n
 have hfn := hfn_n
 have hvx := hvx_n
 have hB := hB_n
 clear hM_n hX_n hY_n hP_n hQ_n hst_n hfn_n hvx_n hB_n
 obtain ⟨w10, hw10⟩ : ∃ w10, w10 = w9.alloc (.cells #[.slice (some ⟨gy1, 0, none⟩) y.frames.length y.frames.length, .slice (some ⟨gy2, 0, none⟩) y.heap.length y.heap.length, .int .i64 y.made, .slice (some ⟨gy3, 0, none⟩) y.out.length y.out.length, .int .i64 y.status, .int .i64 y.trap, .int .i64 y.value.k, .int .i64 y.value.n, .string y.value.s, .int .i64 y.steps] 38) := ⟨_, rfl⟩
 have hbq : Below w9.heap.size w9 w10 := by rw [hw10]; exact (Below.refl _ _).alloc (Nat.le_refl _) _
 have hR : w10.heap[w9.heap.size]? = some (.cells #[.slice (some ⟨gy1, 0, none⟩) y.frames.length y.frames.length, .slice (some ⟨gy2, 0, none⟩) y.heap.length y.heap.length, .int .i64 y.made, .slice (some ⟨gy3, 0, none⟩) y.out.length y.out.length, .int .i64 y.status, .int .i64 y.trap, .int .i64 y.value.k, .int .i64 y.value.n, .string y.value.s, .int .i64 y.steps] 38 (0, 0)) := by rw [hw10]; exact block_new _ _ _
 have z1 := block_cell (block_old hP (.cells #[.slice (some ⟨gy1, 0, none⟩) y.frames.length y.frames.length, .slice (some ⟨gy2, 0, none⟩) y.heap.length y.heap.length, .int .i64 y.made, .slice (some ⟨gy3, 0, none⟩) y.out.length y.out.length, .int .i64 y.status, .int .i64 y.trap, .int .i64 y.value.k, .int .i64 y.value.n, .string y.value.s, .int .i64 y.steps] 38))
 have z2 := block_cell (block_old hQ (.cells #[.slice (some ⟨gy1, 0, none⟩) y.frames.length y.frames.length, .slice (some ⟨gy2, 0, none⟩) y.heap.length y.heap.length, .int .i64 y.made, .slice (some ⟨gy3, 0, none⟩) y.out.length y.out.length, .int .i64 y.status, .int .i64 y.trap, .int .i64 y.value.k, .int .i64 y.value.n, .string y.value.s, .int .i64 y.steps] 38))
 have hM_n := block_kept hM hbq
 have hX_n := block_kept hX hbq
 have hY_n := block_kept hY hbq
 have hP_n := block_kept hP hbq
 have hQ_n := block_kept hQ hbq
 have hst_n := hst.mono hbq
 have hfn_n := hfn.mono hbq
 have hvx_n := hvx.mono hbq
 have hvy_n := hvy.mono hbq
 have hB_n := hB.trans (hbq.mono hB.size)
 clear hM hX hY hP hQ hst hfn hvx hvy hB
 have hM := hM_n
 have hX := hX_n
 have hY := hY_n
 have hP := hP_n
 have hQ := hQ_n
 have hst := hst_n
 have hfn := hfn_n
 have hvx := hvx_n
 have hvy := hvy_n
 have hB := hB_n
 clear hM_n hX_n hY_n hP_n hQ_n hst_n hfn_n hvx_n hvy_n hB_n
 go_wp2_with fail
 rw [← hw10]
 clear hw10 z1 z2 hbq hb9
 have hal := iAlike_any (some ⟨p, 0, none⟩) (some ⟨p2, 0, none⟩) ts.length fs.length ts fs x y (some ⟨gx1, 0, none⟩) (some ⟨gx2, 0, none⟩) (some ⟨gx3, 0, none⟩) (some ⟨gy1, 0, none⟩) (some ⟨gy2, 0, none⟩) (some ⟨gy3, 0, none⟩) x.frames.length x.heap.length x.out.length y.frames.length y.heap.length y.out.length w10 hs hst hfn hxx hxy hvx hvy
 unfold vmCells at hal
 refine hal.mono ?_
 rintro e w11 ⟨rfl, hb11⟩
 clear hal
 have hM_n := block_kept hM hb11
 have hX_n := block_kept hX hb11
 have hY_n := block_kept hY hb11
 have hP_n := block_kept hP hb11
 have hQ_n := block_kept hQ hb11
 have hR_n := block_kept hR hb11
 have hst_n := hst.mono hb11
 have hfn_n := hfn.mono hb11
 have hvx_n := hvx.mono hb11
 have hvy_n := hvy.mono hb11
 have hB_n := hB.trans (hb11.mono hB.size)
 clear hM hX hY hP hQ hR hst hfn hvx hvy hB
 have hM := hM_n
 have hX := hX_n
 have hY := hY_n
 have hP := hP_n
 have hQ := hQ_n
 have hR := hR_n
 have hst := hst_n
 have hfn := hfn_n
 have hvx := hvx_n
 have hvy := hvy_n
 have hB := hB_n
 clear hM_n hX_n hY_n hP_n hQ_n hR_n hst_n hfn_n hvx_n hvy_n hB_n
 clear hb11
 have hbb : (pB (AlikeP ts fs x y) != pB (AlikeP ts fs x y)) = false := by simp
 have hS : ∀ w', Below w11.heap.size w11 w' → w'.cell? ⟨w5.heap.size, 0, none⟩ = some (.slice (some ⟨p, 0, none⟩) ts.length ts.length) ∧ w'.cell? ⟨w5.heap.size, 1, none⟩ = some (.slice (some ⟨p2, 0, none⟩) fs.length fs.length) ∧ w'.cell? ⟨w.heap.size, 0, none⟩ = some (.slice a1 ts.length c1) ∧ w'.cell? ⟨w.heap.size, 1, none⟩ = some (.slice a2 fs.length c2) := fun w' q => ⟨by rw [block_cell (block_kept hP q)]; rfl, by rw [block_cell (block_kept hP q)]; rfl, by rw [block_cell (block_kept hM q)]; rfl, by rw [block_cell (block_kept hM q)]; rfl⟩
 have HS := hid hS
 obtain ⟨j0, j1, j2, j3⟩ := hS w11 (Below.refl _ _)
 have HMH := hid hM
 have HXH := hid hX
 have HYH := hid hY
 have HPH := hid hP
 have HQH := hid hQ
 have HRH := hid hR
 have HBH := hid hB
 clear hS hB hM hX hY hP hQ hR
 have q : Below w11.heap.size w11 w11.drew := (Below.refl _ _).drew
 go_wp2
 go_region_held3 (fun w' => w'.cell? ⟨w5.heap.size, 0, none⟩ = some (.slice (some ⟨p, 0, none⟩) ts.length ts.length) ∧ w'.cell? ⟨w5.heap.size, 1, none⟩ = some (.slice (some ⟨p2, 0, none⟩) fs.length fs.length) ∧ w'.cell? ⟨w.heap.size, 0, none⟩ = some (.slice a1 ts.length c1) ∧ w'.cell? ⟨w.heap.size, 1, none⟩ = some (.slice a2 fs.length c2))
  (first | exact ⟨j0, j1, j2, j3⟩ | exact HS.out _ q)
  (first
   | (go_at_call 8; refine (toModule_any a1 a2 ts fs c1 c2 _ hs (by exact hst0.mono (HBH.out.trans (q.mono HBH.out.size))) (by exact hfn0.mono (HBH.out.trans (q.mono HBH.out.size)))).mono ?_; rintro e wm ⟨gm, gm2, -, -, rfl, hst9, hfn9, kd⟩; have q := q.trans (kd.mono q.size))
   | (go_at_call 12; refine (eqModule_any _ _ _ _ ts fs _ _ _ _ _ hs (by exact hst.mono q) (by exact hst9.low (Nat.zero_le _)) (by exact hfn.mono q) (by exact hfn9.low (Nat.zero_le _))).mono ?_; rintro e w12 ⟨rfl, kd⟩; have q := q.trans (kd.mono q.size)))
 have hM := block_kept HMH.out q
 have hX := block_kept HXH.out q
 have hY := block_kept HYH.out q
 have hP := block_kept HPH.out q
 have hQ := block_kept HQH.out q
 have hR := block_kept HRH.out q
 have hB := HBH.out.trans (q.mono HBH.out.size)
 clear HS HBH HMH HXH HYH HPH HQH HRH j0 j1 j2 j3
 have hvx := hvx.mono q
 have hvy := hvy.mono q
 clear hst9 hfn9 hst hfn kd q hbb
 have hS : ∀ w', Below w12.heap.size w12 w' → w'.cell? ⟨w7.heap.size, 0, none⟩ = some (.slice (some ⟨gx1, 0, none⟩) x.frames.length x.frames.length) ∧ w'.cell? ⟨w7.heap.size, 1, none⟩ = some (.slice (some ⟨gx2, 0, none⟩) x.heap.length x.heap.length) ∧ w'.cell? ⟨w7.heap.size, 2, none⟩ = some (.int .i64 x.made) ∧ w'.cell? ⟨w7.heap.size, 3, none⟩ = some (.slice (some ⟨gx3, 0, none⟩) x.out.length x.out.length) ∧ w'.cell? ⟨w7.heap.size, 4, none⟩ = some (.int .i64 x.status) ∧ w'.cell? ⟨w7.heap.size, 5, none⟩ = some (.int .i64 x.trap) ∧ w'.cell? ⟨w7.heap.size, 6, none⟩ = some (.int .i64 x.value.k) ∧ w'.cell? ⟨w7.heap.size, 7, none⟩ = some (.int .i64 x.value.n) ∧ w'.cell? ⟨w7.heap.size, 8, none⟩ = some (.string x.value.s) ∧ w'.cell? ⟨w7.heap.size, 9, none⟩ = some (.int .i64 x.steps) ∧ w'.cell? ⟨w.heap.size + 1, 0, none⟩ = some (.slice fa x.frames.length fc) ∧ w'.cell? ⟨w.heap.size + 1, 1, none⟩ = some (.slice ha x.heap.length hc) ∧ w'.cell? ⟨w.heap.size + 1, 2, none⟩ = some (.int .i64 x.made) ∧ w'.cell? ⟨w.heap.size + 1, 3, none⟩ = some (.slice oa x.out.length oc) ∧ w'.cell? ⟨w.heap.size + 1, 4, none⟩ = some (.int .i64 x.status) ∧ w'.cell? ⟨w.heap.size + 1, 5, none⟩ = some (.int .i64 x.trap) ∧ w'.cell? ⟨w.heap.size + 1, 6, none⟩ = some (.int .i64 x.value.k) ∧ w'.cell? ⟨w.heap.size + 1, 7, none⟩ = some (.int .i64 x.value.n) ∧ w'.cell? ⟨w.heap.size + 1, 8, none⟩ = some (.string x.value.s) ∧ w'.cell? ⟨w.heap.size + 1, 9, none⟩ = some (.int .i64 x.steps) := fun w' q => ⟨by rw [block_cell (block_kept hQ q)]; rfl, by rw [block_cell (block_kept hQ q)]; rfl, by rw [block_cell (block_kept hQ q)]; rfl, by rw [block_cell (block_kept hQ q)]; rfl, by rw [block_cell (block_kept hQ q)]; rfl, by rw [block_cell (block_kept hQ q)]; rfl, by rw [block_cell (block_kept hQ q)]; rfl, by rw [block_cell (block_kept hQ q)]; rfl, by rw [block_cell (block_kept hQ q)]; rfl, by rw [block_cell (block_kept hQ q)]; rfl, by rw [block_cell (block_kept hX q)]; rfl, by rw [block_cell (block_kept hX q)]; rfl, by rw [block_cell (block_kept hX q)]; rfl, by rw [block_cell (block_kept hX q)]; rfl, by rw [block_cell (block_kept hX q)]; rfl, by rw [block_cell (block_kept hX q)]; rfl, by rw [block_cell (block_kept hX q)]; rfl, by rw [block_cell (block_kept hX q)]; rfl, by rw [block_cell (block_kept hX q)]; rfl, by rw [block_cell (block_kept hX q)]; rfl⟩
 have HS := hid hS
 obtain ⟨j0, j1, j2, j3, j4, j5, j6, j7, j8, j9, j10, j11, j12, j13, j14, j15, j16, j17, j18, j19⟩ := hS w12 (Below.refl _ _)
 have HMH := hid hM
 have HXH := hid hX
 have HYH := hid hY
 have HPH := hid hP
 have HQH := hid hQ
 have HRH := hid hR
 have HBH := hid hB
 clear hS hB hM hX hY hP hQ hR
 have q : Below w12.heap.size w12 w12.drew := (Below.refl _ _).drew
 go_wp2
 go_region_held3 (fun w' => w'.cell? ⟨w7.heap.size, 0, none⟩ = some (.slice (some ⟨gx1, 0, none⟩) x.frames.length x.frames.length) ∧ w'.cell? ⟨w7.heap.size, 1, none⟩ = some (.slice (some ⟨gx2, 0, none⟩) x.heap.length x.heap.length) ∧ w'.cell? ⟨w7.heap.size, 2, none⟩ = some (.int .i64 x.made) ∧ w'.cell? ⟨w7.heap.size, 3, none⟩ = some (.slice (some ⟨gx3, 0, none⟩) x.out.length x.out.length) ∧ w'.cell? ⟨w7.heap.size, 4, none⟩ = some (.int .i64 x.status) ∧ w'.cell? ⟨w7.heap.size, 5, none⟩ = some (.int .i64 x.trap) ∧ w'.cell? ⟨w7.heap.size, 6, none⟩ = some (.int .i64 x.value.k) ∧ w'.cell? ⟨w7.heap.size, 7, none⟩ = some (.int .i64 x.value.n) ∧ w'.cell? ⟨w7.heap.size, 8, none⟩ = some (.string x.value.s) ∧ w'.cell? ⟨w7.heap.size, 9, none⟩ = some (.int .i64 x.steps) ∧ w'.cell? ⟨w.heap.size + 1, 0, none⟩ = some (.slice fa x.frames.length fc) ∧ w'.cell? ⟨w.heap.size + 1, 1, none⟩ = some (.slice ha x.heap.length hc) ∧ w'.cell? ⟨w.heap.size + 1, 2, none⟩ = some (.int .i64 x.made) ∧ w'.cell? ⟨w.heap.size + 1, 3, none⟩ = some (.slice oa x.out.length oc) ∧ w'.cell? ⟨w.heap.size + 1, 4, none⟩ = some (.int .i64 x.status) ∧ w'.cell? ⟨w.heap.size + 1, 5, none⟩ = some (.int .i64 x.trap) ∧ w'.cell? ⟨w.heap.size + 1, 6, none⟩ = some (.int .i64 x.value.k) ∧ w'.cell? ⟨w.heap.size + 1, 7, none⟩ = some (.int .i64 x.value.n) ∧ w'.cell? ⟨w.heap.size + 1, 8, none⟩ = some (.string x.value.s) ∧ w'.cell? ⟨w.heap.size + 1, 9, none⟩ = some (.int .i64 x.steps))
  (first | exact ⟨j0, j1, j2, j3, j4, j5, j6, j7, j8, j9, j10, j11, j12, j13, j14, j15, j16, j17, j18, j19⟩ | exact HS.out _ q)
  (first
   | (go_at_call 9; refine (toVm_any fa ha oa fc hc oc x _ hxx (by exact hv1.mono (HBH.out.trans (q.mono HBH.out.size)))).mono ?_; rintro e wx ⟨k1, k2, k3, rfl, hvm, kd⟩; have q := q.trans (kd.mono q.size))
   | (go_at_call 11; refine (eqVm_any _ _ _ _ _ _ _ _ _ _ _ _ x _ hxx (by exact hvx.mono q) (by exact hvm.low (Nat.zero_le _))).mono ?_; rintro e w13 ⟨rfl, kd⟩; have q := q.trans (kd.mono q.size)))
 have hM := block_kept HMH.out q
 have hX := block_kept HXH.out q
 have hY := block_kept HYH.out q
 have hP := block_kept HPH.out q
 have hQ := block_kept HQH.out q
 have hR := block_kept HRH.out q
 have hB := HBH.out.trans (q.mono HBH.out.size)
 clear HS HBH HMH HXH HYH HPH HQH HRH j0 j1 j2 j3 j4 j5 j6 j7 j8 j9 j10 j11 j12 j13 j14 j15 j16 j17 j18 j19
 have hvy := hvy.mono q
 clear hvm hvx kd q
 have hS : ∀ w', Below w13.heap.size w13 w' → w'.cell? ⟨w9.heap.size, 0, none⟩ = some (.slice (some ⟨gy1, 0, none⟩) y.frames.length y.frames.length) ∧ w'.cell? ⟨w9.heap.size, 1, none⟩ = some (.slice (some ⟨gy2, 0, none⟩) y.heap.length y.heap.length) ∧ w'.cell? ⟨w9.heap.size, 2, none⟩ = some (.int .i64 y.made) ∧ w'.cell? ⟨w9.heap.size, 3, none⟩ = some (.slice (some ⟨gy3, 0, none⟩) y.out.length y.out.length) ∧ w'.cell? ⟨w9.heap.size, 4, none⟩ = some (.int .i64 y.status) ∧ w'.cell? ⟨w9.heap.size, 5, none⟩ = some (.int .i64 y.trap) ∧ w'.cell? ⟨w9.heap.size, 6, none⟩ = some (.int .i64 y.value.k) ∧ w'.cell? ⟨w9.heap.size, 7, none⟩ = some (.int .i64 y.value.n) ∧ w'.cell? ⟨w9.heap.size, 8, none⟩ = some (.string y.value.s) ∧ w'.cell? ⟨w9.heap.size, 9, none⟩ = some (.int .i64 y.steps) ∧ w'.cell? ⟨w.heap.size + 1 + 1, 0, none⟩ = some (.slice fb y.frames.length fd) ∧ w'.cell? ⟨w.heap.size + 1 + 1, 1, none⟩ = some (.slice hb y.heap.length hd) ∧ w'.cell? ⟨w.heap.size + 1 + 1, 2, none⟩ = some (.int .i64 y.made) ∧ w'.cell? ⟨w.heap.size + 1 + 1, 3, none⟩ = some (.slice ob y.out.length od) ∧ w'.cell? ⟨w.heap.size + 1 + 1, 4, none⟩ = some (.int .i64 y.status) ∧ w'.cell? ⟨w.heap.size + 1 + 1, 5, none⟩ = some (.int .i64 y.trap) ∧ w'.cell? ⟨w.heap.size + 1 + 1, 6, none⟩ = some (.int .i64 y.value.k) ∧ w'.cell? ⟨w.heap.size + 1 + 1, 7, none⟩ = some (.int .i64 y.value.n) ∧ w'.cell? ⟨w.heap.size + 1 + 1, 8, none⟩ = some (.string y.value.s) ∧ w'.cell? ⟨w.heap.size + 1 + 1, 9, none⟩ = some (.int .i64 y.steps) := fun w' q => ⟨by rw [block_cell (block_kept hR q)]; rfl, by rw [block_cell (block_kept hR q)]; rfl, by rw [block_cell (block_kept hR q)]; rfl, by rw [block_cell (block_kept hR q)]; rfl, by rw [block_cell (block_kept hR q)]; rfl, by rw [block_cell (block_kept hR q)]; rfl, by rw [block_cell (block_kept hR q)]; rfl, by rw [block_cell (block_kept hR q)]; rfl, by rw [block_cell (block_kept hR q)]; rfl, by rw [block_cell (block_kept hR q)]; rfl, by rw [block_cell (block_kept hY q)]; rfl, by rw [block_cell (block_kept hY q)]; rfl, by rw [block_cell (block_kept hY q)]; rfl, by rw [block_cell (block_kept hY q)]; rfl, by rw [block_cell (block_kept hY q)]; rfl, by rw [block_cell (block_kept hY q)]; rfl, by rw [block_cell (block_kept hY q)]; rfl, by rw [block_cell (block_kept hY q)]; rfl, by rw [block_cell (block_kept hY q)]; rfl, by rw [block_cell (block_kept hY q)]; rfl⟩
 have HS := hid hS
 obtain ⟨j0, j1, j2, j3, j4, j5, j6, j7, j8, j9, j10, j11, j12, j13, j14, j15, j16, j17, j18, j19⟩ := hS w13 (Below.refl _ _)
 have HMH := hid hM
 have HXH := hid hX
 have HYH := hid hY
 have HPH := hid hP
 have HQH := hid hQ
 have HRH := hid hR
 have HBH := hid hB
 clear hS hB hM hX hY hP hQ hR
 have q : Below w13.heap.size w13 w13.drew := (Below.refl _ _).drew
 go_wp2
 go_region_held3 (fun w' => w'.cell? ⟨w9.heap.size, 0, none⟩ = some (.slice (some ⟨gy1, 0, none⟩) y.frames.length y.frames.length) ∧ w'.cell? ⟨w9.heap.size, 1, none⟩ = some (.slice (some ⟨gy2, 0, none⟩) y.heap.length y.heap.length) ∧ w'.cell? ⟨w9.heap.size, 2, none⟩ = some (.int .i64 y.made) ∧ w'.cell? ⟨w9.heap.size, 3, none⟩ = some (.slice (some ⟨gy3, 0, none⟩) y.out.length y.out.length) ∧ w'.cell? ⟨w9.heap.size, 4, none⟩ = some (.int .i64 y.status) ∧ w'.cell? ⟨w9.heap.size, 5, none⟩ = some (.int .i64 y.trap) ∧ w'.cell? ⟨w9.heap.size, 6, none⟩ = some (.int .i64 y.value.k) ∧ w'.cell? ⟨w9.heap.size, 7, none⟩ = some (.int .i64 y.value.n) ∧ w'.cell? ⟨w9.heap.size, 8, none⟩ = some (.string y.value.s) ∧ w'.cell? ⟨w9.heap.size, 9, none⟩ = some (.int .i64 y.steps) ∧ w'.cell? ⟨w.heap.size + 1 + 1, 0, none⟩ = some (.slice fb y.frames.length fd) ∧ w'.cell? ⟨w.heap.size + 1 + 1, 1, none⟩ = some (.slice hb y.heap.length hd) ∧ w'.cell? ⟨w.heap.size + 1 + 1, 2, none⟩ = some (.int .i64 y.made) ∧ w'.cell? ⟨w.heap.size + 1 + 1, 3, none⟩ = some (.slice ob y.out.length od) ∧ w'.cell? ⟨w.heap.size + 1 + 1, 4, none⟩ = some (.int .i64 y.status) ∧ w'.cell? ⟨w.heap.size + 1 + 1, 5, none⟩ = some (.int .i64 y.trap) ∧ w'.cell? ⟨w.heap.size + 1 + 1, 6, none⟩ = some (.int .i64 y.value.k) ∧ w'.cell? ⟨w.heap.size + 1 + 1, 7, none⟩ = some (.int .i64 y.value.n) ∧ w'.cell? ⟨w.heap.size + 1 + 1, 8, none⟩ = some (.string y.value.s) ∧ w'.cell? ⟨w.heap.size + 1 + 1, 9, none⟩ = some (.int .i64 y.steps))
  (first | exact ⟨j0, j1, j2, j3, j4, j5, j6, j7, j8, j9, j10, j11, j12, j13, j14, j15, j16, j17, j18, j19⟩ | exact HS.out _ q)
  (first
   | (go_at_call 9; refine (toVm_any fb hb ob fd hd od y _ hxy (by exact hv2.mono (HBH.out.trans (q.mono HBH.out.size)))).mono ?_; rintro e wx ⟨k1, k2, k3, rfl, hvm, kd⟩; have q := q.trans (kd.mono q.size))
   | (go_at_call 11; refine (eqVm_any _ _ _ _ _ _ _ _ _ _ _ _ y _ hxy (by exact hvy.mono q) (by exact hvm.low (Nat.zero_le _))).mono ?_; rintro e w14 ⟨rfl, kd⟩; have q := q.trans (kd.mono q.size)))
 have hM := block_kept HMH.out q
 have hX := block_kept HXH.out q
 have hY := block_kept HYH.out q
 have hP := block_kept HPH.out q
 have hQ := block_kept HQH.out q
 have hR := block_kept HRH.out q
 have hB := HBH.out.trans (q.mono HBH.out.size)
 clear HS HBH HMH HXH HYH HPH HQH HRH j0 j1 j2 j3 j4 j5 j6 j7 j8 j9 j10 j11 j12 j13 j14 j15 j16 j17 j18 j19
 go_wp2
 go_ret
 exact ⟨rfl, hB⟩
end Go.Proofs.YtcfbahaokmhbkaaGreat
