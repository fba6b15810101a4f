/-
The law laws.FnExactEnters, walked.
-/
import Derived.Test.YtbjmgmmekmfjhaaGreatDoorE23
import Derived.Test.YtbjmgmmekmfjhaaGreatDoorE30
import Derived.Test.YtbjmgmmekmfjhaaGreatDoorE24
import Derived.Test.YtbjmgmmekmfjhaaGreatDoorE31
import Derived.Test.YtbjmgmmekmfjhaaGreatDoorE32
import Derived.Test.YtbjmgmmekmfjhaaGreatDoorE21
import Derived.Test.YtbjmgmmekmfjhaaGreatDoorE2
import Derived.Test.YtbjmgmmekmfjhaaGreatDoorE39
import Derived.Test.YtbjmgmmekmfjhaaGreatDoorE33
import Derived.Deep.RegionHeld3
namespace Go.Proofs.YtbjmgmmekmfjhaaGreatDoor
set_option maxRecDepth 100000
open Go.RowKit
theorem hid {p : Prop} (h : p) : Hid p := h
set_option maxHeartbeats 16000000 in
theorem lawEnters (SF : SFast) (a1 a2 oa ea : Option Addr) (ts : List ByteArray) (fs : List Fn) (D : FastD) (c1 c2 oc ec : Nat) (d : VmD) (fa ha ua : Option Addr) (fc hcp uc : Nat) (w : World) (hn : ts.length ≤ maxLen) (hcc : ∀ s ∈ ts, s.size ≤ maxLen) (hst0 : StrsAt w 0 a1 ts)
  (hn2 : fs.length ≤ maxLen) (hc2 : ∀ f ∈ fs, f.code.length ≤ maxLen) (hfn0 : FnsAt w 0 a2 fs) (hfm : FastMax D) (hf0 : FastAt w 0 oa ea D) (hvm : VmMax d) (hv0 : VmAt w 0 fa ha ua d) (hsh : ShAt w) (hDB : DB w) :
  Calls Tryz.prog 6 #[.agg #[.slice a1 ts.length c1, .slice a2 fs.length c2], .agg (fastCells oa ea oc ec D), .agg (vmCells fa ha ua fc hcp uc d)] w fun e w' => e = .returned (.bool true) ∧ Below w.heap.size w w' := by
 have hszF := fun (l : Int) (w : World) (h0 : 0 ≤ l) (h1 : l ≤ 1048576) (h : FastAt w 0 oa ea D) => szFast_any oa ea oc ec D l w h0 h1 hfm h
 have htoF := fun (w : World) (hx : FastSmall D) (h : FastAt w 0 oa ea D) => toFast_any oa ea oc ec D w hx h
 have heqF := fun (q1 q2 q3 q4 : Option Addr) (n1 n2 n3 n4 : Nat) (w : World) (hx : FastSmall D) (h : FastAt w 0 q1 q2 D) (h2 : FastAt w 0 q3 q4 D) => eqFast_any q1 q2 q3 q4 n1 n2 n3 n4 D w hx h h2
 have hspc := fun (q1 q2 q3 q4 : Option Addr) (n1 n2 n3 n4 : Nat) (q5 q6 q7 : Option Addr) (n5 n6 n7 : Nat) (w : World) (hs : Small ts fs) (hd : FastSmall D) (hv : VmSmall d) (k1 : StrsAt w 0 q1 ts) (k2 : FnsAt w 0 q2 fs) (k3 : FastAt w 0 q3 q4 D) (k4 : VmAt w 0 q5 q6 q7 d) => sEnters_any SF q1 q2 q3 q4 n1 n2 n3 n4 ts fs D q5 q6 q7 n5 n6 n7 d w hs hd hv k1 k2 k3 k4
 have himp := fun (q1 q2 q3 q4 : Option Addr) (n1 n2 n3 n4 : Nat) (q5 q6 q7 : Option Addr) (n6 n7 : Nat) (w : World) (hs : Small ts fs) (hd : FastSmall D) (hv : VmSmall d) (k1 : StrsAt w 0 q1 ts) (k2 : FnsAt w 0 q2 fs) (k3 : FastAt w 0 q3 q4 D) (k4 : VmAt w 0 q5 q6 q7 d) (k5 : ShAt w) (k6 : DB w) => iEnters_any q1 q2 q3 q4 n1 n2 n3 n4 ts fs D q5 q6 q7 d.frames.length n6 n7 d w hs hd hv k1 k2 k3 k4 k5 k6
 have htoV := fun (w : World) (hx : VmSmall d) (h : VmAt w 0 fa ha ua d) => toVm_any fa ha ua fc hcp uc d w hx h
 have heqV := fun (q1 q2 q3 q4 q5 q6 : Option Addr) (n1 n2 n3 n4 n5 n6 : Nat) (w : World) (hx : VmSmall d) (h : VmAt w 0 q1 q2 q3 d) (h2 : VmAt w 0 q4 q5 q6 d) => eqVm_any q1 q2 q3 q4 q5 q6 n1 n2 n3 n4 n5 n6 d w hx h h2
 unfold fastCells at hszF htoF heqF hspc himp ⊢
 unfold vmCells at htoV heqV hspc himp ⊢
 have HSZF := hid hszF
 have HTOF := hid htoF
 have HEQF := hid heqF
 have HSPC := hid hspc
 have HIMP := hid himp
 have HTOV := hid htoV
 have HEQV := hid heqV
 clear hszF htoF heqF hspc himp htoV heqV
 obtain ⟨w0, hw0⟩ : ∃ w0, w0 = (((w.alloc (.cells #[.slice a1 ts.length c1, .slice a2 fs.length c2] 25)).alloc (.cells #[.int .i64 D.fn, .int .i64 D.entry, .int .i64 D.vals, .int .i64 D.nums, .slice oa D.ops.length oc, .slice ea D.exits.length ec] 29)).alloc (.cells #[.slice fa d.frames.length fc, .slice ha d.heap.length hcp, .int .i64 d.made, .slice ua d.out.length uc, .int .i64 d.status, .int .i64 d.trap, .int .i64 d.value.k, .int .i64 d.value.n, .string d.value.s, .int .i64 d.steps] 77)) := ⟨_, rfl⟩
 have hB : Below w.heap.size w w0 := by rw [hw0]; exact (((Below.refl _ _).alloc (Nat.le_refl _) _).alloc (by simp) _).alloc (by simp; omega) _
 have hM : w0.heap[w.heap.size]? = some (.cells #[.slice a1 ts.length c1, .slice a2 fs.length c2] 25 (0, 0)) := by rw [hw0]; exact block_old (block_old (block_new _ _ _) _) _
 have hF : w0.heap[w.heap.size + 1]? = some (.cells #[.int .i64 D.fn, .int .i64 D.entry, .int .i64 D.vals, .int .i64 D.nums, .slice oa D.ops.length oc, .slice ea D.exits.length ec] 29 (0, 0)) := by rw [hw0]; exact block_old (block_new_at _ _ _ _ (by simp)) _
 have hV : w0.heap[w.heap.size + 1 + 1]? = some (.cells #[.slice fa d.frames.length fc, .slice ha d.heap.length hcp, .int .i64 d.made, .slice ua d.out.length uc, .int .i64 d.status, .int .i64 d.trap, .int .i64 d.value.k, .int .i64 d.value.n, .string d.value.s, .int .i64 d.steps] 77 (0, 0)) := by rw [hw0]; exact block_new_at _ _ _ _ (by simp)
 go_enter Tryz.func6, Tryz.ntmps6
 go_wp2_with fail
 rw [← hw0]
 clear hw0
 refine (szModule_le a1 a2 ts fs c1 c2 _ hn hcc (hst0.mono hB) hn2 hc2 (hfn0.mono hB)).mono ?_
 rintro e w1 ⟨l, rfl, hl, hsm, hb1⟩
 have hM_n := block_kept hM hb1
 have hF_n := block_kept hF hb1
 have hV_n := block_kept hV hb1
 have hB_n := hB.trans (hb1.mono hB.size)
 clear hM hF hV hB
 have hM := hM_n
 have hF := hF_n
 have hV := hV_n
 have hB := hB_n
 clear hM_n hF_n hV_n hB_n
 clear hb1 hn hcc hn2 hc2
 by_cases hl0 : l < 0
 ·
  go_wp2_with fail
  go_ret
  exact ⟨rfl, hB⟩
 have hs := hsm (by omega)
 clear hsm
 have z1 := block_cell hF
 go_wp2_with fail
 clear z1
 refine (HSZF.out l _ (by omega) (by omega) (hf0.mono hB)).mono ?_
 rintro e w2 ⟨l2, rfl, hl2, hsm, hb2⟩
 have hM_n := block_kept hM hb2
 have hF_n := block_kept hF hb2
 have hV_n := block_kept hV hb2
 have hB_n := hB.trans (hb2.mono hB.size)
 clear hM hF hV hB
 have hM := hM_n
 have hF := hF_n
 have hV := hV_n
 have hB := hB_n
 clear hM_n hF_n hV_n hB_n
 clear hb2 hfm
 by_cases hl1 : l2 < 0
 ·
  go_wp2_with fail
  go_ret
  exact ⟨rfl, hB⟩
 have hd := hsm (by omega)
 clear hsm HSZF
 have z1 := block_cell hV
 go_wp2_with fail
 clear z1
 refine (szVm_any fa ha ua fc hcp uc d l2 _ (by omega) (by omega) hvm (hv0.frs.mono hB) (hv0.recs.mono hB) (hv0.out.mono hB)).mono ?_
 rintro e w3 ⟨l3, rfl, hl3, hsm, hb3⟩
 have hM_n := block_kept hM hb3
 have hF_n := block_kept hF hb3
 have hV_n := block_kept hV hb3
 have hB_n := hB.trans (hb3.mono hB.size)
 clear hM hF hV hB
 have hM := hM_n
 have hF := hF_n
 have hV := hV_n
 have hB := hB_n
 clear hM_n hF_n hV_n hB_n
 clear hb3 hvm
 by_cases hl4 : l3 < 0
 ·
  go_wp2_with fail
  go_ret
  exact ⟨rfl, hB⟩
 have hv := hsm (by omega)
 clear hsm hl hl0 hl2 hl1 hl3
 have hS : ∀ w', Below w3.heap.size w3 w' → w'.cell? ⟨w.heap.size, 0, none⟩ = some (.slice a1 ts.length c1) ∧ w'.cell? ⟨w.heap.size, 1, none⟩ = some (.slice a2 fs.length c2) ∧ w'.cell? ⟨w.heap.size + 1, 0, none⟩ = some (.int .i64 D.fn) ∧ w'.cell? ⟨w.heap.size + 1, 1, none⟩ = some (.int .i64 D.entry) ∧ w'.cell? ⟨w.heap.size + 1, 2, none⟩ = some (.int .i64 D.vals) ∧ w'.cell? ⟨w.heap.size + 1, 3, none⟩ = some (.int .i64 D.nums) ∧ w'.cell? ⟨w.heap.size + 1, 4, none⟩ = some (.slice oa D.ops.length oc) ∧ w'.cell? ⟨w.heap.size + 1, 5, none⟩ = some (.slice ea D.exits.length ec) ∧ w'.cell? ⟨w.heap.size + 1 + 1, 0, none⟩ = some (.slice fa d.frames.length fc) ∧ w'.cell? ⟨w.heap.size + 1 + 1, 1, none⟩ = some (.slice ha d.heap.length hcp) ∧ w'.cell? ⟨w.heap.size + 1 + 1, 2, none⟩ = some (.int .i64 d.made) ∧ w'.cell? ⟨w.heap.size + 1 + 1, 3, none⟩ = some (.slice ua d.out.length uc) ∧ w'.cell? ⟨w.heap.size + 1 + 1, 4, none⟩ = some (.int .i64 d.status) ∧ w'.cell? ⟨w.heap.size + 1 + 1, 5, none⟩ = some (.int .i64 d.trap) ∧ w'.cell? ⟨w.heap.size + 1 + 1, 6, none⟩ = some (.int .i64 d.value.k) ∧ w'.cell? ⟨w.heap.size + 1 + 1, 7, none⟩ = some (.int .i64 d.value.n) ∧ w'.cell? ⟨w.heap.size + 1 + 1, 8, none⟩ = some (.string d.value.s) ∧ w'.cell? ⟨w.heap.size + 1 + 1, 9, none⟩ = some (.int .i64 d.steps) := fun w' q => ⟨by rw [block_cell (block_kept hM q)]; rfl, by rw [block_cell (block_kept hM q)]; rfl, by rw [block_cell (block_kept hF q)]; rfl, by rw [block_cell (block_kept hF q)]; rfl, by rw [block_cell (block_kept hF q)]; rfl, by rw [block_cell (block_kept hF q)]; rfl, by rw [block_cell (block_kept hF q)]; rfl, by rw [block_cell (block_kept hF q)]; rfl, by rw [block_cell (block_kept hV q)]; rfl, by rw [block_cell (block_kept hV q)]; rfl, by rw [block_cell (block_kept hV q)]; rfl, by rw [block_cell (block_kept hV q)]; rfl, by rw [block_cell (block_kept hV q)]; rfl, by rw [block_cell (block_kept hV q)]; rfl, by rw [block_cell (block_kept hV q)]; rfl, by rw [block_cell (block_kept hV q)]; rfl, by rw [block_cell (block_kept hV q)]; rfl, by rw [block_cell (block_kept hV q)]; rfl⟩
 have HS := hid hS
 obtain ⟨j0, j1, j2, j3, j4, j5, j6, j7, j8, j9, j10, j11, j12, j13, j14, j15, j16, j17⟩ := hS w3 (Below.refl _ _)
 have HMH := hid hM
 have HFH := hid hF
 have HVH := hid hV
 have HBH := hid hB
 clear hS hB hM hF hV
 have q : Below w3.heap.size w3 w3.drew := (Below.refl _ _).drew
 go_wp2
 go_region_held3 (fun w' => w'.cell? ⟨w.heap.size, 0, none⟩ = some (.slice a1 ts.length c1) ∧ w'.cell? ⟨w.heap.size, 1, none⟩ = some (.slice a2 fs.length c2) ∧ w'.cell? ⟨w.heap.size + 1, 0, none⟩ = some (.int .i64 D.fn) ∧ w'.cell? ⟨w.heap.size + 1, 1, none⟩ = some (.int .i64 D.entry) ∧ w'.cell? ⟨w.heap.size + 1, 2, none⟩ = some (.int .i64 D.vals) ∧ w'.cell? ⟨w.heap.size + 1, 3, none⟩ = some (.int .i64 D.nums) ∧ w'.cell? ⟨w.heap.size + 1, 4, none⟩ = some (.slice oa D.ops.length oc) ∧ w'.cell? ⟨w.heap.size + 1, 5, none⟩ = some (.slice ea D.exits.length ec) ∧ w'.cell? ⟨w.heap.size + 1 + 1, 0, none⟩ = some (.slice fa d.frames.length fc) ∧ w'.cell? ⟨w.heap.size + 1 + 1, 1, none⟩ = some (.slice ha d.heap.length hcp) ∧ w'.cell? ⟨w.heap.size + 1 + 1, 2, none⟩ = some (.int .i64 d.made) ∧ w'.cell? ⟨w.heap.size + 1 + 1, 3, none⟩ = some (.slice ua d.out.length uc) ∧ w'.cell? ⟨w.heap.size + 1 + 1, 4, none⟩ = some (.int .i64 d.status) ∧ w'.cell? ⟨w.heap.size + 1 + 1, 5, none⟩ = some (.int .i64 d.trap) ∧ w'.cell? ⟨w.heap.size + 1 + 1, 6, none⟩ = some (.int .i64 d.value.k) ∧ w'.cell? ⟨w.heap.size + 1 + 1, 7, none⟩ = some (.int .i64 d.value.n) ∧ w'.cell? ⟨w.heap.size + 1 + 1, 8, none⟩ = some (.string d.value.s) ∧ w'.cell? ⟨w.heap.size + 1 + 1, 9, none⟩ = some (.int .i64 d.steps))
  (first | exact ⟨j0, j1, j2, j3, j4, j5, j6, j7, j8, j9, j10, j11, j12, j13, j14, j15, j16, j17⟩ | exact HS.out _ q)
  (first
   | (go_at_call 10; refine (toModule_any a1 a2 ts fs c1 c2 _ hs (by exact hst0.mono (HBH.out.trans (q.mono HBH.out.size))) (by exact hfn0.mono (HBH.out.trans (q.mono HBH.out.size)))).mono ?_; rintro e wm ⟨gm, gm2, -, -, rfl, hst, hfn, kd⟩; have q := q.trans (kd.mono q.size))
   | (go_at_call 11; refine (HTOF.out _ hd (by exact hf0.mono (HBH.out.trans (q.mono HBH.out.size)))).mono ?_; rintro e wf ⟨gx1, gx2, rfl, hfx, kd⟩; have hst := hst.mono kd; have hfn := hfn.mono kd; have q := q.trans (kd.mono q.size))
   | (go_at_call 42; refine (HTOV.out _ hv (by exact hv0.mono (HBH.out.trans (q.mono HBH.out.size)))).mono ?_; rintro e wv ⟨gy1, gy2, gy3, rfl, hvx, kd⟩; have hst := hst.mono kd; have hfn := hfn.mono kd; have hfx := hfx.mono kd; have q := q.trans (kd.mono q.size))
   | (go_at_call 41; refine (HSPC.out _ _ _ _ _ _ _ _ _ _ _ _ _ _ _ hs hd hv (by exact hst.low (Nat.zero_le _)) (by exact hfn.low (Nat.zero_le _)) (by exact hfx.low (Nat.zero_le _)) (by exact hvx.low (Nat.zero_le _))).mono ?_; rintro e w4 ⟨rfl, kd⟩; have q := q.trans (kd.mono q.size)))
 have hM := block_kept HMH.out q
 have hF := block_kept HFH.out q
 have hV := block_kept HVH.out q
 have hB := HBH.out.trans (q.mono HBH.out.size)
 clear HS HBH HMH HFH HVH j0 j1 j2 j3 j4 j5 j6 j7 j8 j9 j10 j11 j12 j13 j14 j15 j16 j17
 clear hst hfn hfx hvx hl4 kd q HSPC
 have z1 := block_cell hM
 go_wp2_with fail
 clear z1
 refine (toModule_any a1 a2 ts fs c1 c2 _ hs (hst0.mono hB) (hfn0.mono hB)).mono ?_
 rintro e w5 ⟨p, p2, -, -, rfl, hst, hfn, hb5⟩
 have hM_n := block_kept hM hb5
 have hF_n := block_kept hF hb5
 have hV_n := block_kept hV hb5
 have hB_n := hB.trans (hb5.mono hB.size)
 clear hM hF hV hB
 have hM := hM_n
 have hF := hF_n
 have hV := hV_n
 have hB := hB_n
 clear hM_n hF_n hV_n hB_n
 clear hb5
 have hst := hst.low (Nat.zero_le _)
 have hfn := hfn.low (Nat.zero_le _)
 obtain ⟨w6, hw6⟩ : ∃ w6, w6 = w5.alloc (.cells #[.slice (some ⟨p, 0, none⟩) ts.length ts.length, .slice (some ⟨p2, 0, none⟩) fs.length fs.length] 36) := ⟨_, rfl⟩
 have hbq : Below w5.heap.size w5 w6 := by rw [hw6]; exact (Below.refl _ _).alloc (Nat.le_refl _) _
 have hP : w6.heap[w5.heap.size]? = some (.cells #[.slice (some ⟨p, 0, none⟩) ts.length ts.length, .slice (some ⟨p2, 0, none⟩) fs.length fs.length] 36 (0, 0)) := by rw [hw6]; exact block_new _ _ _
 have z1 := block_cell (block_old hF (.cells #[.slice (some ⟨p, 0, none⟩) ts.length ts.length, .slice (some ⟨p2, 0, none⟩) fs.length fs.length] 36))
 have hM_n := block_kept hM hbq
 have hF_n := block_kept hF hbq
 have hV_n := block_kept hV hbq
 have hst_n := hst.mono hbq
 have hfn_n := hfn.mono hbq
 have hB_n := hB.trans (hbq.mono hB.size)
 clear hM hF hV hst hfn hB
 have hM := hM_n
 have hF := hF_n
 have hV := hV_n
 have hst := hst_n
 have hfn := hfn_n
 have hB := hB_n
 clear hM_n hF_n hV_n hst_n hfn_n hB_n
 go_wp2_with fail
 rw [← hw6]
 clear hw6 z1 hbq
 refine (HTOF.out _ hd (hf0.mono hB)).mono ?_
 rintro e w7 ⟨gf1, gf2, rfl, hfx, hb7⟩
 have hfx := hfx.low (Nat.zero_le _)
 have hM_n := block_kept hM hb7
 have hF_n := block_kept hF hb7
 have hV_n := block_kept hV hb7
 have hP_n := block_kept hP hb7
 have hst_n := hst.mono hb7
 have hfn_n := hfn.mono hb7
 have hB_n := hB.trans (hb7.mono hB.size)
 clear hM hF hV hP hst hfn hB
 have hM := hM_n
 have hF := hF_n
 have hV := hV_n
 have hP := hP_n
 have hst := hst_n
 have hfn := hfn_n
 have hB := hB_n
 clear hM_n hF_n hV_n hP_n hst_n hfn_n hB_n
 obtain ⟨w8, hw8⟩ : ∃ w8, w8 = w7.alloc (.cells #[.int .i64 D.fn, .int .i64 D.entry, .int .i64 D.vals, .int .i64 D.nums, .slice (some ⟨gf1, 0, none⟩) D.ops.length D.ops.length, .slice (some ⟨gf2, 0, none⟩) D.exits.length D.exits.length] 41) := ⟨_, rfl⟩
 have hbq : Below w7.heap.size w7 w8 := by rw [hw8]; exact (Below.refl _ _).alloc (Nat.le_refl _) _
 have hQ : w8.heap[w7.heap.size]? = some (.cells #[.int .i64 D.fn, .int .i64 D.entry, .int .i64 D.vals, .int .i64 D.nums, .slice (some ⟨gf1, 0, none⟩) D.ops.length D.ops.length, .slice (some ⟨gf2, 0, none⟩) D.exits.length D.exits.length] 41 (0, 0)) := by rw [hw8]; exact block_new _ _ _
 have z1 := block_cell (block_old hV (.cells #[.int .i64 D.fn, .int .i64 D.entry, .int .i64 D.vals, .int .i64 D.nums, .slice (some ⟨gf1, 0, none⟩) D.ops.length D.ops.length, .slice (some ⟨gf2, 0, none⟩) D.exits.length D.exits.length] 41))
 have hM_n := block_kept hM hbq
 have hF_n := block_kept hF hbq
 have hV_n := block_kept hV hbq
 have hP_n := block_kept hP hbq
 have hst_n := hst.mono hbq
 have hfn_n := hfn.mono hbq
 have hfx_n := hfx.mono hbq
 have hB_n := hB.trans (hbq.mono hB.size)
 clear hM hF hV hP hst hfn hfx hB
 have hM := hM_n
 have hF := hF_n
 have hV := hV_n
 have hP := hP_n
 have hst := hst_n
 have hfn := hfn_n
 have hfx := hfx_n
 have hB := hB_n
 clear hM_n hF_n hV_n hP_n hst_n hfn_n hfx_n hB_n
 go_wp2_with fail
 rw [← hw8]
 clear hw8 z1 hbq hb7
 refine (HTOV.out _ hv (hv0.mono hB)).mono ?_
 rintro e w9 ⟨gv1, gv2, gv3, rfl, hvx, hb9⟩
 have hvx := hvx.low (Nat.zero_le _)
 have hM_n := block_kept hM hb9
 have hF_n := block_kept hF hb9
 have hV_n := block_kept hV hb9
 have hP_n := block_kept hP hb9
 have hQ_n := block_kept hQ hb9
 have hst_n := hst.mono hb9
 have hfn_n := hfn.mono hb9
 have hfx_n := hfx.mono hb9
 have hB_n := hB.trans (hb9.mono hB.size)
 clear hM hF hV hP hQ hst hfn hfx hB
 have hM := hM_n
 have hF := hF_n
 have hV := hV_n
 have hP := hP_n
 have hQ := hQ_n
 have hst := hst_n
 have hfn := hfn_n
 have hfx := hfx_n
 have hB := hB_n
 clear hM_n hF_n hV_n hP_n hQ_n hst_n hfn_n hfx_n hB_n
 obtain ⟨w10, hw10⟩ : ∃ w10, w10 = w9.alloc (.cells #[.slice (some ⟨gv1, 0, none⟩) d.frames.length d.frames.length, .slice (some ⟨gv2, 0, none⟩) d.heap.length d.heap.length, .int .i64 d.made, .slice (some ⟨gv3, 0, none⟩) d.out.length d.out.length, .int .i64 d.status, .int .i64 d.trap, .int .i64 d.value.k, .int .i64 d.value.n, .string d.value.s, .int .i64 d.steps] 82) := ⟨_, rfl⟩
 have hbq : Below w9.heap.size w9 w10 := by rw [hw10]; exact (Below.refl _ _).alloc (Nat.le_refl _) _
 have hR : w10.heap[w9.heap.size]? = some (.cells #[.slice (some ⟨gv1, 0, none⟩) d.frames.length d.frames.length, .slice (some ⟨gv2, 0, none⟩) d.heap.length d.heap.length, .int .i64 d.made, .slice (some ⟨gv3, 0, none⟩) d.out.length d.out.length, .int .i64 d.status, .int .i64 d.trap, .int .i64 d.value.k, .int .i64 d.value.n, .string d.value.s, .int .i64 d.steps] 82 (0, 0)) := by rw [hw10]; exact block_new _ _ _
 have z1 := block_cell (block_old hP (.cells #[.slice (some ⟨gv1, 0, none⟩) d.frames.length d.frames.length, .slice (some ⟨gv2, 0, none⟩) d.heap.length d.heap.length, .int .i64 d.made, .slice (some ⟨gv3, 0, none⟩) d.out.length d.out.length, .int .i64 d.status, .int .i64 d.trap, .int .i64 d.value.k, .int .i64 d.value.n, .string d.value.s, .int .i64 d.steps] 82))
 have z2 := block_cell (block_old hQ (.cells #[.slice (some ⟨gv1, 0, none⟩) d.frames.length d.frames.length, .slice (some ⟨gv2, 0, none⟩) d.heap.length d.heap.length, .int .i64 d.made, .slice (some ⟨gv3, 0, none⟩) d.out.length d.out.length, .int .i64 d.status, .int .i64 d.trap, .int .i64 d.value.k, .int .i64 d.value.n, .string d.value.s, .int .i64 d.steps] 82))
 have z3 := block_cell (block_new w9 #[.slice (some ⟨gv1, 0, none⟩) d.frames.length d.frames.length, .slice (some ⟨gv2, 0, none⟩) d.heap.length d.heap.length, .int .i64 d.made, .slice (some ⟨gv3, 0, none⟩) d.out.length d.out.length, .int .i64 d.status, .int .i64 d.trap, .int .i64 d.value.k, .int .i64 d.value.n, .string d.value.s, .int .i64 d.steps] 82)
 have hM_n := block_kept hM hbq
 have hF_n := block_kept hF hbq
 have hV_n := block_kept hV hbq
 have hP_n := block_kept hP hbq
 have hQ_n := block_kept hQ hbq
 have hst_n := hst.mono hbq
 have hfn_n := hfn.mono hbq
 have hfx_n := hfx.mono hbq
 have hvx_n := hvx.mono hbq
 have hB_n := hB.trans (hbq.mono hB.size)
 clear hM hF hV hP hQ hst hfn hfx hvx hB
 have hM := hM_n
 have hF := hF_n
 have hV := hV_n
 have hP := hP_n
 have hQ := hQ_n
 have hst := hst_n
 have hfn := hfn_n
 have hfx := hfx_n
 have hvx := hvx_n
 have hB := hB_n
 clear hM_n hF_n hV_n hP_n hQ_n hst_n hfn_n hfx_n hvx_n hB_n
 go_wp2_with fail
 rw [← hw10]
 clear hw10 z1 z2 z3 hbq hb9
 refine (HIMP.out _ _ _ _ _ _ _ _ _ _ _ _ _ _ hs hd hv hst hfn hfx hvx (hsh.mono hB) (hDB.mono hB)).mono ?_
 rintro e w11 ⟨rfl, hb11⟩
 have hM_n := block_kept hM hb11
 have hF_n := block_kept hF hb11
 have hV_n := block_kept hV hb11
 have hP_n := block_kept hP hb11
 have hQ_n := block_kept hQ hb11
 have hR_n := block_kept hR hb11
 have hst_n := hst.mono hb11
 have hfn_n := hfn.mono hb11
 have hfx_n := hfx.mono hb11
 have hvx_n := hvx.mono hb11
 have hB_n := hB.trans (hb11.mono hB.size)
 clear hM hF hV hP hQ hR hst hfn hfx hvx hB
 have hM := hM_n
 have hF := hF_n
 have hV := hV_n
 have hP := hP_n
 have hQ := hQ_n
 have hR := hR_n
 have hst := hst_n
 have hfn := hfn_n
 have hfx := hfx_n
 have hvx := hvx_n
 have hB := hB_n
 clear hM_n hF_n hV_n hP_n hQ_n hR_n hst_n hfn_n hfx_n hvx_n hB_n
 clear hb11 HIMP
 have hbb : (pB (EntersP ts fs D d) != pB (EntersP ts fs D d)) = false := by simp
 have hS : ∀ w', Below w11.heap.size w11 w' → w'.cell? ⟨w5.heap.size, 0, none⟩ = some (.slice (some ⟨p, 0, none⟩) ts.length ts.length) ∧ w'.cell? ⟨w5.heap.size, 1, none⟩ = some (.slice (some ⟨p2, 0, none⟩) fs.length fs.length) ∧ w'.cell? ⟨w.heap.size, 0, none⟩ = some (.slice a1 ts.length c1) ∧ w'.cell? ⟨w.heap.size, 1, none⟩ = some (.slice a2 fs.length c2) := fun w' q => ⟨by rw [block_cell (block_kept hP q)]; rfl, by rw [block_cell (block_kept hP q)]; rfl, by rw [block_cell (block_kept hM q)]; rfl, by rw [block_cell (block_kept hM q)]; rfl⟩
 have HS := hid hS
 obtain ⟨j0, j1, j2, j3⟩ := hS w11 (Below.refl _ _)
 have HMH := hid hM
 have HFH := hid hF
 have HVH := hid hV
 have HPH := hid hP
 have HQH := hid hQ
 have HRH := hid hR
 have HBH := hid hB
 clear hS hB hM hF hV hP hQ hR
 have q : Below w11.heap.size w11 w11.drew := (Below.refl _ _).drew
 go_wp2
 go_region_held3 (fun w' => w'.cell? ⟨w5.heap.size, 0, none⟩ = some (.slice (some ⟨p, 0, none⟩) ts.length ts.length) ∧ w'.cell? ⟨w5.heap.size, 1, none⟩ = some (.slice (some ⟨p2, 0, none⟩) fs.length fs.length) ∧ w'.cell? ⟨w.heap.size, 0, none⟩ = some (.slice a1 ts.length c1) ∧ w'.cell? ⟨w.heap.size, 1, none⟩ = some (.slice a2 fs.length c2))
  (first | exact ⟨j0, j1, j2, j3⟩ | exact HS.out _ q)
  (first
   | (go_at_call 10; refine (toModule_any a1 a2 ts fs c1 c2 _ hs (by exact hst0.mono (HBH.out.trans (q.mono HBH.out.size))) (by exact hfn0.mono (HBH.out.trans (q.mono HBH.out.size)))).mono ?_; rintro e wm ⟨gm, gm2, -, -, rfl, hst9, hfn9, kd⟩; have q := q.trans (kd.mono q.size))
   | (go_at_call 14; refine (eqModule_any _ _ _ _ ts fs _ _ _ _ _ hs (by exact hst.mono q) (by exact hst9.low (Nat.zero_le _)) (by exact hfn.mono q) (by exact hfn9.low (Nat.zero_le _))).mono ?_; rintro e w12 ⟨rfl, kd⟩; have q := q.trans (kd.mono q.size)))
 have hM := block_kept HMH.out q
 have hF := block_kept HFH.out q
 have hV := block_kept HVH.out q
 have hP := block_kept HPH.out q
 have hQ := block_kept HQH.out q
 have hR := block_kept HRH.out q
 have hB := HBH.out.trans (q.mono HBH.out.size)
 clear HS HBH HMH HFH HVH HPH HQH HRH j0 j1 j2 j3
 have hfx := hfx.mono q
 have hvx := hvx.mono q
 clear hst9 hfn9 hst hfn kd q hbb
 have hS : ∀ w', Below w12.heap.size w12 w' → w'.cell? ⟨w7.heap.size, 0, none⟩ = some (.int .i64 D.fn) ∧ w'.cell? ⟨w7.heap.size, 1, none⟩ = some (.int .i64 D.entry) ∧ w'.cell? ⟨w7.heap.size, 2, none⟩ = some (.int .i64 D.vals) ∧ w'.cell? ⟨w7.heap.size, 3, none⟩ = some (.int .i64 D.nums) ∧ w'.cell? ⟨w7.heap.size, 4, none⟩ = some (.slice (some ⟨gf1, 0, none⟩) D.ops.length D.ops.length) ∧ w'.cell? ⟨w7.heap.size, 5, none⟩ = some (.slice (some ⟨gf2, 0, none⟩) D.exits.length D.exits.length) ∧ w'.cell? ⟨w.heap.size + 1, 0, none⟩ = some (.int .i64 D.fn) ∧ w'.cell? ⟨w.heap.size + 1, 1, none⟩ = some (.int .i64 D.entry) ∧ w'.cell? ⟨w.heap.size + 1, 2, none⟩ = some (.int .i64 D.vals) ∧ w'.cell? ⟨w.heap.size + 1, 3, none⟩ = some (.int .i64 D.nums) ∧ w'.cell? ⟨w.heap.size + 1, 4, none⟩ = some (.slice oa D.ops.length oc) ∧ w'.cell? ⟨w.heap.size + 1, 5, none⟩ = some (.slice ea D.exits.length ec) := fun w' q => ⟨by rw [block_cell (block_kept hQ q)]; rfl, by rw [block_cell (block_kept hQ q)]; rfl, by rw [block_cell (block_kept hQ q)]; rfl, by rw [block_cell (block_kept hQ q)]; rfl, by rw [block_cell (block_kept hQ q)]; rfl, by rw [block_cell (block_kept hQ q)]; rfl, by rw [block_cell (block_kept hF q)]; rfl, by rw [block_cell (block_kept hF q)]; rfl, by rw [block_cell (block_kept hF q)]; rfl, by rw [block_cell (block_kept hF q)]; rfl, by rw [block_cell (block_kept hF q)]; rfl, by rw [block_cell (block_kept hF q)]; rfl⟩
 have HS := hid hS
 obtain ⟨j0, j1, j2, j3, j4, j5, j6, j7, j8, j9, j10, j11⟩ := hS w12 (Below.refl _ _)
 have HMH := hid hM
 have HFH := hid hF
 have HVH := hid hV
 have HPH := hid hP
 have HQH := hid hQ
 have HRH := hid hR
 have HBH := hid hB
 clear hS hB hM hF hV hP hQ hR
 have q : Below w12.heap.size w12 w12.drew := (Below.refl _ _).drew
 go_wp2
 go_region_held3 (fun w' => w'.cell? ⟨w7.heap.size, 0, none⟩ = some (.int .i64 D.fn) ∧ w'.cell? ⟨w7.heap.size, 1, none⟩ = some (.int .i64 D.entry) ∧ w'.cell? ⟨w7.heap.size, 2, none⟩ = some (.int .i64 D.vals) ∧ w'.cell? ⟨w7.heap.size, 3, none⟩ = some (.int .i64 D.nums) ∧ w'.cell? ⟨w7.heap.size, 4, none⟩ = some (.slice (some ⟨gf1, 0, none⟩) D.ops.length D.ops.length) ∧ w'.cell? ⟨w7.heap.size, 5, none⟩ = some (.slice (some ⟨gf2, 0, none⟩) D.exits.length D.exits.length) ∧ w'.cell? ⟨w.heap.size + 1, 0, none⟩ = some (.int .i64 D.fn) ∧ w'.cell? ⟨w.heap.size + 1, 1, none⟩ = some (.int .i64 D.entry) ∧ w'.cell? ⟨w.heap.size + 1, 2, none⟩ = some (.int .i64 D.vals) ∧ w'.cell? ⟨w.heap.size + 1, 3, none⟩ = some (.int .i64 D.nums) ∧ w'.cell? ⟨w.heap.size + 1, 4, none⟩ = some (.slice oa D.ops.length oc) ∧ w'.cell? ⟨w.heap.size + 1, 5, none⟩ = some (.slice ea D.exits.length ec))
  (first | exact ⟨j0, j1, j2, j3, j4, j5, j6, j7, j8, j9, j10, j11⟩ | exact HS.out _ q)
  (first
   | (go_at_call 11; refine (HTOF.out _ hd (by exact hf0.mono (HBH.out.trans (q.mono HBH.out.size)))).mono ?_; rintro e wf ⟨k1, k2, rfl, hfz, kd⟩; have q := q.trans (kd.mono q.size))
   | (go_at_call 15; refine (HEQF.out _ _ _ _ _ _ _ _ _ hd (by exact hfx.mono q) (by exact hfz.low (Nat.zero_le _))).mono ?_; rintro e w13 ⟨rfl, kd⟩; have q := q.trans (kd.mono q.size)))
 have hM := block_kept HMH.out q
 have hF := block_kept HFH.out q
 have hV := block_kept HVH.out q
 have hP := block_kept HPH.out q
 have hQ := block_kept HQH.out q
 have hR := block_kept HRH.out q
 have hB := HBH.out.trans (q.mono HBH.out.size)
 clear HS HBH HMH HFH HVH HPH HQH HRH j0 j1 j2 j3 j4 j5 j6 j7 j8 j9 j10 j11
 have hvx := hvx.mono q
 clear hfz hfx kd q
 have hS : ∀ w', Below w13.heap.size w13 w' → w'.cell? ⟨w9.heap.size, 0, none⟩ = some (.slice (some ⟨gv1, 0, none⟩) d.frames.length d.frames.length) ∧ w'.cell? ⟨w9.heap.size, 1, none⟩ = some (.slice (some ⟨gv2, 0, none⟩) d.heap.length d.heap.length) ∧ w'.cell? ⟨w9.heap.size, 2, none⟩ = some (.int .i64 d.made) ∧ w'.cell? ⟨w9.heap.size, 3, none⟩ = some (.slice (some ⟨gv3, 0, none⟩) d.out.length d.out.length) ∧ w'.cell? ⟨w9.heap.size, 4, none⟩ = some (.int .i64 d.status) ∧ w'.cell? ⟨w9.heap.size, 5, none⟩ = some (.int .i64 d.trap) ∧ w'.cell? ⟨w9.heap.size, 6, none⟩ = some (.int .i64 d.value.k) ∧ w'.cell? ⟨w9.heap.size, 7, none⟩ = some (.int .i64 d.value.n) ∧ w'.cell? ⟨w9.heap.size, 8, none⟩ = some (.string d.value.s) ∧ w'.cell? ⟨w9.heap.size, 9, none⟩ = some (.int .i64 d.steps) ∧ w'.cell? ⟨w.heap.size + 1 + 1, 0, none⟩ = some (.slice fa d.frames.length fc) ∧ w'.cell? ⟨w.heap.size + 1 + 1, 1, none⟩ = some (.slice ha d.heap.length hcp) ∧ w'.cell? ⟨w.heap.size + 1 + 1, 2, none⟩ = some (.int .i64 d.made) ∧ w'.cell? ⟨w.heap.size + 1 + 1, 3, none⟩ = some (.slice ua d.out.length uc) ∧ w'.cell? ⟨w.heap.size + 1 + 1, 4, none⟩ = some (.int .i64 d.status) ∧ w'.cell? ⟨w.heap.size + 1 + 1, 5, none⟩ = some (.int .i64 d.trap) ∧ w'.cell? ⟨w.heap.size + 1 + 1, 6, none⟩ = some (.int .i64 d.value.k) ∧ w'.cell? ⟨w.heap.size + 1 + 1, 7, none⟩ = some (.int .i64 d.value.n) ∧ w'.cell? ⟨w.heap.size + 1 + 1, 8, none⟩ = some (.string d.value.s) ∧ w'.cell? ⟨w.heap.size + 1 + 1, 9, none⟩ = some (.int .i64 d.steps) := fun w' q => ⟨by rw [block_cell (block_kept hR q)]; rfl, by rw [block_cell (block_kept hR q)]; rfl, by rw [block_cell (block_kept hR q)]; rfl, by rw [block_cell (block_kept hR q)]; rfl, by rw [block_cell (block_kept hR q)]; rfl, by rw [block_cell (block_kept hR q)]; rfl, by rw [block_cell (block_kept hR q)]; rfl, by rw [block_cell (block_kept hR q)]; rfl, by rw [block_cell (block_kept hR q)]; rfl, by rw [block_cell (block_kept hR q)]; rfl, by rw [block_cell (block_kept hV q)]; rfl, by rw [block_cell (block_kept hV q)]; rfl, by rw [block_cell (block_kept hV q)]; rfl, by rw [block_cell (block_kept hV q)]; rfl, by rw [block_cell (block_kept hV q)]; rfl, by rw [block_cell (block_kept hV q)]; rfl, by rw [block_cell (block_kept hV q)]; rfl, by rw [block_cell (block_kept hV q)]; rfl, by rw [block_cell (block_kept hV q)]; rfl, by rw [block_cell (block_kept hV q)]; rfl⟩
 have HS := hid hS
 obtain ⟨j0, j1, j2, j3, j4, j5, j6, j7, j8, j9, j10, j11, j12, j13, j14, j15, j16, j17, j18, j19⟩ := hS w13 (Below.refl _ _)
 have HMH := hid hM
 have HFH := hid hF
 have HVH := hid hV
 have HPH := hid hP
 have HQH := hid hQ
 have HRH := hid hR
 have HBH := hid hB
 clear hS hB hM hF hV hP hQ hR
 have q : Below w13.heap.size w13 w13.drew := (Below.refl _ _).drew
 go_wp2
 go_region_held3 (fun w' => w'.cell? ⟨w9.heap.size, 0, none⟩ = some (.slice (some ⟨gv1, 0, none⟩) d.frames.length d.frames.length) ∧ w'.cell? ⟨w9.heap.size, 1, none⟩ = some (.slice (some ⟨gv2, 0, none⟩) d.heap.length d.heap.length) ∧ w'.cell? ⟨w9.heap.size, 2, none⟩ = some (.int .i64 d.made) ∧ w'.cell? ⟨w9.heap.size, 3, none⟩ = some (.slice (some ⟨gv3, 0, none⟩) d.out.length d.out.length) ∧ w'.cell? ⟨w9.heap.size, 4, none⟩ = some (.int .i64 d.status) ∧ w'.cell? ⟨w9.heap.size, 5, none⟩ = some (.int .i64 d.trap) ∧ w'.cell? ⟨w9.heap.size, 6, none⟩ = some (.int .i64 d.value.k) ∧ w'.cell? ⟨w9.heap.size, 7, none⟩ = some (.int .i64 d.value.n) ∧ w'.cell? ⟨w9.heap.size, 8, none⟩ = some (.string d.value.s) ∧ w'.cell? ⟨w9.heap.size, 9, none⟩ = some (.int .i64 d.steps) ∧ w'.cell? ⟨w.heap.size + 1 + 1, 0, none⟩ = some (.slice fa d.frames.length fc) ∧ w'.cell? ⟨w.heap.size + 1 + 1, 1, none⟩ = some (.slice ha d.heap.length hcp) ∧ w'.cell? ⟨w.heap.size + 1 + 1, 2, none⟩ = some (.int .i64 d.made) ∧ w'.cell? ⟨w.heap.size + 1 + 1, 3, none⟩ = some (.slice ua d.out.length uc) ∧ w'.cell? ⟨w.heap.size + 1 + 1, 4, none⟩ = some (.int .i64 d.status) ∧ w'.cell? ⟨w.heap.size + 1 + 1, 5, none⟩ = some (.int .i64 d.trap) ∧ w'.cell? ⟨w.heap.size + 1 + 1, 6, none⟩ = some (.int .i64 d.value.k) ∧ w'.cell? ⟨w.heap.size + 1 + 1, 7, none⟩ = some (.int .i64 d.value.n) ∧ w'.cell? ⟨w.heap.size + 1 + 1, 8, none⟩ = some (.string d.value.s) ∧ w'.cell? ⟨w.heap.size + 1 + 1, 9, none⟩ = some (.int .i64 d.steps))
  (first | exact ⟨j0, j1, j2, j3, j4, j5, j6, j7, j8, j9, j10, j11, j12, j13, j14, j15, j16, j17, j18, j19⟩ | exact HS.out _ q)
  (first
   | (go_at_call 42; refine (HTOV.out _ hv (by exact hv0.mono (HBH.out.trans (q.mono HBH.out.size)))).mono ?_; rintro e wv ⟨k1, k2, k3, rfl, hvz, kd⟩; have q := q.trans (kd.mono q.size))
   | (go_at_call 44; refine (HEQV.out _ _ _ _ _ _ _ _ _ _ _ _ _ hv (by exact hvx.mono q) (by exact hvz.low (Nat.zero_le _))).mono ?_; rintro e w14 ⟨rfl, kd⟩; have q := q.trans (kd.mono q.size)))
 have hM := block_kept HMH.out q
 have hF := block_kept HFH.out q
 have hV := block_kept HVH.out q
 have hP := block_kept HPH.out q
 have hQ := block_kept HQH.out q
 have hR := block_kept HRH.out q
 have hB := HBH.out.trans (q.mono HBH.out.size)
 clear HS HBH HMH HFH HVH HPH HQH HRH j0 j1 j2 j3 j4 j5 j6 j7 j8 j9 j10 j11 j12 j13 j14 j15 j16 j17 j18 j19
 go_wp2
 go_ret
 exact ⟨rfl, hB⟩
end Go.Proofs.YtbjmgmmekmfjhaaGreatDoor
