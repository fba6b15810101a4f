/-
  What the law on the text of a state answers.
-/
import Derived.Test.YtfefbgemcakabaaGreatDoorTX7
import Derived.Test.YtfefbgemcakabaaGreatDoorVQ13
import Derived.Test.YtfefbgemcakabaaGreatDoorM5
namespace Go.Proofs.YtfefbgemcakabaaGreatDoor
open Go.RowKit

set_option maxRecDepth 100000 in
set_option maxHeartbeats 8000000 in
theorem lawVmText (a a2 : Option Addr) (ts : List ByteArray) (fs : List Fn) (cap cap2 : Nat) (fa ha oa : Option Addr) (fc hcp oc : Nat) (d : VmD) (w : World) (hn : ts.length ≤ maxLen) (hc : ∀ s ∈ ts, s.size ≤ maxLen) (hm : StrsAt w 0 a ts)
    (hn2 : fs.length ≤ maxLen) (hc2 : ∀ f ∈ fs, f.code.length ≤ maxLen) (hm2 : FnsAt w 0 a2 fs) (hx : VmMax d) (hv : VmAt w 0 fa ha oa d) (htab : TabP w) :
    Calls Tryz.prog 3 #[.agg #[.slice a ts.length cap, .slice a2 fs.length cap2], .agg (vmCells fa ha oa fc hcp oc d)] w fun e w' => e = .returned (.bool true) ∧ Below w.heap.size w w' := by
  have hA : Below w.heap.size w ((w.alloc (.cells #[.slice a ts.length cap, .slice a2 fs.length cap2] 25)).alloc (.cells #[.slice fa d.frames.length fc, .slice ha d.heap.length hcp, .int .i64 d.made, .slice oa d.out.length oc, .int .i64 d.status, .int .i64 d.trap, .int .i64 d.value.k, .int .i64 d.value.n, .string d.value.s, .int .i64 d.steps] 31)) := ((Below.refl _ _).alloc (Nat.le_refl _) _).alloc (by simp) _
  have hM0 := block_old (block_new w #[.slice a ts.length cap, .slice a2 fs.length cap2] 25) (.cells #[.slice fa d.frames.length fc, .slice ha d.heap.length hcp, .int .i64 d.made, .slice oa d.out.length oc, .int .i64 d.status, .int .i64 d.trap, .int .i64 d.value.k, .int .i64 d.value.n, .string d.value.s, .int .i64 d.steps] 31)
  have hV0 := block_new_at (w.alloc (.cells #[.slice a ts.length cap, .slice a2 fs.length cap2] 25)) #[.slice fa d.frames.length fc, .slice ha d.heap.length hcp, .int .i64 d.made, .slice oa d.out.length oc, .int .i64 d.status, .int .i64 d.trap, .int .i64 d.value.k, .int .i64 d.value.n, .string d.value.s, .int .i64 d.steps] 31 (w.heap.size + 1) (by simp)
  unfold vmCells
  go_enter Tryz.func3, Tryz.ntmps3
  go_wp2_with fail
  refine (szModule_le a a2 ts fs cap cap2 _ hn hc (hm.mono hA) hn2 hc2 (hm2.mono hA)).mono ?_
  rintro e w1 ⟨l, rfl, hl, hsm, hb1⟩
  have hM1 := block_kept hM0 hb1
  have hV1 := block_kept hV0 hb1
  have hB1 := hA.trans (hb1.mono hA.size)
  clear hM0 hV0 hA hb1 hn hc hn2 hc2
  by_cases hl0 : l < 0
  · go_wp2_with fail
    go_ret
    exact ⟨rfl, hB1⟩
  have hs := hsm (by omega)
  clear hsm
  have y1 := block_cell hV1
  go_wp2_with fail
  refine (szVm_any fa ha oa fc hcp oc d l _ (by omega) (by omega) hx (hv.frs.mono hB1) (hv.recs.mono hB1) (hv.out.mono hB1)).mono ?_
  rintro e w2 ⟨l2, rfl, hl2, hsm, hb2⟩
  have hM2 := block_kept hM1 hb2
  have hV2 := block_kept hV1 hb2
  have hB2 := hB1.trans (hb2.mono hB1.size)
  clear hM1 hV1 hB1 hb2 y1 hx
  by_cases hl1 : l2 < 0
  · go_wp2_with fail
    go_ret
    exact ⟨rfl, hB2⟩
  have hx := hsm (by omega)
  clear hsm
  have hS : ∀ w', Below w2.heap.size w2 w' → w'.cell? ⟨w.heap.size, 0, none⟩ = some (.slice a ts.length cap) ∧ w'.cell? ⟨w.heap.size, 1, none⟩ = some (.slice a2 fs.length cap2) ∧ w'.cell? ⟨w.heap.size + 1, 0, none⟩ = some (.slice fa d.frames.length fc) ∧ w'.cell? ⟨w.heap.size + 1, 1, none⟩ = some (.slice ha d.heap.length hcp) ∧ w'.cell? ⟨w.heap.size + 1, 2, none⟩ = some (.int .i64 d.made) ∧ w'.cell? ⟨w.heap.size + 1, 3, none⟩ = some (.slice oa d.out.length oc) ∧ w'.cell? ⟨w.heap.size + 1, 4, none⟩ = some (.int .i64 d.status) ∧ w'.cell? ⟨w.heap.size + 1, 5, none⟩ = some (.int .i64 d.trap) ∧ w'.cell? ⟨w.heap.size + 1, 6, none⟩ = some (.int .i64 d.value.k) ∧ w'.cell? ⟨w.heap.size + 1, 7, none⟩ = some (.int .i64 d.value.n) ∧ w'.cell? ⟨w.heap.size + 1, 8, none⟩ = some (.string d.value.s) ∧ w'.cell? ⟨w.heap.size + 1, 9, none⟩ = some (.int .i64 d.steps) := fun w' hb => ⟨by rw [block_cell (block_kept hM2 hb)]; rfl, by rw [block_cell (block_kept hM2 hb)]; rfl, by rw [block_cell (block_kept hV2 hb)]; rfl, by rw [block_cell (block_kept hV2 hb)]; rfl, by rw [block_cell (block_kept hV2 hb)]; rfl, by rw [block_cell (block_kept hV2 hb)]; rfl, by rw [block_cell (block_kept hV2 hb)]; rfl, by rw [block_cell (block_kept hV2 hb)]; rfl, by rw [block_cell (block_kept hV2 hb)]; rfl, by rw [block_cell (block_kept hV2 hb)]; rfl, by rw [block_cell (block_kept hV2 hb)]; rfl, by rw [block_cell (block_kept hV2 hb)]; rfl⟩
  have HS : Hid (∀ w', Below w2.heap.size w2 w' → w'.cell? ⟨w.heap.size, 0, none⟩ = some (.slice a ts.length cap) ∧ w'.cell? ⟨w.heap.size, 1, none⟩ = some (.slice a2 fs.length cap2) ∧ w'.cell? ⟨w.heap.size + 1, 0, none⟩ = some (.slice fa d.frames.length fc) ∧ w'.cell? ⟨w.heap.size + 1, 1, none⟩ = some (.slice ha d.heap.length hcp) ∧ w'.cell? ⟨w.heap.size + 1, 2, none⟩ = some (.int .i64 d.made) ∧ w'.cell? ⟨w.heap.size + 1, 3, none⟩ = some (.slice oa d.out.length oc) ∧ w'.cell? ⟨w.heap.size + 1, 4, none⟩ = some (.int .i64 d.status) ∧ w'.cell? ⟨w.heap.size + 1, 5, none⟩ = some (.int .i64 d.trap) ∧ w'.cell? ⟨w.heap.size + 1, 6, none⟩ = some (.int .i64 d.value.k) ∧ w'.cell? ⟨w.heap.size + 1, 7, none⟩ = some (.int .i64 d.value.n) ∧ w'.cell? ⟨w.heap.size + 1, 8, none⟩ = some (.string d.value.s) ∧ w'.cell? ⟨w.heap.size + 1, 9, none⟩ = some (.int .i64 d.steps)) := hS
  obtain ⟨j0, j1, j2, j3, j4, j5, j6, j7, j8, j9, j10, j11⟩ := hS w2 (Below.refl _ _)
  have HB : Hid (Below w.heap.size w w2) := hB2
  have q : Below w2.heap.size w2 w2.drew := (Below.refl _ _).drew
  have HM : Hid (w2.heap[w.heap.size]? = some (.cells #[.slice a ts.length cap, .slice a2 fs.length cap2] 25 (0, 0))) := hM2
  have HV : Hid (w2.heap[w.heap.size + 1]? = some (.cells #[.slice fa d.frames.length fc, .slice ha d.heap.length hcp, .int .i64 d.made, .slice oa d.out.length oc, .int .i64 d.status, .int .i64 d.trap, .int .i64 d.value.k, .int .i64 d.value.n, .string d.value.s, .int .i64 d.steps] 31 (0, 0))) := hV2
  clear hS hM2 hV2 hB2 hl0 hl hl2
  go_wp2
  clear hl1
  go_region_held3 (fun w' => w'.cell? ⟨w.heap.size, 0, none⟩ = some (.slice a ts.length cap) ∧ w'.cell? ⟨w.heap.size, 1, none⟩ = some (.slice a2 fs.length cap2) ∧ w'.cell? ⟨w.heap.size + 1, 0, none⟩ = some (.slice fa d.frames.length fc) ∧ w'.cell? ⟨w.heap.size + 1, 1, none⟩ = some (.slice ha d.heap.length hcp) ∧ w'.cell? ⟨w.heap.size + 1, 2, none⟩ = some (.int .i64 d.made) ∧ w'.cell? ⟨w.heap.size + 1, 3, none⟩ = some (.slice oa d.out.length oc) ∧ w'.cell? ⟨w.heap.size + 1, 4, none⟩ = some (.int .i64 d.status) ∧ w'.cell? ⟨w.heap.size + 1, 5, none⟩ = some (.int .i64 d.trap) ∧ w'.cell? ⟨w.heap.size + 1, 6, none⟩ = some (.int .i64 d.value.k) ∧ w'.cell? ⟨w.heap.size + 1, 7, none⟩ = some (.int .i64 d.value.n) ∧ w'.cell? ⟨w.heap.size + 1, 8, none⟩ = some (.string d.value.s) ∧ w'.cell? ⟨w.heap.size + 1, 9, none⟩ = some (.int .i64 d.steps))
    (first | exact ⟨j0, j1, j2, j3, j4, j5, j6, j7, j8, j9, j10, j11⟩ | exact HS.out _ q)
    (first
      | (go_at_call 7; refine (toModule_any a a2 ts fs cap cap2 _ hs (by exact hm.mono (HB.out.trans (q.mono HB.out.size))) (by exact hm2.mono (HB.out.trans (q.mono HB.out.size)))).mono ?_; rintro e wa ⟨g, g2, -, -, rfl, hst, hfn, kd⟩; have q := q.trans (kd.mono q.size))
      | (go_at_call 8; refine (toVm_any fa ha oa fc hcp oc d _ hx (by exact hv.mono (HB.out.trans (q.mono HB.out.size)))).mono ?_; rintro e wb ⟨p1, p2, p3, rfl, hvm, kd⟩; have hst := hst.mono kd; have hfn := hfn.mono kd; have q := q.trans (kd.mono q.size))
      | (go_at_call 6; refine (sVmText_any _ _ _ _ ts fs _ _ _ _ _ _ d _ hs (by exact hst.low (Nat.zero_le _)) (by exact hfn.low (Nat.zero_le _)) hx (by exact hvm.low (Nat.zero_le _))).mono ?_; rintro e w3 ⟨rfl, kd⟩; have q := q.trans (kd.mono q.size)))
  have hB3 := HB.out.trans (q.mono HB.out.size)
  have hM3 := block_kept HM.out q
  have hV3 := block_kept HV.out q
  have x3 := block_cell hM3
  clear j0 j1 j2 j3 j4 j5 j6 j7 j8 j9 j10 j11 HS HB HM HV q hst hfn hvm kd
  go_wp2_with fail
  refine (toModule_any a a2 ts fs cap cap2 _ hs (hm.mono hB3) (hm2.mono hB3)).mono ?_
  rintro e w4 ⟨p, p2, -, -, rfl, hst, hfn, hb4⟩
  have hM4 := block_kept hM3 hb4
  have hV4 := block_kept hV3 hb4
  have hB4 := hB3.trans (hb4.mono hB3.size)
  clear hM3 hV3 hB3 hb4 x3
  obtain ⟨w5, hw5⟩ : ∃ w5, w5 = w4.alloc (.cells #[.slice (some ⟨p, 0, none⟩) ts.length ts.length, .slice (some ⟨p2, 0, none⟩) fs.length fs.length] 37) := ⟨_, rfl⟩
  have hbq : Below w4.heap.size w4 w5 := by rw [hw5]; exact (Below.refl _ _).alloc (Nat.le_refl _) _
  have hX5 : w5.heap[w4.heap.size]? = some (.cells #[.slice (some ⟨p, 0, none⟩) ts.length ts.length, .slice (some ⟨p2, 0, none⟩) fs.length fs.length] 37 (0, 0)) := by rw [hw5]; exact block_new w4 _ _
  have hM5 := block_kept hM4 hbq
  have hV5 := block_kept hV4 hbq
  have hB5 := hB4.trans (hbq.mono hB4.size)
  have hst5 := (hst.low (Nat.zero_le _)).mono hbq
  have hfn5 := (hfn.low (Nat.zero_le _)).mono hbq
  have y5 := block_cell (block_old hV4 (.cells #[.slice (some ⟨p, 0, none⟩) ts.length ts.length, .slice (some ⟨p2, 0, none⟩) fs.length fs.length] 37))
  clear hM4 hV4 hB4 hbq hst hfn
  go_wp2_with fail
  rw [← hw5]
  clear hw5 y5
  refine (toVm_any fa ha oa fc hcp oc d _ hx (hv.mono hB5)).mono ?_
  rintro e w6 ⟨gv1, gv2, gv3, rfl, hvm, hb6⟩
  unfold vmCells
  have hM6 := block_kept hM5 hb6
  have hV6 := block_kept hV5 hb6
  have hX6 := block_kept hX5 hb6
  have hB6 := hB5.trans (hb6.mono hB5.size)
  have hst6 := hst5.mono hb6
  have hfn6 := hfn5.mono hb6
  have hvm6 := hvm.low (Nat.zero_le _)
  clear hM5 hV5 hX5 hB5 hb6 hst5 hfn5 hvm
  obtain ⟨w7, hw7⟩ : ∃ w7, w7 = w6.alloc (.cells #[.slice (some ⟨gv1, 0, none⟩) d.frames.length d.frames.length, .slice (some ⟨gv2, 0, none⟩) d.heap.length d.heap.length, .int .i64 d.made, .slice (some ⟨gv3, 0, none⟩) d.out.length d.out.length, .int .i64 d.status, .int .i64 d.trap, .int .i64 d.value.k, .int .i64 d.value.n, .string d.value.s, .int .i64 d.steps] 43) := ⟨_, rfl⟩
  have hbq : Below w6.heap.size w6 w7 := by rw [hw7]; exact (Below.refl _ _).alloc (Nat.le_refl _) _
  have hY7 : w7.heap[w6.heap.size]? = some (.cells #[.slice (some ⟨gv1, 0, none⟩) d.frames.length d.frames.length, .slice (some ⟨gv2, 0, none⟩) d.heap.length d.heap.length, .int .i64 d.made, .slice (some ⟨gv3, 0, none⟩) d.out.length d.out.length, .int .i64 d.status, .int .i64 d.trap, .int .i64 d.value.k, .int .i64 d.value.n, .string d.value.s, .int .i64 d.steps] 43 (0, 0)) := by rw [hw7]; exact block_new w6 _ _
  have hM7 := block_kept hM6 hbq
  have hV7 := block_kept hV6 hbq
  have hX7 := block_kept hX6 hbq
  have hB7 := hB6.trans (hbq.mono hB6.size)
  have hst7 := hst6.mono hbq
  have hfn7 := hfn6.mono hbq
  have hvm7 := hvm6.mono hbq
  have x7 := block_cell (block_old hX6 (.cells #[.slice (some ⟨gv1, 0, none⟩) d.frames.length d.frames.length, .slice (some ⟨gv2, 0, none⟩) d.heap.length d.heap.length, .int .i64 d.made, .slice (some ⟨gv3, 0, none⟩) d.out.length d.out.length, .int .i64 d.status, .int .i64 d.trap, .int .i64 d.value.k, .int .i64 d.value.n, .string d.value.s, .int .i64 d.steps] 43))
  clear hM6 hV6 hX6 hB6 hbq hst6 hfn6 hvm6
  go_wp2_with fail
  rw [← hw7]
  clear hw7 x7
  refine (iVmText_any _ _ _ _ ts fs _ _ _ _ _ _ d _ hs hst7 hfn7 hx hvm7 (htab.below hB7)).mono ?_
  rintro e w8 ⟨rfl, hb8⟩
  have hM8 := block_kept hM7 hb8
  have hV8 := block_kept hV7 hb8
  have hX8 := block_kept hX7 hb8
  have hY8 := block_kept hY7 hb8
  have hB8 := hB7.trans (hb8.mono hB7.size)
  have hst8 := hst7.mono hb8
  have hfn8 := hfn7.mono hb8
  have hvm8 := hvm7.mono hb8
  clear hM7 hV7 hX7 hY7 hB7 hb8 hst7 hfn7 hvm7
  generalize txT ts fs d = T at *
  have hS : ∀ w', Below w8.heap.size w8 w' → w'.cell? ⟨w4.heap.size, 0, none⟩ = some (.slice (some ⟨p, 0, none⟩) ts.length ts.length) ∧ w'.cell? ⟨w4.heap.size, 1, none⟩ = some (.slice (some ⟨p2, 0, none⟩) fs.length fs.length) ∧ w'.cell? ⟨w.heap.size, 0, none⟩ = some (.slice a ts.length cap) ∧ w'.cell? ⟨w.heap.size, 1, none⟩ = some (.slice a2 fs.length cap2) := fun w' hb => ⟨by rw [block_cell (block_kept hX8 hb)]; rfl, by rw [block_cell (block_kept hX8 hb)]; rfl, by rw [block_cell (block_kept hM8 hb)]; rfl, by rw [block_cell (block_kept hM8 hb)]; rfl⟩
  have HS : Hid (∀ w', Below w8.heap.size w8 w' → w'.cell? ⟨w4.heap.size, 0, none⟩ = some (.slice (some ⟨p, 0, none⟩) ts.length ts.length) ∧ w'.cell? ⟨w4.heap.size, 1, none⟩ = some (.slice (some ⟨p2, 0, none⟩) fs.length fs.length) ∧ w'.cell? ⟨w.heap.size, 0, none⟩ = some (.slice a ts.length cap) ∧ w'.cell? ⟨w.heap.size, 1, none⟩ = some (.slice a2 fs.length cap2)) := hS
  obtain ⟨j0, j1, j2, j3⟩ := hS w8 (Below.refl _ _)
  have HB : Hid (Below w.heap.size w w8) := hB8
  have HV : Hid (w8.heap[w.heap.size + 1]? = some (.cells #[.slice fa d.frames.length fc, .slice ha d.heap.length hcp, .int .i64 d.made, .slice oa d.out.length oc, .int .i64 d.status, .int .i64 d.trap, .int .i64 d.value.k, .int .i64 d.value.n, .string d.value.s, .int .i64 d.steps] 31 (0, 0))) := hV8
  have HY : Hid (w8.heap[w6.heap.size]? = some (.cells #[.slice (some ⟨gv1, 0, none⟩) d.frames.length d.frames.length, .slice (some ⟨gv2, 0, none⟩) d.heap.length d.heap.length, .int .i64 d.made, .slice (some ⟨gv3, 0, none⟩) d.out.length d.out.length, .int .i64 d.status, .int .i64 d.trap, .int .i64 d.value.k, .int .i64 d.value.n, .string d.value.s, .int .i64 d.steps] 43 (0, 0))) := hY8
  clear hS hM8 hV8 hX8 hY8 hB8
  go_wp2
  have q : Below w8.heap.size w8 w8.drew := (Below.refl _ _).drew
  go_region_held3 (fun w' => w'.cell? ⟨w4.heap.size, 0, none⟩ = some (.slice (some ⟨p, 0, none⟩) ts.length ts.length) ∧ w'.cell? ⟨w4.heap.size, 1, none⟩ = some (.slice (some ⟨p2, 0, none⟩) fs.length fs.length) ∧ w'.cell? ⟨w.heap.size, 0, none⟩ = some (.slice a ts.length cap) ∧ w'.cell? ⟨w.heap.size, 1, none⟩ = some (.slice a2 fs.length cap2))
    (first | exact ⟨j0, j1, j2, j3⟩ | exact HS.out _ q)
    (first
      | (go_at_call 7; refine (toModule_any a a2 ts fs cap cap2 _ hs (by exact hm.mono (HB.out.trans (q.mono HB.out.size))) (by exact hm2.mono (HB.out.trans (q.mono HB.out.size)))).mono ?_; rintro e wa ⟨g, g2, -, -, rfl, hst, hfn, kd⟩; have q := q.trans (kd.mono q.size))
      | (go_at_call 10; refine (eqModule_any _ _ _ _ ts fs _ _ _ _ _ hs (by exact hst8.mono q) (by exact hst.low (Nat.zero_le _)) (by exact hfn8.mono q) (by exact hfn.low (Nat.zero_le _))).mono ?_; rintro e w9 ⟨rfl, kd⟩; have q := q.trans (kd.mono q.size)))
  have hV9 := block_kept HV.out q
  have hY9 := block_kept HY.out q
  have hB9 := HB.out.trans (q.mono HB.out.size)
  have hvm9 := hvm8.mono q
  clear HS HB HV HY j0 j1 j2 j3 q hst hfn hst8 hfn8 hvm8 kd
  have hS : ∀ w', Below w9.heap.size w9 w' → w'.cell? ⟨w6.heap.size, 0, none⟩ = some (.slice (some ⟨gv1, 0, none⟩) d.frames.length d.frames.length) ∧ w'.cell? ⟨w6.heap.size, 1, none⟩ = some (.slice (some ⟨gv2, 0, none⟩) d.heap.length d.heap.length) ∧ w'.cell? ⟨w6.heap.size, 2, none⟩ = some (.int .i64 d.made) ∧ w'.cell? ⟨w6.heap.size, 3, none⟩ = some (.slice (some ⟨gv3, 0, none⟩) d.out.length d.out.length) ∧ w'.cell? ⟨w6.heap.size, 4, none⟩ = some (.int .i64 d.status) ∧ w'.cell? ⟨w6.heap.size, 5, none⟩ = some (.int .i64 d.trap) ∧ w'.cell? ⟨w6.heap.size, 6, none⟩ = some (.int .i64 d.value.k) ∧ w'.cell? ⟨w6.heap.size, 7, none⟩ = some (.int .i64 d.value.n) ∧ w'.cell? ⟨w6.heap.size, 8, none⟩ = some (.string d.value.s) ∧ w'.cell? ⟨w6.heap.size, 9, none⟩ = some (.int .i64 d.steps) ∧ w'.cell? ⟨w.heap.size + 1, 0, none⟩ = some (.slice fa d.frames.length fc) ∧ w'.cell? ⟨w.heap.size + 1, 1, none⟩ = some (.slice ha d.heap.length hcp) ∧ w'.cell? ⟨w.heap.size + 1, 2, none⟩ = some (.int .i64 d.made) ∧ w'.cell? ⟨w.heap.size + 1, 3, none⟩ = some (.slice oa d.out.length oc) ∧ w'.cell? ⟨w.heap.size + 1, 4, none⟩ = some (.int .i64 d.status) ∧ w'.cell? ⟨w.heap.size + 1, 5, none⟩ = some (.int .i64 d.trap) ∧ w'.cell? ⟨w.heap.size + 1, 6, none⟩ = some (.int .i64 d.value.k) ∧ w'.cell? ⟨w.heap.size + 1, 7, none⟩ = some (.int .i64 d.value.n) ∧ w'.cell? ⟨w.heap.size + 1, 8, none⟩ = some (.string d.value.s) ∧ w'.cell? ⟨w.heap.size + 1, 9, none⟩ = some (.int .i64 d.steps) := fun w' hb => ⟨by rw [block_cell (block_kept hY9 hb)]; rfl, by rw [block_cell (block_kept hY9 hb)]; rfl, by rw [block_cell (block_kept hY9 hb)]; rfl, by rw [block_cell (block_kept hY9 hb)]; rfl, by rw [block_cell (block_kept hY9 hb)]; rfl, by rw [block_cell (block_kept hY9 hb)]; rfl, by rw [block_cell (block_kept hY9 hb)]; rfl, by rw [block_cell (block_kept hY9 hb)]; rfl, by rw [block_cell (block_kept hY9 hb)]; rfl, by rw [block_cell (block_kept hY9 hb)]; rfl, by rw [block_cell (block_kept hV9 hb)]; rfl, by rw [block_cell (block_kept hV9 hb)]; rfl, by rw [block_cell (block_kept hV9 hb)]; rfl, by rw [block_cell (block_kept hV9 hb)]; rfl, by rw [block_cell (block_kept hV9 hb)]; rfl, by rw [block_cell (block_kept hV9 hb)]; rfl, by rw [block_cell (block_kept hV9 hb)]; rfl, by rw [block_cell (block_kept hV9 hb)]; rfl, by rw [block_cell (block_kept hV9 hb)]; rfl, by rw [block_cell (block_kept hV9 hb)]; rfl⟩
  have HS : Hid (∀ w', Below w9.heap.size w9 w' → w'.cell? ⟨w6.heap.size, 0, none⟩ = some (.slice (some ⟨gv1, 0, none⟩) d.frames.length d.frames.length) ∧ w'.cell? ⟨w6.heap.size, 1, none⟩ = some (.slice (some ⟨gv2, 0, none⟩) d.heap.length d.heap.length) ∧ w'.cell? ⟨w6.heap.size, 2, none⟩ = some (.int .i64 d.made) ∧ w'.cell? ⟨w6.heap.size, 3, none⟩ = some (.slice (some ⟨gv3, 0, none⟩) d.out.length d.out.length) ∧ w'.cell? ⟨w6.heap.size, 4, none⟩ = some (.int .i64 d.status) ∧ w'.cell? ⟨w6.heap.size, 5, none⟩ = some (.int .i64 d.trap) ∧ w'.cell? ⟨w6.heap.size, 6, none⟩ = some (.int .i64 d.value.k) ∧ w'.cell? ⟨w6.heap.size, 7, none⟩ = some (.int .i64 d.value.n) ∧ w'.cell? ⟨w6.heap.size, 8, none⟩ = some (.string d.value.s) ∧ w'.cell? ⟨w6.heap.size, 9, none⟩ = some (.int .i64 d.steps) ∧ w'.cell? ⟨w.heap.size + 1, 0, none⟩ = some (.slice fa d.frames.length fc) ∧ w'.cell? ⟨w.heap.size + 1, 1, none⟩ = some (.slice ha d.heap.length hcp) ∧ w'.cell? ⟨w.heap.size + 1, 2, none⟩ = some (.int .i64 d.made) ∧ w'.cell? ⟨w.heap.size + 1, 3, none⟩ = some (.slice oa d.out.length oc) ∧ w'.cell? ⟨w.heap.size + 1, 4, none⟩ = some (.int .i64 d.status) ∧ w'.cell? ⟨w.heap.size + 1, 5, none⟩ = some (.int .i64 d.trap) ∧ w'.cell? ⟨w.heap.size + 1, 6, none⟩ = some (.int .i64 d.value.k) ∧ w'.cell? ⟨w.heap.size + 1, 7, none⟩ = some (.int .i64 d.value.n) ∧ w'.cell? ⟨w.heap.size + 1, 8, none⟩ = some (.string d.value.s) ∧ w'.cell? ⟨w.heap.size + 1, 9, none⟩ = some (.int .i64 d.steps)) := hS
  obtain ⟨j0, j1, j2, j3, j4, j5, j6, j7, j8, j9, j10, j11, j12, j13, j14, j15, j16, j17, j18, j19⟩ := hS w9 (Below.refl _ _)
  have HB : Hid (Below w.heap.size w w9) := hB9
  clear hS hV9 hY9 hB9
  go_wp2
  have q : Below w9.heap.size w9 w9.drew := (Below.refl _ _).drew
  go_region_held3 (fun w' => w'.cell? ⟨w6.heap.size, 0, none⟩ = some (.slice (some ⟨gv1, 0, none⟩) d.frames.length d.frames.length) ∧ w'.cell? ⟨w6.heap.size, 1, none⟩ = some (.slice (some ⟨gv2, 0, none⟩) d.heap.length d.heap.length) ∧ w'.cell? ⟨w6.heap.size, 2, none⟩ = some (.int .i64 d.made) ∧ w'.cell? ⟨w6.heap.size, 3, none⟩ = some (.slice (some ⟨gv3, 0, none⟩) d.out.length d.out.length) ∧ w'.cell? ⟨w6.heap.size, 4, none⟩ = some (.int .i64 d.status) ∧ w'.cell? ⟨w6.heap.size, 5, none⟩ = some (.int .i64 d.trap) ∧ w'.cell? ⟨w6.heap.size, 6, none⟩ = some (.int .i64 d.value.k) ∧ w'.cell? ⟨w6.heap.size, 7, none⟩ = some (.int .i64 d.value.n) ∧ w'.cell? ⟨w6.heap.size, 8, none⟩ = some (.string d.value.s) ∧ w'.cell? ⟨w6.heap.size, 9, none⟩ = some (.int .i64 d.steps) ∧ w'.cell? ⟨w.heap.size + 1, 0, none⟩ = some (.slice fa d.frames.length fc) ∧ w'.cell? ⟨w.heap.size + 1, 1, none⟩ = some (.slice ha d.heap.length hcp) ∧ w'.cell? ⟨w.heap.size + 1, 2, none⟩ = some (.int .i64 d.made) ∧ w'.cell? ⟨w.heap.size + 1, 3, none⟩ = some (.slice oa d.out.length oc) ∧ w'.cell? ⟨w.heap.size + 1, 4, none⟩ = some (.int .i64 d.status) ∧ w'.cell? ⟨w.heap.size + 1, 5, none⟩ = some (.int .i64 d.trap) ∧ w'.cell? ⟨w.heap.size + 1, 6, none⟩ = some (.int .i64 d.value.k) ∧ w'.cell? ⟨w.heap.size + 1, 7, none⟩ = some (.int .i64 d.value.n) ∧ w'.cell? ⟨w.heap.size + 1, 8, none⟩ = some (.string d.value.s) ∧ w'.cell? ⟨w.heap.size + 1, 9, none⟩ = some (.int .i64 d.steps))
    (first | exact ⟨j0, j1, j2, j3, j4, j5, j6, j7, j8, j9, j10, j11, j12, j13, j14, j15, j16, j17, j18, j19⟩ | exact HS.out _ q)
    (first
      | (go_at_call 8; refine (toVm_any fa ha oa fc hcp oc d _ hx (by exact hv.mono (HB.out.trans (q.mono HB.out.size)))).mono ?_; rintro e wb ⟨p1, p2, p3, rfl, hvm, kd⟩; have q := q.trans (kd.mono q.size))
      | (go_at_call 11; refine (eqVm_any _ _ _ _ _ _ _ _ _ _ _ _ d _ hx (by exact hvm9.mono q) (by exact hvm.low (Nat.zero_le _))).mono ?_; rintro e w10 ⟨rfl, kd⟩; have q := q.trans (kd.mono q.size)))
  go_wp2
  go_ret
  exact ⟨rfl, HB.out.trans (q.mono HB.out.size)⟩
end Go.Proofs.YtfefbgemcakabaaGreatDoor
