/-
  The law laws.FnExactFastOk, walked.
-/
import Derived.Test.YtcbknjjnphknbaaGreatDoorZOQ20
import Derived.Test.YtcbknjjnphknbaaGreatDoorZF10
import Derived.Test.YtcbknjjnphknbaaGreatDoorZK1
import Derived.Test.YtcbknjjnphknbaaGreatDoorZK3
import Derived.Test.YtcbknjjnphknbaaGreatDoorZOQ24
import Derived.Test.YtcbknjjnphknbaaGreatDoorZOQ18
import Derived.Test.YtcbknjjnphknbaaGreatDoorZOQ2
import Derived.Deep.RegionHeld3
namespace Go.Proofs.YtcbknjjnphknbaaGreatDoor
open Go.RowKit

theorem hid {p : Prop} (h : p) : Hid p := h
set_option maxRecDepth 100000 in
set_option maxHeartbeats 16000000 in
theorem lawFastOk (SF : SFast) (a1 a2 oa ea : Option Addr) (ts : List ByteArray) (fs : List Fn) (D : FastD) (c1 c2 oc ec : Nat) (w : World) (hn : ts.length ≤ maxLen) (hcc : ∀ s ∈ ts, s.size ≤ maxLen) (hst0 : StrsAt w 0 a1 ts)
    (hn2 : fs.length ≤ maxLen) (hc2 : ∀ f ∈ fs, f.code.length ≤ maxLen) (hfn0 : FnsAt w 0 a2 fs) (hfm : FastMax D) (hf0 : FastAt w 0 oa ea D) (hsh : ShAt w) (hDB : DB w) :
    Calls Tryz.prog 3 #[.agg #[.slice a1 ts.length c1, .slice a2 fs.length c2], .agg (fastCells oa ea oc ec D)] w fun e w' => e = .returned (.bool true) ∧ Below w.heap.size w w' := by
  have hszF := fun (l : Int) (w : World) (h0 : 0 ≤ l) (h1 : l ≤ 1048576) (h : FastAt w 0 oa ea D) => szFast_any oa ea oc ec D l w h0 h1 hfm h
  have htoF := fun (w : World) (hx : FastSmall D) (h : FastAt w 0 oa ea D) => toFast_any oa ea oc ec D w hx h
  have heqF := fun (q1 q2 q3 q4 : Option Addr) (n1 n2 n3 n4 : Nat) (w : World) (hx : FastSmall D) (h : FastAt w 0 q1 q2 D) (h2 : FastAt w 0 q3 q4 D) => eqFast_any q1 q2 q3 q4 n1 n2 n3 n4 D w hx h h2
  have hspc := fun (q1 q2 q3 q4 : Option Addr) (n1 n2 n3 n4 : Nat) (w : World) (hs : Small ts fs) (hd : FastSmall D) (k1 : StrsAt w 0 q1 ts) (k2 : FnsAt w 0 q2 fs) (k3 : FastAt w 0 q3 q4 D) => SF q1 q2 q3 q4 n1 n2 n3 n4 ts fs D w hs hd k1 k2 k3
  have himp := fun (q1 q2 q3 q4 : Option Addr) (n1 n2 n3 n4 : Nat) (w : World) (hs : Small ts fs) (hd : FastSmall D) (k1 : StrsAt w 0 q1 ts) (k2 : FnsAt w 0 q2 fs) (k3 : FastAt w 0 q3 q4 D) (k5 : ShAt w) (k6 : DB w) => iFastOk_any q1 q2 q3 q4 n1 n2 n3 n4 ts fs D w hs hd k1 k2 k3 k5 k6
  unfold fastCells at hszF htoF heqF hspc himp ⊢
  have HSZF := hid hszF
  have HTOF := hid htoF
  have HEQF := hid heqF
  have HSPC := hid hspc
  have HIMP := hid himp
  clear hszF htoF heqF hspc himp
  obtain ⟨w0, hw0⟩ : ∃ w0, w0 = ((w.alloc (.cells #[.slice a1 ts.length c1, .slice a2 fs.length c2] 25)).alloc (.cells #[.int .i64 D.fn, .int .i64 D.entry, .int .i64 D.vals, .int .i64 D.nums, .slice oa D.ops.length oc, .slice ea D.exits.length ec] 29)) := ⟨_, rfl⟩
  have hB : Below w.heap.size w w0 := by rw [hw0]; exact ((Below.refl _ _).alloc (Nat.le_refl _) _).alloc (by simp) _
  have hM : w0.heap[w.heap.size]? = some (.cells #[.slice a1 ts.length c1, .slice a2 fs.length c2] 25 (0, 0)) := by rw [hw0]; exact block_old (block_new _ _ _) _
  have hF : w0.heap[w.heap.size + 1]? = some (.cells #[.int .i64 D.fn, .int .i64 D.entry, .int .i64 D.vals, .int .i64 D.nums, .slice oa D.ops.length oc, .slice ea D.exits.length ec] 29 (0, 0)) := by rw [hw0]; exact block_new_at _ _ _ _ (by simp)
  go_enter Tryz.func3, Tryz.ntmps3
  go_wp2_with fail
  rw [← hw0]
  clear hw0
  refine (szModule_le a1 a2 ts fs c1 c2 _ hn hcc (hst0.mono hB) hn2 hc2 (hfn0.mono hB)).mono ?_
  rintro e w1 ⟨l, rfl, hl, hsm, hb1⟩
  have hM_n := block_kept hM hb1
  have hF_n := block_kept hF hb1
  have hB_n := hB.trans (hb1.mono hB.size)
  clear hM hF hB
  have hM := hM_n
  have hF := hF_n
  have hB := hB_n
  clear hM_n hF_n hB_n
  clear hb1 hn hcc hn2 hc2
  by_cases hl0 : l < 0
  · go_wp2_with fail
    go_ret
    exact ⟨rfl, hB⟩
  have hs := hsm (by omega)
  clear hsm
  have z1 := block_cell hF
  go_wp2_with fail
  clear z1
  refine (HSZF.out l _ (by omega) (by omega) (hf0.mono hB)).mono ?_
  rintro e w2 ⟨l2, rfl, hl2, hsm, hb2⟩
  have hM_n := block_kept hM hb2
  have hF_n := block_kept hF hb2
  have hB_n := hB.trans (hb2.mono hB.size)
  clear hM hF hB
  have hM := hM_n
  have hF := hF_n
  have hB := hB_n
  clear hM_n hF_n hB_n
  clear hb2 hfm
  by_cases hl1 : l2 < 0
  · go_wp2_with fail
    go_ret
    exact ⟨rfl, hB⟩
  have hd := hsm (by omega)
  clear hsm HSZF
  clear hl hl0 hl2
  have hS : ∀ w', Below w2.heap.size w2 w' → w'.cell? ⟨w.heap.size, 0, none⟩ = some (.slice a1 ts.length c1) ∧ w'.cell? ⟨w.heap.size, 1, none⟩ = some (.slice a2 fs.length c2) ∧ w'.cell? ⟨w.heap.size + 1, 0, none⟩ = some (.int .i64 D.fn) ∧ w'.cell? ⟨w.heap.size + 1, 1, none⟩ = some (.int .i64 D.entry) ∧ w'.cell? ⟨w.heap.size + 1, 2, none⟩ = some (.int .i64 D.vals) ∧ w'.cell? ⟨w.heap.size + 1, 3, none⟩ = some (.int .i64 D.nums) ∧ w'.cell? ⟨w.heap.size + 1, 4, none⟩ = some (.slice oa D.ops.length oc) ∧ w'.cell? ⟨w.heap.size + 1, 5, none⟩ = some (.slice ea D.exits.length ec) := fun w' q => ⟨by rw [block_cell (block_kept hM q)]; rfl, by rw [block_cell (block_kept hM q)]; rfl, by rw [block_cell (block_kept hF q)]; rfl, by rw [block_cell (block_kept hF q)]; rfl, by rw [block_cell (block_kept hF q)]; rfl, by rw [block_cell (block_kept hF q)]; rfl, by rw [block_cell (block_kept hF q)]; rfl, by rw [block_cell (block_kept hF q)]; rfl⟩
  have HS := hid hS
  obtain ⟨j0, j1, j2, j3, j4, j5, j6, j7⟩ := hS w2 (Below.refl _ _)
  have HMH := hid hM
  have HFH := hid hF
  have HBH := hid hB
  clear hS hB hM hF
  have q : Below w2.heap.size w2 w2.drew := (Below.refl _ _).drew
  go_wp2
  go_region_held3 (fun w' => w'.cell? ⟨w.heap.size, 0, none⟩ = some (.slice a1 ts.length c1) ∧ w'.cell? ⟨w.heap.size, 1, none⟩ = some (.slice a2 fs.length c2) ∧ w'.cell? ⟨w.heap.size + 1, 0, none⟩ = some (.int .i64 D.fn) ∧ w'.cell? ⟨w.heap.size + 1, 1, none⟩ = some (.int .i64 D.entry) ∧ w'.cell? ⟨w.heap.size + 1, 2, none⟩ = some (.int .i64 D.vals) ∧ w'.cell? ⟨w.heap.size + 1, 3, none⟩ = some (.int .i64 D.nums) ∧ w'.cell? ⟨w.heap.size + 1, 4, none⟩ = some (.slice oa D.ops.length oc) ∧ w'.cell? ⟨w.heap.size + 1, 5, none⟩ = some (.slice ea D.exits.length ec))
    (first | exact ⟨j0, j1, j2, j3, j4, j5, j6, j7⟩ | exact HS.out _ q)
    (first
      | (go_at_call 7; refine (toModule_any a1 a2 ts fs c1 c2 _ hs (by exact hst0.mono (HBH.out.trans (q.mono HBH.out.size))) (by exact hfn0.mono (HBH.out.trans (q.mono HBH.out.size)))).mono ?_; rintro e wm ⟨gm, gm2, -, -, rfl, hst, hfn, kd⟩; have q := q.trans (kd.mono q.size))
      | (go_at_call 8; refine (HTOF.out _ hd (by exact hf0.mono (HBH.out.trans (q.mono HBH.out.size)))).mono ?_; rintro e wf ⟨gx1, gx2, rfl, hfx, kd⟩; have hst := hst.mono kd; have hfn := hfn.mono kd; have q := q.trans (kd.mono q.size))
      | (go_at_call 6; refine (HSPC.out _ _ _ _ _ _ _ _ _ hs hd (by exact hst.low (Nat.zero_le _)) (by exact hfn.low (Nat.zero_le _)) (by exact hfx.low (Nat.zero_le _))).mono ?_; rintro e w4 ⟨rfl, kd⟩; have q := q.trans (kd.mono q.size)))
  have hM := block_kept HMH.out q
  have hF := block_kept HFH.out q
  have hB := HBH.out.trans (q.mono HBH.out.size)
  clear HS HBH HMH HFH j0 j1 j2 j3 j4 j5 j6 j7
  clear hst hfn hfx hl1 kd q HSPC
  have z1 := block_cell hM
  go_wp2_with fail
  clear z1
  refine (toModule_any a1 a2 ts fs c1 c2 _ hs (hst0.mono hB) (hfn0.mono hB)).mono ?_
  rintro e w5 ⟨p, p2, -, -, rfl, hst, hfn, hb5⟩
  have hM_n := block_kept hM hb5
  have hF_n := block_kept hF hb5
  have hB_n := hB.trans (hb5.mono hB.size)
  clear hM hF hB
  have hM := hM_n
  have hF := hF_n
  have hB := hB_n
  clear hM_n hF_n hB_n
  clear hb5
  have hst := hst.low (Nat.zero_le _)
  have hfn := hfn.low (Nat.zero_le _)
  obtain ⟨w6, hw6⟩ : ∃ w6, w6 = w5.alloc (.cells #[.slice (some ⟨p, 0, none⟩) ts.length ts.length, .slice (some ⟨p2, 0, none⟩) fs.length fs.length] 35) := ⟨_, rfl⟩
  have hbq : Below w5.heap.size w5 w6 := by rw [hw6]; exact (Below.refl _ _).alloc (Nat.le_refl _) _
  have hP : w6.heap[w5.heap.size]? = some (.cells #[.slice (some ⟨p, 0, none⟩) ts.length ts.length, .slice (some ⟨p2, 0, none⟩) fs.length fs.length] 35 (0, 0)) := by rw [hw6]; exact block_new _ _ _
  have z1 := block_cell (block_old hF (.cells #[.slice (some ⟨p, 0, none⟩) ts.length ts.length, .slice (some ⟨p2, 0, none⟩) fs.length fs.length] 35))
  have hM_n := block_kept hM hbq
  have hF_n := block_kept hF hbq
  have hst_n := hst.mono hbq
  have hfn_n := hfn.mono hbq
  have hB_n := hB.trans (hbq.mono hB.size)
  clear hM hF hst hfn hB
  have hM := hM_n
  have hF := hF_n
  have hst := hst_n
  have hfn := hfn_n
  have hB := hB_n
  clear hM_n hF_n hst_n hfn_n hB_n
  go_wp2_with fail
  rw [← hw6]
  clear hw6 z1 hbq
  refine (HTOF.out _ hd (hf0.mono hB)).mono ?_
  rintro e w7 ⟨gf1, gf2, rfl, hfx, hb7⟩
  have hfx := hfx.low (Nat.zero_le _)
  have hM_n := block_kept hM hb7
  have hF_n := block_kept hF hb7
  have hP_n := block_kept hP hb7
  have hst_n := hst.mono hb7
  have hfn_n := hfn.mono hb7
  have hB_n := hB.trans (hb7.mono hB.size)
  clear hM hF hP hst hfn hB
  have hM := hM_n
  have hF := hF_n
  have hP := hP_n
  have hst := hst_n
  have hfn := hfn_n
  have hB := hB_n
  clear hM_n hF_n hP_n hst_n hfn_n hB_n
  obtain ⟨w8, hw8⟩ : ∃ w8, w8 = w7.alloc (.cells #[.int .i64 D.fn, .int .i64 D.entry, .int .i64 D.vals, .int .i64 D.nums, .slice (some ⟨gf1, 0, none⟩) D.ops.length D.ops.length, .slice (some ⟨gf2, 0, none⟩) D.exits.length D.exits.length] 40) := ⟨_, rfl⟩
  have hbq : Below w7.heap.size w7 w8 := by rw [hw8]; exact (Below.refl _ _).alloc (Nat.le_refl _) _
  have hQ : w8.heap[w7.heap.size]? = some (.cells #[.int .i64 D.fn, .int .i64 D.entry, .int .i64 D.vals, .int .i64 D.nums, .slice (some ⟨gf1, 0, none⟩) D.ops.length D.ops.length, .slice (some ⟨gf2, 0, none⟩) D.exits.length D.exits.length] 40 (0, 0)) := by rw [hw8]; exact block_new _ _ _
  have z1 := block_cell (block_old hP (.cells #[.int .i64 D.fn, .int .i64 D.entry, .int .i64 D.vals, .int .i64 D.nums, .slice (some ⟨gf1, 0, none⟩) D.ops.length D.ops.length, .slice (some ⟨gf2, 0, none⟩) D.exits.length D.exits.length] 40))
  have z2 := block_cell (block_new w7 #[.int .i64 D.fn, .int .i64 D.entry, .int .i64 D.vals, .int .i64 D.nums, .slice (some ⟨gf1, 0, none⟩) D.ops.length D.ops.length, .slice (some ⟨gf2, 0, none⟩) D.exits.length D.exits.length] 40)
  have hM_n := block_kept hM hbq
  have hF_n := block_kept hF hbq
  have hP_n := block_kept hP hbq
  have hst_n := hst.mono hbq
  have hfn_n := hfn.mono hbq
  have hfx_n := hfx.mono hbq
  have hB_n := hB.trans (hbq.mono hB.size)
  clear hM hF hP hst hfn hfx hB
  have hM := hM_n
  have hF := hF_n
  have hP := hP_n
  have hst := hst_n
  have hfn := hfn_n
  have hfx := hfx_n
  have hB := hB_n
  clear hM_n hF_n hP_n hst_n hfn_n hfx_n hB_n
  go_wp2_with fail
  rw [← hw8]
  clear hw8 z1 z2 hbq hb7
  refine (HIMP.out _ _ _ _ _ _ _ _ _ hs hd hst hfn hfx (hsh.mono hB) (hDB.mono hB)).mono ?_
  rintro e w11 ⟨rfl, hb11⟩
  have hM_n := block_kept hM hb11
  have hF_n := block_kept hF hb11
  have hP_n := block_kept hP hb11
  have hQ_n := block_kept hQ hb11
  have hst_n := hst.mono hb11
  have hfn_n := hfn.mono hb11
  have hfx_n := hfx.mono hb11
  have hB_n := hB.trans (hb11.mono hB.size)
  clear hM hF hP hQ hst hfn hfx hB
  have hM := hM_n
  have hF := hF_n
  have hP := hP_n
  have hQ := hQ_n
  have hst := hst_n
  have hfn := hfn_n
  have hfx := hfx_n
  have hB := hB_n
  clear hM_n hF_n hP_n hQ_n hst_n hfn_n hfx_n hB_n
  clear hb11 HIMP
  have hbb : (pB (FastP ts fs D) != pB (FastP ts fs D)) = false := by simp
  have hS : ∀ w', Below w11.heap.size w11 w' → w'.cell? ⟨w5.heap.size, 0, none⟩ = some (.slice (some ⟨p, 0, none⟩) ts.length ts.length) ∧ w'.cell? ⟨w5.heap.size, 1, none⟩ = some (.slice (some ⟨p2, 0, none⟩) fs.length fs.length) ∧ w'.cell? ⟨w.heap.size, 0, none⟩ = some (.slice a1 ts.length c1) ∧ w'.cell? ⟨w.heap.size, 1, none⟩ = some (.slice a2 fs.length c2) := fun w' q => ⟨by rw [block_cell (block_kept hP q)]; rfl, by rw [block_cell (block_kept hP q)]; rfl, by rw [block_cell (block_kept hM q)]; rfl, by rw [block_cell (block_kept hM q)]; rfl⟩
  have HS := hid hS
  obtain ⟨j0, j1, j2, j3⟩ := hS w11 (Below.refl _ _)
  have HMH := hid hM
  have HFH := hid hF
  have HPH := hid hP
  have HQH := hid hQ
  have HBH := hid hB
  clear hS hB hM hF hP hQ
  have q : Below w11.heap.size w11 w11.drew := (Below.refl _ _).drew
  go_wp2
  go_region_held3 (fun w' => w'.cell? ⟨w5.heap.size, 0, none⟩ = some (.slice (some ⟨p, 0, none⟩) ts.length ts.length) ∧ w'.cell? ⟨w5.heap.size, 1, none⟩ = some (.slice (some ⟨p2, 0, none⟩) fs.length fs.length) ∧ w'.cell? ⟨w.heap.size, 0, none⟩ = some (.slice a1 ts.length c1) ∧ w'.cell? ⟨w.heap.size, 1, none⟩ = some (.slice a2 fs.length c2))
    (first | exact ⟨j0, j1, j2, j3⟩ | exact HS.out _ q)
    (first
      | (go_at_call 7; refine (toModule_any a1 a2 ts fs c1 c2 _ hs (by exact hst0.mono (HBH.out.trans (q.mono HBH.out.size))) (by exact hfn0.mono (HBH.out.trans (q.mono HBH.out.size)))).mono ?_; rintro e wm ⟨gm, gm2, -, -, rfl, hst9, hfn9, kd⟩; have q := q.trans (kd.mono q.size))
      | (go_at_call 10; refine (eqModule_any _ _ _ _ ts fs _ _ _ _ _ hs (by exact hst.mono q) (by exact hst9.low (Nat.zero_le _)) (by exact hfn.mono q) (by exact hfn9.low (Nat.zero_le _))).mono ?_; rintro e w12 ⟨rfl, kd⟩; have q := q.trans (kd.mono q.size)))
  have hM := block_kept HMH.out q
  have hF := block_kept HFH.out q
  have hP := block_kept HPH.out q
  have hQ := block_kept HQH.out q
  have hB := HBH.out.trans (q.mono HBH.out.size)
  clear HS HBH HMH HFH HPH HQH j0 j1 j2 j3
  have hfx := hfx.mono q
  clear hst9 hfn9 hst hfn kd q hbb
  have hS : ∀ w', Below w12.heap.size w12 w' → w'.cell? ⟨w7.heap.size, 0, none⟩ = some (.int .i64 D.fn) ∧ w'.cell? ⟨w7.heap.size, 1, none⟩ = some (.int .i64 D.entry) ∧ w'.cell? ⟨w7.heap.size, 2, none⟩ = some (.int .i64 D.vals) ∧ w'.cell? ⟨w7.heap.size, 3, none⟩ = some (.int .i64 D.nums) ∧ w'.cell? ⟨w7.heap.size, 4, none⟩ = some (.slice (some ⟨gf1, 0, none⟩) D.ops.length D.ops.length) ∧ w'.cell? ⟨w7.heap.size, 5, none⟩ = some (.slice (some ⟨gf2, 0, none⟩) D.exits.length D.exits.length) ∧ w'.cell? ⟨w.heap.size + 1, 0, none⟩ = some (.int .i64 D.fn) ∧ w'.cell? ⟨w.heap.size + 1, 1, none⟩ = some (.int .i64 D.entry) ∧ w'.cell? ⟨w.heap.size + 1, 2, none⟩ = some (.int .i64 D.vals) ∧ w'.cell? ⟨w.heap.size + 1, 3, none⟩ = some (.int .i64 D.nums) ∧ w'.cell? ⟨w.heap.size + 1, 4, none⟩ = some (.slice oa D.ops.length oc) ∧ w'.cell? ⟨w.heap.size + 1, 5, none⟩ = some (.slice ea D.exits.length ec) := fun w' q => ⟨by rw [block_cell (block_kept hQ q)]; rfl, by rw [block_cell (block_kept hQ q)]; rfl, by rw [block_cell (block_kept hQ q)]; rfl, by rw [block_cell (block_kept hQ q)]; rfl, by rw [block_cell (block_kept hQ q)]; rfl, by rw [block_cell (block_kept hQ q)]; rfl, by rw [block_cell (block_kept hF q)]; rfl, by rw [block_cell (block_kept hF q)]; rfl, by rw [block_cell (block_kept hF q)]; rfl, by rw [block_cell (block_kept hF q)]; rfl, by rw [block_cell (block_kept hF q)]; rfl, by rw [block_cell (block_kept hF q)]; rfl⟩
  have HS := hid hS
  obtain ⟨j0, j1, j2, j3, j4, j5, j6, j7, j8, j9, j10, j11⟩ := hS w12 (Below.refl _ _)
  have HMH := hid hM
  have HFH := hid hF
  have HPH := hid hP
  have HQH := hid hQ
  have HBH := hid hB
  clear hS hB hM hF hP hQ
  have q : Below w12.heap.size w12 w12.drew := (Below.refl _ _).drew
  go_wp2
  go_region_held3 (fun w' => w'.cell? ⟨w7.heap.size, 0, none⟩ = some (.int .i64 D.fn) ∧ w'.cell? ⟨w7.heap.size, 1, none⟩ = some (.int .i64 D.entry) ∧ w'.cell? ⟨w7.heap.size, 2, none⟩ = some (.int .i64 D.vals) ∧ w'.cell? ⟨w7.heap.size, 3, none⟩ = some (.int .i64 D.nums) ∧ w'.cell? ⟨w7.heap.size, 4, none⟩ = some (.slice (some ⟨gf1, 0, none⟩) D.ops.length D.ops.length) ∧ w'.cell? ⟨w7.heap.size, 5, none⟩ = some (.slice (some ⟨gf2, 0, none⟩) D.exits.length D.exits.length) ∧ w'.cell? ⟨w.heap.size + 1, 0, none⟩ = some (.int .i64 D.fn) ∧ w'.cell? ⟨w.heap.size + 1, 1, none⟩ = some (.int .i64 D.entry) ∧ w'.cell? ⟨w.heap.size + 1, 2, none⟩ = some (.int .i64 D.vals) ∧ w'.cell? ⟨w.heap.size + 1, 3, none⟩ = some (.int .i64 D.nums) ∧ w'.cell? ⟨w.heap.size + 1, 4, none⟩ = some (.slice oa D.ops.length oc) ∧ w'.cell? ⟨w.heap.size + 1, 5, none⟩ = some (.slice ea D.exits.length ec))
    (first | exact ⟨j0, j1, j2, j3, j4, j5, j6, j7, j8, j9, j10, j11⟩ | exact HS.out _ q)
    (first
      | (go_at_call 8; refine (HTOF.out _ hd (by exact hf0.mono (HBH.out.trans (q.mono HBH.out.size)))).mono ?_; rintro e wf ⟨k1, k2, rfl, hfz, kd⟩; have q := q.trans (kd.mono q.size))
      | (go_at_call 11; refine (HEQF.out _ _ _ _ _ _ _ _ _ hd (by exact hfx.mono q) (by exact hfz.low (Nat.zero_le _))).mono ?_; rintro e w13 ⟨rfl, kd⟩; have q := q.trans (kd.mono q.size)))
  have hM := block_kept HMH.out q
  have hF := block_kept HFH.out q
  have hP := block_kept HPH.out q
  have hQ := block_kept HQH.out q
  have hB := HBH.out.trans (q.mono HBH.out.size)
  clear HS HBH HMH HFH HPH HQH j0 j1 j2 j3 j4 j5 j6 j7 j8 j9 j10 j11
  go_wp2
  go_ret
  exact ⟨rfl, hB⟩
end Go.Proofs.YtcbknjjnphknbaaGreatDoor
