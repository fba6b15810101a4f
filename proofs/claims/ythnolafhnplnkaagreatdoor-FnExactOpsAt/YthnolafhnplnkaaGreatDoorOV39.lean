/-
The law laws.FnExactOpsAt, walked.
-/
import Derived.Test.YthnolafhnplnkaaGreatDoorOV24
import Derived.Test.YthnolafhnplnkaaGreatDoorOV26
import Derived.Test.YthnolafhnplnkaaGreatDoorOV27
import Derived.Test.YthnolafhnplnkaaGreatDoorOV28
import Derived.Test.YthnolafhnplnkaaGreatDoorOV29
import Derived.Test.YthnolafhnplnkaaGreatDoorOV30
import Derived.Test.YthnolafhnplnkaaGreatDoorOV22
import Derived.Test.YthnolafhnplnkaaGreatDoorOV2
import Derived.Test.YthnolafhnplnkaaGreatDoorOV38
import Derived.Deep.RegionHeld3
set_option maxRecDepth 100000
namespace Go.Proofs.YthnolafhnplnkaaGreatDoor
open Go.RowKit
theorem hid {p : Prop} (h : p) : Hid p := h
theorem FoB.mono {w w' : World} {lo g : Nat} {xs : List Fo} (h : FoB w lo g xs) (hb : Below w.heap.size w w') : FoB w' lo g xs := h.keep (RestAs.below hb)
theorem ExB.mono {w w' : World} {lo g : Nat} {xs : List Ex} (h : ExB w lo g xs) (hb : Below w.heap.size w w') : ExB w' lo g xs := h.keep (RestAs.below hb)
theorem toFast_c (oa ea : Option Addr) (oc ec : Nat) (d : FastD) (w : World) (hx : FastSmall d) (hm : FastAt w 0 oa ea d) :
  Calls Tryz.prog 8 #[.agg (fastCells oa ea oc ec d)] w fun e w' => ∃ g g2, e = .returned (.agg (fastCells (some ⟨g, 0, none⟩) (some ⟨g2, 0, none⟩) d.ops.length d.exits.length d)) ∧ FastAt w' w.heap.size (some ⟨g, 0, none⟩) (some ⟨g2, 0, none⟩) d ∧ Below w.heap.size w w' :=
 (toFast_b oa ea oc ec d w hx hm).mono fun _ _ ⟨g, g2, h1, h2, _, _, h5⟩ => ⟨g, g2, h1, h2, h5⟩
set_option maxHeartbeats 16000000 in
theorem lawOpsAt (SF : SFast) (a1 a2 oa ea : Option Addr) (ts : List ByteArray) (fs : List Fn) (D : FastD) (c1 c2 oc ec : Nat) (f p0 : Int) (w : World) (hn : ts.length ≤ maxLen) (hcc : ∀ s ∈ ts, s.size ≤ maxLen) (hst0 : StrsAt w 0 a1 ts)
  (hn2 : fs.length ≤ maxLen) (hc2 : ∀ f ∈ fs, f.code.length ≤ maxLen) (hfn0 : FnsAt w 0 a2 fs) (hfm : FastMax D) (hf0 : FastAt w 0 oa ea D) (hsh : ShAt w) (hDB : DB w) :
  Calls Tryz.prog 3 #[.agg #[.slice a1 ts.length c1, .slice a2 fs.length c2], .agg (fastCells oa ea oc ec D), .int .i64 f, .int .i64 p0] w fun e w' => e = .returned (.bool true) ∧ Below w.heap.size w w' := by
 have hszF := fun (l : Int) (w : World) (h0 : 0 ≤ l) (h1 : l ≤ 1048576) (h : FastAt w 0 oa ea D) => szFast_m oa ea oc ec D l w h0 h1 hfm h
 have htoF := fun (w : World) (hx : FastSmall D) (h : FastAt w 0 oa ea D) => toFast_c oa ea oc ec D w hx h
 have htoB := fun (w : World) (hx : FastSmall D) (h : FastAt w 0 oa ea D) => toFast_b oa ea oc ec D w hx h
 have heqF := fun (q1 q2 q3 q4 : Option Addr) (n1 n2 n3 n4 : Nat) (w : World) (hx : FastSmall D) (h : FastAt w 0 q1 q2 D) (h2 : FastAt w 0 q3 q4 D) => eqFast_any q1 q2 q3 q4 n1 n2 n3 n4 D w hx h h2
 have hmkF := fun (lo g g2 n1 n2 k0 : Nat) (w : World) (hx : FastSmall D) => markFast_m lo g g2 n1 n2 k0 D w hx
 have hspc := fun (q1 q2 q3 q4 : Option Addr) (n1 n2 n3 n4 : Nat) (w : World) (hs : Small ts fs) (hd : FastSmall D) (k1 : StrsAt w 0 q1 ts) (k2 : FnsAt w 0 q2 fs) (k3 : FastAt w 0 q3 q4 D) => sOps_any SF q1 q2 q3 q4 n1 n2 n3 n4 ts fs D f p0 w hs hd k1 k2 k3
 have himp := fun (q1 q2 q3 q4 : Option Addr) (n1 n2 n3 n4 : Nat) (w : World) (hs : Small ts fs) (hd : FastSmall D) (k1 : StrsAt w 0 q1 ts) (k2 : FnsAt w 0 q2 fs) (k3 : FastAt w 0 q3 q4 D) (k5 : ShAt w) (k6 : DB w) => iOps_any q1 q2 q3 q4 n1 n2 n3 n4 ts fs D f p0 w hs hd k1 k2 k3 k5 k6
 unfold fastCells at hszF htoF htoB heqF hmkF hspc himp ⊢
 have HSZF := hid hszF
 have HTOF := hid htoF
 have HTOB := hid htoB
 have HEQF := hid heqF
 have HMKF := hid hmkF
 have HSPC := hid hspc
 have HIMP := hid himp
 clear hszF htoF htoB heqF hmkF hspc himp
 obtain ⟨w0, hw0⟩ : ∃ w0, w0 = ((w.alloc (.cells #[.slice a1 ts.length c1, .slice a2 fs.length c2] 25)).alloc (.cells #[.int .i64 D.fn, .int .i64 D.entry, .int .i64 D.vals, .int .i64 D.nums, .slice oa D.ops.length oc, .slice ea D.exits.length ec] 29)) := ⟨_, rfl⟩
 have hB : Below w.heap.size w w0 := by rw [hw0]; exact ((Below.refl _ _).alloc (Nat.le_refl _) _).alloc (by simp) _
 have hM : w0.heap[w.heap.size]? = some (.cells #[.slice a1 ts.length c1, .slice a2 fs.length c2] 25 (0, 0)) := by rw [hw0]; exact block_old (block_new _ _ _) _
 have hF : w0.heap[w.heap.size + 1]? = some (.cells #[.int .i64 D.fn, .int .i64 D.entry, .int .i64 D.vals, .int .i64 D.nums, .slice oa D.ops.length oc, .slice ea D.exits.length ec] 29 (0, 0)) := by rw [hw0]; exact block_new_at _ _ _ _ (by simp)
 go_enter Tryz.func3, Tryz.ntmps3
 go_wp2_with fail
 rw [← hw0]
 clear hw0
 refine (szModule_le a1 a2 ts fs c1 c2 _ hn hcc (hst0.mono hB) hn2 hc2 (hfn0.mono hB)).mono ?_
 rintro e w1 ⟨l, rfl, hl, hsm, hb1⟩
 have hM_n := block_kept hM hb1
 have hF_n := block_kept hF hb1
 have hB_n := hB.trans (hb1.mono hB.size)
 clear hM hF hB
 have hM := hM_n
 have hF := hF_n
 have hB := hB_n
 clear hM_n hF_n hB_n
 clear hb1 hn hcc hn2 hc2
 by_cases hl0 : l < 0
 ·
  go_wp2_with fail
  go_ret
  exact ⟨rfl, hB⟩
 have hs := hsm (by omega)
 clear hsm
 have z1 := block_cell hF
 go_wp2_with fail
 clear z1
 refine (HSZF.out l _ (by omega) (by omega) (hf0.mono hB)).mono ?_
 rintro e w2 ⟨l2, rfl, hl2, hsm, hb2⟩
 have hM_n := block_kept hM hb2
 have hF_n := block_kept hF hb2
 have hB_n := hB.trans (hb2.mono hB.size)
 clear hM hF hB
 have hM := hM_n
 have hF := hF_n
 have hB := hB_n
 clear hM_n hF_n hB_n
 clear hb2 hfm
 by_cases hl1 : l2 < 0
 ·
  clear hsm
  go_wp2_with fail
  go_ret
  exact ⟨rfl, hB⟩
 obtain ⟨hd, hme⟩ := hsm (by omega)
 have HME : Hid (mFast D ≤ 1048576) := by show _ ≤ _; omega
 clear hsm HSZF hme
 clear hl hl0 hl2
 have hS : ∀ w', Below w2.heap.size w2 w' → w'.cell? ⟨w.heap.size, 0, none⟩ = some (.slice a1 ts.length c1) ∧ w'.cell? ⟨w.heap.size, 1, none⟩ = some (.slice a2 fs.length c2) ∧ w'.cell? ⟨w.heap.size + 1, 0, none⟩ = some (.int .i64 D.fn) ∧ w'.cell? ⟨w.heap.size + 1, 1, none⟩ = some (.int .i64 D.entry) ∧ w'.cell? ⟨w.heap.size + 1, 2, none⟩ = some (.int .i64 D.vals) ∧ w'.cell? ⟨w.heap.size + 1, 3, none⟩ = some (.int .i64 D.nums) ∧ w'.cell? ⟨w.heap.size + 1, 4, none⟩ = some (.slice oa D.ops.length oc) ∧ w'.cell? ⟨w.heap.size + 1, 5, none⟩ = some (.slice ea D.exits.length ec) := fun w' q => ⟨ckb hM q rfl, ckb hM q rfl, ckb hF q rfl, ckb hF q rfl, ckb hF q rfl, ckb hF q rfl, ckb hF q rfl, ckb hF q rfl⟩
 have HS := hid hS
 obtain ⟨j0, j1, j2, j3, j4, j5, j6, j7⟩ := hS w2 (Below.refl _ _)
 have HMH := hid hM
 have HFH := hid hF
 have HBH := hid hB
 clear hS hB hM hF
 have q : Below w2.heap.size w2 w2.drew := (Below.refl _ _).drew
 go_wp2
 go_region_held3 (fun w' => w'.cell? ⟨w.heap.size, 0, none⟩ = some (.slice a1 ts.length c1) ∧ w'.cell? ⟨w.heap.size, 1, none⟩ = some (.slice a2 fs.length c2) ∧ w'.cell? ⟨w.heap.size + 1, 0, none⟩ = some (.int .i64 D.fn) ∧ w'.cell? ⟨w.heap.size + 1, 1, none⟩ = some (.int .i64 D.entry) ∧ w'.cell? ⟨w.heap.size + 1, 2, none⟩ = some (.int .i64 D.vals) ∧ w'.cell? ⟨w.heap.size + 1, 3, none⟩ = some (.int .i64 D.nums) ∧ w'.cell? ⟨w.heap.size + 1, 4, none⟩ = some (.slice oa D.ops.length oc) ∧ w'.cell? ⟨w.heap.size + 1, 5, none⟩ = some (.slice ea D.exits.length ec))
  (first | exact ⟨j0, j1, j2, j3, j4, j5, j6, j7⟩ | exact HS.out _ q)
  (first
   | (go_at_call 7; refine (toModule_any a1 a2 ts fs c1 c2 _ hs (by exact hst0.mono (HBH.out.trans (q.mono HBH.out.size))) (by exact hfn0.mono (HBH.out.trans (q.mono HBH.out.size)))).mono ?_; rintro e wm ⟨gm, gm2, -, -, rfl, hst, hfn, kd⟩; have q := q.trans (kd.mono q.size))
   | (go_at_call 8; refine (HTOF.out _ hd (by exact hf0.mono (HBH.out.trans (q.mono HBH.out.size)))).mono ?_; rintro e wf ⟨gx1, gx2, rfl, hfx, kd⟩; have hst := hst.mono kd; have hfn := hfn.mono kd; have q := q.trans (kd.mono q.size))
   | (go_at_call 6; refine (HSPC.out _ _ _ _ _ _ _ _ _ hs hd (by exact hst.low (Nat.zero_le _)) (by exact hfn.low (Nat.zero_le _)) (by exact hfx.low (Nat.zero_le _))).mono ?_; rintro e w4 ⟨v0, S, rfl, hA0, hD0, kd⟩; obtain ⟨aw, cw, rfl, hby⟩ := hD0.form; have HA0 := hid hA0; have hby := hby.low (Nat.zero_le _); have hSl := hA0.len; clear hA0 hD0; have q := q.trans (kd.mono q.size)))
 have hM := block_kept HMH.out q
 have hF := block_kept HFH.out q
 have hB := HBH.out.trans (q.mono HBH.out.size)
 clear HS HBH HMH HFH j0 j1 j2 j3 j4 j5 j6 j7
 clear hst hfn hfx hl1 kd q HSPC
 have z1 := block_cell hM
 have B4 := hid (Below.refl w4.heap.size w4)
 have Z0 := hid hB.size
 have HBY0 := hid hby
 go_wp2_with fail
 clear z1
 refine (toModule_made a1 a2 ts fs c1 c2 _ hs (hst0.mono hB) (hfn0.mono hB)).mono ?_
 rintro e w5 ⟨p, p2, hp, hp2, rfl, hst, hfn, hb5, htb, hfb⟩
 have hM_n := block_kept hM hb5
 have hF_n := block_kept hF hb5
 have hby_n := hby.mono hb5
 have hB_n := hB.trans (hb5.mono hB.size)
 clear hM hF hby hB
 have hM := hM_n
 have hF := hF_n
 have hby := hby_n
 have hB := hB_n
 clear hM_n hF_n hby_n hB_n
 have B5 := hid (B4.out.trans (hb5.mono B4.out.size))
 clear hb5 B4
 have hst := hst.low (Nat.zero_le _)
 have hfn := hfn.low (Nat.zero_le _)
 obtain ⟨w6, hw6⟩ : ∃ w6, w6 = w5.alloc (.cells #[.slice (some ⟨p, 0, none⟩) ts.length ts.length, .slice (some ⟨p2, 0, none⟩) fs.length fs.length] 36) := ⟨_, rfl⟩
 have hbq : Below w5.heap.size w5 w6 := by rw [hw6]; exact (Below.refl _ _).alloc (Nat.le_refl _) _
 have hP : w6.heap[w5.heap.size]? = some (.cells #[.slice (some ⟨p, 0, none⟩) ts.length ts.length, .slice (some ⟨p2, 0, none⟩) fs.length fs.length] 36 (0, 0)) := by rw [hw6]; exact block_new _ _ _
 have z1 := block_cell (block_old hF (.cells #[.slice (some ⟨p, 0, none⟩) ts.length ts.length, .slice (some ⟨p2, 0, none⟩) fs.length fs.length] 36))
 have hM_n := block_kept hM hbq
 have hF_n := block_kept hF hbq
 have hby_n := hby.mono hbq
 have hst_n := hst.mono hbq
 have hfn_n := hfn.mono hbq
 have htb_n := htb.mono hbq
 have hfb_n := hfb.mono hbq
 have hB_n := hB.trans (hbq.mono hB.size)
 clear hM hF hby hst hfn htb hfb hB
 have hM := hM_n
 have hF := hF_n
 have hby := hby_n
 have hst := hst_n
 have hfn := hfn_n
 have htb := htb_n
 have hfb := hfb_n
 have hB := hB_n
 clear hM_n hF_n hby_n hst_n hfn_n htb_n hfb_n hB_n
 have B6 := hid (B5.out.trans (hbq.mono B5.out.size))
 clear B5
 go_wp2_with fail
 rw [← hw6]
 clear hw6 z1 hbq
 refine (HTOB.out _ hd (hf0.mono hB)).mono ?_
 rintro e w7 ⟨gf1, gf2, rfl, hfx, hob, hxb, hb7⟩
 have hfx := hfx.low (Nat.zero_le _)
 have hob := hob.low B6.out.size
 have hxb := hxb.low B6.out.size
 have hM_n := block_kept hM hb7
 have hF_n := block_kept hF hb7
 have hP_n := block_kept hP hb7
 have hby_n := hby.mono hb7
 have hst_n := hst.mono hb7
 have hfn_n := hfn.mono hb7
 have htb_n := htb.mono hb7
 have hfb_n := hfb.mono hb7
 have hB_n := hB.trans (hb7.mono hB.size)
 clear hM hF hP hby hst hfn htb hfb hB
 have hM := hM_n
 have hF := hF_n
 have hP := hP_n
 have hby := hby_n
 have hst := hst_n
 have hfn := hfn_n
 have htb := htb_n
 have hfb := hfb_n
 have hB := hB_n
 clear hM_n hF_n hP_n hby_n hst_n hfn_n htb_n hfb_n hB_n
 have B7 := hid (B6.out.trans (hb7.mono B6.out.size))
 clear B6 hb7
 obtain ⟨w8, hw8⟩ : ∃ w8, w8 = w7.alloc (.cells #[.int .i64 D.fn, .int .i64 D.entry, .int .i64 D.vals, .int .i64 D.nums, .slice (some ⟨gf1, 0, none⟩) D.ops.length D.ops.length, .slice (some ⟨gf2, 0, none⟩) D.exits.length D.exits.length] 41) := ⟨_, rfl⟩
 have hbq : Below w7.heap.size w7 w8 := by rw [hw8]; exact (Below.refl _ _).alloc (Nat.le_refl _) _
 have hQ : w8.heap[w7.heap.size]? = some (.cells #[.int .i64 D.fn, .int .i64 D.entry, .int .i64 D.vals, .int .i64 D.nums, .slice (some ⟨gf1, 0, none⟩) D.ops.length D.ops.length, .slice (some ⟨gf2, 0, none⟩) D.exits.length D.exits.length] 41 (0, 0)) := by rw [hw8]; exact block_new _ _ _
 have z1 := block_cell (block_old hP (.cells #[.int .i64 D.fn, .int .i64 D.entry, .int .i64 D.vals, .int .i64 D.nums, .slice (some ⟨gf1, 0, none⟩) D.ops.length D.ops.length, .slice (some ⟨gf2, 0, none⟩) D.exits.length D.exits.length] 41))
 have z2 := block_cell (block_new w7 #[.int .i64 D.fn, .int .i64 D.entry, .int .i64 D.vals, .int .i64 D.nums, .slice (some ⟨gf1, 0, none⟩) D.ops.length D.ops.length, .slice (some ⟨gf2, 0, none⟩) D.exits.length D.exits.length] 41)
 have hM_n := block_kept hM hbq
 have hF_n := block_kept hF hbq
 have hP_n := block_kept hP hbq
 have hby_n := hby.mono hbq
 have hst_n := hst.mono hbq
 have hfn_n := hfn.mono hbq
 have htb_n := htb.mono hbq
 have hfb_n := hfb.mono hbq
 have hfx_n := hfx.mono hbq
 have hob_n := hob.mono hbq
 have hxb_n := hxb.mono hbq
 have hB_n := hB.trans (hbq.mono hB.size)
 clear hM hF hP hby hst hfn htb hfb hfx hob hxb hB
 have hM := hM_n
 have hF := hF_n
 have hP := hP_n
 have hby := hby_n
 have hst := hst_n
 have hfn := hfn_n
 have htb := htb_n
 have hfb := hfb_n
 have hfx := hfx_n
 have hob := hob_n
 have hxb := hxb_n
 have hB := hB_n
 clear hM_n hF_n hP_n hby_n hst_n hfn_n htb_n hfb_n hfx_n hob_n hxb_n hB_n
 have B8 := hid (B7.out.trans (hbq.mono B7.out.size))
 clear B7
 go_wp2_with fail
 rw [← hw8]
 clear hw8 z1 z2 hbq
 refine (HIMP.out _ _ _ _ _ _ _ _ _ hs hd hst hfn hfx (hsh.mono hB) (hDB.mono hB)).mono ?_
 rintro e w9 ⟨vg, Sg, rfl, hAg, hDg, hb9⟩
 obtain rfl := HA0.out.one hAg
 obtain ⟨ag, cg, rfl, -⟩ := hDg.form
 clear hAg
 have hM_n := block_kept hM hb9
 have hF_n := block_kept hF hb9
 have hP_n := block_kept hP hb9
 have hQ_n := block_kept hQ hb9
 have hby_n := hby.mono hb9
 have hst_n := hst.mono hb9
 have hfn_n := hfn.mono hb9
 have htb_n := htb.mono hb9
 have hfb_n := hfb.mono hb9
 have hfx_n := hfx.mono hb9
 have hob_n := hob.mono hb9
 have hxb_n := hxb.mono hb9
 have hB_n := hB.trans (hb9.mono hB.size)
 clear hM hF hP hQ hby hst hfn htb hfb hfx hob hxb hB
 have hM := hM_n
 have hF := hF_n
 have hP := hP_n
 have hQ := hQ_n
 have hby := hby_n
 have hst := hst_n
 have hfn := hfn_n
 have htb := htb_n
 have hfb := hfb_n
 have hfx := hfx_n
 have hob := hob_n
 have hxb := hxb_n
 have hB := hB_n
 clear hM_n hF_n hP_n hQ_n hby_n hst_n hfn_n htb_n hfb_n hfx_n hob_n hxb_n hB_n
 have B9 := hid (B8.out.trans (hb9.mono B8.out.size))
 have Z8 := hid B8.out.size
 have Z9 := hid hb9.size
 clear B8 hb9
 have hgi := hDg.ints
 go_wp2_with fail
 refine (eqIntS_any ag aw Sg cg cw _ hSl hgi hby).mono ?_
 rintro e w10 ⟨rfl, hb10⟩
 have hM_n := block_kept hM hb10
 have hF_n := block_kept hF hb10
 have hP_n := block_kept hP hb10
 have hQ_n := block_kept hQ hb10
 have hby_n := hby.mono hb10
 have hst_n := hst.mono hb10
 have hfn_n := hfn.mono hb10
 have htb_n := htb.mono hb10
 have hfb_n := hfb.mono hb10
 have hfx_n := hfx.mono hb10
 have hob_n := hob.mono hb10
 have hxb_n := hxb.mono hb10
 have hDg_n := hDg.mono hb10
 have hB_n := hB.trans (hb10.mono hB.size)
 clear hM hF hP hQ hby hst hfn htb hfb hfx hob hxb hDg hB
 have hM := hM_n
 have hF := hF_n
 have hP := hP_n
 have hQ := hQ_n
 have hby := hby_n
 have hst := hst_n
 have hfn := hfn_n
 have htb := htb_n
 have hfb := hfb_n
 have hfx := hfx_n
 have hob := hob_n
 have hxb := hxb_n
 have hDg := hDg_n
 have hB := hB_n
 clear hM_n hF_n hP_n hQ_n hby_n hst_n hfn_n htb_n hfb_n hfx_n hob_n hxb_n hDg_n hB_n
 have B10 := hid (B9.out.trans (hb10.mono B9.out.size))
 have Z10 := hid hb10.size
 clear B9 hb10 hgi
 have hS : ∀ w', Below w10.heap.size w10 w' → w'.cell? ⟨w5.heap.size, 0, none⟩ = some (.slice (some ⟨p, 0, none⟩) ts.length ts.length) ∧ w'.cell? ⟨w5.heap.size, 1, none⟩ = some (.slice (some ⟨p2, 0, none⟩) fs.length fs.length) ∧ w'.cell? ⟨w.heap.size, 0, none⟩ = some (.slice a1 ts.length c1) ∧ w'.cell? ⟨w.heap.size, 1, none⟩ = some (.slice a2 fs.length c2) := fun w' q => ⟨ckb hP q rfl, ckb hP q rfl, ckb hM q rfl, ckb hM q rfl⟩
 have HS := hid hS
 obtain ⟨j0, j1, j2, j3⟩ := hS w10 (Below.refl _ _)
 have HMH := hid hM
 have HFH := hid hF
 have HPH := hid hP
 have HQH := hid hQ
 have HBH := hid hB
 clear hS hB hM hF hP hQ
 have q : Below w10.heap.size w10 w10.drew := (Below.refl _ _).drew
 go_wp2
 go_region_held3 (fun w' => w'.cell? ⟨w5.heap.size, 0, none⟩ = some (.slice (some ⟨p, 0, none⟩) ts.length ts.length) ∧ w'.cell? ⟨w5.heap.size, 1, none⟩ = some (.slice (some ⟨p2, 0, none⟩) fs.length fs.length) ∧ w'.cell? ⟨w.heap.size, 0, none⟩ = some (.slice a1 ts.length c1) ∧ w'.cell? ⟨w.heap.size, 1, none⟩ = some (.slice a2 fs.length c2))
  (first | exact ⟨j0, j1, j2, j3⟩ | exact HS.out _ q)
  (first
   | (go_at_call 7; refine (toModule_any a1 a2 ts fs c1 c2 _ hs (by exact hst0.mono (HBH.out.trans (q.mono HBH.out.size))) (by exact hfn0.mono (HBH.out.trans (q.mono HBH.out.size)))).mono ?_; rintro e wm ⟨gm, gm2, -, -, rfl, hst9, hfn9, kd⟩; have q := q.trans (kd.mono q.size))
   | (go_at_call 11; refine (eqModule_any _ _ _ _ ts fs _ _ _ _ _ hs (by exact hst.mono q) (by exact hst9.low (Nat.zero_le _)) (by exact hfn.mono q) (by exact hfn9.low (Nat.zero_le _))).mono ?_; rintro e w11 ⟨rfl, kd⟩; have q := q.trans (kd.mono q.size)))
 have hM := block_kept HMH.out q
 have hF := block_kept HFH.out q
 have hP := block_kept HPH.out q
 have hQ := block_kept HQH.out q
 have hB := HBH.out.trans (q.mono HBH.out.size)
 clear HS HBH HMH HFH HPH HQH j0 j1 j2 j3
 replace hby := hby.mono q
 replace htb := htb.mono q
 replace hfb := hfb.mono q
 replace hfx := hfx.mono q
 replace hob := hob.mono q
 replace hxb := hxb.mono q
 replace hDg := hDg.mono q
 have B11 := hid (B10.out.trans (q.mono B10.out.size))
 have Z11 := hid q.size
 clear B10 hst9 hfn9 hst hfn kd q
 have hS : ∀ w', Below w11.heap.size w11 w' → w'.cell? ⟨w7.heap.size, 0, none⟩ = some (.int .i64 D.fn) ∧ w'.cell? ⟨w7.heap.size, 1, none⟩ = some (.int .i64 D.entry) ∧ w'.cell? ⟨w7.heap.size, 2, none⟩ = some (.int .i64 D.vals) ∧ w'.cell? ⟨w7.heap.size, 3, none⟩ = some (.int .i64 D.nums) ∧ w'.cell? ⟨w7.heap.size, 4, none⟩ = some (.slice (some ⟨gf1, 0, none⟩) D.ops.length D.ops.length) ∧ w'.cell? ⟨w7.heap.size, 5, none⟩ = some (.slice (some ⟨gf2, 0, none⟩) D.exits.length D.exits.length) ∧ w'.cell? ⟨w.heap.size + 1, 0, none⟩ = some (.int .i64 D.fn) ∧ w'.cell? ⟨w.heap.size + 1, 1, none⟩ = some (.int .i64 D.entry) ∧ w'.cell? ⟨w.heap.size + 1, 2, none⟩ = some (.int .i64 D.vals) ∧ w'.cell? ⟨w.heap.size + 1, 3, none⟩ = some (.int .i64 D.nums) ∧ w'.cell? ⟨w.heap.size + 1, 4, none⟩ = some (.slice oa D.ops.length oc) ∧ w'.cell? ⟨w.heap.size + 1, 5, none⟩ = some (.slice ea D.exits.length ec) := fun w' q => ⟨ckb hQ q rfl, ckb hQ q rfl, ckb hQ q rfl, ckb hQ q rfl, ckb hQ q rfl, ckb hQ q rfl, ckb hF q rfl, ckb hF q rfl, ckb hF q rfl, ckb hF q rfl, ckb hF q rfl, ckb hF q rfl⟩
 have HS := hid hS
 obtain ⟨j0, j1, j2, j3, j4, j5, j6, j7, j8, j9, j10, j11⟩ := hS w11 (Below.refl _ _)
 have HMH := hid hM
 have HFH := hid hF
 have HPH := hid hP
 have HQH := hid hQ
 have HBH := hid hB
 clear hS hB hM hF hP hQ
 have q : Below w11.heap.size w11 w11.drew := (Below.refl _ _).drew
 go_wp2
 go_region_held3 (fun w' => w'.cell? ⟨w7.heap.size, 0, none⟩ = some (.int .i64 D.fn) ∧ w'.cell? ⟨w7.heap.size, 1, none⟩ = some (.int .i64 D.entry) ∧ w'.cell? ⟨w7.heap.size, 2, none⟩ = some (.int .i64 D.vals) ∧ w'.cell? ⟨w7.heap.size, 3, none⟩ = some (.int .i64 D.nums) ∧ w'.cell? ⟨w7.heap.size, 4, none⟩ = some (.slice (some ⟨gf1, 0, none⟩) D.ops.length D.ops.length) ∧ w'.cell? ⟨w7.heap.size, 5, none⟩ = some (.slice (some ⟨gf2, 0, none⟩) D.exits.length D.exits.length) ∧ w'.cell? ⟨w.heap.size + 1, 0, none⟩ = some (.int .i64 D.fn) ∧ w'.cell? ⟨w.heap.size + 1, 1, none⟩ = some (.int .i64 D.entry) ∧ w'.cell? ⟨w.heap.size + 1, 2, none⟩ = some (.int .i64 D.vals) ∧ w'.cell? ⟨w.heap.size + 1, 3, none⟩ = some (.int .i64 D.nums) ∧ w'.cell? ⟨w.heap.size + 1, 4, none⟩ = some (.slice oa D.ops.length oc) ∧ w'.cell? ⟨w.heap.size + 1, 5, none⟩ = some (.slice ea D.exits.length ec))
  (first | exact ⟨j0, j1, j2, j3, j4, j5, j6, j7, j8, j9, j10, j11⟩ | exact HS.out _ q)
  (first
   | (go_at_call 8; refine (HTOF.out _ hd (by exact hf0.mono (HBH.out.trans (q.mono HBH.out.size)))).mono ?_; rintro e wf ⟨k1, k2, rfl, hfz, kd⟩; have q := q.trans (kd.mono q.size))
   | (go_at_call 12; refine (HEQF.out _ _ _ _ _ _ _ _ _ hd (by exact hfx.mono q) (by exact hfz.low (Nat.zero_le _))).mono ?_; rintro e w12 ⟨rfl, kd⟩; have q := q.trans (kd.mono q.size)))
 have hM := block_kept HMH.out q
 have hF := block_kept HFH.out q
 have hP := block_kept HPH.out q
 have hQ := block_kept HQH.out q
 have hB := HBH.out.trans (q.mono HBH.out.size)
 clear HS HBH HMH HFH HPH HQH j0 j1 j2 j3 j4 j5 j6 j7 j8 j9 j10 j11
 replace hby := hby.mono q
 replace htb := htb.mono q
 replace hfb := hfb.mono q
 replace hob := hob.mono q
 replace hxb := hxb.mono q
 replace hDg := hDg.mono q
 have B12 := hid (B11.out.trans (q.mono B11.out.size))
 have Z12 := hid q.size
 clear B11 hfz hfx kd q HEQF
 have z1 := block_cell hP
 go_wp2_with fail
 clear z1
 refine (markModule_any w4.heap.size p p2 _ _ ts fs _ hs hp hp2 htb hfb).mono ?_
 rintro e w13 ⟨km, rfl, hkm, hkm2, hk13⟩
 have B13 := hid (B12.out.trans (hk13.toBelow B12.out.size))
 have Z13 := hid hk13.size
 clear hby htb hfb
 replace hM := hk13.cell hM (by decide)
 replace hF := hk13.cell hF (by decide)
 replace hP := hk13.cell hP (by decide)
 replace hQ := hk13.cell hQ (by decide)
 replace hDg := hDg.keeps hk13 (by decide)
 have hob13 := FoB.keeps hob hk13 (by decide)
 have hxb13 := ExB.keeps hxb hk13 (by decide)
 clear hob hxb
 obtain ⟨kn, hkn⟩ : ∃ kn : Nat, km = (kn : Int) := ⟨km.toNat, by omega⟩
 subst hkn
 have hkz : kn + 10 * mFast D ≤ 100000000000000 := by have := HME.out; omega
 have HKZ := hid hkz
 have hB13 : Below w.heap.size w w13 := hB.trans ((hk13.toBelow B12.out.size).mono Z0.out)
 clear hB hkz hkm hkm2 hk13 B12
 have hB := hB13
 clear hB13
 have z1 := block_cell hQ
 go_wp2_with fail
 clear z1
 refine (HMKF.out w4.heap.size gf1 gf2 _ _ kn _ hd HKZ.out hob13 hxb13).mono ?_
 rintro e w14 ⟨kn2, rfl, -, hkn2, -, hk14⟩
 have B14 := hid (B13.out.trans (hk14.toBelow B13.out.size))
 have Z14 := hid hk14.size
 replace hM := hk14.cell hM (by decide)
 replace hF := hk14.cell hF (by decide)
 replace hP := hk14.cell hP (by decide)
 replace hQ := hk14.cell hQ (by decide)
 replace hDg := hDg.keeps hk14 (by decide)
 have hB14 : Below w.heap.size w w14 := hB.trans ((hk14.toBelow B13.out.size).mono Z0.out)
 clear hB hk14 B13 hob13 hxb13 hkn2 HKZ HMKF
 have hB := hB14
 clear hB14
 have hz14 : ¬ (kn2 : Int) < 0 := by omega
 have hby := HBY0.out.mono B14.out
 have hgi := hDg.ints
 go_wp2_with fail
 refine (eqIntS_any ag aw Sg cg cw _ hSl hgi hby).mono ?_
 rintro e w15 ⟨rfl, hb15⟩
 have hM_n := block_kept hM hb15
 have hF_n := block_kept hF hb15
 have hP_n := block_kept hP hb15
 have hQ_n := block_kept hQ hb15
 have hDg_n := hDg.mono hb15
 have hB_n := hB.trans (hb15.mono hB.size)
 clear hM hF hP hQ hDg hB
 have hM := hM_n
 have hF := hF_n
 have hP := hP_n
 have hQ := hQ_n
 have hDg := hDg_n
 have hB := hB_n
 clear hM_n hF_n hP_n hQ_n hDg_n hB_n
 have B15 := hid (B14.out.trans (hb15.mono B14.out.size))
 have Z15 := hid hb15.size
 clear B14 hb15 hgi hby hz14
 go_wp2_with fail
 refine (markIntS_any w8.heap.size ag Sg cg 1 _ hSl (by omega) (by omega) hDg).mono ?_
 rintro e w16 ⟨rfl, hDm, hk16⟩
 have hlo8 : w8.heap.size ≤ w15.heap.size := Nat.le_trans Z9.out (Nat.le_trans Z10.out (Nat.le_trans Z11.out (Nat.le_trans Z12.out (Nat.le_trans Z13.out (Nat.le_trans Z14.out Z15.out)))))
 have B16 := hid (B15.out.trans ((hk16.toBelow hlo8).mono Z8.out))
 have hB16 : Below w.heap.size w w16 := hB.trans ((hk16.toBelow hlo8).mono (Nat.le_trans Z0.out Z8.out))
 replace hM := hk16.cell hM (by decide)
 replace hF := hk16.cell hF (by decide)
 clear hB hk16 B15 hDg hlo8 hP hQ
 have hB := hB16
 clear hB16
 go_wp2_with fail
 refine (heldIntS_any ag Sg.length cg 1 _ hSl (by omega) (by omega) hDm.ints).mono ?_
 rintro e w17 ⟨rfl, hb17⟩
 have hM_n := block_kept hM hb17
 have hF_n := block_kept hF hb17
 have hDm_n := hDm.mono hb17
 have hB_n := hB.trans (hb17.mono hB.size)
 clear hM hF hDm hB
 have hM := hM_n
 have hF := hF_n
 have hDm := hDm_n
 have hB := hB_n
 clear hM_n hF_n hDm_n hB_n
 have B17 := hid (B16.out.trans (hb17.mono B16.out.size))
 clear B16 hb17
 have hnn : ¬ (1 + (Sg.length : Int)) < 0 := by omega
 have hS : ∀ w', Below w17.heap.size w17 w' → w'.cell? ⟨w.heap.size, 0, none⟩ = some (.slice a1 ts.length c1) ∧ w'.cell? ⟨w.heap.size, 1, none⟩ = some (.slice a2 fs.length c2) ∧ w'.cell? ⟨w.heap.size + 1, 0, none⟩ = some (.int .i64 D.fn) ∧ w'.cell? ⟨w.heap.size + 1, 1, none⟩ = some (.int .i64 D.entry) ∧ w'.cell? ⟨w.heap.size + 1, 2, none⟩ = some (.int .i64 D.vals) ∧ w'.cell? ⟨w.heap.size + 1, 3, none⟩ = some (.int .i64 D.nums) ∧ w'.cell? ⟨w.heap.size + 1, 4, none⟩ = some (.slice oa D.ops.length oc) ∧ w'.cell? ⟨w.heap.size + 1, 5, none⟩ = some (.slice ea D.exits.length ec) := fun w' q => ⟨ckb hM q rfl, ckb hM q rfl, ckb hF q rfl, ckb hF q rfl, ckb hF q rfl, ckb hF q rfl, ckb hF q rfl, ckb hF q rfl⟩
 have HS := hid hS
 obtain ⟨j0, j1, j2, j3, j4, j5, j6, j7⟩ := hS w17 (Below.refl _ _)
 have HMH := hid hM
 have HFH := hid hF
 have HBH := hid hB
 clear hS hB hM hF
 have q : Below w17.heap.size w17 w17.drew := (Below.refl _ _).drew
 go_wp2
 go_region_held3 (fun w' => w'.cell? ⟨w.heap.size, 0, none⟩ = some (.slice a1 ts.length c1) ∧ w'.cell? ⟨w.heap.size, 1, none⟩ = some (.slice a2 fs.length c2) ∧ w'.cell? ⟨w.heap.size + 1, 0, none⟩ = some (.int .i64 D.fn) ∧ w'.cell? ⟨w.heap.size + 1, 1, none⟩ = some (.int .i64 D.entry) ∧ w'.cell? ⟨w.heap.size + 1, 2, none⟩ = some (.int .i64 D.vals) ∧ w'.cell? ⟨w.heap.size + 1, 3, none⟩ = some (.int .i64 D.nums) ∧ w'.cell? ⟨w.heap.size + 1, 4, none⟩ = some (.slice oa D.ops.length oc) ∧ w'.cell? ⟨w.heap.size + 1, 5, none⟩ = some (.slice ea D.exits.length ec))
  (first | exact ⟨j0, j1, j2, j3, j4, j5, j6, j7⟩ | exact HS.out _ q)
  (first
   | (go_at_call 7; refine (toModule_any a1 a2 ts fs c1 c2 _ hs (by exact hst0.mono (HBH.out.trans (q.mono HBH.out.size))) (by exact hfn0.mono (HBH.out.trans (q.mono HBH.out.size)))).mono ?_; rintro e wm ⟨gm, gm2, -, -, rfl, hst, hfn, kd⟩; have q := q.trans (kd.mono q.size))
   | (go_at_call 8; refine (HTOB.out _ hd (by exact hf0.mono (HBH.out.trans (q.mono HBH.out.size)))).mono ?_; rintro e wf ⟨gx1, gx2, rfl, hfx, hob, hxb, kd⟩; have hst := hst.mono kd; have hfn := hfn.mono kd; have q := q.trans (kd.mono q.size))
   | (go_at_call 9; refine (HIMP.out _ _ _ _ _ _ _ _ _ hs hd (by exact hst.low (Nat.zero_le _)) (by exact hfn.low (Nat.zero_le _)) (by exact hfx.low (Nat.zero_le _)) (by exact hsh.mono (HBH.out.trans (q.mono HBH.out.size))) (by exact hDB.mono (HBH.out.trans (q.mono HBH.out.size)))).mono ?_; rintro e w18 ⟨vh, Sh, rfl, hAh, hDh, kd⟩; obtain rfl := HA0.out.one hAh; obtain ⟨ah, ch, rfl, -⟩ := hDh.form; clear hAh; have q := q.trans (kd.mono q.size)))
 have hM := block_kept HMH.out q
 have hF := block_kept HFH.out q
 have hB := HBH.out.trans (q.mono HBH.out.size)
 clear HS HBH HMH HFH j0 j1 j2 j3 j4 j5 j6 j7
 replace hDm := hDm.mono q
 have B18 := hid (B17.out.trans (q.mono B17.out.size))
 clear B17 hst hfn hfx hob hxb kd q hM hF hnn HIMP HTOB HTOF
 have hby := HBY0.out.mono B18.out
 have hhi := hDh.ints
 go_wp2_with fail
 refine (eqIntS_any ah aw Sh ch cw _ hSl hhi hby).mono ?_
 rintro e w19 ⟨rfl, hb19⟩
 replace hDm := hDm.mono hb19
 have hB19 := hB.trans (hb19.mono hB.size)
 clear hB hb19 hhi hby hDh B18
 go_wp2_with fail
 refine (heldIntS_any ag Sh.length cg 1 _ hSl (by omega) (by omega) hDm.ints).mono ?_
 rintro e w20 ⟨rfl, hb20⟩
 have HR := hid (hB19.trans (hb20.mono hB19.size))
 clear hb20 hB19 hDm
 go_wp2
 go_ret
 exact ⟨rfl, HR.out⟩
end Go.Proofs.YthnolafhnplnkaaGreatDoor
