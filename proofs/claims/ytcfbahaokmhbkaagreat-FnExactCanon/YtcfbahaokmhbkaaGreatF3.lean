/-
  The law laws.FnExactCanon, walked.
-/
import Derived.Test.YtcfbahaokmhbkaaGreatKC31
import Derived.Test.YtcfbahaokmhbkaaGreatKC22
import Derived.Test.YtcfbahaokmhbkaaGreatKC23
import Derived.Test.YtcfbahaokmhbkaaGreatKC5
import Derived.Deep.CutRange
namespace Go.Proofs.YtcfbahaokmhbkaaGreat
open Go.RowKit

set_option maxRecDepth 100000 in
set_option maxHeartbeats 16000000 in
theorem lawCanon (a1 a2 : Option Addr) (ts : List ByteArray) (fs : List Fn) (c1 c2 : Nat) (x : VmD) (fa ha oa : Option Addr) (fc hc oc : Nat) (w : World) (hn : ts.length ≤ maxLen) (hcc : ∀ s ∈ ts, s.size ≤ maxLen) (hst0 : StrsAt w 0 a1 ts)
    (hn2 : fs.length ≤ maxLen) (hc2 : ∀ f ∈ fs, f.code.length ≤ maxLen) (hfn0 : FnsAt w 0 a2 fs) (hxm : VmMax x) (hv1 : VmAt w 0 fa ha oa x) :
    Calls Tryz.prog 3 #[.agg #[.slice a1 ts.length c1, .slice a2 fs.length c2], .agg (vmCells fa ha oa fc hc oc x)] w fun e w' => e = .returned (.bool true) ∧ Below w.heap.size w w' := by
  conv => arg 3; unfold vmCells
  obtain ⟨w0, hw0⟩ : ∃ w0, w0 = (w.alloc (.cells #[.slice a1 ts.length c1, .slice a2 fs.length c2] 25)).alloc (.cells #[.slice fa x.frames.length fc, .slice ha x.heap.length hc, .int .i64 x.made, .slice oa x.out.length oc, .int .i64 x.status, .int .i64 x.trap, .int .i64 x.value.k, .int .i64 x.value.n, .string x.value.s, .int .i64 x.steps] 31) := ⟨_, rfl⟩
  have hB : Below w.heap.size w w0 := by rw [hw0]; exact ((Below.refl _ _).alloc (Nat.le_refl _) _).alloc (by simp) _
  have hM : w0.heap[w.heap.size]? = some (.cells #[.slice a1 ts.length c1, .slice a2 fs.length c2] 25 (0, 0)) := by rw [hw0]; exact block_old (block_new _ _ _) _
  have hX : w0.heap[w.heap.size + 1]? = some (.cells #[.slice fa x.frames.length fc, .slice ha x.heap.length hc, .int .i64 x.made, .slice oa x.out.length oc, .int .i64 x.status, .int .i64 x.trap, .int .i64 x.value.k, .int .i64 x.value.n, .string x.value.s, .int .i64 x.steps] 31 (0, 0)) := by rw [hw0]; exact block_new_at _ _ _ _ (by simp)
  go_enter Tryz.func3, Tryz.ntmps3
  go_wp2_with fail
  rw [← hw0]
  clear hw0
  refine (szModule_le a1 a2 ts fs c1 c2 _ hn hcc (hst0.mono hB) hn2 hc2 (hfn0.mono hB)).mono ?_
  rintro e w1 ⟨l, rfl, hl, hsm, hb1⟩
  have hM_n := block_kept hM hb1
  have hX_n := block_kept hX hb1
  have hB_n := hB.trans (hb1.mono hB.size)
  clear hM hX hB
  have hM := hM_n
  have hX := hX_n
  have hB := hB_n
  clear hM_n hX_n hB_n
  clear hb1 hn hcc hn2 hc2
  by_cases hl0 : l < 0
  · go_wp2_with fail
    go_ret
    exact ⟨rfl, hB⟩
  have hs := hsm (by omega)
  clear hsm
  have z1 := block_cell hX
  go_wp2_with fail
  clear z1
  refine (szVm_any fa ha oa fc hc oc x l _ (by omega) (by omega) hxm (hv1.frs.mono hB) (hv1.recs.mono hB) (hv1.out.mono hB)).mono ?_
  rintro e w2 ⟨l2, rfl, hl2, hsm, hb2⟩
  have hM_n := block_kept hM hb2
  have hX_n := block_kept hX hb2
  have hB_n := hB.trans (hb2.mono hB.size)
  clear hM hX hB
  have hM := hM_n
  have hX := hX_n
  have hB := hB_n
  clear hM_n hX_n hB_n
  clear hb2 hxm
  by_cases hl1 : l2 < 0
  · go_wp2_with fail
    go_ret
    exact ⟨rfl, hB⟩
  have hxx := hsm (by omega)
  clear hsm hl hl0 hl2
  have HS : Hid (∀ w', Below w2.heap.size w2 w' → w'.cell? ⟨w.heap.size, 0, none⟩ = some (.slice a1 ts.length c1) ∧ w'.cell? ⟨w.heap.size, 1, none⟩ = some (.slice a2 fs.length c2) ∧ w'.cell? ⟨w.heap.size + 1, 0, none⟩ = some (.slice fa x.frames.length fc) ∧ w'.cell? ⟨w.heap.size + 1, 1, none⟩ = some (.slice ha x.heap.length hc) ∧ w'.cell? ⟨w.heap.size + 1, 2, none⟩ = some (.int .i64 x.made) ∧ w'.cell? ⟨w.heap.size + 1, 3, none⟩ = some (.slice oa x.out.length oc) ∧ w'.cell? ⟨w.heap.size + 1, 4, none⟩ = some (.int .i64 x.status) ∧ w'.cell? ⟨w.heap.size + 1, 5, none⟩ = some (.int .i64 x.trap) ∧ w'.cell? ⟨w.heap.size + 1, 6, none⟩ = some (.int .i64 x.value.k) ∧ w'.cell? ⟨w.heap.size + 1, 7, none⟩ = some (.int .i64 x.value.n) ∧ w'.cell? ⟨w.heap.size + 1, 8, none⟩ = some (.string x.value.s) ∧ w'.cell? ⟨w.heap.size + 1, 9, none⟩ = some (.int .i64 x.steps)) := fun w' q => ⟨by rw [block_cell (block_kept hM q)]; rfl, by rw [block_cell (block_kept hM q)]; rfl, by rw [block_cell (block_kept hX q)]; rfl, by rw [block_cell (block_kept hX q)]; rfl, by rw [block_cell (block_kept hX q)]; rfl, by rw [block_cell (block_kept hX q)]; rfl, by rw [block_cell (block_kept hX q)]; rfl, by rw [block_cell (block_kept hX q)]; rfl, by rw [block_cell (block_kept hX q)]; rfl, by rw [block_cell (block_kept hX q)]; rfl, by rw [block_cell (block_kept hX q)]; rfl, by rw [block_cell (block_kept hX q)]; rfl⟩
  go_upto_region 8 with fail
  go_cut [6] from 24 to 28 (fun sv wx => ∃ V lo A0 n0 k0 A1 n1 k1 i2 A3 n3 k3 i4 i5 i6 i7 s8 i9, sv = .pointer (some ⟨V, 0, none⟩) ∧ wx.heap[V]? = some (.cells #[.slice A0 n0 k0, .slice A1 n1 k1, .int .i64 i2, .slice A3 n3 k3, .int .i64 i4, .int .i64 i5, .int .i64 i6, .int .i64 i7, .string s8, .int .i64 i9] 38 (0, 0)) ∧ SR ts fs x wx lo #[.slice A0 n0 k0, .slice A1 n1 k1, .int .i64 i2, .slice A3 n3 k3, .int .i64 i4, .int .i64 i5, .int .i64 i6, .int .i64 i7, .string s8, .int .i64 i9] ∧ w2.heap.size ≤ V ∧ Below w2.heap.size w2 wx)
  case first =>
    have q : Below w2.heap.size w2 w2 := Below.refl _ _
    have zq := q.size
    have HBH := hid hB
    clear hB
    go_region_held3 (fun w' => w'.cell? ⟨w.heap.size, 0, none⟩ = some (.slice a1 ts.length c1) ∧ w'.cell? ⟨w.heap.size, 1, none⟩ = some (.slice a2 fs.length c2) ∧ w'.cell? ⟨w.heap.size + 1, 0, none⟩ = some (.slice fa x.frames.length fc) ∧ w'.cell? ⟨w.heap.size + 1, 1, none⟩ = some (.slice ha x.heap.length hc) ∧ w'.cell? ⟨w.heap.size + 1, 2, none⟩ = some (.int .i64 x.made) ∧ w'.cell? ⟨w.heap.size + 1, 3, none⟩ = some (.slice oa x.out.length oc) ∧ w'.cell? ⟨w.heap.size + 1, 4, none⟩ = some (.int .i64 x.status) ∧ w'.cell? ⟨w.heap.size + 1, 5, none⟩ = some (.int .i64 x.trap) ∧ w'.cell? ⟨w.heap.size + 1, 6, none⟩ = some (.int .i64 x.value.k) ∧ w'.cell? ⟨w.heap.size + 1, 7, none⟩ = some (.int .i64 x.value.n) ∧ w'.cell? ⟨w.heap.size + 1, 8, none⟩ = some (.string x.value.s) ∧ w'.cell? ⟨w.heap.size + 1, 9, none⟩ = some (.int .i64 x.steps))
      ((refine HS.out _ ?_; repeat (first | refine Below.setCell ?_ (by first | omega | (simp; omega) | simp) _ | refine Below.alloc ?_ (by first | omega | (simp; omega) | simp) _ | refine Below.drew ?_ | exact q)))
      (first
        | (go_at_call 8; refine (toModule_any a1 a2 ts fs c1 c2 _ hs (by exact hst0.mono (HBH.out.trans ((show Below w2.heap.size w2 _ by repeat (first | refine Below.setCell ?_ (by first | omega | (simp; omega) | simp) _ | refine Below.alloc ?_ (by first | omega | (simp; omega) | simp) _ | refine Below.drew ?_ | exact q)).mono HBH.out.size))) (by exact hfn0.mono (HBH.out.trans ((show Below w2.heap.size w2 _ by repeat (first | refine Below.setCell ?_ (by first | omega | (simp; omega) | simp) _ | refine Below.alloc ?_ (by first | omega | (simp; omega) | simp) _ | refine Below.drew ?_ | exact q)).mono HBH.out.size)))).mono ?_; rintro e wm ⟨gm, gm2, -, -, rfl, hst, hfn, kd⟩; (first | (have hlt := lt_block hV; have hV := block_kept hV kd) | (have hpr := lift_drew kd; have hV := hpr.1; have hlt := hpr.2; clear hpr; have hge : w2.heap.size ≤ w2.heap.size := Nat.le_refl _) | (have hpr := lift_new kd; have hV := hpr.1; have hlt := hpr.2; clear hpr; have hge := zq) | skip); have q : Below w2.heap.size w2 _ := Below.trans (by repeat (first | refine Below.setCell ?_ (by first | omega | (simp; omega) | simp) _ | refine Below.alloc ?_ (by first | omega | (simp; omega) | simp) _ | refine Below.drew ?_ | exact q)) (kd.mono (by first | exact zq | (simp; omega) | simp)); have zq := q.size)
        | (go_at_call 9; refine (toVm_any fa ha oa fc hc oc x _ hxx (by exact hv1.mono (HBH.out.trans ((show Below w2.heap.size w2 _ by repeat (first | refine Below.setCell ?_ (by first | omega | (simp; omega) | simp) _ | refine Below.alloc ?_ (by first | omega | (simp; omega) | simp) _ | refine Below.drew ?_ | exact q)).mono HBH.out.size)))).mono ?_; rintro e wv ⟨gx1, gx2, gx3, rfl, hvx, kd⟩; have kq : Below wm.heap.size wm _ := Below.trans (by repeat (first | refine Below.alloc ?_ (by first | omega | (simp; omega) | simp) _ | refine Below.drew ?_ | exact Below.refl _ _)) (kd.mono (by simp)); have hst := (hst.low (Nat.zero_le _)).mono kq; have hfn := (hfn.low (Nat.zero_le _)).mono kq; (first | (have hlt := lt_block hV; have hV := block_kept hV kd) | (have hpr := lift_drew kd; have hV := hpr.1; have hlt := hpr.2; clear hpr; have hge : w2.heap.size ≤ w2.heap.size := Nat.le_refl _) | (have hpr := lift_new kd; have hV := hpr.1; have hlt := hpr.2; clear hpr; have hge := zq) | skip); have q : Below w2.heap.size w2 _ := Below.trans (by repeat (first | refine Below.setCell ?_ (by first | omega | (simp; omega) | simp) _ | refine Below.alloc ?_ (by first | omega | (simp; omega) | simp) _ | refine Below.drew ?_ | exact q)) (kd.mono (by first | exact zq | (simp; omega) | simp)); have zq := q.size)
        | (go_at_call 7; refine (sC _ _ _ _ _ _ _ _ _ _ _ hs (by exact hst.mono (show Below wv.heap.size wv _ by repeat (first | refine Below.alloc ?_ (by first | omega | (simp; omega) | simp) _ | refine Below.drew ?_ | exact Below.refl _ _))) (by exact hfn.mono (show Below wv.heap.size wv _ by repeat (first | refine Below.alloc ?_ (by first | omega | (simp; omega) | simp) _ | refine Below.drew ?_ | exact Below.refl _ _))) hxx (by exact (hvx.low (Nat.zero_le _)).mono (show Below wv.heap.size wv _ by repeat (first | refine Below.alloc ?_ (by first | omega | (simp; omega) | simp) _ | refine Below.drew ?_ | exact Below.refl _ _)))).mono ?_; rintro e wc ⟨A0, n0, k0, A1, n1, k1, i2, A3, n3, k3, i4, i5, i6, i7, s8, i9, rfl, hsr, kd⟩; (first | (have hlt := lt_block hV; have hV := block_kept hV kd) | (have hpr := lift_drew kd; have hV := hpr.1; have hlt := hpr.2; clear hpr; have hge : w2.heap.size ≤ w2.heap.size := Nat.le_refl _) | (have hpr := lift_new kd; have hV := hpr.1; have hlt := hpr.2; clear hpr; have hge := zq) | skip); (first | (have vc := block_cell hV; have vf := block_free hV) | skip); have q : Below w2.heap.size w2 _ := Below.trans (by repeat (first | refine Below.setCell ?_ (by first | omega | (simp; omega) | simp) _ | refine Below.alloc ?_ (by first | omega | (simp; omega) | simp) _ | refine Below.drew ?_ | exact q)) (kd.mono (by first | exact zq | (simp; omega) | simp)); have zq := q.size))
    all_goals
      go_wp2_with fail
      go_meet
      case rel =>
        first
        | (have hp := put10_block hV (.slice A0 n0 k0) (.slice A1 n1 k1) (.int .i64 i2) (.slice A3 n3 k3) (.int .i64 i4) (.int .i64 i5) (.int .i64 i6) (.int .i64 i7) (.string s8) (.int .i64 i9)
           have hr := hsr.put hlt (.slice A0 n0 k0) (.slice A1 n1 k1) (.int .i64 i2) (.slice A3 n3 k3) (.int .i64 i4) (.int .i64 i5) (.int .i64 i6) (.int .i64 i7) (.string s8) (.int .i64 i9)
           have hq := put10_below q hge (.slice A0 n0 k0) (.slice A1 n1 k1) (.int .i64 i2) (.slice A3 n3 k3) (.int .i64 i4) (.int .i64 i5) (.int .i64 i6) (.int .i64 i7) (.string s8) (.int .i64 i9)
           exact ⟨_, _, _, _, _, _, _, _, _, _, _, _, _, _, _, _, _, _, rfl, hp, hr, hge, hq⟩)
        | exact ⟨_, _, _, _, _, _, _, _, _, _, _, _, _, _, _, _, _, _, rfl, block_new _ _ _, hsr.mono ((Below.refl _ _).alloc (Nat.le_refl _) _), zq, q.alloc zq _⟩
  case rest =>
    obtain ⟨wz, hwz⟩ : ∃ wz, wz = wc := ⟨_, rfl⟩
    subst hwz
    obtain ⟨V, lo, A0, n0, k0, A1, n1, k1, i2, A3, n3, k3, i4, i5, i6, i7, s8, i9, rfl, hV0, hsr0, -, hbz⟩ := hcut
    have HM0 : Hid (wz.heap[w.heap.size]? = some (.cells #[.slice a1 ts.length c1, .slice a2 fs.length c2] 25 (0, 0))) := block_kept hM hbz
    have HX0 : Hid (wz.heap[w.heap.size + 1]? = some (.cells #[.slice fa x.frames.length fc, .slice ha x.heap.length hc, .int .i64 x.made, .slice oa x.out.length oc, .int .i64 x.status, .int .i64 x.trap, .int .i64 x.value.k, .int .i64 x.value.n, .string x.value.s, .int .i64 x.steps] 31 (0, 0))) := block_kept hX hbz
    have HV0 : Hid (wz.heap[V]? = some (.cells #[.slice A0 n0 k0, .slice A1 n1 k1, .int .i64 i2, .slice A3 n3 k3, .int .i64 i4, .int .i64 i5, .int .i64 i6, .int .i64 i7, .string s8, .int .i64 i9] 38 (0, 0))) := hV0
    have HB0 : Hid (Below w.heap.size w wz) := hB.trans (hbz.mono hB.size)
    have HSR := hid hsr0
    have hz : Below wz.heap.size wz wz := Below.refl _ _
    clear HS hbz hM hX hB hV0 hsr0
    have z1 := block_cell (block_kept HM0.out hz)
    go_wp2_with fail
    clear z1
    refine (toModule_made a1 a2 ts fs c1 c2 _ hs (hst0.mono (HB0.out.trans (hz.mono HB0.out.size))) (hfn0.mono (HB0.out.trans (hz.mono HB0.out.size)))).mono ?_
    rintro e w7 ⟨p, p2, hp1, hp2, rfl, hst, hfn, hb7, htb, hfb⟩
    have hfh := hfb.h
    have HP1 := hid hp1
    have HP2 := hid hp2
    have HPL : Hid (p < w7.heap.size) := by obtain ⟨c, hc, -⟩ := htb; exact lt_block hc
    have HPL2 : Hid (p2 < w7.heap.size) := by obtain ⟨c, hc, -⟩ := hfb; exact lt_block hc
    have hst := hst.low (Nat.zero_le _)
    have hfn := hfn.low (Nat.zero_le _)
    clear hp1 hp2 hfb
    have hz_n := hz.trans (hb7.mono hz.size)
    clear hz
    have hz := hz_n
    clear hz_n
    clear hb7
    obtain ⟨w8, hw8⟩ : ∃ w8, w8 = w7.alloc (.cells #[.slice (some ⟨p, 0, none⟩) ts.length ts.length, .slice (some ⟨p2, 0, none⟩) fs.length fs.length] 42) := ⟨_, rfl⟩
    have hbq : Below w7.heap.size w7 w8 := by rw [hw8]; exact (Below.refl _ _).alloc (Nat.le_refl _) _
    have hP : w8.heap[w7.heap.size]? = some (.cells #[.slice (some ⟨p, 0, none⟩) ts.length ts.length, .slice (some ⟨p2, 0, none⟩) fs.length fs.length] 42 (0, 0)) := by rw [hw8]; exact block_new _ _ _
    have z1 := block_cell (block_old (block_kept HX0.out hz) (.cells #[.slice (some ⟨p, 0, none⟩) ts.length ts.length, .slice (some ⟨p2, 0, none⟩) fs.length fs.length] 42))
    have H78 := hid hbq.size
    have hst_n := hst.mono hbq
    have hfn_n := hfn.mono hbq
    have htb_n := htb.mono hbq
    have hfh_n := hfh.mono hbq
    have hz_n := hz.trans (hbq.mono hz.size)
    clear hst hfn htb hfh hz
    have hst := hst_n
    have hfn := hfn_n
    have htb := htb_n
    have hfh := hfh_n
    have hz := hz_n
    clear hst_n hfn_n htb_n hfh_n hz_n
    go_wp2_with fail
    rw [← hw8]
    clear hw8 z1 hbq
    refine (toVm_b fa ha oa fc hc oc x _ hxx (hv1.mono (HB0.out.trans (hz.mono HB0.out.size)))).mono ?_
    rintro e w9 ⟨gx1, gx2, gx3, rfl, hvb, hb9⟩
    unfold vmCells
    have hxs := hvb.xs
    have hvx := hvb.at.low (Nat.zero_le _)
    have H89 := hid hb9.size
    have H0_8 : Hid (wz.heap.size ≤ w8.heap.size) := hz.size
    clear hvb
    have hP_n := block_kept hP hb9
    have hst_n := hst.mono hb9
    have hfn_n := hfn.mono hb9
    have htb_n := htb.mono hb9
    have hfh_n := hfh.mono hb9
    have hz_n := hz.trans (hb9.mono hz.size)
    clear hP hst hfn htb hfh hz
    have hP := hP_n
    have hst := hst_n
    have hfn := hfn_n
    have htb := htb_n
    have hfh := hfh_n
    have hz := hz_n
    clear hP_n hst_n hfn_n htb_n hfh_n hz_n
    clear hb9
    obtain ⟨w10, hw10⟩ : ∃ w10, w10 = w9.alloc (.cells #[.slice (some ⟨gx1, 0, none⟩) x.frames.length x.frames.length, .slice (some ⟨gx2, 0, none⟩) x.heap.length x.heap.length, .int .i64 x.made, .slice (some ⟨gx3, 0, none⟩) x.out.length x.out.length, .int .i64 x.status, .int .i64 x.trap, .int .i64 x.value.k, .int .i64 x.value.n, .string x.value.s, .int .i64 x.steps] 38) := ⟨_, rfl⟩
    have hbq : Below w9.heap.size w9 w10 := by rw [hw10]; exact (Below.refl _ _).alloc (Nat.le_refl _) _
    have hQ : w10.heap[w9.heap.size]? = some (.cells #[.slice (some ⟨gx1, 0, none⟩) x.frames.length x.frames.length, .slice (some ⟨gx2, 0, none⟩) x.heap.length x.heap.length, .int .i64 x.made, .slice (some ⟨gx3, 0, none⟩) x.out.length x.out.length, .int .i64 x.status, .int .i64 x.trap, .int .i64 x.value.k, .int .i64 x.value.n, .string x.value.s, .int .i64 x.steps] 38 (0, 0)) := by rw [hw10]; exact block_new _ _ _
    have z1 := block_cell (block_old hP (.cells #[.slice (some ⟨gx1, 0, none⟩) x.frames.length x.frames.length, .slice (some ⟨gx2, 0, none⟩) x.heap.length x.heap.length, .int .i64 x.made, .slice (some ⟨gx3, 0, none⟩) x.out.length x.out.length, .int .i64 x.status, .int .i64 x.trap, .int .i64 x.value.k, .int .i64 x.value.n, .string x.value.s, .int .i64 x.steps] 38))
    have z2 := block_cell (block_new w9 #[.slice (some ⟨gx1, 0, none⟩) x.frames.length x.frames.length, .slice (some ⟨gx2, 0, none⟩) x.heap.length x.heap.length, .int .i64 x.made, .slice (some ⟨gx3, 0, none⟩) x.out.length x.out.length, .int .i64 x.status, .int .i64 x.trap, .int .i64 x.value.k, .int .i64 x.value.n, .string x.value.s, .int .i64 x.steps] 38)
    have H910 := hid hbq.size
    have hP_n := block_kept hP hbq
    have hst_n := hst.mono hbq
    have hfn_n := hfn.mono hbq
    have htb_n := htb.mono hbq
    have hfh_n := hfh.mono hbq
    have hxs_n := hxs.mono hbq
    have hvx_n := hvx.mono hbq
    have hz_n := hz.trans (hbq.mono hz.size)
    clear hP hst hfn htb hfh hxs hvx hz
    have hP := hP_n
    have hst := hst_n
    have hfn := hfn_n
    have htb := htb_n
    have hfh := hfh_n
    have hxs := hxs_n
    have hvx := hvx_n
    have hz := hz_n
    clear hP_n hst_n hfn_n htb_n hfh_n hxs_n hvx_n hz_n
    go_wp2_with fail
    rw [← hw10]
    clear hw10 z1 z2 hbq
    have hal := iC (ts := ts) (fs := fs) (x := x) (some ⟨p, 0, none⟩) (some ⟨p2, 0, none⟩) ts.length fs.length (some ⟨gx1, 0, none⟩) (some ⟨gx2, 0, none⟩) (some ⟨gx3, 0, none⟩) x.frames.length x.heap.length x.out.length w10 hs hst hfn hxx hvx
    unfold vmCells at hal
    refine hal.mono ?_
    rintro e w11 ⟨B0, m0, l0, B1, m1, l1, j2, B3, m3, l3, j4, j5, j6, j7, t8, j9, rfl, hir, hb11⟩
    have H1011 := hid hb11.size
    clear hal
    have hP_n := block_kept hP hb11
    have hQ_n := block_kept hQ hb11
    have hst_n := hst.mono hb11
    have hfn_n := hfn.mono hb11
    have htb_n := htb.mono hb11
    have hfh_n := hfh.mono hb11
    have hxs_n := hxs.mono hb11
    have hvx_n := hvx.mono hb11
    have hz_n := hz.trans (hb11.mono hz.size)
    clear hP hQ hst hfn htb hfh hxs hvx hz
    have hP := hP_n
    have hQ := hQ_n
    have hst := hst_n
    have hfn := hfn_n
    have htb := htb_n
    have hfh := hfh_n
    have hxs := hxs_n
    have hvx := hvx_n
    have hz := hz_n
    clear hP_n hQ_n hst_n hfn_n htb_n hfh_n hxs_n hvx_n hz_n
    clear hb11
    obtain ⟨w12, hw12⟩ : ∃ w12, w12 = w11.alloc (.cells #[.slice B0 m0 l0, .slice B1 m1 l1, .int .i64 j2, .slice B3 m3 l3, .int .i64 j4, .int .i64 j5, .int .i64 j6, .int .i64 j7, .string t8, .int .i64 j9] 38) := ⟨_, rfl⟩
    have hbq : Below w11.heap.size w11 w12 := by rw [hw12]; exact (Below.refl _ _).alloc (Nat.le_refl _) _
    have hG : w12.heap[w11.heap.size]? = some (.cells #[.slice B0 m0 l0, .slice B1 m1 l1, .int .i64 j2, .slice B3 m3 l3, .int .i64 j4, .int .i64 j5, .int .i64 j6, .int .i64 j7, .string t8, .int .i64 j9] 38 (0, 0)) := by rw [hw12]; exact block_new _ _ _
    have z1 := block_cell (block_new w11 #[.slice B0 m0 l0, .slice B1 m1 l1, .int .i64 j2, .slice B3 m3 l3, .int .i64 j4, .int .i64 j5, .int .i64 j6, .int .i64 j7, .string t8, .int .i64 j9] 38)
    have z2 := block_cell (block_old (block_kept HV0.out hz) (.cells #[.slice B0 m0 l0, .slice B1 m1 l1, .int .i64 j2, .slice B3 m3 l3, .int .i64 j4, .int .i64 j5, .int .i64 j6, .int .i64 j7, .string t8, .int .i64 j9] 38))
    have hP_n := block_kept hP hbq
    have hQ_n := block_kept hQ hbq
    have hst_n := hst.mono hbq
    have hfn_n := hfn.mono hbq
    have htb_n := htb.mono hbq
    have hfh_n := hfh.mono hbq
    have hxs_n := hxs.mono hbq
    have hvx_n := hvx.mono hbq
    have hir_n := hir.mono hbq
    have hz_n := hz.trans (hbq.mono hz.size)
    clear hP hQ hst hfn htb hfh hxs hvx hir hz
    have hP := hP_n
    have hQ := hQ_n
    have hst := hst_n
    have hfn := hfn_n
    have htb := htb_n
    have hfh := hfh_n
    have hxs := hxs_n
    have hvx := hvx_n
    have hir := hir_n
    have hz := hz_n
    clear hP_n hQ_n hst_n hfn_n htb_n hfh_n hxs_n hvx_n hir_n hz_n
    go_wp2_with fail
    rw [← hw12]
    clear hw12 z1 z2 hbq
    refine (eqC hxx hir.sr (HSR.out.mono hz)).mono ?_
    rintro e w13 ⟨rfl, hb13⟩
    have hP_n := block_kept hP hb13
    have hQ_n := block_kept hQ hb13
    have hG_n := block_kept hG hb13
    have hst_n := hst.mono hb13
    have hfn_n := hfn.mono hb13
    have htb_n := htb.mono hb13
    have hfh_n := hfh.mono hb13
    have hxs_n := hxs.mono hb13
    have hvx_n := hvx.mono hb13
    have hir_n := hir.mono hb13
    have hz_n := hz.trans (hb13.mono hz.size)
    clear hP hQ hG hst hfn htb hfh hxs hvx hir hz
    have hP := hP_n
    have hQ := hQ_n
    have hG := hG_n
    have hst := hst_n
    have hfn := hfn_n
    have htb := htb_n
    have hfh := hfh_n
    have hxs := hxs_n
    have hvx := hvx_n
    have hir := hir_n
    have hz := hz_n
    clear hP_n hQ_n hG_n hst_n hfn_n htb_n hfh_n hxs_n hvx_n hir_n hz_n
    clear hb13
    have HS : Hid (∀ w', Below w13.heap.size w13 w' → w'.cell? ⟨w7.heap.size, 0, none⟩ = some (.slice (some ⟨p, 0, none⟩) ts.length ts.length) ∧ w'.cell? ⟨w7.heap.size, 1, none⟩ = some (.slice (some ⟨p2, 0, none⟩) fs.length fs.length) ∧ w'.cell? ⟨w.heap.size, 0, none⟩ = some (.slice a1 ts.length c1) ∧ w'.cell? ⟨w.heap.size, 1, none⟩ = some (.slice a2 fs.length c2)) := fun w' q => ⟨by rw [block_cell (block_kept hP q)]; rfl, by rw [block_cell (block_kept hP q)]; rfl, by rw [block_cell (block_kept (block_kept HM0.out hz) q)]; rfl, by rw [block_cell (block_kept (block_kept HM0.out hz) q)]; rfl⟩
    go_upto_region 14 with fail
    have q : Below w13.heap.size w13 w13 := Below.refl _ _
    have HBH : Hid (Below w.heap.size w w13) := (HB0.out.trans (hz.mono HB0.out.size))
    go_region_held3 (fun w' => w'.cell? ⟨w7.heap.size, 0, none⟩ = some (.slice (some ⟨p, 0, none⟩) ts.length ts.length) ∧ w'.cell? ⟨w7.heap.size, 1, none⟩ = some (.slice (some ⟨p2, 0, none⟩) fs.length fs.length) ∧ w'.cell? ⟨w.heap.size, 0, none⟩ = some (.slice a1 ts.length c1) ∧ w'.cell? ⟨w.heap.size, 1, none⟩ = some (.slice a2 fs.length c2))
      ((refine HS.out _ ?_; repeat (first | refine Below.drew ?_ | exact q)))
      (first
        | (go_at_call 8; refine (toModule_any a1 a2 ts fs c1 c2 _ hs (by exact hst0.mono (HBH.out.trans ((show Below w13.heap.size w13 _ by repeat (first | refine Below.drew ?_ | exact q)).mono HBH.out.size))) (by exact hfn0.mono (HBH.out.trans ((show Below w13.heap.size w13 _ by repeat (first | refine Below.drew ?_ | exact q)).mono HBH.out.size)))).mono ?_; rintro e wm ⟨gm, gm2, -, -, rfl, hst9, hfn9, kd⟩; have q : Below w13.heap.size w13 _ := Below.trans (by repeat (first | refine Below.drew ?_ | exact q)) (kd.mono (by first | exact Nat.le_refl _ | exact q.size)))
        | (go_at_call 12; refine (eqModule_any _ _ _ _ ts fs _ _ _ _ _ hs (by exact hst.mono q) (by exact hst9.low (Nat.zero_le _)) (by exact hfn.mono q) (by exact hfn9.low (Nat.zero_le _))).mono ?_; rintro e w14 ⟨rfl, kd⟩; have q : Below w13.heap.size w13 _ := Below.trans (by repeat (first | refine Below.drew ?_ | exact q)) (kd.mono (by first | exact Nat.le_refl _ | exact q.size))))
    clear HS HBH
    clear hst9 hfn9 kd
    have hP_n := block_kept hP q
    have hQ_n := block_kept hQ q
    have hG_n := block_kept hG q
    have hst_n := hst.mono q
    have hfn_n := hfn.mono q
    have htb_n := htb.mono q
    have hfh_n := hfh.mono q
    have hxs_n := hxs.mono q
    have hvx_n := hvx.mono q
    have hir_n := hir.mono q
    have hz_n := hz.trans (q.mono hz.size)
    clear hP hQ hG hst hfn htb hfh hxs hvx hir hz
    have hP := hP_n
    have hQ := hQ_n
    have hG := hG_n
    have hst := hst_n
    have hfn := hfn_n
    have htb := htb_n
    have hfh := hfh_n
    have hxs := hxs_n
    have hvx := hvx_n
    have hir := hir_n
    have hz := hz_n
    clear hP_n hQ_n hG_n hst_n hfn_n htb_n hfh_n hxs_n hvx_n hir_n hz_n
    clear q
    clear hst hfn
    have HS : Hid (∀ w', Below w14.heap.size w14 w' → w'.cell? ⟨w9.heap.size, 0, none⟩ = some (.slice (some ⟨gx1, 0, none⟩) x.frames.length x.frames.length) ∧ w'.cell? ⟨w9.heap.size, 1, none⟩ = some (.slice (some ⟨gx2, 0, none⟩) x.heap.length x.heap.length) ∧ w'.cell? ⟨w9.heap.size, 2, none⟩ = some (.int .i64 x.made) ∧ w'.cell? ⟨w9.heap.size, 3, none⟩ = some (.slice (some ⟨gx3, 0, none⟩) x.out.length x.out.length) ∧ w'.cell? ⟨w9.heap.size, 4, none⟩ = some (.int .i64 x.status) ∧ w'.cell? ⟨w9.heap.size, 5, none⟩ = some (.int .i64 x.trap) ∧ w'.cell? ⟨w9.heap.size, 6, none⟩ = some (.int .i64 x.value.k) ∧ w'.cell? ⟨w9.heap.size, 7, none⟩ = some (.int .i64 x.value.n) ∧ w'.cell? ⟨w9.heap.size, 8, none⟩ = some (.string x.value.s) ∧ w'.cell? ⟨w9.heap.size, 9, none⟩ = some (.int .i64 x.steps) ∧ w'.cell? ⟨w.heap.size + 1, 0, none⟩ = some (.slice fa x.frames.length fc) ∧ w'.cell? ⟨w.heap.size + 1, 1, none⟩ = some (.slice ha x.heap.length hc) ∧ w'.cell? ⟨w.heap.size + 1, 2, none⟩ = some (.int .i64 x.made) ∧ w'.cell? ⟨w.heap.size + 1, 3, none⟩ = some (.slice oa x.out.length oc) ∧ w'.cell? ⟨w.heap.size + 1, 4, none⟩ = some (.int .i64 x.status) ∧ w'.cell? ⟨w.heap.size + 1, 5, none⟩ = some (.int .i64 x.trap) ∧ w'.cell? ⟨w.heap.size + 1, 6, none⟩ = some (.int .i64 x.value.k) ∧ w'.cell? ⟨w.heap.size + 1, 7, none⟩ = some (.int .i64 x.value.n) ∧ w'.cell? ⟨w.heap.size + 1, 8, none⟩ = some (.string x.value.s) ∧ w'.cell? ⟨w.heap.size + 1, 9, none⟩ = some (.int .i64 x.steps)) := fun w' q => ⟨by rw [block_cell (block_kept hQ q)]; rfl, by rw [block_cell (block_kept hQ q)]; rfl, by rw [block_cell (block_kept hQ q)]; rfl, by rw [block_cell (block_kept hQ q)]; rfl, by rw [block_cell (block_kept hQ q)]; rfl, by rw [block_cell (block_kept hQ q)]; rfl, by rw [block_cell (block_kept hQ q)]; rfl, by rw [block_cell (block_kept hQ q)]; rfl, by rw [block_cell (block_kept hQ q)]; rfl, by rw [block_cell (block_kept hQ q)]; rfl, by rw [block_cell (block_kept (block_kept HX0.out hz) q)]; rfl, by rw [block_cell (block_kept (block_kept HX0.out hz) q)]; rfl, by rw [block_cell (block_kept (block_kept HX0.out hz) q)]; rfl, by rw [block_cell (block_kept (block_kept HX0.out hz) q)]; rfl, by rw [block_cell (block_kept (block_kept HX0.out hz) q)]; rfl, by rw [block_cell (block_kept (block_kept HX0.out hz) q)]; rfl, by rw [block_cell (block_kept (block_kept HX0.out hz) q)]; rfl, by rw [block_cell (block_kept (block_kept HX0.out hz) q)]; rfl, by rw [block_cell (block_kept (block_kept HX0.out hz) q)]; rfl, by rw [block_cell (block_kept (block_kept HX0.out hz) q)]; rfl⟩
    go_upto_region 16 with fail
    have q : Below w14.heap.size w14 w14 := Below.refl _ _
    have HBH : Hid (Below w.heap.size w w14) := (HB0.out.trans (hz.mono HB0.out.size))
    go_region_held3 (fun w' => w'.cell? ⟨w9.heap.size, 0, none⟩ = some (.slice (some ⟨gx1, 0, none⟩) x.frames.length x.frames.length) ∧ w'.cell? ⟨w9.heap.size, 1, none⟩ = some (.slice (some ⟨gx2, 0, none⟩) x.heap.length x.heap.length) ∧ w'.cell? ⟨w9.heap.size, 2, none⟩ = some (.int .i64 x.made) ∧ w'.cell? ⟨w9.heap.size, 3, none⟩ = some (.slice (some ⟨gx3, 0, none⟩) x.out.length x.out.length) ∧ w'.cell? ⟨w9.heap.size, 4, none⟩ = some (.int .i64 x.status) ∧ w'.cell? ⟨w9.heap.size, 5, none⟩ = some (.int .i64 x.trap) ∧ w'.cell? ⟨w9.heap.size, 6, none⟩ = some (.int .i64 x.value.k) ∧ w'.cell? ⟨w9.heap.size, 7, none⟩ = some (.int .i64 x.value.n) ∧ w'.cell? ⟨w9.heap.size, 8, none⟩ = some (.string x.value.s) ∧ w'.cell? ⟨w9.heap.size, 9, none⟩ = some (.int .i64 x.steps) ∧ w'.cell? ⟨w.heap.size + 1, 0, none⟩ = some (.slice fa x.frames.length fc) ∧ w'.cell? ⟨w.heap.size + 1, 1, none⟩ = some (.slice ha x.heap.length hc) ∧ w'.cell? ⟨w.heap.size + 1, 2, none⟩ = some (.int .i64 x.made) ∧ w'.cell? ⟨w.heap.size + 1, 3, none⟩ = some (.slice oa x.out.length oc) ∧ w'.cell? ⟨w.heap.size + 1, 4, none⟩ = some (.int .i64 x.status) ∧ w'.cell? ⟨w.heap.size + 1, 5, none⟩ = some (.int .i64 x.trap) ∧ w'.cell? ⟨w.heap.size + 1, 6, none⟩ = some (.int .i64 x.value.k) ∧ w'.cell? ⟨w.heap.size + 1, 7, none⟩ = some (.int .i64 x.value.n) ∧ w'.cell? ⟨w.heap.size + 1, 8, none⟩ = some (.string x.value.s) ∧ w'.cell? ⟨w.heap.size + 1, 9, none⟩ = some (.int .i64 x.steps))
      ((refine HS.out _ ?_; repeat (first | refine Below.drew ?_ | exact q)))
      (first
        | (go_at_call 9; refine (toVm_any fa ha oa fc hc oc x _ hxx (by exact hv1.mono (HBH.out.trans ((show Below w14.heap.size w14 _ by repeat (first | refine Below.drew ?_ | exact q)).mono HBH.out.size)))).mono ?_; rintro e wx ⟨k1, k2, k3, rfl, hvm, kd⟩; have q : Below w14.heap.size w14 _ := Below.trans (by repeat (first | refine Below.drew ?_ | exact q)) (kd.mono (by first | exact Nat.le_refl _ | exact q.size)))
        | (go_at_call 11; refine (eqVm_any _ _ _ _ _ _ _ _ _ _ _ _ x _ hxx (by exact hvx.mono q) (by exact hvm.low (Nat.zero_le _))).mono ?_; rintro e w15 ⟨rfl, kd⟩; have q : Below w14.heap.size w14 _ := Below.trans (by repeat (first | refine Below.drew ?_ | exact q)) (kd.mono (by first | exact Nat.le_refl _ | exact q.size))))
    clear HS HBH
    clear hvm kd
    have hP_n := block_kept hP q
    have hQ_n := block_kept hQ q
    have hG_n := block_kept hG q
    have htb_n := htb.mono q
    have hfh_n := hfh.mono q
    have hxs_n := hxs.mono q
    have hvx_n := hvx.mono q
    have hir_n := hir.mono q
    have hz_n := hz.trans (q.mono hz.size)
    clear hP hQ hG htb hfh hxs hvx hir hz
    have hP := hP_n
    have hQ := hQ_n
    have hG := hG_n
    have htb := htb_n
    have hfh := hfh_n
    have hxs := hxs_n
    have hvx := hvx_n
    have hir := hir_n
    have hz := hz_n
    clear hP_n hQ_n hG_n htb_n hfh_n hxs_n hvx_n hir_n hz_n
    clear q
    clear hvx
    have z1 := block_cell hP
    go_wp2_with fail
    clear z1
    refine (markModule_w wz.heap.size w7.heap.size p p2 _ _ ts fs _ hs HP1.out HP2.out HPL.out HPL2.out htb hfh).mono ?_
    rintro e w16 ⟨rk, rfl, hrk0, hrk1, -, ho16⟩
    obtain ⟨rn, rfl⟩ : ∃ rn : Nat, rk = (rn : Int) := ⟨rk.toNat, by omega⟩
    have hz16 : Below wz.heap.size wz w16 := hz.trans (ho16.below wz.heap.size (fun k hk => hk.1) hz.size)
    have kk16 : Kept w7.heap.size w15 w16 := Kept.only ho16 (Nat.le_refl _)
    have hP16 := kk16 _ _ (Nat.le_refl _) hP
    have hQ16 := kk16 _ _ (Nat.le_trans H78.out H89.out) hQ
    have hG16 := kk16 _ _ (Nat.le_trans (Nat.le_trans H78.out H89.out) (Nat.le_trans H910.out H1011.out)) hG
    have hxs16 := hxs.kept (kk16.up H78.out)
    have hir16 := hir.kept (kk16.up (Nat.le_trans (Nat.le_trans H78.out H89.out) H910.out))
    clear hP hQ hG hxs hir htb hfh hz ho16 kk16 hP16
    have hrn : rn ≤ 10000000000000 := by omega
    clear hrk0 hrk1
    have z1 := block_cell hQ16
    have hmk := markVm_w w8.heap.size w9.heap.size gx1 gx2 gx3 x.frames.length x.heap.length x.out.length x rn w16 hxx hrn hxs16.lf hxs16.lg hxs16.hf hxs16.hg hxs16.f hxs16.r hxs16.o
    unfold vmCells at hmk
    go_wp2_with fail
    clear z1
    refine hmk.mono ?_
    rintro e w17 ⟨k1, rfl, hk01, hk11, -, -, ho17⟩
    have hz : Below wz.heap.size wz w17 := hz16.trans (ho17.below wz.heap.size (fun k hk => Nat.le_trans H0_8.out hk.1) hz16.size)
    have kk17 : Kept w9.heap.size w16 w17 := Kept.only ho17 (Nat.le_refl _)
    have hG := kk17 _ _ (Nat.le_trans H910.out H1011.out) hG16
    have hir := hir16.kept (kk17.up H910.out)
    clear hz16 hmk hQ16 hG16 hxs16 hir16 ho17 kk17 hrn
    have hk1n : ¬ ((k1 : Int) < 0) := by omega
    clear hk01 hk11
    have z1 := block_cell hG
    have z2 := block_cell (block_kept HV0.out hz)
    go_wp2_with fail
    clear z1 z2
    refine (eqC hxx hir.sr (HSR.out.mono hz)).mono ?_
    rintro e w18 ⟨rfl, hb18⟩
    clear hk1n
    have hG_n := block_kept hG hb18
    have hir_n := hir.mono hb18
    have hz_n := hz.trans (hb18.mono hz.size)
    clear hG hir hz
    have hG := hG_n
    have hir := hir_n
    have hz := hz_n
    clear hG_n hir_n hz_n
    clear hb18
    have z1 := block_cell hG
    go_wp2_with fail
    clear z1
    refine (markC hxx hir).mono ?_
    rintro e w19 ⟨m, he, hmk, hbl, hk38⟩
    obtain ⟨mi, hmi⟩ : ∃ mi : Int, mi = (m : Int) := ⟨_, rfl⟩
    rw [← hmi] at he
    subst he
    have hm0 : ¬ mi < 0 := by omega
    have HMI := hid hmi
    clear hmi
    have hz19 : Below wz.heap.size wz w19 := hz.trans ((hbl (by have h1 := lt_block hG; have h2 := H1011.out; omega)).mono (Nat.le_trans (Nat.le_trans H0_8.out H89.out) H910.out))
    have hG19 := hk38 _ _ hG
    clear hz hG hir hbl hk38
    have hz := hz19
    have hG := hG19
    clear hz19 hG19
    have z1 := block_cell hG
    go_wp2_with fail
    clear z1
    refine (heldC hxx hmk).mono ?_
    rintro e w20 ⟨he, hb20⟩
    rw [← HMI.out] at he
    subst he
    have hG_n := block_kept hG hb20
    have hmk_n := hmk.mono hb20
    have hz_n := hz.trans (hb20.mono hz.size)
    clear hG hmk hz
    have hG := hG_n
    have hmk := hmk_n
    have hz := hz_n
    clear hG_n hmk_n hz_n
    clear hb20
    have hM := (block_kept HM0.out hz)
    have hX := (block_kept HX0.out hz)
    have hB := (HB0.out.trans (hz.mono HB0.out.size))
    have HS : Hid (∀ w', Below w20.heap.size w20 w' → w'.cell? ⟨w.heap.size, 0, none⟩ = some (.slice a1 ts.length c1) ∧ w'.cell? ⟨w.heap.size, 1, none⟩ = some (.slice a2 fs.length c2) ∧ w'.cell? ⟨w.heap.size + 1, 0, none⟩ = some (.slice fa x.frames.length fc) ∧ w'.cell? ⟨w.heap.size + 1, 1, none⟩ = some (.slice ha x.heap.length hc) ∧ w'.cell? ⟨w.heap.size + 1, 2, none⟩ = some (.int .i64 x.made) ∧ w'.cell? ⟨w.heap.size + 1, 3, none⟩ = some (.slice oa x.out.length oc) ∧ w'.cell? ⟨w.heap.size + 1, 4, none⟩ = some (.int .i64 x.status) ∧ w'.cell? ⟨w.heap.size + 1, 5, none⟩ = some (.int .i64 x.trap) ∧ w'.cell? ⟨w.heap.size + 1, 6, none⟩ = some (.int .i64 x.value.k) ∧ w'.cell? ⟨w.heap.size + 1, 7, none⟩ = some (.int .i64 x.value.n) ∧ w'.cell? ⟨w.heap.size + 1, 8, none⟩ = some (.string x.value.s) ∧ w'.cell? ⟨w.heap.size + 1, 9, none⟩ = some (.int .i64 x.steps)) := fun w' q => ⟨by rw [block_cell (block_kept hM q)]; rfl, by rw [block_cell (block_kept hM q)]; rfl, by rw [block_cell (block_kept hX q)]; rfl, by rw [block_cell (block_kept hX q)]; rfl, by rw [block_cell (block_kept hX q)]; rfl, by rw [block_cell (block_kept hX q)]; rfl, by rw [block_cell (block_kept hX q)]; rfl, by rw [block_cell (block_kept hX q)]; rfl, by rw [block_cell (block_kept hX q)]; rfl, by rw [block_cell (block_kept hX q)]; rfl, by rw [block_cell (block_kept hX q)]; rfl, by rw [block_cell (block_kept hX q)]; rfl⟩
    go_upto_region 31 with fail
    go_cut [13] from 75 to 79 (fun sv wx => ∃ V lo A0 n0 k0 A1 n1 k1 i2 A3 n3 k3 i4 i5 i6 i7 s8 i9, sv = .pointer (some ⟨V, 0, none⟩) ∧ wx.heap[V]? = some (.cells #[.slice A0 n0 k0, .slice A1 n1 k1, .int .i64 i2, .slice A3 n3 k3, .int .i64 i4, .int .i64 i5, .int .i64 i6, .int .i64 i7, .string s8, .int .i64 i9] 38 (0, 0)) ∧ SR ts fs x wx lo #[.slice A0 n0 k0, .slice A1 n1 k1, .int .i64 i2, .slice A3 n3 k3, .int .i64 i4, .int .i64 i5, .int .i64 i6, .int .i64 i7, .string s8, .int .i64 i9] ∧ w20.heap.size ≤ V ∧ Below w20.heap.size w20 wx)
    case first =>
      have q : Below w20.heap.size w20 w20 := Below.refl _ _
      have zq := q.size
      have HBH := hid hB
      clear hB
      go_region_held3 (fun w' => w'.cell? ⟨w.heap.size, 0, none⟩ = some (.slice a1 ts.length c1) ∧ w'.cell? ⟨w.heap.size, 1, none⟩ = some (.slice a2 fs.length c2) ∧ w'.cell? ⟨w.heap.size + 1, 0, none⟩ = some (.slice fa x.frames.length fc) ∧ w'.cell? ⟨w.heap.size + 1, 1, none⟩ = some (.slice ha x.heap.length hc) ∧ w'.cell? ⟨w.heap.size + 1, 2, none⟩ = some (.int .i64 x.made) ∧ w'.cell? ⟨w.heap.size + 1, 3, none⟩ = some (.slice oa x.out.length oc) ∧ w'.cell? ⟨w.heap.size + 1, 4, none⟩ = some (.int .i64 x.status) ∧ w'.cell? ⟨w.heap.size + 1, 5, none⟩ = some (.int .i64 x.trap) ∧ w'.cell? ⟨w.heap.size + 1, 6, none⟩ = some (.int .i64 x.value.k) ∧ w'.cell? ⟨w.heap.size + 1, 7, none⟩ = some (.int .i64 x.value.n) ∧ w'.cell? ⟨w.heap.size + 1, 8, none⟩ = some (.string x.value.s) ∧ w'.cell? ⟨w.heap.size + 1, 9, none⟩ = some (.int .i64 x.steps))
        ((refine HS.out _ ?_; repeat (first | refine Below.setCell ?_ (by first | omega | (simp; omega) | simp) _ | refine Below.alloc ?_ (by first | omega | (simp; omega) | simp) _ | refine Below.drew ?_ | exact q)))
        (first
          | (go_at_call 8; refine (toModule_any a1 a2 ts fs c1 c2 _ hs (by exact hst0.mono (HBH.out.trans ((show Below w20.heap.size w20 _ by repeat (first | refine Below.setCell ?_ (by first | omega | (simp; omega) | simp) _ | refine Below.alloc ?_ (by first | omega | (simp; omega) | simp) _ | refine Below.drew ?_ | exact q)).mono HBH.out.size))) (by exact hfn0.mono (HBH.out.trans ((show Below w20.heap.size w20 _ by repeat (first | refine Below.setCell ?_ (by first | omega | (simp; omega) | simp) _ | refine Below.alloc ?_ (by first | omega | (simp; omega) | simp) _ | refine Below.drew ?_ | exact q)).mono HBH.out.size)))).mono ?_; rintro e wm ⟨gm, gm2, -, -, rfl, hst, hfn, kd⟩; (first | (have hlt := lt_block hV; have hV := block_kept hV kd) | (have hpr := lift_drew kd; have hV := hpr.1; have hlt := hpr.2; clear hpr; have hge : w20.heap.size ≤ w20.heap.size := Nat.le_refl _) | (have hpr := lift_new kd; have hV := hpr.1; have hlt := hpr.2; clear hpr; have hge := zq) | skip); have q : Below w20.heap.size w20 _ := Below.trans (by repeat (first | refine Below.setCell ?_ (by first | omega | (simp; omega) | simp) _ | refine Below.alloc ?_ (by first | omega | (simp; omega) | simp) _ | refine Below.drew ?_ | exact q)) (kd.mono (by first | exact zq | (simp; omega) | simp)); have zq := q.size)
          | (go_at_call 9; refine (toVm_any fa ha oa fc hc oc x _ hxx (by exact hv1.mono (HBH.out.trans ((show Below w20.heap.size w20 _ by repeat (first | refine Below.setCell ?_ (by first | omega | (simp; omega) | simp) _ | refine Below.alloc ?_ (by first | omega | (simp; omega) | simp) _ | refine Below.drew ?_ | exact q)).mono HBH.out.size)))).mono ?_; rintro e wv ⟨gx1, gx2, gx3, rfl, hvx, kd⟩; have kq : Below wm.heap.size wm _ := Below.trans (by repeat (first | refine Below.alloc ?_ (by first | omega | (simp; omega) | simp) _ | refine Below.drew ?_ | exact Below.refl _ _)) (kd.mono (by simp)); have hst := (hst.low (Nat.zero_le _)).mono kq; have hfn := (hfn.low (Nat.zero_le _)).mono kq; (first | (have hlt := lt_block hV; have hV := block_kept hV kd) | (have hpr := lift_drew kd; have hV := hpr.1; have hlt := hpr.2; clear hpr; have hge : w20.heap.size ≤ w20.heap.size := Nat.le_refl _) | (have hpr := lift_new kd; have hV := hpr.1; have hlt := hpr.2; clear hpr; have hge := zq) | skip); have q : Below w20.heap.size w20 _ := Below.trans (by repeat (first | refine Below.setCell ?_ (by first | omega | (simp; omega) | simp) _ | refine Below.alloc ?_ (by first | omega | (simp; omega) | simp) _ | refine Below.drew ?_ | exact q)) (kd.mono (by first | exact zq | (simp; omega) | simp)); have zq := q.size)
          | (go_at_call 10; refine (iC _ _ _ _ _ _ _ _ _ _ _ hs (by exact hst.mono (show Below wv.heap.size wv _ by repeat (first | refine Below.alloc ?_ (by first | omega | (simp; omega) | simp) _ | refine Below.drew ?_ | exact Below.refl _ _))) (by exact hfn.mono (show Below wv.heap.size wv _ by repeat (first | refine Below.alloc ?_ (by first | omega | (simp; omega) | simp) _ | refine Below.drew ?_ | exact Below.refl _ _))) hxx (by exact (hvx.low (Nat.zero_le _)).mono (show Below wv.heap.size wv _ by repeat (first | refine Below.alloc ?_ (by first | omega | (simp; omega) | simp) _ | refine Below.drew ?_ | exact Below.refl _ _)))).mono ?_; rintro e wq ⟨A0, n0, k0, A1, n1, k1, i2, A3, n3, k3, i4, i5, i6, i7, s8, i9, rfl, hsr, kd⟩; have hsr := hsr.sr; (first | (have hlt := lt_block hV; have hV := block_kept hV kd) | (have hpr := lift_drew kd; have hV := hpr.1; have hlt := hpr.2; clear hpr; have hge : w20.heap.size ≤ w20.heap.size := Nat.le_refl _) | (have hpr := lift_new kd; have hV := hpr.1; have hlt := hpr.2; clear hpr; have hge := zq) | skip); (first | (have vc := block_cell hV; have vf := block_free hV) | skip); have q : Below w20.heap.size w20 _ := Below.trans (by repeat (first | refine Below.setCell ?_ (by first | omega | (simp; omega) | simp) _ | refine Below.alloc ?_ (by first | omega | (simp; omega) | simp) _ | refine Below.drew ?_ | exact q)) (kd.mono (by first | exact zq | (simp; omega) | simp)); have zq := q.size))
      all_goals
        go_wp2_with fail
        go_meet
        case rel =>
          first
          | (have hp := put10_block hV (.slice A0 n0 k0) (.slice A1 n1 k1) (.int .i64 i2) (.slice A3 n3 k3) (.int .i64 i4) (.int .i64 i5) (.int .i64 i6) (.int .i64 i7) (.string s8) (.int .i64 i9)
             have hr := hsr.put hlt (.slice A0 n0 k0) (.slice A1 n1 k1) (.int .i64 i2) (.slice A3 n3 k3) (.int .i64 i4) (.int .i64 i5) (.int .i64 i6) (.int .i64 i7) (.string s8) (.int .i64 i9)
             have hq := put10_below q hge (.slice A0 n0 k0) (.slice A1 n1 k1) (.int .i64 i2) (.slice A3 n3 k3) (.int .i64 i4) (.int .i64 i5) (.int .i64 i6) (.int .i64 i7) (.string s8) (.int .i64 i9)
             exact ⟨_, _, _, _, _, _, _, _, _, _, _, _, _, _, _, _, _, _, rfl, hp, hr, hge, hq⟩)
          | exact ⟨_, _, _, _, _, _, _, _, _, _, _, _, _, _, _, _, _, _, rfl, block_new _ _ _, hsr.mono ((Below.refl _ _).alloc (Nat.le_refl _) _), zq, q.alloc zq _⟩
    case rest =>
      obtain ⟨V2, lo2, EA0, En0, Ek0, EA1, En1, Ek1, Ei2, EA3, En3, Ek3, Ei4, Ei5, Ei6, Ei7, Es8, Ei9, rfl, hV2, hsr2, -, hbz⟩ := hcut
      have hG := block_kept hG hbz
      have hmk := hmk.mono hbz
      have hz := hz.trans (hbz.mono hz.size)
      clear hM hX hB HS hbz
      have z1 := block_cell hV2
      have z2 := block_cell (block_kept HV0.out hz)
      go_wp2_with fail
      clear z1 z2
      refine (eqC hxx hsr2 (HSR.out.mono hz)).mono ?_
      rintro e w22 ⟨rfl, hb22⟩
      have hG22 := block_kept hG hb22
      have hmk22 := hmk.mono hb22
      have hz22 := hz.trans (hb22.mono hz.size)
      clear hG hmk hz hb22 hV2 hsr2
      have hz := hz22
      have z1 := block_cell hG22
      go_wp2_with fail
      clear z1
      refine (heldC hxx hmk22).mono ?_
      rintro e w23 ⟨he, hb23⟩
      rw [← HMI.out] at he
      subst he
      have HE : Hid (Below w.heap.size w w23) := HB0.out.trans ((hz.trans (hb23.mono hz.size)).mono HB0.out.size)
      clear hb23 hz hz22 hG22 hmk22
      go_wp2
      go_ret
      exact ⟨rfl, HE.out⟩
end Go.Proofs.YtcfbahaokmhbkaaGreat
