/-
  The law of Observe, walked.
-/
import Derived.Test.YtmmcockkbhnopaaGreatOV50
import Derived.Test.YtmmcockkbhnopaaGreatOV51
import Derived.Test.YtmmcockkbhnopaaGreatOV52
import Derived.Test.YtmmcockkbhnopaaGreatOV37
import Derived.Test.YtmmcockkbhnopaaGreatOV32
import Derived.Deep.RegionHeld3
namespace Go.Proofs.YtmmcockkbhnopaaGreat
open Go.RowKit

theorem own_keptO {w w' : World} {B e size n : Nat} {v : Value} {xs : List Value} (h : w.ownsRow B e size v n xs) (hk : Kept B w w') : w'.ownsRow B e size v n xs := by
  refine ⟨h.1, ?_⟩
  rcases h.2 with ⟨e, hn⟩ | ⟨b, cap, cur, e, hb', hh, r⟩
  · exact .inl ⟨e, hn⟩
  · exact .inr ⟨b, cap, cur, e, hb', hk _ _ hb' hh, r⟩
theorem Kept.butO {g lo : Nat} {w w' : World} (h : But g w w') (hl : g < lo) : Kept lo w w' := fun k _ hk ho => h.kept (by omega) ho

set_option maxRecDepth 100000 in
set_option maxHeartbeats 16000000 in
theorem lawObs (a1 a2 a3 fa ha oa : Option Addr) (ts : List ByteArray) (fs : List Fn) (ss : List Si) (x : VmD) (c1 c2 c3 fc hc oc : Nat) (w : World) (hn : ts.length ≤ maxLen) (hcc : ∀ s ∈ ts, s.size ≤ maxLen) (hst0 : StrsAt w 0 a1 ts)
    (hn2 : fs.length ≤ maxLen) (hc2 : ∀ f ∈ fs, f.code.length ≤ maxLen) (hfn0 : FnsAt w 0 a2 fs) (hn3 : ss.length ≤ maxLen) (hsi0 : SitesAt w 0 a3 ss) (hxm : VmMax x) (hv1 : VmAt w 0 fa ha oa x) :
    Calls Tryz.prog 3 #[.agg #[.slice a1 ts.length c1, .slice a2 fs.length c2], .slice a3 ss.length c3, .agg (vmCells fa ha oa fc hc oc x)] w fun e w' => e = .returned (.bool true) ∧ Below w.heap.size w w' := by
  conv => arg 3; unfold vmCells
  obtain ⟨w0, hw0⟩ : ∃ w0, w0 = (w.alloc (.cells #[.slice a1 ts.length c1, .slice a2 fs.length c2] 25)).alloc (.cells #[.slice fa x.frames.length fc, .slice ha x.heap.length hc, .int .i64 x.made, .slice oa x.out.length oc, .int .i64 x.status, .int .i64 x.trap, .int .i64 x.value.k, .int .i64 x.value.n, .string x.value.s, .int .i64 x.steps] 32) := ⟨_, rfl⟩
  have hB : Below w.heap.size w w0 := by rw [hw0]; exact ((Below.refl _ _).alloc (Nat.le_refl _) _).alloc (by simp) _
  have hM : w0.heap[w.heap.size]? = some (.cells #[.slice a1 ts.length c1, .slice a2 fs.length c2] 25 (0, 0)) := by rw [hw0]; exact block_old (block_new _ _ _) _
  have hX : w0.heap[w.heap.size + 1]? = some (.cells #[.slice fa x.frames.length fc, .slice ha x.heap.length hc, .int .i64 x.made, .slice oa x.out.length oc, .int .i64 x.status, .int .i64 x.trap, .int .i64 x.value.k, .int .i64 x.value.n, .string x.value.s, .int .i64 x.steps] 32 (0, 0)) := by rw [hw0]; exact block_new_at _ _ _ _ (by simp)
  have x0 := block_cell hM
  rw [hw0] at x0
  go_enter Tryz.func3, Tryz.ntmps3
  go_wp2_with fail
  rw [← hw0]
  clear hw0 x0
  refine (szModule_le a1 a2 ts fs c1 c2 _ hn hcc (hst0.mono hB) hn2 hc2 (hfn0.mono hB)).mono ?_
  rintro e w1 ⟨l, rfl, hl, hsm, hb1⟩
  replace hM := block_kept hM hb1
  replace hX := block_kept hX hb1
  replace hB := hB.trans (hb1.mono hB.size)
  clear hb1 hn hcc hn2 hc2
  by_cases hl0 : l < 0
  · go_wp2_with fail
    go_ret
    exact ⟨rfl, hB⟩
  have hs := hsm (by omega)
  clear hsm
  go_wp2_with fail
  refine (szSiteS_any a3 ss.length c3 l _ (by omega) (by omega) hn3).mono ?_
  rintro e w2 ⟨rfl, hw2⟩
  subst hw2
  by_cases hl1 : l < (ss.length : Int)
  · rw [if_pos hl1]
    go_wp2_with fail
    go_ret
    exact ⟨rfl, hB⟩
  rw [if_neg hl1]
  have hn6 : ss.length ≤ 1048576 := by omega
  obtain ⟨l2, hl2⟩ : ∃ l2, l2 = l - (ss.length : Int) := ⟨_, rfl⟩
  rw [← hl2]
  have hl2a : 0 ≤ l2 := by omega
  have hl2b : l2 ≤ 1048576 := by omega
  have hl2c : ¬ l2 < 0 := by omega
  clear hl2 hl1 hl0 hl hn3
  have z1 := block_cell hX
  go_wp2_with fail
  clear z1
  refine (szVm_any fa ha oa fc hc oc x l2 _ hl2a hl2b hxm (hv1.frs.mono hB) (hv1.recs.mono hB) (hv1.out.mono hB)).mono ?_
  rintro e w3 ⟨l3, rfl, hl3, hsm, hb3⟩
  replace hM := block_kept hM hb3
  replace hX := block_kept hX hb3
  replace hB := hB.trans (hb3.mono hB.size)
  clear hb3 hxm hl2a hl2b hl2c
  by_cases hl4 : l3 < 0
  · go_wp2_with fail
    go_ret
    exact ⟨rfl, hB⟩
  have hxx := hsm (by omega)
  clear hsm hl3
  have HM := hidz hM
  have HX := hidz hX
  have HBH := hidz hB
  clear hM hX hB
  go_upto_region 11 with fail
  have HS : Hid (∀ w', Below w3.heap.size w3 w' → w'.cell? ⟨w.heap.size, 0, none⟩ = some (.slice a1 ts.length c1) ∧ w'.cell? ⟨w.heap.size, 1, none⟩ = some (.slice a2 fs.length c2) ∧ w'.cell? ⟨w.heap.size + 1, 0, none⟩ = some (.slice fa x.frames.length fc) ∧ w'.cell? ⟨w.heap.size + 1, 1, none⟩ = some (.slice ha x.heap.length hc) ∧ w'.cell? ⟨w.heap.size + 1, 2, none⟩ = some (.int .i64 x.made) ∧ w'.cell? ⟨w.heap.size + 1, 3, none⟩ = some (.slice oa x.out.length oc) ∧ w'.cell? ⟨w.heap.size + 1, 4, none⟩ = some (.int .i64 x.status) ∧ w'.cell? ⟨w.heap.size + 1, 5, none⟩ = some (.int .i64 x.trap) ∧ w'.cell? ⟨w.heap.size + 1, 6, none⟩ = some (.int .i64 x.value.k) ∧ w'.cell? ⟨w.heap.size + 1, 7, none⟩ = some (.int .i64 x.value.n) ∧ w'.cell? ⟨w.heap.size + 1, 8, none⟩ = some (.string x.value.s) ∧ w'.cell? ⟨w.heap.size + 1, 9, none⟩ = some (.int .i64 x.steps)) := fun w' q => ⟨by rw [block_cell (block_kept HM.out q)]; rfl, by rw [block_cell (block_kept HM.out q)]; rfl, by rw [block_cell (block_kept HX.out q)]; rfl, by rw [block_cell (block_kept HX.out q)]; rfl, by rw [block_cell (block_kept HX.out q)]; rfl, by rw [block_cell (block_kept HX.out q)]; rfl, by rw [block_cell (block_kept HX.out q)]; rfl, by rw [block_cell (block_kept HX.out q)]; rfl, by rw [block_cell (block_kept HX.out q)]; rfl, by rw [block_cell (block_kept HX.out q)]; rfl, by rw [block_cell (block_kept HX.out q)]; rfl, by rw [block_cell (block_kept HX.out q)]; rfl⟩
  obtain ⟨j0, j1, j2, j3, j4, j5, j6, j7, j8, j9, j10, j11⟩ := HS.out w3 (Below.refl _ _)
  have q : Below w3.heap.size w3 w3.drew := (Below.refl _ _).drew
  go_region_held3 (fun w' => w'.cell? ⟨w.heap.size, 0, none⟩ = some (.slice a1 ts.length c1) ∧ w'.cell? ⟨w.heap.size, 1, none⟩ = some (.slice a2 fs.length c2) ∧ w'.cell? ⟨w.heap.size + 1, 0, none⟩ = some (.slice fa x.frames.length fc) ∧ w'.cell? ⟨w.heap.size + 1, 1, none⟩ = some (.slice ha x.heap.length hc) ∧ w'.cell? ⟨w.heap.size + 1, 2, none⟩ = some (.int .i64 x.made) ∧ w'.cell? ⟨w.heap.size + 1, 3, none⟩ = some (.slice oa x.out.length oc) ∧ w'.cell? ⟨w.heap.size + 1, 4, none⟩ = some (.int .i64 x.status) ∧ w'.cell? ⟨w.heap.size + 1, 5, none⟩ = some (.int .i64 x.trap) ∧ w'.cell? ⟨w.heap.size + 1, 6, none⟩ = some (.int .i64 x.value.k) ∧ w'.cell? ⟨w.heap.size + 1, 7, none⟩ = some (.int .i64 x.value.n) ∧ w'.cell? ⟨w.heap.size + 1, 8, none⟩ = some (.string x.value.s) ∧ w'.cell? ⟨w.heap.size + 1, 9, none⟩ = some (.int .i64 x.steps))
    (first | exact ⟨j0, j1, j2, j3, j4, j5, j6, j7, j8, j9, j10, j11⟩ | exact HS.out _ q)
    (first
      | (go_at_call 9; refine (toModule_any a1 a2 ts fs c1 c2 _ hs (by exact hst0.mono (HBH.out.trans (q.mono HBH.out.size))) (by exact hfn0.mono (HBH.out.trans (q.mono HBH.out.size)))).mono ?_; rintro e wa ⟨g, g2, -, -, rfl, hst, hfn, kd⟩; have q := q.trans (kd.mono q.size))
      | (go_at_call 10; refine (toSiteS_any a3 ss c3 _ hn6 (by exact hsi0.mono (HBH.out.trans (q.mono HBH.out.size)))).mono ?_; rintro e wb ⟨rfl, hsi, kd⟩; have hst := (hst.low (Nat.zero_le _)).mono kd; have hfn := (hfn.low (Nat.zero_le _)).mono kd; have q := q.trans (kd.mono q.size))
      | (go_at_call 11; refine (toVm_b fa ha oa fc hc oc x _ hxx (by exact hv1.mono (HBH.out.trans (q.mono HBH.out.size)))).mono ?_; rintro e wv ⟨y1, y2, y3, rfl, hvb, kd⟩; have hst := hst.mono kd; have hfn := hfn.mono kd; have hsi := (hsi.low (Nat.zero_le _)).mono kd; have q := q.trans (kd.mono q.size))
      | (go_at_call 8; refine (sObserve_any _ _ _ _ _ _ _ _ _ _ _ _ ts fs ss x _ hs hn6 hst hfn hsi hxx (hvb.low (Nat.zero_le _))).mono ?_; rintro e w6 ⟨vw, L, rfl, hR, hOw, kd⟩; have q := q.trans (kd.mono q.size)))

  obtain ⟨aw, cw, rfl⟩ := own_formz hOw
  have HM6 := hidz (block_kept HM.out q)
  have HX6 := hidz (block_kept HX.out q)
  have HB6 := hidz (HBH.out.trans (q.mono HBH.out.size))
  have HSW := hidz ((own_sitesz hOw rfl).low (Nat.zero_le _))
  have hLn : L.length ≤ 1048576 := Nat.le_trans hR.len (by omega)
  have HR := hidz hR
  clear j0 j1 j2 j3 j4 j5 j6 j7 j8 j9 j10 j11 q HS HM HX HBH hst hfn hsi hvb kd hOw hR hl4
  have z1 := block_cell HM6.out
  go_wp2_with fail
  clear z1
  refine (toModule_made a1 a2 ts fs c1 c2 w6 hs (hst0.mono HB6.out) (hfn0.mono HB6.out)).mono ?_
  rintro e w7 ⟨p, p2, hp1, hp2, rfl, hst, hfn, hb7, htb, hfb⟩
  have hfh := hfb.h
  have HP1 := hidz hp1
  have HP2 := hidz hp2
  have HPL : Hid (p < w7.heap.size) := by obtain ⟨c, hc, -⟩ := htb; exact lt_block hc
  have HPL2 : Hid (p2 < w7.heap.size) := by obtain ⟨c, hc, -⟩ := hfb; exact lt_block hc
  have H67 := hidz hb7.size
  have hz : Below w6.heap.size w6 w7 := hb7
  clear hp1 hp2 hfb hb7
  obtain ⟨w8, hw8⟩ : ∃ w8, w8 = w7.alloc (.cells #[.slice (some ⟨p, 0, none⟩) ts.length ts.length, .slice (some ⟨p2, 0, none⟩) fs.length fs.length] 40) := ⟨_, rfl⟩
  have hb8 : Below w7.heap.size w7 w8 := by rw [hw8]; exact (Below.refl _ _).alloc (Nat.le_refl _) _
  have hP : w8.heap[w7.heap.size]? = some (.cells #[.slice (some ⟨p, 0, none⟩) ts.length ts.length, .slice (some ⟨p2, 0, none⟩) fs.length fs.length] 40 (0, 0)) := by rw [hw8]; exact block_new _ _ _
  have H78 : Hid (w7.heap.size < w8.heap.size) := lt_block hP
  replace hst := (hst.low (Nat.zero_le _)).mono hb8
  replace hfn := (hfn.low (Nat.zero_le _)).mono hb8
  replace htb := htb.mono hb8
  replace hfh := hfh.mono hb8
  replace hz := hz.trans (hb8.mono hz.size)
  clear hb8
  go_wp2_with fail
  rw [← hw8]
  clear hw8
  refine (toSiteS_made a3 ss c3 w8 hn6 (hsi0.mono (HB6.out.trans (hz.mono HB6.out.size)))).mono ?_
  rintro e w9 ⟨rfl, hsi, hb9, hbl⟩
  have H89 : Hid (w8.heap.size < w9.heap.size) := by obtain ⟨cu, h, -⟩ := hbl; exact lt_block h
  replace hP := block_kept hP hb9
  replace hst := hst.mono hb9
  replace hfn := hfn.mono hb9
  replace htb := htb.mono hb9
  replace hfh := hfh.mono hb9
  replace hz := hz.trans (hb9.mono hz.size)
  replace hsi := hsi.low (Nat.zero_le _)
  clear hb9
  have z1 := block_cell (block_kept HX6.out hz)
  go_wp2_with fail
  clear z1
  refine (toVm_b fa ha oa fc hc oc x w9 hxx (hv1.mono (HB6.out.trans (hz.mono HB6.out.size)))).mono ?_
  rintro e w10 ⟨gx1, gx2, gx3, rfl, hvb, hb10⟩
  unfold vmCells
  have hxs := hvb.xs
  have hbl10 : ∃ cur, w10.heap[w8.heap.size]? = some (.cells cur 68 (0, 0)) ∧ cur.size = ss.length * 4 := by obtain ⟨cu, h, h2⟩ := hbl; exact ⟨cu, block_kept h hb10, h2⟩
  have H910 := hidz hb10.size
  replace hP := block_kept hP hb10
  replace hst := hst.mono hb10
  replace hfn := hfn.mono hb10
  replace htb := htb.mono hb10
  replace hfh := hfh.mono hb10
  replace hsi := hsi.mono hb10
  replace hz := hz.trans (hb10.mono hz.size)
  clear hb10 hbl
  obtain ⟨w11, hw11⟩ : ∃ w11, w11 = w10.alloc (.cells #[.slice (some ⟨gx1, 0, none⟩) x.frames.length x.frames.length, .slice (some ⟨gx2, 0, none⟩) x.heap.length x.heap.length, .int .i64 x.made, .slice (some ⟨gx3, 0, none⟩) x.out.length x.out.length, .int .i64 x.status, .int .i64 x.trap, .int .i64 x.value.k, .int .i64 x.value.n, .string x.value.s, .int .i64 x.steps] 47) := ⟨_, rfl⟩
  have hb11 : Below w10.heap.size w10 w11 := by rw [hw11]; exact (Below.refl _ _).alloc (Nat.le_refl _) _
  have hQ : w11.heap[w10.heap.size]? = some (.cells #[.slice (some ⟨gx1, 0, none⟩) x.frames.length x.frames.length, .slice (some ⟨gx2, 0, none⟩) x.heap.length x.heap.length, .int .i64 x.made, .slice (some ⟨gx3, 0, none⟩) x.out.length x.out.length, .int .i64 x.status, .int .i64 x.trap, .int .i64 x.value.k, .int .i64 x.value.n, .string x.value.s, .int .i64 x.steps] 47 (0, 0)) := by rw [hw11]; exact block_new _ _ _
  have H1011 : Hid (w10.heap.size < w11.heap.size) := lt_block hQ
  replace hP := block_kept hP hb11
  replace hst := hst.mono hb11
  replace hfn := hfn.mono hb11
  replace htb := htb.mono hb11
  replace hfh := hfh.mono hb11
  replace hsi := hsi.mono hb11
  replace hxs := hxs.mono hb11
  replace hvb := (hvb.low (Nat.zero_le _)).mono hb11
  have hbl : ∃ cur, w11.heap[w8.heap.size]? = some (.cells cur 68 (0, 0)) ∧ cur.size = ss.length * 4 := by obtain ⟨cu, h, h2⟩ := hbl10; exact ⟨cu, block_kept h hb11, h2⟩
  replace hz := hz.trans (hb11.mono hz.size)
  clear hb11 hbl10
  go_upto_region 15 with fail
  rw [← hw11]
  clear hw11
  have z1 := block_cell hP
  have z2 := block_cell hQ
  go_wp2_with fail
  clear z1 z2
  have hal := iObserve_any (some ⟨p, 0, none⟩) (some ⟨p2, 0, none⟩) (some ⟨w8.heap.size, 0, none⟩) (some ⟨gx1, 0, none⟩) (some ⟨gx2, 0, none⟩) (some ⟨gx3, 0, none⟩) ts.length fs.length ss.length x.frames.length x.heap.length x.out.length ts fs ss x w11 hs hst hfn hsi hxx hvb
  unfold vmCells at hal
  refine hal.mono ?_
  clear hal
  rintro e w12 ⟨vg, Lg, rfl, hRg, hO, hb12⟩
  have hLe : Lg = L := HR.out.one hRg
  rw [hLe] at hO
  clear hLe hRg
  obtain ⟨ag, cg, rfl⟩ := own_formz hO
  have H1112 := hidz hb12.size
  replace hP := block_kept hP hb12
  replace hQ := block_kept hQ hb12
  have hst12 := hst.mono hb12
  have hfn12 := hfn.mono hb12
  replace htb := htb.mono hb12
  replace hfh := hfh.mono hb12
  have hsi12 := hsi.mono hb12
  replace hxs := hxs.mono hb12
  have hva12 := hvb.at.mono hb12
  have hbl12 : ∃ cur, w12.heap[w8.heap.size]? = some (.cells cur 68 (0, 0)) ∧ cur.size = ss.length * 4 := by obtain ⟨cu, h, h2⟩ := hbl; exact ⟨cu, block_kept h hb12, h2⟩
  replace hz := hz.trans (hb12.mono hz.size)
  have HBL := hidz hbl12
  clear hb12 hst hfn hsi hvb hbl hbl12
  go_wp2_with fail
  refine (eqSiteS_any ag aw L cg cw w12 hLn ((own_sitesz hO rfl).low (Nat.zero_le _)) (HSW.out.mono hz)).mono ?_
  rintro e w13 ⟨rfl, q13⟩
  have HP := hidz (block_kept hP q13)
  have HZ := hidz hz
  have HM := hidz (block_kept HM6.out (hz.trans (q13.mono hz.size)))
  have HBH := hidz (HB6.out.trans ((hz.trans (q13.mono hz.size)).mono HB6.out.size))
  have HTB := hidz htb
  have HFH := hidz hfh
  have HXS := hidz hxs
  have HO := hidz hO
  have HPB := hidz hP
  have HQB := hidz hQ
  clear hP hQ hz htb hfh hxs hO
  go_upto_region 18 with fail
  have HS : Hid (∀ w', Below w13.heap.size w13 w' → w'.cell? ⟨w.heap.size, 0, none⟩ = some (.slice a1 ts.length c1) ∧ w'.cell? ⟨w.heap.size, 1, none⟩ = some (.slice a2 fs.length c2) ∧ w'.cell? ⟨w7.heap.size, 0, none⟩ = some (.slice (some ⟨p, 0, none⟩) ts.length ts.length) ∧ w'.cell? ⟨w7.heap.size, 1, none⟩ = some (.slice (some ⟨p2, 0, none⟩) fs.length fs.length)) := fun w' q => ⟨by rw [block_cell (block_kept HM.out q)]; rfl, by rw [block_cell (block_kept HM.out q)]; rfl, by rw [block_cell (block_kept HP.out q)]; rfl, by rw [block_cell (block_kept HP.out q)]; rfl⟩
  obtain ⟨j0, j1, j2, j3⟩ := HS.out w13 (Below.refl _ _)
  have q : Below w13.heap.size w13 w13.drew := (Below.refl _ _).drew
  go_region_held3 (fun w' => w'.cell? ⟨w.heap.size, 0, none⟩ = some (.slice a1 ts.length c1) ∧ w'.cell? ⟨w.heap.size, 1, none⟩ = some (.slice a2 fs.length c2) ∧ w'.cell? ⟨w7.heap.size, 0, none⟩ = some (.slice (some ⟨p, 0, none⟩) ts.length ts.length) ∧ w'.cell? ⟨w7.heap.size, 1, none⟩ = some (.slice (some ⟨p2, 0, none⟩) fs.length fs.length))
    (first | exact ⟨j0, j1, j2, j3⟩ | exact HS.out _ q)
    (first
      | (go_at_call 9; refine (toModule_any a1 a2 ts fs c1 c2 _ hs (by exact hst0.mono (HBH.out.trans (q.mono HBH.out.size))) (by exact hfn0.mono (HBH.out.trans (q.mono HBH.out.size)))).mono ?_; rintro e wa ⟨g, g2, -, -, rfl, hst, hfn, kd⟩; have q := q.trans (kd.mono q.size))
      | (go_at_call 14; refine (eqModule_any _ _ _ _ ts fs _ _ _ _ _ hs (by exact hst12.mono (q13.trans (q.mono q13.size))) (by exact hst.low (Nat.zero_le _)) (by exact hfn12.mono (q13.trans (q.mono q13.size))) (by exact hfn.low (Nat.zero_le _))).mono ?_; rintro e w14 ⟨rfl, kd⟩; have q := q.trans (kd.mono q.size)))

  have q14 := q13.trans (q.mono q13.size)
  clear j0 j1 j2 j3 HS HM HP HBH hst hfn kd q q13 hst12 hfn12
  go_wp2_with fail
  refine (toSiteS_any a3 ss c3 w14 hn6 (hsi0.mono (HB6.out.trans ((HZ.out.trans (q14.mono HZ.out.size)).mono HB6.out.size)))).mono ?_
  rintro e w15 ⟨rfl, hs15, hb15⟩
  have q15 := q14.trans (hb15.mono q14.size)
  go_wp2_with fail
  refine (eqSiteS_any _ _ ss _ _ w15 hn6 (hsi12.mono q15) (hs15.low (Nat.zero_le _))).mono ?_
  rintro e w16 ⟨rfl, hb16⟩
  have q16 := q15.trans (hb16.mono q15.size)
  clear hs15 hb15 hb16 q15 q14 hsi12
  have HX := hidz (block_kept HX6.out (HZ.out.trans (q16.mono HZ.out.size)))
  have HQ := hidz (block_kept HQB.out q16)
  have HBH := hidz (HB6.out.trans ((HZ.out.trans (q16.mono HZ.out.size)).mono HB6.out.size))
  go_upto_region 22 with fail
  have HS : Hid (∀ w', Below w16.heap.size w16 w' → w'.cell? ⟨w.heap.size + 1, 0, none⟩ = some (.slice fa x.frames.length fc) ∧ w'.cell? ⟨w.heap.size + 1, 1, none⟩ = some (.slice ha x.heap.length hc) ∧ w'.cell? ⟨w.heap.size + 1, 2, none⟩ = some (.int .i64 x.made) ∧ w'.cell? ⟨w.heap.size + 1, 3, none⟩ = some (.slice oa x.out.length oc) ∧ w'.cell? ⟨w.heap.size + 1, 4, none⟩ = some (.int .i64 x.status) ∧ w'.cell? ⟨w.heap.size + 1, 5, none⟩ = some (.int .i64 x.trap) ∧ w'.cell? ⟨w.heap.size + 1, 6, none⟩ = some (.int .i64 x.value.k) ∧ w'.cell? ⟨w.heap.size + 1, 7, none⟩ = some (.int .i64 x.value.n) ∧ w'.cell? ⟨w.heap.size + 1, 8, none⟩ = some (.string x.value.s) ∧ w'.cell? ⟨w.heap.size + 1, 9, none⟩ = some (.int .i64 x.steps) ∧ w'.cell? ⟨w10.heap.size, 0, none⟩ = some (.slice (some ⟨gx1, 0, none⟩) x.frames.length x.frames.length) ∧ w'.cell? ⟨w10.heap.size, 1, none⟩ = some (.slice (some ⟨gx2, 0, none⟩) x.heap.length x.heap.length) ∧ w'.cell? ⟨w10.heap.size, 2, none⟩ = some (.int .i64 x.made) ∧ w'.cell? ⟨w10.heap.size, 3, none⟩ = some (.slice (some ⟨gx3, 0, none⟩) x.out.length x.out.length) ∧ w'.cell? ⟨w10.heap.size, 4, none⟩ = some (.int .i64 x.status) ∧ w'.cell? ⟨w10.heap.size, 5, none⟩ = some (.int .i64 x.trap) ∧ w'.cell? ⟨w10.heap.size, 6, none⟩ = some (.int .i64 x.value.k) ∧ w'.cell? ⟨w10.heap.size, 7, none⟩ = some (.int .i64 x.value.n) ∧ w'.cell? ⟨w10.heap.size, 8, none⟩ = some (.string x.value.s) ∧ w'.cell? ⟨w10.heap.size, 9, none⟩ = some (.int .i64 x.steps)) := fun w' q => ⟨by rw [block_cell (block_kept HX.out q)]; rfl, by rw [block_cell (block_kept HX.out q)]; rfl, by rw [block_cell (block_kept HX.out q)]; rfl, by rw [block_cell (block_kept HX.out q)]; rfl, by rw [block_cell (block_kept HX.out q)]; rfl, by rw [block_cell (block_kept HX.out q)]; rfl, by rw [block_cell (block_kept HX.out q)]; rfl, by rw [block_cell (block_kept HX.out q)]; rfl, by rw [block_cell (block_kept HX.out q)]; rfl, by rw [block_cell (block_kept HX.out q)]; rfl, by rw [block_cell (block_kept HQ.out q)]; rfl, by rw [block_cell (block_kept HQ.out q)]; rfl, by rw [block_cell (block_kept HQ.out q)]; rfl, by rw [block_cell (block_kept HQ.out q)]; rfl, by rw [block_cell (block_kept HQ.out q)]; rfl, by rw [block_cell (block_kept HQ.out q)]; rfl, by rw [block_cell (block_kept HQ.out q)]; rfl, by rw [block_cell (block_kept HQ.out q)]; rfl, by rw [block_cell (block_kept HQ.out q)]; rfl, by rw [block_cell (block_kept HQ.out q)]; rfl⟩
  obtain ⟨j0, j1, j2, j3, j4, j5, j6, j7, j8, j9, j10, j11, j12, j13, j14, j15, j16, j17, j18, j19⟩ := HS.out w16 (Below.refl _ _)
  have q : Below w16.heap.size w16 w16.drew := (Below.refl _ _).drew
  go_region_held3 (fun w' => w'.cell? ⟨w.heap.size + 1, 0, none⟩ = some (.slice fa x.frames.length fc) ∧ w'.cell? ⟨w.heap.size + 1, 1, none⟩ = some (.slice ha x.heap.length hc) ∧ w'.cell? ⟨w.heap.size + 1, 2, none⟩ = some (.int .i64 x.made) ∧ w'.cell? ⟨w.heap.size + 1, 3, none⟩ = some (.slice oa x.out.length oc) ∧ w'.cell? ⟨w.heap.size + 1, 4, none⟩ = some (.int .i64 x.status) ∧ w'.cell? ⟨w.heap.size + 1, 5, none⟩ = some (.int .i64 x.trap) ∧ w'.cell? ⟨w.heap.size + 1, 6, none⟩ = some (.int .i64 x.value.k) ∧ w'.cell? ⟨w.heap.size + 1, 7, none⟩ = some (.int .i64 x.value.n) ∧ w'.cell? ⟨w.heap.size + 1, 8, none⟩ = some (.string x.value.s) ∧ w'.cell? ⟨w.heap.size + 1, 9, none⟩ = some (.int .i64 x.steps) ∧ w'.cell? ⟨w10.heap.size, 0, none⟩ = some (.slice (some ⟨gx1, 0, none⟩) x.frames.length x.frames.length) ∧ w'.cell? ⟨w10.heap.size, 1, none⟩ = some (.slice (some ⟨gx2, 0, none⟩) x.heap.length x.heap.length) ∧ w'.cell? ⟨w10.heap.size, 2, none⟩ = some (.int .i64 x.made) ∧ w'.cell? ⟨w10.heap.size, 3, none⟩ = some (.slice (some ⟨gx3, 0, none⟩) x.out.length x.out.length) ∧ w'.cell? ⟨w10.heap.size, 4, none⟩ = some (.int .i64 x.status) ∧ w'.cell? ⟨w10.heap.size, 5, none⟩ = some (.int .i64 x.trap) ∧ w'.cell? ⟨w10.heap.size, 6, none⟩ = some (.int .i64 x.value.k) ∧ w'.cell? ⟨w10.heap.size, 7, none⟩ = some (.int .i64 x.value.n) ∧ w'.cell? ⟨w10.heap.size, 8, none⟩ = some (.string x.value.s) ∧ w'.cell? ⟨w10.heap.size, 9, none⟩ = some (.int .i64 x.steps))
    (first | exact ⟨j0, j1, j2, j3, j4, j5, j6, j7, j8, j9, j10, j11, j12, j13, j14, j15, j16, j17, j18, j19⟩ | exact HS.out _ q)
    (first
      | (go_at_call 11; refine (toVm_any fa ha oa fc hc oc x _ hxx (by exact hv1.mono (HBH.out.trans (q.mono HBH.out.size)))).mono ?_; rintro e wx ⟨y1, y2, y3, rfl, hvm, kd⟩; have q := q.trans (kd.mono q.size))
      | (go_at_call 15; refine (eqVm_any _ _ _ _ _ _ _ _ _ _ _ _ x _ hxx (by exact hva12.mono (q16.trans (q.mono q16.size))) (by exact hvm.low (Nat.zero_le _))).mono ?_; rintro e w18 ⟨rfl, kd⟩; have q := q.trans (kd.mono q.size)))

  have q18 := q16.trans (q.mono q16.size)
  clear j0 j1 j2 j3 j4 j5 j6 j7 j8 j9 j10 j11 j12 j13 j14 j15 j16 j17 j18 j19 HS HX HQ HBH hvm kd q q16 hva12
  have hP := block_kept HPB.out q18
  have hQ := block_kept HQB.out q18
  have hz := HZ.out.trans (q18.mono HZ.out.size)
  have htb := HTB.out.mono q18
  have hfh := HFH.out.mono q18
  have hxs := HXS.out.mono q18
  have hO := own_below HO.out q18
  have hbl : ∃ cur, w18.heap[w8.heap.size]? = some (.cells cur 68 (0, 0)) ∧ cur.size = ss.length * 4 := by obtain ⟨cu, h, h2⟩ := HBL.out; exact ⟨cu, block_kept h q18, h2⟩
  clear q18 HPB HQB HZ HTB HFH HXS HO HBL
  have z1 := block_cell hP
  go_wp2_with fail
  clear z1
  refine (markModule_w w6.heap.size w7.heap.size p p2 _ _ ts fs w18 hs HP1.out HP2.out HPL.out HPL2.out htb hfh).mono ?_
  rintro e w19 ⟨rk, rfl, hrk0, hrk1, -, ho19⟩
  obtain ⟨rn, rfl⟩ : ∃ rn : Nat, rk = (rn : Int) := ⟨rk.toNat, by omega⟩
  have kk : Kept w7.heap.size w18 w19 := Kept.only ho19 (Nat.le_refl _)
  have hz19 := ho19.below w6.heap.size (fun k hk => hk.1) hz.size
  replace hz := hz.trans hz19
  replace hQ := kk _ _ (by have h1 := H78.out; have h2 := H89.out; have h3 := H910.out; omega) hQ
  replace hxs := hxs.kept (kk.up (by have h1 := H78.out; have h2 := H89.out; omega))
  replace hO := own_keptO hO (kk.up (by have h1 := H78.out; have h2 := H89.out; have h3 := H910.out; have h4 := H1011.out; omega))
  have hbl19 : ∃ cur, w19.heap[w8.heap.size]? = some (.cells cur 68 (0, 0)) ∧ ss.length * 4 ≤ cur.size := by obtain ⟨cu, h, h2⟩ := hbl; exact ⟨cu, kk _ _ (Nat.le_of_lt H78.out) h, by omega⟩
  have hrn : rn ≤ 10000000000000 := by omega
  clear kk hz19 ho19 hbl hP htb hfh hrk0 hrk1
  go_wp2_with fail
  refine (markSites_any w8.heap.size ss.length _ (rn : Int) w19 hn6 (by omega) (by omega) hbl19).mono ?_
  rintro e w20 ⟨rfl, hBt, -⟩
  obtain ⟨kn, hkn⟩ : ∃ kn : Nat, (rn : Int) + 4 * (ss.length : Int) = (kn : Int) := ⟨rn + 4 * ss.length, by omega⟩
  rw [hkn]
  have hkn1 : kn ≤ 11000000000000 := by omega
  have kk : Kept w9.heap.size w19 w20 := Kept.butO hBt H89.out
  replace hz := hBt.below hz (by have h1 := H67.out; have h2 := H78.out; omega) hz.size
  replace hQ := kk _ _ H910.out hQ
  replace hxs := hxs.kept kk
  replace hO := own_keptO hO (kk.up (by have h3 := H910.out; have h4 := H1011.out; omega))
  clear kk hBt hbl19 hkn hrn
  have z1 := block_cell hQ
  have hmk := markVm_w w9.heap.size w10.heap.size gx1 gx2 gx3 x.frames.length x.heap.length x.out.length x kn w20 hxx hkn1 hxs.lf hxs.lg hxs.hf hxs.hg hxs.f hxs.r hxs.o
  unfold vmCells at hmk
  go_wp2_with fail
  clear z1
  refine hmk.mono ?_
  clear hmk
  rintro e w21 ⟨k1, rfl, -, -, -, -, ho21⟩
  have kk : Kept w10.heap.size w20 w21 := Kept.only ho21 (Nat.le_refl _)
  have hz21 := ho21.below w6.heap.size (fun k hk => by have h0 := hk.1; have h1 := H67.out; have h2 := H78.out; have h3 := H89.out; omega) hz.size
  replace hz := hz.trans hz21
  replace hO := own_keptO hO (kk.up (by have h4 := H1011.out; omega))
  have hk1n : ¬ ((k1 : Int) < 0) := by omega
  clear kk hz21 ho21 hQ hxs hkn1
  go_wp2_with fail
  clear hk1n
  refine (eqSiteS_any ag aw L cg cw w21 hLn ((own_sitesz hO rfl).low (Nat.zero_le _)) (HSW.out.mono hz)).mono ?_
  rintro e w22 ⟨rfl, hb22⟩
  replace hz := hz.trans (hb22.mono hz.size)
  replace hO := own_below hO hb22
  clear hb22
  go_wp2_with fail
  refine (markSites_own w11.heap.size L.length cg ag (flatS L) w22 hLn hO).mono ?_
  rintro e w23 ⟨rfl, hgr, hM23⟩
  have hz23 : Below w6.heap.size w6 w23 := hz.grown hgr hz.size (fun m hm => by have h0 := (hO.lt m hm).1; have h1 := H67.out; have h2 := H78.out; have h3 := H89.out; have h4 := H910.out; have h5 := H1011.out; omega)
  clear hz hgr hO
  go_wp2_with fail
  refine (heldSites_own L.length cg ag w23 hLn hM23).mono ?_
  rintro e w24 ⟨rfl, hb24⟩
  have hz := hz23.trans (hb24.mono hz23.size)
  have hM24 := hM23.mono hb24
  have hnn : ¬ (1 + 4 * (L.length : Int)) < 0 := by omega
  have HM := hidz (block_kept HM6.out hz)
  have HX := hidz (block_kept HX6.out hz)
  have HBH := hidz (HB6.out.trans (hz.mono HB6.out.size))
  have HZ := hidz hz
  clear hM23 hz23 hb24 hz
  go_upto_region 38 with fail
  have HS : Hid (∀ w', Below w24.heap.size w24 w' → w'.cell? ⟨w.heap.size, 0, none⟩ = some (.slice a1 ts.length c1) ∧ w'.cell? ⟨w.heap.size, 1, none⟩ = some (.slice a2 fs.length c2) ∧ w'.cell? ⟨w.heap.size + 1, 0, none⟩ = some (.slice fa x.frames.length fc) ∧ w'.cell? ⟨w.heap.size + 1, 1, none⟩ = some (.slice ha x.heap.length hc) ∧ w'.cell? ⟨w.heap.size + 1, 2, none⟩ = some (.int .i64 x.made) ∧ w'.cell? ⟨w.heap.size + 1, 3, none⟩ = some (.slice oa x.out.length oc) ∧ w'.cell? ⟨w.heap.size + 1, 4, none⟩ = some (.int .i64 x.status) ∧ w'.cell? ⟨w.heap.size + 1, 5, none⟩ = some (.int .i64 x.trap) ∧ w'.cell? ⟨w.heap.size + 1, 6, none⟩ = some (.int .i64 x.value.k) ∧ w'.cell? ⟨w.heap.size + 1, 7, none⟩ = some (.int .i64 x.value.n) ∧ w'.cell? ⟨w.heap.size + 1, 8, none⟩ = some (.string x.value.s) ∧ w'.cell? ⟨w.heap.size + 1, 9, none⟩ = some (.int .i64 x.steps)) := fun w' q => ⟨by rw [block_cell (block_kept HM.out q)]; rfl, by rw [block_cell (block_kept HM.out q)]; rfl, by rw [block_cell (block_kept HX.out q)]; rfl, by rw [block_cell (block_kept HX.out q)]; rfl, by rw [block_cell (block_kept HX.out q)]; rfl, by rw [block_cell (block_kept HX.out q)]; rfl, by rw [block_cell (block_kept HX.out q)]; rfl, by rw [block_cell (block_kept HX.out q)]; rfl, by rw [block_cell (block_kept HX.out q)]; rfl, by rw [block_cell (block_kept HX.out q)]; rfl, by rw [block_cell (block_kept HX.out q)]; rfl, by rw [block_cell (block_kept HX.out q)]; rfl⟩
  obtain ⟨j0, j1, j2, j3, j4, j5, j6, j7, j8, j9, j10, j11⟩ := HS.out w24 (Below.refl _ _)
  have q : Below w24.heap.size w24 w24.drew := (Below.refl _ _).drew
  go_region_held3 (fun w' => w'.cell? ⟨w.heap.size, 0, none⟩ = some (.slice a1 ts.length c1) ∧ w'.cell? ⟨w.heap.size, 1, none⟩ = some (.slice a2 fs.length c2) ∧ w'.cell? ⟨w.heap.size + 1, 0, none⟩ = some (.slice fa x.frames.length fc) ∧ w'.cell? ⟨w.heap.size + 1, 1, none⟩ = some (.slice ha x.heap.length hc) ∧ w'.cell? ⟨w.heap.size + 1, 2, none⟩ = some (.int .i64 x.made) ∧ w'.cell? ⟨w.heap.size + 1, 3, none⟩ = some (.slice oa x.out.length oc) ∧ w'.cell? ⟨w.heap.size + 1, 4, none⟩ = some (.int .i64 x.status) ∧ w'.cell? ⟨w.heap.size + 1, 5, none⟩ = some (.int .i64 x.trap) ∧ w'.cell? ⟨w.heap.size + 1, 6, none⟩ = some (.int .i64 x.value.k) ∧ w'.cell? ⟨w.heap.size + 1, 7, none⟩ = some (.int .i64 x.value.n) ∧ w'.cell? ⟨w.heap.size + 1, 8, none⟩ = some (.string x.value.s) ∧ w'.cell? ⟨w.heap.size + 1, 9, none⟩ = some (.int .i64 x.steps))
    (first | exact ⟨j0, j1, j2, j3, j4, j5, j6, j7, j8, j9, j10, j11⟩ | exact HS.out _ q)
    (first
      | (go_at_call 9; refine (toModule_any a1 a2 ts fs c1 c2 _ hs (by exact hst0.mono (HBH.out.trans (q.mono HBH.out.size))) (by exact hfn0.mono (HBH.out.trans (q.mono HBH.out.size)))).mono ?_; rintro e wa ⟨g, g2, -, -, rfl, hst, hfn, kd⟩; have q := q.trans (kd.mono q.size))
      | (go_at_call 10; refine (toSiteS_any a3 ss c3 _ hn6 (by exact hsi0.mono (HBH.out.trans (q.mono HBH.out.size)))).mono ?_; rintro e wb ⟨rfl, hsi, kd⟩; have hst := (hst.low (Nat.zero_le _)).mono kd; have hfn := (hfn.low (Nat.zero_le _)).mono kd; have q := q.trans (kd.mono q.size))
      | (go_at_call 11; refine (toVm_b fa ha oa fc hc oc x _ hxx (by exact hv1.mono (HBH.out.trans (q.mono HBH.out.size)))).mono ?_; rintro e wv ⟨y1, y2, y3, rfl, hvb, kd⟩; have hst := hst.mono kd; have hfn := hfn.mono kd; have hsi := (hsi.low (Nat.zero_le _)).mono kd; have q := q.trans (kd.mono q.size))
      | (go_at_call 12; refine (iObserve_any _ _ _ _ _ _ _ _ _ _ _ _ ts fs ss x _ hs hst hfn hsi hxx (hvb.low (Nat.zero_le _))).mono ?_; rintro e w29 ⟨vh, Lh, rfl, hRh, hO29, kd⟩; have q := q.trans (kd.mono q.size)))

  have hLe : Lh = L := HR.out.one hRh
  rw [hLe] at hO29
  clear hLe hRh
  obtain ⟨ah, ch, rfl⟩ := own_formz hO29
  have hM29 := hM24.mono q
  have hz29 := HZ.out.trans (q.mono HZ.out.size)
  clear j0 j1 j2 j3 j4 j5 j6 j7 j8 j9 j10 j11 HS HM HX HBH HZ hst hfn hsi hvb kd q hM24
  go_wp2_with fail
  refine (eqSiteS_any ah aw L ch cw w29 hLn ((own_sitesz hO29 rfl).low (Nat.zero_le _)) (HSW.out.mono hz29)).mono ?_
  rintro e w30 ⟨rfl, hb30⟩
  have hz30 := hz29.trans (hb30.mono hz29.size)
  have hM30 := hM29.mono hb30
  clear hM29 hz29 hb30 hO29
  go_wp2_with fail
  refine (heldSites_own L.length cg ag w30 hLn hM30).mono ?_
  rintro e w31 ⟨rfl, hb31⟩
  have HF : Hid (Below w.heap.size w w31) := HB6.out.trans ((hz30.trans (hb31.mono hz30.size)).mono HB6.out.size)
  clear hM30 hz30 hb31
  go_wp2
  go_ret
  exact ⟨rfl, HF.out⟩
end Go.Proofs.YtmmcockkbhnopaaGreat
