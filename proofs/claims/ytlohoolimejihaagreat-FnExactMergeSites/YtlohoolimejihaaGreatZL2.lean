/-
  The law of MergeSites, walked.
-/
import Derived.Test.YtlohoolimejihaaGreatZL1
namespace Go.Proofs.YtlohoolimejihaaGreat
open Go.RowKit

set_option maxRecDepth 100000 in
set_option maxHeartbeats 8000000 in
theorem lawMerge (a1 a2 a3 a4 : Option Addr) (ts : List ByteArray) (fs : List Fn) (ss bs : List Si) (c1 c2 c3 c4 : Nat) (w : World) (hn : ts.length ≤ maxLen) (hc : ∀ s ∈ ts, s.size ≤ maxLen) (hm : StrsAt w 0 a1 ts)
    (hn2 : fs.length ≤ maxLen) (hc2 : ∀ f ∈ fs, f.code.length ≤ maxLen) (hm2 : FnsAt w 0 a2 fs) (hn3 : ss.length ≤ maxLen) (hm3 : SitesAt w 0 a3 ss) (hn4 : bs.length ≤ maxLen) (hm4 : SitesAt w 0 a4 bs) :
    Calls Tryz.prog 4 #[.agg #[.slice a1 ts.length c1, .slice a2 fs.length c2], .slice a3 ss.length c3, .slice a4 bs.length c4] w fun e w' => e = .returned (.bool true) ∧ Below w.heap.size w w' := by
  have hA : Below w.heap.size w (w.alloc (.cells #[.slice a1 ts.length c1, .slice a2 fs.length c2] 25)) := (Below.refl _ _).alloc (Nat.le_refl _) _
  have hM0 := block_new w #[.slice a1 ts.length c1, .slice a2 fs.length c2] 25
  go_enter Tryz.func4, Tryz.ntmps4
  go_wp2_with fail
  refine (szModule_le a1 a2 ts fs c1 c2 _ hn hc (hm.mono hA) hn2 hc2 (hm2.mono hA)).mono ?_
  rintro e w1 ⟨l, rfl, hl, hsm, hb1⟩
  have hM1 := block_kept hM0 hb1
  have hB1 := hA.trans (hb1.mono hA.size)
  clear hM0 hA hb1 hn hc hn2 hc2
  by_cases hl0 : l < 0
  · go_wp2_with fail
    go_ret
    exact ⟨rfl, hB1⟩
  have hs := hsm (by omega)
  clear hsm
  go_wp2_with fail
  refine (szSiteS_any a3 ss.length c3 l _ (by omega) (by omega) hn3).mono ?_
  rintro e w2 ⟨rfl, hw2⟩
  subst hw2
  by_cases hl1 : l < (ss.length : Int)
  · rw [if_pos hl1]
    go_wp2_with fail
    go_ret
    exact ⟨rfl, hB1⟩
  rw [if_neg hl1]
  have hn6 : ss.length ≤ 1048576 := by omega
  obtain ⟨l2, hl2⟩ : ∃ l2, l2 = l - (ss.length : Int) := ⟨_, rfl⟩
  rw [← hl2]
  have hl2a : 0 ≤ l2 := by omega
  have hl2b : l2 ≤ 1048576 := by omega
  have hl2c : ¬ l2 < 0 := by omega
  clear hl2 hl1 hl0 hl
  go_wp2_with fail
  refine (szSiteS_any a4 bs.length c4 l2 _ hl2a hl2b hn4).mono ?_
  rintro e w2 ⟨rfl, hw2⟩
  subst hw2
  by_cases hl3 : l2 < (bs.length : Int)
  · rw [if_pos hl3]
    go_wp2_with fail
    go_ret
    exact ⟨rfl, hB1⟩
  rw [if_neg hl3]
  have hn7 : bs.length ≤ 1048576 := by omega
  have hl4 : ¬ (l2 - (bs.length : Int)) < 0 := by omega
  clear hl3 hl2a hl2b hl2c hn3 hn4
  have x1 := block_cell hM1
  go_wp2_with fail
  refine (toModule_any a1 a2 ts fs c1 c2 _ hs (hm.mono hB1) (hm2.mono hB1)).mono ?_
  rintro e w2 ⟨g, g2, -, -, rfl, hst, hfn, hb2⟩
  have hM2 := block_kept hM1 hb2
  have hB2 := hB1.trans (hb2.mono hB1.size)
  clear hM1 hB1 hb2 x1 hl4
  go_wp2_with fail
  refine (toSiteS_any a3 ss c3 _ hn6 (hm3.mono hB2)).mono ?_
  rintro e w3 ⟨rfl, hsi, hb3⟩
  have hM3 := block_kept hM2 hb3
  have hB3 := hB2.trans (hb3.mono hB2.size)
  have hst3 := (hst.low (Nat.zero_le _)).mono hb3
  have hfn3 := (hfn.low (Nat.zero_le _)).mono hb3
  clear hM2 hB2 hb3 hst hfn
  go_wp2_with fail
  refine (toSiteS_any a4 bs c4 _ hn7 (hm4.mono hB3)).mono ?_
  rintro e w4 ⟨rfl, hsp, hb4⟩
  have hM4 := block_kept hM3 hb4
  have hB4 := hB3.trans (hb4.mono hB3.size)
  go_wp2_with fail
  refine (sMerge_any _ _ _ _ _ _ _ _ ts fs ss bs w4 hs hn6 hn7 (hst3.mono hb4) (hfn3.mono hb4) ((hsi.low (Nat.zero_le _)).mono hb4) (hsp.low (Nat.zero_le _))).mono ?_
  rintro e w6 ⟨vw, L, rfl, hR, hOw, hb5⟩
  obtain ⟨aw, cw, rfl⟩ := own_formz hOw
  have hM6 := block_kept hM4 hb5
  have hB6 := hB4.trans (hb5.mono hB4.size)
  have hSw6 := (own_sitesz hOw rfl).low (Nat.zero_le _)
  have hLn : L.length ≤ 1048576 := Nat.le_trans hR.len (by omega)
  have HR := hidz hR
  clear hM3 hM4 hB3 hB4 hst3 hfn3 hsi hsp hb4 hb5 hR hOw
  have x6 := block_cell hM6
  go_wp2_with fail
  clear x6
  refine (toModule_made a1 a2 ts fs c1 c2 w6 hs (hm.mono hB6) (hm2.mono hB6)).mono ?_
  rintro e w7 ⟨p, p2, hp, hp2, rfl, hst7, hfn7, hb7, htb7, hfb7⟩
  have hB7 := hB6.trans (hb7.mono hB6.size)
  have r67 : Below w6.heap.size w6 w7 := hb7
  have hbq : Below w7.heap.size w7 (w7.alloc (.cells #[.slice (some ⟨p, 0, none⟩) ts.length ts.length, .slice (some ⟨p2, 0, none⟩) fs.length fs.length] 40)) := (Below.refl _ _).alloc (Nat.le_refl _) _
  have hX8 := block_new w7 #[.slice (some ⟨p, 0, none⟩) ts.length ts.length, .slice (some ⟨p2, 0, none⟩) fs.length fs.length] 40
  have hB8 := hB7.trans (hbq.mono hB7.size)
  have r68 := r67.trans (hbq.mono r67.size)
  have hst8 := (hst7.low (Nat.zero_le _)).mono hbq
  have hfn8 := (hfn7.low (Nat.zero_le _)).mono hbq
  have htb8 := htb7.mono hbq
  have hfb8 := hfb7.mono hbq
  obtain ⟨w8, hw8⟩ : ∃ w8, w8 = w7.alloc (.cells #[.slice (some ⟨p, 0, none⟩) ts.length ts.length, .slice (some ⟨p2, 0, none⟩) fs.length fs.length] 40) := ⟨_, rfl⟩
  rw [← hw8] at hX8 hB8 r68 hst8 hfn8 htb8 hfb8
  clear hst7 hfn7 hb7 htb7 hfb7 hbq hB7
  go_wp2_with fail
  rw [← hw8]
  clear hw8
  refine (toSiteS_made a3 ss c3 w8 hn6 (hm3.mono hB8)).mono ?_
  rintro e w9 ⟨rfl, hsi9, hb9, hbl9⟩
  have hB9 := hB8.trans (hb9.mono hB8.size)
  have r69 := r68.trans (hb9.mono r68.size)
  have hX9 := block_kept hX8 hb9
  have hst9 := hst8.mono hb9
  have hfn9 := hfn8.mono hb9
  have htb9 := htb8.mono hb9
  have hfb9 := hfb8.mono hb9
  have z8 : w6.heap.size ≤ w8.heap.size := r68.size
  clear hX8 hB8 r68 hst8 hfn8 htb8 hfb8 hb9
  go_wp2_with fail
  refine (toSiteS_made a4 bs c4 w9 hn7 (hm4.mono hB9)).mono ?_
  rintro e w10 ⟨rfl, hsp10, hb10, hbl10⟩
  have hB10 := hB9.trans (hb10.mono hB9.size)
  have r610 := r69.trans (hb10.mono r69.size)
  have hX10 := block_kept hX9 hb10
  have hst10 := hst9.mono hb10
  have hfn10 := hfn9.mono hb10
  have htb10 := htb9.mono hb10
  have hfb10 := hfb9.mono hb10
  have hsi10 := (hsi9.low (Nat.zero_le _)).mono hb10
  have hspp10 := hsp10.low (Nat.zero_le _)
  have z9 : w6.heap.size ≤ w9.heap.size := r69.size
  have z89 : w8.heap.size < w9.heap.size := by obtain ⟨cu, h, -⟩ := hbl9; exact lt_sizez h
  have z910 : w9.heap.size < w10.heap.size := by obtain ⟨cu, h, -⟩ := hbl10; exact lt_sizez h
  have hbs10 : ∃ cur, w10.heap[w8.heap.size]? = some (.cells cur 68 (0, 0)) ∧ cur.size = ss.length * 4 := by obtain ⟨cu, h, h2⟩ := hbl9; exact ⟨cu, block_kept h hb10, h2⟩
  have x10 := block_cell hX10
  clear hX9 hB9 r69 hst9 hfn9 htb9 hfb9 hb10 hsi9 hsp10 hbl9
  go_wp2_with fail
  refine (iMerge_any _ _ _ _ _ _ _ _ ts fs ss bs w10 hs hst10 hfn10 hsi10 hspp10).mono ?_
  rintro e w12 ⟨vg, Lg, rfl, hRg, hO12, hb12⟩
  obtain rfl := hRg.one HR.out
  obtain ⟨ag, cg, rfl⟩ := own_formz hO12
  have hB12 := hB10.trans (hb12.mono hB10.size)
  have r612 := r610.trans (hb12.mono r610.size)
  have hX12 := block_kept hX10 hb12
  have hst12 := hst10.mono hb12
  have hfn12 := hfn10.mono hb12
  have htb12 := htb10.mono hb12
  have hfb12 := hfb10.mono hb12
  have hsi12 := hsi10.mono hb12
  have hsp12 := hspp10.mono hb12
  have hbs12 : ∃ cur, w12.heap[w8.heap.size]? = some (.cells cur 68 (0, 0)) ∧ cur.size = ss.length * 4 := by obtain ⟨cu, h, h2⟩ := hbs10; exact ⟨cu, block_kept h hb12, h2⟩
  have hbp12 : ∃ cur, w12.heap[w9.heap.size]? = some (.cells cur 68 (0, 0)) ∧ cur.size = bs.length * 4 := by obtain ⟨cu, h, h2⟩ := hbl10; exact ⟨cu, block_kept h hb12, h2⟩
  have z12 : w10.heap.size ≤ w12.heap.size := hb12.size
  have HBSP := hidz (And.intro hbs12 hbp12)
  clear hRg hb12 hB10 r610 hX10 hst10 hfn10 htb10 hfb10 hsi10 hspp10 hbs10 hbl10 x10 hbs12 hbp12
  go_wp2_with fail
  refine (eqSiteS_any ag aw L cg cw w12 hLn ((own_sitesz hO12 rfl).low (Nat.zero_le _)) (hSw6.mono r612)).mono ?_
  rintro e w13 ⟨rfl, hb13⟩
  have q1213 := hb13
  go_upto_region 18 with fail
  have HM13 := hidz (block_kept hM6 (r612.trans (hb13.mono r612.size)))
  have HX13 := hidz (block_kept hX12 hb13)
  have HS : Hid (∀ w', Below w13.heap.size w13 w' → w'.cell? ⟨w.heap.size, 0, none⟩ = some (.slice a1 ts.length c1) ∧ w'.cell? ⟨w.heap.size, 1, none⟩ = some (.slice a2 fs.length c2) ∧ w'.cell? ⟨w7.heap.size, 0, none⟩ = some (.slice (some ⟨p, 0, none⟩) ts.length ts.length) ∧ w'.cell? ⟨w7.heap.size, 1, none⟩ = some (.slice (some ⟨p2, 0, none⟩) fs.length fs.length)) := fun w' q =>
    ⟨by rw [block_cell (block_kept HM13.out q)]; rfl, by rw [block_cell (block_kept HM13.out q)]; rfl, by rw [block_cell (block_kept HX13.out q)]; rfl, by rw [block_cell (block_kept HX13.out q)]; rfl⟩
  obtain ⟨j0, j1, j2, j3⟩ := HS.out w13 (Below.refl _ _)
  have hB13 := hB12.trans (hb13.mono hB12.size)
  have hst13 := hst12.mono hb13
  have hfn13 := hfn12.mono hb13
  have q : Below w13.heap.size w13 w13.drew := (Below.refl _ _).drew
  go_region_held3 (fun w' => w'.cell? ⟨w.heap.size, 0, none⟩ = some (.slice a1 ts.length c1) ∧ w'.cell? ⟨w.heap.size, 1, none⟩ = some (.slice a2 fs.length c2) ∧ w'.cell? ⟨w7.heap.size, 0, none⟩ = some (.slice (some ⟨p, 0, none⟩) ts.length ts.length) ∧ w'.cell? ⟨w7.heap.size, 1, none⟩ = some (.slice (some ⟨p2, 0, none⟩) fs.length fs.length))
    (first | exact ⟨j0, j1, j2, j3⟩ | exact HS.out _ q)
    (first
      | (go_at_call 9; refine (toModule_any a1 a2 ts fs c1 c2 _ hs (by exact hm.mono (hB13.trans (q.mono hB13.size))) (by exact hm2.mono (hB13.trans (q.mono hB13.size)))).mono ?_; rintro e wa ⟨g, g2, -, -, rfl, hst, hfn, kd⟩; have q := q.trans (kd.mono q.size))
      | (go_at_call 14; refine (eqModule_any _ _ _ _ ts fs _ _ _ _ _ hs (by exact hst13.mono q) (by exact hst.low (Nat.zero_le _)) (by exact hfn13.mono q) (by exact hfn.low (Nat.zero_le _))).mono ?_; rintro e w14 ⟨rfl, kd⟩; have q := q.trans (kd.mono q.size)))
  have q1214 := q1213.trans (q.mono q1213.size)
  have hB14 := hB12.trans (q1214.mono hB12.size)
  clear j0 j1 j2 j3 HS HM13 HX13 hst hfn kd q hB13 hst13 hfn13 hb13 q1213
  go_wp2_with fail
  refine (toSiteS_any a3 ss c3 w14 hn6 (hm3.mono hB14)).mono ?_
  rintro e w15 ⟨rfl, hs15, hb15⟩
  have q1215 := q1214.trans (hb15.mono q1214.size)
  go_wp2_with fail
  refine (eqSiteS_any _ _ ss _ _ w15 hn6 (hsi12.mono q1215) (hs15.low (Nat.zero_le _))).mono ?_
  rintro e w16 ⟨rfl, hb16⟩
  have q1216 := q1215.trans (hb16.mono q1215.size)
  have hB16 := hB12.trans (q1216.mono hB12.size)
  clear hs15 hb15 hb16 q1215 q1214 hB14
  go_wp2_with fail
  refine (toSiteS_any a4 bs c4 w16 hn7 (hm4.mono hB16)).mono ?_
  rintro e w17 ⟨rfl, hs17, hb17⟩
  have q1217 := q1216.trans (hb17.mono q1216.size)
  go_wp2_with fail
  refine (eqSiteS_any _ _ bs _ _ w17 hn7 (hsp12.mono q1217) (hs17.low (Nat.zero_le _))).mono ?_
  rintro e w18 ⟨rfl, hb18⟩
  have q1218 := q1217.trans (hb18.mono q1217.size)
  clear hs17 hb17 hb18 q1217 q1216 hB16
  have hX18 := block_kept hX12 q1218
  have htb18 := htb12.mono q1218
  have hfb18 := hfb12.mono q1218
  have hO18 := own_below hO12 q1218
  have r618 := r612.trans (q1218.mono r612.size)
  have HSP18 : Hid ((∃ cur, w18.heap[w8.heap.size]? = some (.cells cur 68 (0, 0)) ∧ cur.size = ss.length * 4) ∧ (∃ cur, w18.heap[w9.heap.size]? = some (.cells cur 68 (0, 0)) ∧ cur.size = bs.length * 4)) := by
    obtain ⟨⟨cu, h, h2⟩, cu3, h3, h4⟩ := HBSP.out
    exact ⟨⟨cu, block_kept h q1218, h2⟩, cu3, block_kept h3 q1218, h4⟩
  clear hX12 htb12 hfb12 hO12 r612 q1218 HBSP hst12 hfn12 hsi12 hsp12 hB12
  have x18 := block_cell hX18
  go_wp2_with fail
  refine (markModule_any w6.heap.size p p2 _ _ ts fs w18 hs hp hp2 htb18 hfb18).mono ?_
  rintro e w19 ⟨k1, rfl, hk1, hk1b, hK⟩
  have r619 := r618.trans (hK.toBelow r618.size)
  have hO19 : w19.ownsRow w10.heap.size 68 4 (.slice ag L.length cg) L.length (flatS L) := by
    refine ⟨hO18.1, ?_⟩
    rcases hO18.2 with ⟨e, hn⟩ | ⟨b, cap, cur, e, hb', hh, r⟩
    · exact .inl ⟨e, hn⟩
    · exact .inr ⟨b, cap, cur, e, hb', hK.cell hh (by decide), r⟩
  have hP19 : ∃ cur, w19.heap[w9.heap.size]? = some (.cells cur 68 (0, 0)) ∧ cur.size = bs.length * 4 := by
    obtain ⟨-, cu, h, h2⟩ := HSP18.out
    exact ⟨cu, hK.cell h (by decide), h2⟩
  have hS19 : ∃ cur, w19.heap[w8.heap.size]? = some (.cells cur 68 (0, 0)) ∧ ss.length * 4 ≤ cur.size := by
    obtain ⟨⟨cu, h, h2⟩, -⟩ := HSP18.out
    exact ⟨cu, hK.cell h (by decide), by omega⟩
  clear hX18 htb18 hfb18 hO18 r618 HSP18 x18 hK
  go_wp2_with fail
  refine (markSites_any w8.heap.size ss.length _ k1 w19 hn6 hk1 (by omega) hS19).mono ?_
  rintro e w20 ⟨rfl, hBt, -⟩
  have r620 := hBt.below r619 (by omega) r619.size
  have hO20 := own_butz hO19 hBt (by omega)
  have hP20 : ∃ cur, w20.heap[w9.heap.size]? = some (.cells cur 68 (0, 0)) ∧ bs.length * 4 ≤ cur.size := by
    obtain ⟨cu, h, h2⟩ := hP19
    exact ⟨cu, hBt.kept (by omega) h, by omega⟩
  clear hO19 r619 hP19 hS19 hBt
  go_wp2_with fail
  refine (markSites_any w9.heap.size bs.length _ (k1 + 4 * ss.length) w20 hn7 (by omega) (by omega) hP20).mono ?_
  rintro e w21 ⟨rfl, hBt, -⟩
  have r621 := hBt.below r620 (by omega) r620.size
  have hO21 := own_butz hO20 hBt (by omega)
  have hk2 : ¬ (k1 + 4 * (ss.length : Int) + 4 * (bs.length : Int)) < 0 := by omega
  clear hO20 r620 hP20 hBt
  go_wp2_with fail
  refine (eqSiteS_any ag aw L cg cw w21 hLn ((own_sitesz hO21 rfl).low (Nat.zero_le _)) (hSw6.mono r621)).mono ?_
  rintro e w22 ⟨rfl, hb22⟩
  have r622 := r621.trans (hb22.mono r621.size)
  have hO22 := own_below hO21 hb22
  clear hO21 r621 hb22 hk2
  go_wp2_with fail
  refine (markSites_own w10.heap.size L.length cg ag (flatS L) w22 hLn hO22).mono ?_
  rintro e w23 ⟨rfl, hgr, hM23⟩
  have r623 : Below w6.heap.size w6 w23 := r622.grown hgr r622.size (fun m hm => by have := (hO22.lt m hm).1; omega)
  clear r622 hgr
  go_wp2_with fail
  refine (heldSites_own L.length cg ag w23 hLn hM23).mono ?_
  rintro e w24 ⟨rfl, hb24⟩
  have r624 := r623.trans (hb24.mono r623.size)
  have hM24 := hM23.mono hb24
  have hnn : ¬ (1 + 4 * (L.length : Int)) < 0 := by omega
  have hMA := block_kept hM6 r624
  have x24 := block_cell hMA
  have hB24 := hB6.trans (r624.mono hB6.size)
  clear hM23 r623 hb24 hO22
  go_wp2_with fail
  refine (toModule_any a1 a2 ts fs c1 c2 _ hs (hm.mono hB24) (hm2.mono hB24)).mono ?_
  rintro e w25 ⟨g, g2, -, -, rfl, hst, hfn, hb25⟩
  have r625 := r624.trans (hb25.mono r624.size)
  have hM25 := hM24.mono hb25
  have hB25 := hB6.trans (r625.mono hB6.size)
  clear hM24 r624 x24 hMA hB24 hb25
  go_wp2_with fail
  refine (toSiteS_any a3 ss c3 _ hn6 (hm3.mono hB25)).mono ?_
  rintro e w26 ⟨rfl, hsi, hb26⟩
  have r626 := r625.trans (hb26.mono r625.size)
  have hM26 := hM25.mono hb26
  have hB26 := hB6.trans (r626.mono hB6.size)
  have hst26 := (hst.low (Nat.zero_le _)).mono hb26
  have hfn26 := (hfn.low (Nat.zero_le _)).mono hb26
  clear hM25 r625 hB25 hb26 hst hfn
  go_wp2_with fail
  refine (toSiteS_any a4 bs c4 _ hn7 (hm4.mono hB26)).mono ?_
  rintro e w27 ⟨rfl, hsp, hb27⟩
  have r627 := r626.trans (hb27.mono r626.size)
  have hM27 := hM26.mono hb27
  clear hM26 r626 hB26
  go_wp2_with fail
  refine (iMerge_any _ _ _ _ _ _ _ _ ts fs ss bs w27 hs (hst26.mono hb27) (hfn26.mono hb27) ((hsi.low (Nat.zero_le _)).mono hb27) (hsp.low (Nat.zero_le _))).mono ?_
  rintro e w29 ⟨vh, Lh, rfl, hRh, hO29, hb29⟩
  obtain rfl := hRh.one HR.out
  obtain ⟨ah, ch, rfl⟩ := own_formz hO29
  have r629 := r627.trans (hb29.mono r627.size)
  have hM29 := hM27.mono hb29
  clear hRh hb29 hM27 r627 hst26 hfn26 hsi hsp hb27
  go_wp2_with fail
  refine (eqSiteS_any ah aw L ch cw w29 hLn ((own_sitesz hO29 rfl).low (Nat.zero_le _)) (hSw6.mono r629)).mono ?_
  rintro e w30 ⟨rfl, hb30⟩
  have r630 := r629.trans (hb30.mono r629.size)
  have hM30 := hM29.mono hb30
  clear hM29 r629 hb30 hO29
  go_wp2_with fail
  refine (heldSites_own L.length cg ag w30 hLn hM30).mono ?_
  rintro e w31 ⟨rfl, hb31⟩
  have r631 := r630.trans (hb31.mono r630.size)
  have HF : Hid (Below w.heap.size w w31) := hB6.trans (r631.mono hB6.size)
  clear hM30 r630 hb31 r631
  go_wp2
  go_ret
  exact ⟨rfl, HF.out⟩
end Go.Proofs.YtlohoolimejihaaGreat
