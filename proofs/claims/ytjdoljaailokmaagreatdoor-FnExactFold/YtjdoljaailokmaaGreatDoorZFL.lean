/-
  The law of a function that rewrites a module, walked.
-/
import Derived.Test.YtjdoljaailokmaaGreatDoorZFQ24
import Derived.Test.YtjdoljaailokmaaGreatDoorZFF3
namespace Go.Proofs.YtjdoljaailokmaaGreatDoor
open Go.RowKit

set_option maxRecDepth 100000 in
set_option maxHeartbeats 8000000 in
theorem lawFold (a1 a2 : Option Addr) (ts : List ByteArray) (fs : List Fn) (c1 c2 : Nat) (w : World) (hn : ts.length ≤ maxLen) (hc : ∀ s ∈ ts, s.size ≤ maxLen) (hm : StrsAt w 0 a1 ts) (hn2 : fs.length ≤ maxLen) (hc2 : ∀ f ∈ fs, f.code.length ≤ maxLen) (hm2 : FnsAt w 0 a2 fs) (E0 E1 E2 : Addr) (hE : Errs w E0 E1 E2) :
    Calls Tryz.prog 3 #[.agg #[.slice a1 ts.length c1, .slice a2 fs.length c2]] w fun e w' => e = .returned (.bool true) ∧ Below w.heap.size w w' := by
  have hA : Below w.heap.size w (w.alloc (.cells #[.slice a1 ts.length c1, .slice a2 fs.length c2] 25)) := (Below.refl _ _).alloc (Nat.le_refl _) _
  have hM0 := block_new w #[.slice a1 ts.length c1, .slice a2 fs.length c2] 25
  go_enter Tryz.func3, Tryz.ntmps3
  go_wp2_with fail
  refine (szModule_le a1 a2 ts fs c1 c2 _ hn hc (hm.mono hA) hn2 hc2 (hm2.mono hA)).mono ?_
  rintro e w1 ⟨l, rfl, hl, hsm, hb1⟩
  have hM1 := block_kept hM0 hb1
  have hB1 := hA.trans (hb1.mono hA.size)
  clear hM0 hA hb1 hn hc hn2 hc2
  by_cases hl0 : l < 0
  · go_wp2_with fail
    go_ret
    exact ⟨rfl, hB1⟩
  have hs := hsm (by omega)
  clear hsm hl
  have x1 := block_cell hM1
  go_wp2_with fail
  refine (toModule_any a1 a2 ts fs c1 c2 _ hs (hm.mono hB1) (hm2.mono hB1)).mono ?_
  rintro e w2 ⟨q1, q2, -, -, rfl, hst2, hfn2, hb2⟩
  have hM2 := block_kept hM1 hb2
  have hB2 := hB1.trans (hb2.mono hB1.size)
  clear hM1 hB1 hb2 x1 hl0
  go_wp2_with fail
  refine (sFold_any _ _ _ _ ts fs w2 hs (hst2.low (Nat.zero_le _)) (hfn2.low (Nat.zero_le _))).mono ?_
  rintro e w3 ⟨tz, fz, aW1, cW1, aW2, cW2, HR, rfl, hsW, hfW, hb3⟩
  have hM3 := block_kept hM2 hb3
  have hB3 := hB2.trans (hb3.mono hB2.size)
  have HSZ : Hid (Small tz fz) := fold_small hs HR.out
  clear hst2 hfn2 hM2 hB2 hb3
  have hz3 : Below w3.heap.size w3 (w3.alloc (.cells #[.slice aW1 tz.length cW1, .slice aW2 fz.length cW2] 29)) := (Below.refl _ _).alloc (Nat.le_refl _) _
  have hW4 := block_new w3 #[.slice aW1 tz.length cW1, .slice aW2 fz.length cW2] 29
  obtain ⟨BW, eBW⟩ : ∃ B, Hid (B = w3.heap.size) := ⟨_, rfl⟩
  have hM4 := block_kept hM3 hz3
  have hB4 := hB3.trans (hz3.mono hB3.size)
  have hsW4 := hsW.mono hz3
  have hfW4 := hfW.mono hz3
  obtain ⟨w4, hw4⟩ : ∃ w4, w4 = w3.alloc (.cells #[.slice aW1 tz.length cW1, .slice aW2 fz.length cW2] 29) := ⟨_, rfl⟩
  rw [← hw4] at hW4 hM4 hB4 hsW4 hfW4
  rw [← eBW.out] at hW4
  have x4 := block_cell hM4
  have hle4 : w.heap.size ≤ w4.heap.size := hB4.size
  clear hz3 hM3 hB3 hsW hfW
  go_upto_region 6 with fail
  rw [← hw4, ← eBW.out]
  clear hw4
  go_wp2_with fail
  refine (toModule_made a1 a2 ts fs c1 c2 w4 hs (hm.mono hB4) (hm2.mono hB4)).mono ?_
  rintro e w5 ⟨p, p2, hp, hp2, rfl, hst5, hfn5, hb5, htb5, hfb5⟩
  have hpl : p < w5.heap.size := by obtain ⟨cu, h, -⟩ := htb5; exact lt_block h
  have hpl2 : p2 < w5.heap.size := by obtain ⟨cu, h, -⟩ := hfb5; exact lt_block h
  have hfh5 := hfb5.h
  have hM5 := block_kept hM4 hb5
  have hW5 := block_kept hW4 hb5
  have hB5 := hB4.trans (hb5.mono hB4.size)
  have hz5 : Below w5.heap.size w5 (w5.alloc (.cells #[.slice (some ⟨p, 0, none⟩) ts.length ts.length, .slice (some ⟨p2, 0, none⟩) fs.length fs.length] 29)) := (Below.refl _ _).alloc (Nat.le_refl _) _
  have hX6 := block_new w5 #[.slice (some ⟨p, 0, none⟩) ts.length ts.length, .slice (some ⟨p2, 0, none⟩) fs.length fs.length] 29
  obtain ⟨BX, eBX⟩ : ∃ B, Hid (B = w5.heap.size) := ⟨_, rfl⟩
  have r46 : Below w4.heap.size w4 (w5.alloc (.cells #[.slice (some ⟨p, 0, none⟩) ts.length ts.length, .slice (some ⟨p2, 0, none⟩) fs.length fs.length] 29)) := hb5.trans (hz5.mono hb5.size)
  have hM6 := block_kept hM5 hz5
  have hW6 := block_kept hW5 hz5
  have hB6 := hB5.trans (hz5.mono hB5.size)
  have hst6 := (hst5.low (Nat.zero_le _)).mono hz5
  have hfn6 := (hfn5.low (Nat.zero_le _)).mono hz5
  have htb6 := htb5.mono hz5
  have hfh6 := hfh5.mono hz5
  have hsz56 := hz5.size
  obtain ⟨w6, hw6⟩ : ∃ w6, w6 = w5.alloc (.cells #[.slice (some ⟨p, 0, none⟩) ts.length ts.length, .slice (some ⟨p2, 0, none⟩) fs.length fs.length] 29) := ⟨_, rfl⟩
  rw [← hw6] at hX6 r46 hM6 hW6 hB6 hst6 hfn6 htb6 hfh6 hsz56
  rw [← eBX.out] at hX6
  obtain ⟨hi, ehi⟩ : ∃ hi, Hid (hi = w5.heap.size) := ⟨_, rfl⟩
  rw [← ehi.out] at hfh6 hpl hpl2 hsz56
  have x6 := block_cell hX6
  clear hb5 hz5 hst5 hfn5 htb5 hfh5 hfb5 hM5 hW5 hB5 hM4 hW4 x4 hB4
  go_upto_region 7 with fail
  rw [← hw6, ← eBX.out]
  clear hw6
  go_wp2_with fail
  refine (iFold_any _ _ _ _ ts fs w6 hs hst6 hfn6 E0 E1 E2 (hE.later hB6)).mono ?_
  rintro e w7 ⟨tg, fg, csG, aG1, cG1, aG2, cG2, HR2, rfl, moG, hb7⟩
  obtain ⟨rfl, rfl⟩ := HR.out.one HR2.out
  have hM7 := block_kept hM6 hb7
  have hW7 := block_kept hW6 hb7
  have hX7 := block_kept hX6 hb7
  have r47 := r46.trans (hb7.mono r46.size)
  have hB7 := hB6.trans (hb7.mono hB6.size)
  have hst7 := hst6.mono hb7
  have hfn7 := hfn6.mono hb7
  have htb7 := htb6.mono hb7
  have hfh7 := hfh6.mono hb7
  obtain ⟨Bg, eBg⟩ : ∃ B, Hid (B = w6.heap.size) := ⟨_, rfl⟩
  rw [← eBg.out] at moG hsz56
  have hz7 : Below w7.heap.size w7 (w7.alloc (.cells #[.slice aG1 tz.length cG1, .slice aG2 fz.length cG2] 29)) := (Below.refl _ _).alloc (Nat.le_refl _) _
  have hG8 := block_new w7 #[.slice aG1 tz.length cG1, .slice aG2 fz.length cG2] 29
  obtain ⟨BG, eBG⟩ : ∃ B, Hid (B = w7.heap.size) := ⟨_, rfl⟩
  have hM8 := block_kept hM7 hz7
  have hW8 := block_kept hW7 hz7
  have hX8 := block_kept hX7 hz7
  have r48 := r47.trans (hz7.mono r47.size)
  have hB8 := hB7.trans (hz7.mono hB7.size)
  have hst8 := hst7.mono hz7
  have hfn8 := hfn7.mono hz7
  have htb8 := htb7.mono hz7
  have hfh8 := hfh7.mono hz7
  have moG8 := moG.below hz7
  obtain ⟨w8, hw8⟩ : ∃ w8, w8 = w7.alloc (.cells #[.slice aG1 tz.length cG1, .slice aG2 fz.length cG2] 29) := ⟨_, rfl⟩
  rw [← hw8] at hG8 hM8 hW8 hX8 r48 hB8 hst8 hfn8 htb8 hfh8 moG8
  rw [← eBG.out] at hG8
  have hgz8 : Bg ≤ w8.heap.size := by have h1 := eBg.out; have h2 := hb7.size; have h3 := hz7.size; rw [← hw8] at h3; omega
  have g8 := block_cell hG8
  have y8 := block_cell hW8
  clear hM6 hW6 hX6 r46 hB6 hst6 hfn6 htb6 hfh6 hb7 hM7 hW7 hX7 r47 hB7 hst7 hfn7 htb7 hfh7 hz7 moG x6
  go_upto_region 8 with fail
  rw [← hw8, ← eBG.out]
  clear hw8
  go_wp2_with fail
  refine (eqModule_any aG1 aG2 aW1 aW2 tz fz cG1 cG2 cW1 cW2 w8 HSZ.out (moG8.low (Nat.zero_le _)).strs (hsW4.mono r48) (moG8.low (Nat.zero_le _)).fns (hfW4.mono r48)).mono ?_
  rintro e w9 ⟨rfl, hb9⟩
  have hM9 := block_kept hM8 hb9
  have hW9 := block_kept hW8 hb9
  have hX9 := block_kept hX8 hb9
  have hG9 := block_kept hG8 hb9
  have r49 := r48.trans (hb9.mono r48.size)
  have hB9 := hB8.trans (hb9.mono hB8.size)
  have hst9 := hst8.mono hb9
  have hfn9 := hfn8.mono hb9
  have htb9 := htb8.mono hb9
  have hfh9 := hfh8.mono hb9
  have moG9 := moG8.below hb9
  have hgz9 : Bg ≤ w9.heap.size := Nat.le_trans hgz8 hb9.size
  clear hM8 hW8 hX8 hG8 r48 hB8 hst8 hfn8 htb8 hfh8 moG8 hb9 g8 y8 hgz8
  go_upto_region 10 with fail
  have HM9 := hid hM9
  have HX9 := hid hX9
  have HS : Hid (∀ w', Below w9.heap.size w9 w' → w'.cell? ⟨w.heap.size, 0, none⟩ = some (.slice a1 ts.length c1) ∧ w'.cell? ⟨w.heap.size, 1, none⟩ = some (.slice a2 fs.length c2) ∧ w'.cell? ⟨BX, 0, none⟩ = some (.slice (some ⟨p, 0, none⟩) ts.length ts.length) ∧ w'.cell? ⟨BX, 1, none⟩ = some (.slice (some ⟨p2, 0, none⟩) fs.length fs.length)) := fun w' q =>
    ⟨by rw [block_cell (block_kept HM9.out q)]; rfl, by rw [block_cell (block_kept HM9.out q)]; rfl, by rw [block_cell (block_kept HX9.out q)]; rfl, by rw [block_cell (block_kept HX9.out q)]; rfl⟩
  obtain ⟨j0, j1, j2, j3⟩ := HS.out w9 (Below.refl _ _)
  have q : Below w9.heap.size w9 w9.drew := (Below.refl _ _).drew
  go_region_held3 (fun w' => w'.cell? ⟨w.heap.size, 0, none⟩ = some (.slice a1 ts.length c1) ∧ w'.cell? ⟨w.heap.size, 1, none⟩ = some (.slice a2 fs.length c2) ∧ w'.cell? ⟨BX, 0, none⟩ = some (.slice (some ⟨p, 0, none⟩) ts.length ts.length) ∧ w'.cell? ⟨BX, 1, none⟩ = some (.slice (some ⟨p2, 0, none⟩) fs.length fs.length))
    (first | exact ⟨j0, j1, j2, j3⟩ | exact HS.out _ q)
    (first
      | (go_at_call 6; refine (toModule_any a1 a2 ts fs c1 c2 _ hs (by exact hm.mono (hB9.trans (q.mono hB9.size))) (by exact hm2.mono (hB9.trans (q.mono hB9.size)))).mono ?_; rintro e wa ⟨g, g2, -, -, rfl, hst, hfn, kd⟩; have q := q.trans (kd.mono q.size))
      | (go_at_call 8; refine (eqModule_any _ _ _ _ ts fs _ _ _ _ _ hs (by exact hst9.mono q) (by exact hst.low (Nat.zero_le _)) (by exact hfn9.mono q) (by exact hfn.low (Nat.zero_le _))).mono ?_; rintro e w10 ⟨rfl, kd⟩; have q := q.trans (kd.mono q.size)))
  have hM10 := block_kept hM9 q
  have hW10 := block_kept hW9 q
  have hX10 := block_kept hX9 q
  have hG10 := block_kept hG9 q
  have r410 := r49.trans (q.mono r49.size)
  have hB10 := hB9.trans (q.mono hB9.size)
  have htb10 := htb9.mono q
  have hfh10 := hfh9.mono q
  have moG10 := moG9.below q
  have hgz10 : Bg ≤ w10.heap.size := Nat.le_trans hgz9 q.size
  have x10 := block_cell hX10
  clear j0 j1 j2 j3 HS HM9 HX9 hst hfn kd q hM9 hW9 hX9 hG9 r49 hB9 hst9 hfn9 htb9 hfh9 moG9 hgz9
  go_wp2_with fail
  refine (markModule_w w4.heap.size hi p p2 _ _ ts fs w10 hs hp hp2 hpl hpl2 htb10 hfh10).mono ?_
  rintro e w11 ⟨k1, rfl, hk1, hk1b, hK, hO⟩
  have hM11 := hK.cell hM10 (by simp)
  have hW11 := hK.cell hW10 (by simp)
  have hG11 := hK.cell hG10 (by simp)
  have r411 : Below w4.heap.size w4 w11 := r410.trans (hK.toBelow r410.size)
  have hB11 : Below w.heap.size w w11 := hB10.trans ((hK.toBelow r410.size).mono hle4)
  have moG11 := moG10.onlyR hO (fun g hg h => by have := h.2; omega)
  have hgz11 : Bg ≤ w11.heap.size := Nat.le_trans hgz10 hO.size
  have g11 := block_cell hG11
  have y11 := block_cell hW11
  have hk1n : ¬ k1 < 0 := by omega
  clear hM10 hW10 hX10 hG10 r410 hB10 htb10 hfh10 moG10 hgz10 x10 hK hO
  go_wp2_with fail
  refine (eqModule_any aG1 aG2 aW1 aW2 tz fz cG1 cG2 cW1 cW2 w11 HSZ.out (moG11.low (Nat.zero_le _)).strs (hsW4.mono r411) (moG11.low (Nat.zero_le _)).fns (hfW4.mono r411)).mono ?_
  rintro e w12 ⟨rfl, hb12⟩
  have hM12 := block_kept hM11 hb12
  have hW12 := block_kept hW11 hb12
  have hG12 := block_kept hG11 hb12
  have r412 := r411.trans (hb12.mono r411.size)
  have hB12 := hB11.trans (hb12.mono hB11.size)
  have moG12 := moG11.below hb12
  have hgz12 : Bg ≤ w12.heap.size := Nat.le_trans hgz11 hb12.size
  have g12 := block_cell hG12
  clear hM11 hW11 hG11 r411 hB11 moG11 hgz11 g11 y11 hb12
  go_wp2_with fail
  refine (markModule_is Bg aG1 aG2 cG1 cG2 tz fz csG w12 HSZ.out moG12).mono ?_
  rintro e w13 ⟨rfl, moG13, kc⟩
  have hM13 := kc.cell hM12 (by simp)
  have hW13 := kc.cell hW12 (by simp)
  have hG13 := kc.cell hG12 (by simp)
  have hbk := kc.toBelow hgz12
  have r413 : Below w4.heap.size w4 w13 := r412.trans (hbk.mono (by have h1 := eBg.out; have h2 := ehi.out; omega))
  have hB13 : Below w.heap.size w w13 := hB12.trans (hbk.mono (by have h1 := eBg.out; have h2 := ehi.out; omega))
  have g13 := block_cell hG13
  clear hM12 hW12 hG12 r412 hB12 moG12 hgz12 g12 kc hbk
  go_wp2_with fail
  refine (heldModule_is Bg aG1 aG2 cG1 cG2 tz fz csG w13 HSZ.out moG13).mono ?_
  rintro e w14 ⟨rfl, hb14⟩
  have hM14 := block_kept hM13 hb14
  have hW14 := block_kept hW13 hb14
  have hG14 := block_kept hG13 hb14
  have r414 := r413.trans (hb14.mono r413.size)
  have hB14 := hB13.trans (hb14.mono hB13.size)
  have moG14 := moG13.below hb14
  obtain ⟨r, hr⟩ : ∃ r : Nat, Hid (r = endF (1 + tz.length) fz) := ⟨_, rfl⟩
  rw [← hr.out]
  have x14 := block_cell hM14
  clear hM13 hW13 hG13 r413 hB13 moG13 hb14 g13
  go_wp2_with fail
  refine (toModule_any a1 a2 ts fs c1 c2 _ hs (hm.mono hB14) (hm2.mono hB14)).mono ?_
  rintro e w15 ⟨u1, u2, -, -, rfl, hst15, hfn15, hb15⟩
  have hW15 := block_kept hW14 hb15
  have hG15 := block_kept hG14 hb15
  have r415 := r414.trans (hb15.mono r414.size)
  have hB15 := hB14.trans (hb15.mono hB14.size)
  have moG15 := moG14.below hb15
  clear hM14 hW14 hG14 r414 hB14 moG14 hb15 x14
  go_wp2_with fail
  refine (iFold_any _ _ _ _ ts fs w15 hs (hst15.low (Nat.zero_le _)) (hfn15.low (Nat.zero_le _)) E0 E1 E2 (hE.later hB15)).mono ?_
  rintro e w16 ⟨th, fh, csH, aH1, cH1, aH2, cH2, HR3, rfl, moH, hb16⟩
  obtain ⟨rfl, rfl⟩ := HR.out.one HR3.out
  have hz16 : Below w16.heap.size w16 (w16.alloc (.cells #[.slice aH1 tz.length cH1, .slice aH2 fz.length cH2] 29)) := (Below.refl _ _).alloc (Nat.le_refl _) _
  have hb17 := hb16.trans (hz16.mono hb16.size)
  have hH17 := block_new w16 #[.slice aH1 tz.length cH1, .slice aH2 fz.length cH2] 29
  obtain ⟨BH, eBH⟩ : ∃ B, Hid (B = w16.heap.size) := ⟨_, rfl⟩
  have hW17 := block_kept hW15 hb17
  have hG17 := block_kept hG15 hb17
  have r417 := r415.trans (hb17.mono r415.size)
  have hB17 := hB15.trans (hb17.mono hB15.size)
  have moG17 := moG15.below hb17
  have moH17 := moH.below hz16
  obtain ⟨w17, hw17⟩ : ∃ w17, w17 = w16.alloc (.cells #[.slice aH1 tz.length cH1, .slice aH2 fz.length cH2] 29) := ⟨_, rfl⟩
  rw [← hw17] at hW17 hG17 r417 hB17 moG17 moH17 hH17
  rw [← eBH.out] at hH17
  have h17 := block_cell hH17
  have y17 := block_cell hW17
  clear hst15 hfn15 hW15 hG15 r415 hB15 moG15 moH hb16 hz16 hb17
  go_upto_region 25 with fail
  rw [← hw17, ← eBH.out]
  clear hw17
  go_wp2_with fail
  refine (eqModule_any aH1 aH2 aW1 aW2 tz fz cH1 cH2 cW1 cW2 w17 HSZ.out (moH17.low (Nat.zero_le _)).strs (hsW4.mono r417) (moH17.low (Nat.zero_le _)).fns (hfW4.mono r417)).mono ?_
  rintro e w18 ⟨rfl, hb18⟩
  have hG18 := block_kept hG17 hb18
  have hB18 := hB17.trans (hb18.mono hB17.size)
  have moG18 := moG17.below hb18
  have g18 := block_cell hG18
  clear hW17 hG17 r417 hB17 moG17 moH17 hb18 y17 hH17 h17
  go_wp2_with fail
  refine (heldModule_is Bg aG1 aG2 cG1 cG2 tz fz csG w18 HSZ.out moG18).mono ?_
  rintro e w19 ⟨rfl, hb19⟩
  have hB19 := hid (hB18.trans (hb19.mono hB18.size))
  rw [← hr.out]
  clear hG18 hB18 moG18 g18 hb19
  go_wp2
  go_ret
  exact ⟨rfl, hB19.out⟩
end Go.Proofs.YtjdoljaailokmaaGreatDoor
