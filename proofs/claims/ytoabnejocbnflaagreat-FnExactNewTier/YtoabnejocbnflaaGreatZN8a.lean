/-
  The law laws.FnExactNewTier, walked.
-/
import Derived.Test.YtoabnejocbnflaaGreatZN3
import Derived.Test.YtoabnejocbnflaaGreatZN5
import Derived.Test.YtoabnejocbnflaaGreatZN7
import Derived.Test.YtoabnejocbnflaaGreatZNT1
import Derived.Test.YtoabnejocbnflaaGreatZNT2
import Derived.Test.YtoabnejocbnflaaGreatZNQ9
import Derived.Test.YtoabnejocbnflaaGreatZS5
import Derived.Test.YtoabnejocbnflaaGreatZW2m
namespace Go.Proofs.YtoabnejocbnflaaGreat
open Go.RowKit

theorem Hid.mk' {p : Prop} (h : p) : Hid p := h

set_option maxRecDepth 100000 in
set_option maxHeartbeats 16000000 in
theorem lawNew_no (a a2 va : Option Addr) (ts : List ByteArray) (fs : List Fn) (cap cap2 vcap : Nat) (vs : List Vl) (w : World) (hn : ts.length ≤ maxLen) (hc : ∀ s ∈ ts, s.size ≤ maxLen) (hm : StrsAt w 0 a ts)
    (hn2 : fs.length ≤ maxLen) (hc2 : ∀ f ∈ fs, f.code.length ≤ maxLen) (hm2 : FnsAt w 0 a2 fs) (hx : ValsMax vs) (hv : ValsAt w 0 va vs) (hNP : ¬ StartP ts fs vs) :
    Calls Tryz.prog 3 #[.agg #[.slice a ts.length cap, .slice a2 fs.length cap2], .slice va vs.length vcap] w fun e w' => e = .returned (.bool true) ∧ Below w.heap.size w w' := by
  have hB0 : Below w.heap.size w (w.alloc (.cells #[.slice a ts.length cap, .slice a2 fs.length cap2] 25)) := (Below.refl _ _).alloc (Nat.le_refl _) _
  have hM0 := block_new w #[.slice a ts.length cap, .slice a2 fs.length cap2] 25
  go_enter Tryz.func3, Tryz.ntmps3
  go_wp2_with fail
  refine (szModule_le a a2 ts fs cap cap2 _ hn hc (hm.mono hB0) hn2 hc2 (hm2.mono hB0)).mono ?_
  rintro e w1 ⟨l, rfl, hl, hsm, hb1⟩
  have hM1 := block_kept hM0 hb1
  have hB1 := hB0.trans (hb1.mono hB0.size)
  clear hM0 hB0 hb1 hn hc hn2 hc2
  by_cases hl0 : l < 0
  · go_wp2_with fail
    go_ret
    exact ⟨rfl, hB1⟩
  have hs := hsm (by omega)
  clear hsm
  go_wp2_with fail
  refine (szValueS_any va vs vcap l _ (by omega) (by omega) hx (hv.mono hB1)).mono ?_
  rintro e w2 ⟨l2, rfl, hl2, hsm, hb2⟩
  have hM2 := block_kept hM1 hb2
  have hB2 := hB1.trans (hb2.mono hB1.size)
  clear hM1 hB1 hb2 hx
  by_cases hl1 : l2 < 0
  · go_wp2_with fail
    go_ret
    exact ⟨rfl, hB2⟩
  have hvs := hsm (by omega)
  clear hsm hl hl2 hl0
  have m2 := block_cell hM2
  go_wp2_with fail
  clear m2 hl1
  refine (toModule_any a a2 ts fs cap cap2 _ hs (hm.mono hB2) (hm2.mono hB2)).mono ?_
  rintro e w3 ⟨g, g2, -, -, rfl, hst, hfn, hb3⟩
  have hM3 := block_kept hM2 hb3
  have hB3 := hB2.trans (hb3.mono hB2.size)
  clear hM2 hB2 hb3
  go_wp2_with fail
  refine (toValueS_any va vs vcap _ hvs.1 (hv.mono hB3)).mono ?_
  rintro e w4 ⟨rfl, hy, -, hb4⟩
  have hM4 := block_kept hM3 hb4
  have hB4 := hB3.trans (hb4.mono hB3.size)
  have hst4 := (hst.low (Nat.zero_le _)).mono hb4
  have hfn4 := (hfn.low (Nat.zero_le _)).mono hb4
  clear hM3 hB3 hb4 hst hfn
  go_wp2_with fail
  refine (sNew_any _ _ _ _ _ _ ts fs vs _ hs hst4 hfn4 hvs (hy.low (Nat.zero_le _))).mono ?_
  rintro e w5 ⟨hpost, hb5⟩
  have hM := block_kept hM4 hb5
  have hB := hB4.trans (hb5.mono hB4.size)
  have hz5 := hb5.size
  clear hM4 hB4 hst4 hfn4 hy
  obtain ⟨L, hLE⟩ : ∃ L, L = (fnAt fs 0).locals.toNat := ⟨_, rfl⟩
  rw [← hLE] at hpost
  have HLE : Hid ((fnAt fs 0).locals.toNat = L) := hLE.symm
  clear hLE hz5 hb5
  rcases hpost with ⟨hnp, rfl⟩ | ⟨hp, Gw, gw, -, -, rfl, hGb, hvw, hvb⟩
  · have HNP : Hid (¬ StartP ts fs vs) := hnp
    clear hnp
    have zM := lt_block hM
    obtain ⟨w6, hw6⟩ : ∃ w6, w6 = w5.alloc (.cells #[.slice none 0 0, .slice none 0 0, .int .i64 0, .slice none 0 0, .int .i64 0, .int .i64 0, .int .i64 0, .int .i64 0, .string ⟨#[]⟩, .int .i64 0, .slice none 0 0, .slice none 0 0, .slice none 0 0, .int .i64 0, .int .i64 0] 39) := ⟨_, rfl⟩
    have hb6 : Below w5.heap.size w5 w6 := by rw [hw6]; exact (Below.refl _ _).alloc (Nat.le_refl _) _
    have hW : w6.heap[w5.heap.size]? = some (.cells #[.slice none 0 0, .slice none 0 0, .int .i64 0, .slice none 0 0, .int .i64 0, .int .i64 0, .int .i64 0, .int .i64 0, .string ⟨#[]⟩, .int .i64 0, .slice none 0 0, .slice none 0 0, .slice none 0 0, .int .i64 0, .int .i64 0] 39 (0, 0)) := by rw [hw6]; exact block_new _ _ _
    have m6 := block_cell (block_old hM (.cells #[.slice none 0 0, .slice none 0 0, .int .i64 0, .slice none 0 0, .int .i64 0, .int .i64 0, .int .i64 0, .int .i64 0, .string ⟨#[]⟩, .int .i64 0, .slice none 0 0, .slice none 0 0, .slice none 0 0, .int .i64 0, .int .i64 0] 39))
    have hM_n := block_kept hM hb6
    clear hM
    have hM := hM_n
    clear hM_n
    have hBn := hB.trans (hb6.mono hB.size)
    clear hB
    have hB := hBn
    clear hBn
    have z6 := lt_block hW
    go_wp2_with fail
    rw [← hw6]
    clear hw6 m6 hb6
    refine (toModule_made a a2 ts fs cap cap2 _ hs (hm.mono hB) (hm2.mono hB)).mono ?_
    rintro e w7 ⟨p, p2, hp1, hp2, rfl, hst, hfn, hb7, htb, hfb⟩
    have hM_n := block_kept hM hb7
    have hW_n := block_kept hW hb7
    clear hM hW
    have hM := hM_n
    have hW := hW_n
    clear hM_n hW_n
    have hBn := hB.trans (hb7.mono hB.size)
    clear hB
    have hB := hBn
    clear hBn
    obtain ⟨w8, hw8⟩ : ∃ w8, w8 = w7.alloc (.cells #[.slice (some ⟨p, 0, none⟩) ts.length ts.length, .slice (some ⟨p2, 0, none⟩) fs.length fs.length] 44) := ⟨_, rfl⟩
    have hb8 : Below w7.heap.size w7 w8 := by rw [hw8]; exact (Below.refl _ _).alloc (Nat.le_refl _) _
    have hX : w8.heap[w7.heap.size]? = some (.cells #[.slice (some ⟨p, 0, none⟩) ts.length ts.length, .slice (some ⟨p2, 0, none⟩) fs.length fs.length] 44 (0, 0)) := by rw [hw8]; exact block_new _ _ _
    have hM_n := block_kept hM hb8
    have hW_n := block_kept hW hb8
    clear hM hW
    have hM := hM_n
    have hW := hW_n
    clear hM_n hW_n
    have hBn := hB.trans (hb8.mono hB.size)
    clear hB
    have hB := hBn
    clear hBn
    have hst8 := (hst.low (Nat.zero_le _)).mono hb8
    have hfn8 := (hfn.low (Nat.zero_le _)).mono hb8
    have htb8 := htb.mono hb8
    have hfb8 := hfb.mono hb8
    have z7 := hb7.size
    have z8 := lt_block hX
    clear hst hfn htb hfb hb7
    go_wp2_with fail
    rw [← hw8]
    clear hw8 hb8
    refine (toValueS_any va vs vcap _ hvs.1 (hv.mono hB)).mono ?_
    rintro e w9 ⟨rfl, hx1, hxb, hb9⟩
    have hM_n := block_kept hM hb9
    have hW_n := block_kept hW hb9
    have hX_n := block_kept hX hb9
    clear hM hW hX
    have hM := hM_n
    have hW := hW_n
    have hX := hX_n
    clear hM_n hW_n hX_n
    have hBn := hB.trans (hb9.mono hB.size)
    clear hB
    have hB := hBn
    clear hBn
    have hst9 := hst8.mono hb9
    have hfn9 := hfn8.mono hb9
    have htb9 := htb8.mono hb9
    have hfb9 := hfb8.mono hb9
    have hx19 := hx1.low (Nat.zero_le _)
    have z9 : w8.heap.size < w9.heap.size := by obtain ⟨c, h1, -⟩ := hxb; exact lt_block h1
    clear hst8 hfn8 htb8 hfb8 hx1 hb9
    have x9 := block_cell hX
    go_wp2_with fail
    clear x9
    refine (iNew_any _ _ _ _ _ _ ts fs vs _ hs hst9 hfn9 hvs hx19).mono ?_
    rintro e w10 ⟨hpost2, hb10⟩
    rw [HLE.out] at hpost2
    rcases hpost2 with ⟨-, rfl⟩ | ⟨hp, -⟩
    rotate_left
    · exact absurd hp HNP.out
    have hM_n := block_kept hM hb10
    have hW_n := block_kept hW hb10
    have hX_n := block_kept hX hb10
    clear hM hW hX
    have hM := hM_n
    have hW := hW_n
    have hX := hX_n
    clear hM_n hW_n hX_n
    have hBn := hB.trans (hb10.mono hB.size)
    clear hB
    have hB := hBn
    clear hBn
    have hst10 := hst9.mono hb10
    have hfn10 := hfn9.mono hb10
    have htb10 := htb9.mono hb10
    have hfb10 := hfb9.mono hb10
    have hx110 := hx19.mono hb10
    have hxb10 := hxb.mono hb10
    have z10 := hb10.size
    clear hst9 hfn9 htb9 hfb9 hx19 hxb hb10
    obtain ⟨w11, hw11⟩ : ∃ w11, w11 = w10.alloc (.cells #[.slice none 0 0, .slice none 0 0, .int .i64 0, .slice none 0 0, .int .i64 0, .int .i64 0, .int .i64 0, .int .i64 0, .string ⟨#[]⟩, .int .i64 0, .slice none 0 0, .slice none 0 0, .slice none 0 0, .int .i64 0, .int .i64 0] 39) := ⟨_, rfl⟩
    have hb11 : Below w10.heap.size w10 w11 := by rw [hw11]; exact (Below.refl _ _).alloc (Nat.le_refl _) _
    have hG : w11.heap[w10.heap.size]? = some (.cells #[.slice none 0 0, .slice none 0 0, .int .i64 0, .slice none 0 0, .int .i64 0, .int .i64 0, .int .i64 0, .int .i64 0, .string ⟨#[]⟩, .int .i64 0, .slice none 0 0, .slice none 0 0, .slice none 0 0, .int .i64 0, .int .i64 0] 39 (0, 0)) := by rw [hw11]; exact block_new _ _ _
    have y11 := block_cell (block_old hW (.cells #[.slice none 0 0, .slice none 0 0, .int .i64 0, .slice none 0 0, .int .i64 0, .int .i64 0, .int .i64 0, .int .i64 0, .string ⟨#[]⟩, .int .i64 0, .slice none 0 0, .slice none 0 0, .slice none 0 0, .int .i64 0, .int .i64 0] 39))
    have hM_n := block_kept hM hb11
    have hW_n := block_kept hW hb11
    have hX_n := block_kept hX hb11
    clear hM hW hX
    have hM := hM_n
    have hW := hW_n
    have hX := hX_n
    clear hM_n hW_n hX_n
    have hBn := hB.trans (hb11.mono hB.size)
    clear hB
    have hB := hBn
    clear hBn
    have z11 := lt_block hG
    have hst11 := hst10.mono hb11
    have hfn11 := hfn10.mono hb11
    have htb11 := htb10.mono hb11
    have hfb11 := hfb10.mono hb11
    have hx111 := hx110.mono hb11
    have hxb11 := hxb10.mono hb11
    clear hst10 hfn10 htb10 hfb10 hx110 hxb10
    have HzM : Hid (w.heap.size < w5.heap.size) := zM
    have Hz6 : Hid (w5.heap.size < w6.heap.size) := z6
    have Hz7 : Hid (w6.heap.size ≤ w7.heap.size) := z7
    have Hz8 : Hid (w7.heap.size < w8.heap.size) := z8
    have Hz9 : Hid (w8.heap.size < w9.heap.size) := z9
    have Hz10 : Hid (w9.heap.size ≤ w10.heap.size) := z10
    have Hz11 : Hid (w10.heap.size < w11.heap.size) := z11
    have Hhp1 : Hid (w6.heap.size ≤ p) := hp1
    have Hhp2 : Hid (w6.heap.size ≤ p2) := hp2
    clear zM z6 z7 z8 z9 z10 z11 hp1 hp2
    go_wp2_with fail
    rw [← hw11]
    clear hw11 y11 hb11
    as_aux_lemma =>
      refine (eqT_zero _).mono ?_
      rintro e w12 ⟨rfl, hb12⟩
      have hM_n := block_kept hM hb12
      have hW_n := block_kept hW hb12
      have hX_n := block_kept hX hb12
      have hG_n := block_kept hG hb12
      clear hM hW hX hG
      have hM := hM_n
      have hW := hW_n
      have hX := hX_n
      have hG := hG_n
      clear hM_n hW_n hX_n hG_n
      have hBn := hB.trans (hb12.mono hB.size)
      clear hB
      have hB := hBn
      clear hBn
      have hst12 := hst11.mono hb12
      have hfn12 := hfn11.mono hb12
      have htb12 := htb11.mono hb12
      have hfb12 := hfb11.mono hb12
      have hx112 := hx111.mono hb12
      have hxb12 := hxb11.mono hb12
      clear hst11 hfn11 htb11 hfb11 hx111 hxb11 hb12
      have hS : ∀ w', Below w12.heap.size w12 w' → w'.cell? ⟨w7.heap.size, 0, none⟩ = some (.slice (some ⟨p, 0, none⟩) ts.length ts.length) ∧ w'.cell? ⟨w7.heap.size, 1, none⟩ = some (.slice (some ⟨p2, 0, none⟩) fs.length fs.length) ∧ w'.cell? ⟨w.heap.size, 0, none⟩ = some (.slice a ts.length cap) ∧ w'.cell? ⟨w.heap.size, 1, none⟩ = some (.slice a2 fs.length cap2) := fun w' hb => ⟨by rw [block_cell (block_kept hX hb)]; rfl, by rw [block_cell (block_kept hX hb)]; rfl, by rw [block_cell (block_kept hM hb)]; rfl, by rw [block_cell (block_kept hM hb)]; rfl⟩
      have HS : Hid (∀ w', Below w12.heap.size w12 w' → w'.cell? ⟨w7.heap.size, 0, none⟩ = some (.slice (some ⟨p, 0, none⟩) ts.length ts.length) ∧ w'.cell? ⟨w7.heap.size, 1, none⟩ = some (.slice (some ⟨p2, 0, none⟩) fs.length fs.length) ∧ w'.cell? ⟨w.heap.size, 0, none⟩ = some (.slice a ts.length cap) ∧ w'.cell? ⟨w.heap.size, 1, none⟩ = some (.slice a2 fs.length cap2)) := hS
      obtain ⟨j0, j1, j2, j3⟩ := hS w12 (Below.refl _ _)
      have HB : Hid (Below w.heap.size w w12) := hB
      have q : Below w12.heap.size w12 w12.drew := (Below.refl _ _).drew
      have hMH := Hid.mk' hM
      have hWH := Hid.mk' hW
      have hXH := Hid.mk' hX
      have hGH := Hid.mk' hG
      clear hS hB hM hW hX hG
      go_wp2
      go_region_held3 (fun w' => w'.cell? ⟨w7.heap.size, 0, none⟩ = some (.slice (some ⟨p, 0, none⟩) ts.length ts.length) ∧ w'.cell? ⟨w7.heap.size, 1, none⟩ = some (.slice (some ⟨p2, 0, none⟩) fs.length fs.length) ∧ w'.cell? ⟨w.heap.size, 0, none⟩ = some (.slice a ts.length cap) ∧ w'.cell? ⟨w.heap.size, 1, none⟩ = some (.slice a2 fs.length cap2))
        (first | exact ⟨j0, j1, j2, j3⟩ | exact HS.out _ q)
        (first
          | (go_at_call 7; refine (toModule_any a a2 ts fs cap cap2 _ hs (by exact hm.mono (HB.out.trans (q.mono HB.out.size))) (by exact hm2.mono (HB.out.trans (q.mono HB.out.size)))).mono ?_; rintro e wa ⟨u, u2, -, -, rfl, hst, hfn, kd⟩; have q := q.trans (kd.mono q.size))
          | (go_at_call 11; refine (eqModule_any _ _ _ _ ts fs _ _ _ _ _ hs (by exact hst12.mono q) (by exact hst.low (Nat.zero_le _)) (by exact hfn12.mono q) (by exact hfn.low (Nat.zero_le _))).mono ?_; rintro e w13 ⟨rfl, kd⟩; have q := q.trans (kd.mono q.size)))
      have hM := block_kept hMH.out q
      have hW := block_kept hWH.out q
      have hX := block_kept hXH.out q
      have hG := block_kept hGH.out q
      have hB := HB.out.trans (q.mono HB.out.size)
      have htb13 := htb12.mono q
      have hfb13 := hfb12.mono q
      have hx113 := hx112.mono q
      have hxb13 := hxb12.mono q
      clear HS HB j0 j1 j2 j3 q hst hfn hst12 hfn12 htb12 hfb12 hx112 hxb12 kd hMH hWH hXH hGH
      go_wp2_with fail
      refine (toValueS_any va vs vcap _ hvs.1 (hv.mono hB)).mono ?_
      rintro e w14 ⟨rfl, hy1, -, hb14⟩
      have hM_n := block_kept hM hb14
      have hW_n := block_kept hW hb14
      have hX_n := block_kept hX hb14
      have hG_n := block_kept hG hb14
      clear hM hW hX hG
      have hM := hM_n
      have hW := hW_n
      have hX := hX_n
      have hG := hG_n
      clear hM_n hW_n hX_n hG_n
      have hBn := hB.trans (hb14.mono hB.size)
      clear hB
      have hB := hBn
      clear hBn
      have htb14 := htb13.mono hb14
      have hfb14 := hfb13.mono hb14
      have hx114 := hx113.mono hb14
      have hxb14 := hxb13.mono hb14
      clear htb13 hfb13 hx113 hxb13 hb14
      go_wp2_with fail
      refine (eqValueS_any _ _ vs _ _ _ hvs.1 hx114 (hy1.low (Nat.zero_le _))).mono ?_
      rintro e w15 ⟨rfl, hb15⟩
      have hM_n := block_kept hM hb15
      have hW_n := block_kept hW hb15
      have hX_n := block_kept hX hb15
      have hG_n := block_kept hG hb15
      clear hM hW hX hG
      have hM := hM_n
      have hW := hW_n
      have hX := hX_n
      have hG := hG_n
      clear hM_n hW_n hX_n hG_n
      have hBn := hB.trans (hb15.mono hB.size)
      clear hB
      have hB := hBn
      clear hBn
      have htb15 := htb14.mono hb15
      have hfb15 := hfb14.mono hb15
      have hxb15 := hxb14.mono hb15
      clear htb14 hfb14 hx114 hxb14 hy1 hb15
      have z15 : Hid (w10.heap.size < w15.heap.size) := lt_block hG
      have x15 := block_cell hX
      go_wp2_with fail
      clear x15
      as_aux_lemma =>
        refine (markModule_any w6.heap.size p p2 _ _ ts fs _ hs Hhp1.out Hhp2.out htb15 hfb15).mono ?_
        rintro e w16 ⟨rk, rfl, hrk0, hrk1, hkeep⟩
        have hM_n := hkeep.cell hM (by simp)
        have hW_n := hkeep.cell hW (by simp)
        have hX_n := hkeep.cell hX (by simp)
        have hG_n := hkeep.cell hG (by simp)
        clear hM hW hX hG
        have hM := hM_n
        have hW := hW_n
        have hX := hX_n
        have hG := hG_n
        clear hM_n hW_n hX_n hG_n
        have hBn : Below w.heap.size w w16 := hB.trans ((hkeep.toBelow (by have := HzM.out; have := Hz6.out; have := Hz7.out; have := Hz8.out; have := Hz9.out; have := Hz10.out; have := Hz11.out; have := Hhp1.out; have := Hhp2.out; have := z15.out; omega)).mono (by have := HzM.out; have := Hz6.out; have := Hz7.out; have := Hz8.out; have := Hz9.out; have := Hz10.out; have := Hz11.out; have := Hhp1.out; have := Hhp2.out; omega))
        have hxb16 : ValsBlk w16 w8.heap.size vs.length := by obtain ⟨c, h1, h2⟩ := hxb15; exact ⟨c, hkeep.cell h1 (by simp), h2⟩
        clear hB hkeep htb15 hfb15 hxb15
        have hB := hBn
        clear hBn
        obtain ⟨rn, rfl⟩ : ∃ rn : Nat, rk = rn := ⟨rk.toNat, by omega⟩
        go_wp2_with fail
        refine (markValueS_is w8.heap.size vs.length _ rn _ hvs.1 (by omega) hxb16).mono ?_
        rintro e w17 ⟨rfl, hj, -⟩
        have hM_n := hj.kept hM (by have := HzM.out; have := Hz6.out; have := Hz7.out; have := Hz8.out; have := Hz9.out; have := Hz10.out; have := Hz11.out; have := Hhp1.out; have := Hhp2.out; omega)
        have hW_n := hj.kept hW (by have := HzM.out; have := Hz6.out; have := Hz7.out; have := Hz8.out; have := Hz9.out; have := Hz10.out; have := Hz11.out; have := Hhp1.out; have := Hhp2.out; omega)
        have hX_n := hj.kept hX (by have := HzM.out; have := Hz6.out; have := Hz7.out; have := Hz8.out; have := Hz9.out; have := Hz10.out; have := Hz11.out; have := Hhp1.out; have := Hhp2.out; omega)
        have hG_n := hj.kept hG (by have := HzM.out; have := Hz6.out; have := Hz7.out; have := Hz8.out; have := Hz9.out; have := Hz10.out; have := Hz11.out; have := Hhp1.out; have := Hhp2.out; omega)
        clear hM hW hX hG
        have hM := hM_n
        have hW := hW_n
        have hX := hX_n
        have hG := hG_n
        clear hM_n hW_n hX_n hG_n
        have hBn : Below w.heap.size w w17 := hB.trans (hj.below _ (by have := HzM.out; have := Hz6.out; have := Hz7.out; have := Hz8.out; have := Hz9.out; have := Hz10.out; have := Hz11.out; have := Hhp1.out; have := Hhp2.out; omega) hB.size)
        clear hB hj hxb16
        have hB := hBn
        clear hBn
        obtain ⟨kz, hkz⟩ : ∃ kz : Int, kz = ((rn + 3 * vs.length : Nat) : Int) := ⟨_, rfl⟩
        have hkz0 : ¬ kz < 0 := by omega
        rw [← hkz]
        clear hkz hrk0 hrk1
        have y17 := block_cell hG
        have z17 := block_cell hW
        go_wp2_with fail
        clear y17 z17
        refine (eqT_zero _).mono ?_
        rintro e w18 ⟨rfl, hb18⟩
        have hM_n := block_kept hM hb18
        have hW_n := block_kept hW hb18
        have hX_n := block_kept hX hb18
        have hG_n := block_kept hG hb18
        clear hM hW hX hG
        have hM := hM_n
        have hW := hW_n
        have hX := hX_n
        have hG := hG_n
        clear hM_n hW_n hX_n hG_n
        have hBn := hB.trans (hb18.mono hB.size)
        clear hB
        have hB := hBn
        clear hBn
        clear hb18
        have y18 := block_cell hG
        go_wp2_with fail
        clear y18 hkz0
        refine (markT_zero _).mono ?_
        rintro e w19 ⟨rfl, hb19⟩
        have hM_n := block_kept hM hb19
        have hW_n := block_kept hW hb19
        have hX_n := block_kept hX hb19
        have hG_n := block_kept hG hb19
        clear hM hW hX hG
        have hM := hM_n
        have hW := hW_n
        have hX := hX_n
        have hG := hG_n
        clear hM_n hW_n hX_n hG_n
        have hBn := hB.trans (hb19.mono hB.size)
        clear hB
        have hB := hBn
        clear hBn
        clear hb19
        have y19 := block_cell hG
        go_wp2_with fail
        clear y19
        refine (heldT_zero _).mono ?_
        rintro e w20 ⟨rfl, hb20⟩
        have hM_n := block_kept hM hb20
        have hW_n := block_kept hW hb20
        have hX_n := block_kept hX hb20
        have hG_n := block_kept hG hb20
        clear hM hW hX hG
        have hM := hM_n
        have hW := hW_n
        have hX := hX_n
        have hG := hG_n
        clear hM_n hW_n hX_n hG_n
        have hBn := hB.trans (hb20.mono hB.size)
        clear hB
        have hB := hBn
        clear hBn
        clear hb20
        have m20 := block_cell hM
        go_wp2_with fail
        clear m20
        as_aux_lemma =>
          refine (toModule_any a a2 ts fs cap cap2 _ hs (hm.mono hB) (hm2.mono hB)).mono ?_
          rintro e w21 ⟨u, u2, -, -, rfl, hst, hfn, hb21⟩
          have hM_n := block_kept hM hb21
          have hW_n := block_kept hW hb21
          have hX_n := block_kept hX hb21
          have hG_n := block_kept hG hb21
          clear hM hW hX hG
          have hM := hM_n
          have hW := hW_n
          have hX := hX_n
          have hG := hG_n
          clear hM_n hW_n hX_n hG_n
          have hBn := hB.trans (hb21.mono hB.size)
          clear hB
          have hB := hBn
          clear hBn
          go_wp2_with fail
          refine (toValueS_any va vs vcap _ hvs.1 (hv.mono hB)).mono ?_
          rintro e w22 ⟨rfl, hy1, -, hb22⟩
          have hst22 := (hst.low (Nat.zero_le _)).mono hb22
          have hfn22 := (hfn.low (Nat.zero_le _)).mono hb22
          have hM_n := block_kept hM hb22
          have hW_n := block_kept hW hb22
          have hX_n := block_kept hX hb22
          have hG_n := block_kept hG hb22
          clear hM hW hX hG
          have hM := hM_n
          have hW := hW_n
          have hX := hX_n
          have hG := hG_n
          clear hM_n hW_n hX_n hG_n
          have hBn := hB.trans (hb22.mono hB.size)
          clear hB
          have hB := hBn
          clear hBn
          go_wp2_with fail
          refine (iNew_any _ _ _ _ _ _ ts fs vs _ hs hst22 hfn22 hvs (hy1.low (Nat.zero_le _))).mono ?_
          rintro e w23 ⟨hpost2, hb23⟩
          rw [HLE.out] at hpost2
          rcases hpost2 with ⟨-, rfl⟩ | ⟨hp, -⟩
          rotate_left
          · exact absurd hp HNP.out
          have hM_n := block_kept hM hb23
          have hW_n := block_kept hW hb23
          have hX_n := block_kept hX hb23
          have hG_n := block_kept hG hb23
          clear hM hW hX hG
          have hM := hM_n
          have hW := hW_n
          have hX := hX_n
          have hG := hG_n
          clear hM_n hW_n hX_n hG_n
          have hBn := hB.trans (hb23.mono hB.size)
          clear hB
          have hB := hBn
          clear hBn
          clear hst hfn hst22 hfn22 hy1 hb21 hb22 hb23
          obtain ⟨w24, hw24⟩ : ∃ w24, w24 = w23.alloc (.cells #[.slice none 0 0, .slice none 0 0, .int .i64 0, .slice none 0 0, .int .i64 0, .int .i64 0, .int .i64 0, .int .i64 0, .string ⟨#[]⟩, .int .i64 0, .slice none 0 0, .slice none 0 0, .slice none 0 0, .int .i64 0, .int .i64 0] 39) := ⟨_, rfl⟩
          have hb24 : Below w23.heap.size w23 w24 := by rw [hw24]; exact (Below.refl _ _).alloc (Nat.le_refl _) _
          have y24 := block_cell (block_old hW (.cells #[.slice none 0 0, .slice none 0 0, .int .i64 0, .slice none 0 0, .int .i64 0, .int .i64 0, .int .i64 0, .int .i64 0, .string ⟨#[]⟩, .int .i64 0, .slice none 0 0, .slice none 0 0, .slice none 0 0, .int .i64 0, .int .i64 0] 39))
          have hM_n := block_kept hM hb24
          have hW_n := block_kept hW hb24
          have hX_n := block_kept hX hb24
          have hG_n := block_kept hG hb24
          clear hM hW hX hG
          have hM := hM_n
          have hW := hW_n
          have hX := hX_n
          have hG := hG_n
          clear hM_n hW_n hX_n hG_n
          have hBn := hB.trans (hb24.mono hB.size)
          clear hB
          have hB := hBn
          clear hBn
          go_wp2_with fail
          rw [← hw24]
          clear hw24 y24 hb24
          refine (eqT_zero _).mono ?_
          rintro e w25 ⟨rfl, hb25⟩
          have hM_n := block_kept hM hb25
          have hW_n := block_kept hW hb25
          have hX_n := block_kept hX hb25
          have hG_n := block_kept hG hb25
          clear hM hW hX hG
          have hM := hM_n
          have hW := hW_n
          have hX := hX_n
          have hG := hG_n
          clear hM_n hW_n hX_n hG_n
          have hBn := hB.trans (hb25.mono hB.size)
          clear hB
          have hB := hBn
          clear hBn
          clear hb25
          have y25 := block_cell hG
          go_wp2_with fail
          clear y25
          refine (heldT_zero _).mono ?_
          rintro e w26 ⟨rfl, hb26⟩
          go_wp2
          go_ret
          exact ⟨rfl, hB.trans (hb26.mono hB.size)⟩
  · exact absurd hp hNP

end Go.Proofs.YtoabnejocbnflaaGreat
