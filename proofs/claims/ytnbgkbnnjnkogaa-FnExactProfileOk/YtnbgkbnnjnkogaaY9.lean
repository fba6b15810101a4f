/-
  The law of ProfileOk, walked.
-/
import Derived.Test.YtnbgkbnnjnkogaaY8
import Derived.Deep.CutRange
namespace Go.Proofs.Ytnbgkbnnjnkogaa
open Go.RowKit

set_option maxRecDepth 100000 in
set_option maxHeartbeats 4000000 in
theorem lawProfileOk (a a2 a3 : Option Addr) (ts : List ByteArray) (fs : List Fn) (ss : List Si) (cap cap2 cap3 : Nat) (w : World) (hn : ts.length ≤ maxLen) (hc : ∀ s ∈ ts, s.size ≤ maxLen) (hm : StrsAt w 0 a ts)
    (hn2 : fs.length ≤ maxLen) (hc2 : ∀ f ∈ fs, f.code.length ≤ maxLen) (hm2 : FnsAt w 0 a2 fs) (hn3 : ss.length ≤ maxLen) (hm3 : SitesAt w 0 a3 ss) :
    Calls Try.prog 3 #[.agg #[.slice a ts.length cap, .slice a2 fs.length cap2], .slice a3 ss.length cap3] w fun e w' => e = .returned (.bool true) ∧ Below w.heap.size w w' := by
  have hA : Below w.heap.size w (w.alloc (.cells #[.slice a ts.length cap, .slice a2 fs.length cap2] 25)) := (Below.refl _ _).alloc (Nat.le_refl _) _
  have hM0 := block_new w #[.slice a ts.length cap, .slice a2 fs.length cap2] 25
  go_enter Try.func3, Try.ntmps3
  go_wp2_with fail
  refine (szModule_le a a2 ts fs cap cap2 _ hn hc (hm.mono hA) hn2 hc2 (hm2.mono hA)).mono ?_
  rintro e w1 ⟨l, rfl, hl, hsm, hb1⟩
  have hM1 := block_kept hM0 hb1
  have hB1 := hA.trans (hb1.mono hA.size)
  clear hM0 hA hb1 hn hc hn2 hc2
  by_cases hl0 : l < 0
  · go_wp2_with fail
    go_ret
    exact ⟨rfl, hB1⟩
  have hs := hsm (by omega)
  clear hsm
  go_wp2_with fail
  refine (szSiteS_any a3 ss.length cap3 l _ (by omega) (by omega) hn3).mono ?_
  rintro e w2 ⟨rfl, hw2⟩
  subst hw2
  by_cases hl1 : l < (ss.length : Int)
  · rw [if_pos hl1]
    go_wp2_with fail
    go_ret
    exact ⟨rfl, hB1⟩
  rw [if_neg hl1]
  have hn6 : ss.length ≤ 1048576 := by omega
  have hl2 : ¬ (l - (ss.length : Int)) < 0 := by omega
  obtain ⟨r, hr⟩ : ∃ r, r = pB (Good ts fs ∧ ProfP fs ss) := ⟨_, rfl⟩
  have HR : Hid (pB (Good ts fs ∧ ProfP fs ss) = r) := hr.symm
  clear hr
  have x2 := block_cell hM1
  go_wp2_with fail
  refine (toModule_any a a2 ts fs cap cap2 _ hs (hm.mono hB1) (hm2.mono hB1)).mono ?_
  rintro e w3 ⟨g, g2, -, -, rfl, hst, hfn, hb3⟩
  have hM3 := block_kept hM1 hb3
  have hB3 := hB1.trans (hb3.mono hB1.size)
  clear hM1 hB1 hb3 x2
  go_wp2_with fail
  refine (toSiteS_any a3 ss cap3 _ hn6 (hm3.mono hB3)).mono ?_
  rintro e w4 ⟨rfl, hsi, hb4⟩
  have hM4 := block_kept hM3 hb4
  have hB4 := hB3.trans (hb4.mono hB3.size)
  go_wp2_with fail
  refine (sProfileOk_any _ _ _ _ ts fs _ _ ss w4 hs hn6 ((hst.low (Nat.zero_le _)).mono hb4) ((hfn.low (Nat.zero_le _)).mono hb4) (hsi.low (Nat.zero_le _))).mono ?_
  rintro e w5 ⟨he, hb5⟩
  rw [HR.out] at he
  subst he
  have hM5 := block_kept hM4 hb5
  have hB5 := hB4.trans (hb5.mono hB4.size)
  have x5 := block_cell hM5
  clear hM3 hM4 hB3 hB4 hst hfn hsi hb4 hb5
  go_wp2_with fail
  refine (toModule_any a a2 ts fs cap cap2 _ hs (hm.mono hB5) (hm2.mono hB5)).mono ?_
  rintro e w6 ⟨p, p2, -, -, rfl, hst, hfn, hb6⟩
  have hM6 := block_kept hM5 hb6
  have hB6 := hB5.trans (hb6.mono hB5.size)
  clear hM5 hB5 hb6 x5
  have hX7 := block_new w6 #[.slice (some ⟨p, 0, none⟩) ts.length ts.length, .slice (some ⟨p2, 0, none⟩) fs.length fs.length] 32
  have hbq : Below w6.heap.size w6 (w6.alloc (.cells #[.slice (some ⟨p, 0, none⟩) ts.length ts.length, .slice (some ⟨p2, 0, none⟩) fs.length fs.length] 32)) := (Below.refl _ _).alloc (Nat.le_refl _) _
  have hM7 := block_kept hM6 hbq
  have hB7 := hB6.trans (hbq.mono hB6.size)
  have hst7 := (hst.low (Nat.zero_le _)).mono hbq
  have hfn7 := (hfn.low (Nat.zero_le _)).mono hbq
  clear hst hfn hbq hM6 hB6
  obtain ⟨w7, hw7⟩ : ∃ w7, w7 = w6.alloc (.cells #[.slice (some ⟨p, 0, none⟩) ts.length ts.length, .slice (some ⟨p2, 0, none⟩) fs.length fs.length] 32) := ⟨_, rfl⟩
  rw [← hw7] at hX7 hM7 hB7 hst7 hfn7
  go_wp2_with fail
  rw [← hw7]
  clear hw7
  refine (toSiteS_any a3 ss cap3 w7 hn6 (hm3.mono hB7)).mono ?_
  rintro e w8 ⟨rfl, hsi, hb8⟩
  have hM8 := block_kept hM7 hb8
  have hX8 := block_kept hX7 hb8
  have hB8 := hB7.trans (hb8.mono hB7.size)
  have hst8 := hst7.mono hb8
  have hfn8 := hfn7.mono hb8
  have y8 := block_cell hX8
  clear hM7 hX7 hB7 hst7 hfn7 hb8
  go_wp2_with fail
  refine (iProfileOk_any _ _ _ _ ts fs _ _ ss w8 hs hst8 hfn8 (hsi.low (Nat.zero_le _))).mono ?_
  rintro e w9 ⟨he, hb9⟩
  rw [HR.out] at he
  subst he
  have hM9 := block_kept hM8 hb9
  have hX9 := block_kept hX8 hb9
  have hB9 := hB8.trans (hb9.mono hB8.size)
  have hst9 := hst8.mono hb9
  have hfn9 := hfn8.mono hb9
  have hsi9 := hsi.mono hb9
  clear hM8 hX8 hB8 hst8 hfn8 hb9 y8 hsi
  have hrr : (r != r) = false := by cases r <;> rfl
  have HS : Hid (∀ w', Below w9.heap.size w9 w' → w'.cell? ⟨w.heap.size, 0, none⟩ = some (.slice a ts.length cap) ∧ w'.cell? ⟨w.heap.size, 1, none⟩ = some (.slice a2 fs.length cap2) ∧ w'.cell? ⟨w6.heap.size, 0, none⟩ = some (.slice (some ⟨p, 0, none⟩) ts.length ts.length) ∧ w'.cell? ⟨w6.heap.size, 1, none⟩ = some (.slice (some ⟨p2, 0, none⟩) fs.length fs.length)) := fun w' q =>
    ⟨by rw [block_cell (block_kept hM9 q)]; rfl, by rw [block_cell (block_kept hM9 q)]; rfl, by rw [block_cell (block_kept hX9 q)]; rfl, by rw [block_cell (block_kept hX9 q)]; rfl⟩
  go_upto_region 14 with fail
  obtain ⟨j0, j1, j2, j3⟩ := HS.out w9 (Below.refl _ _)
  have q : Below w9.heap.size w9 w9.drew := (Below.refl _ _).drew
  go_region_held3 (fun w' => w'.cell? ⟨w.heap.size, 0, none⟩ = some (.slice a ts.length cap) ∧ w'.cell? ⟨w.heap.size, 1, none⟩ = some (.slice a2 fs.length cap2) ∧ w'.cell? ⟨w6.heap.size, 0, none⟩ = some (.slice (some ⟨p, 0, none⟩) ts.length ts.length) ∧ w'.cell? ⟨w6.heap.size, 1, none⟩ = some (.slice (some ⟨p2, 0, none⟩) fs.length fs.length))
    (first | exact ⟨j0, j1, j2, j3⟩ | exact HS.out _ q)
    (first
      | (go_at_call 7; refine (toModule_any a a2 ts fs cap cap2 _ hs (by exact hm.mono (hB9.trans (q.mono hB9.size))) (by exact hm2.mono (hB9.trans (q.mono hB9.size)))).mono ?_; rintro e wa ⟨g, g2, -, -, rfl, hst, hfn, kd⟩; have q := q.trans (kd.mono q.size))
      | (go_at_call 10; refine (eqModule_any _ _ _ _ ts fs _ _ _ _ _ hs (by exact hst9.mono q) (by exact hst.low (Nat.zero_le _)) (by exact hfn9.mono q) (by exact hfn.low (Nat.zero_le _))).mono ?_; rintro e wb ⟨rfl, kd⟩; have q := q.trans (kd.mono q.size)))
  have hBb := hB9.trans (q.mono hB9.size)
  have hsib := hsi9.mono q
  clear j0 j1 j2 j3 HS hst hfn kd hM9 hX9 hst9 hfn9
  go_wp2_with fail
  refine (toSiteS_any a3 ss cap3 _ hn6 (hm3.mono hBb)).mono ?_
  rintro e wc ⟨rfl, hsc, hbc⟩
  go_wp2_with fail
  refine (eqSiteS_any _ _ ss _ _ wc hn6 ((hsib.low (Nat.zero_le _)).mono hbc) (hsc.low (Nat.zero_le _))).mono ?_
  rintro e wd ⟨rfl, hbd⟩
  have hBc := hBb.trans (hbc.mono hBb.size)
  have HBd : Hid (Below w.heap.size w wd) := hBc.trans (hbd.mono hBc.size)
  go_wp2
  go_ret
  exact ⟨rfl, HBd.out⟩
end Go.Proofs.Ytnbgkbnnjnkogaa
