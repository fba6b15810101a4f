/-
  The law of PlanOk, walked.
-/
import Derived.Test.YtmjkkpmfneabjaaJ9
import Derived.Deep.CutRange
namespace Go.Proofs.Ytmjkkpmfneabjaa
open Go.RowKit

set_option maxRecDepth 100000 in
set_option maxHeartbeats 4000000 in
theorem lawPlanOk (a a2 a3 : Option Addr) (ts : List ByteArray) (fs : List Fn) (ss : List Si) (cap cap2 cap3 : Nat) (lay : Int) (bare : Bool) (w : World) (hn : ts.length ≤ maxLen) (hc : ∀ s ∈ ts, s.size ≤ maxLen) (hm : StrsAt w 0 a ts)
    (hn2 : fs.length ≤ maxLen) (hc2 : ∀ f ∈ fs, f.code.length ≤ maxLen) (hm2 : FnsAt w 0 a2 fs) (hn3 : ss.length ≤ maxLen) (hm3 : SitesAt w 0 a3 ss) :
    Calls Try.prog 3 #[.agg #[.slice a ts.length cap, .slice a2 fs.length cap2], .agg #[.slice a3 ss.length cap3, .int .i64 lay, .bool bare]] w fun e w' => e = .returned (.bool true) ∧ Below w.heap.size w w' := by
  obtain ⟨w0, hw0⟩ : ∃ w0, w0 = (w.alloc (.cells #[.slice a ts.length cap, .slice a2 fs.length cap2] 25)).alloc (.cells #[.slice a3 ss.length cap3, .int .i64 lay, .bool bare] 28) := ⟨_, rfl⟩
  have hA : Below w.heap.size w w0 := by rw [hw0]; exact ((Below.refl _ _).alloc (Nat.le_refl _) _).alloc (by simp) _
  have hM0 : w0.heap[w.heap.size]? = some (.cells #[.slice a ts.length cap, .slice a2 fs.length cap2] 25 (0, 0)) := by rw [hw0]; exact block_old (block_new _ _ _) _
  have hP0 : w0.heap[w.heap.size + 1]? = some (.cells #[.slice a3 ss.length cap3, .int .i64 lay, .bool bare] 28 (0, 0)) := by rw [hw0]; simpa using block_new (w.alloc (.cells #[.slice a ts.length cap, .slice a2 fs.length cap2] 25)) #[.slice a3 ss.length cap3, .int .i64 lay, .bool bare] 28
  go_enter Try.func3, Try.ntmps3
  go_wp2_with fail
  rw [← hw0]
  clear hw0
  refine (szModule_le a a2 ts fs cap cap2 _ hn hc (hm.mono hA) hn2 hc2 (hm2.mono hA)).mono ?_
  rintro e w1 ⟨l, rfl, hl, hsm, hb1⟩
  have hM1 := block_kept hM0 hb1
  have hP1 := block_kept hP0 hb1
  have hB1 := hA.trans (hb1.mono hA.size)
  clear hM0 hA hb1 hn hc hn2 hc2 hP0
  by_cases hl0 : l < 0
  · go_wp2_with fail
    go_ret
    exact ⟨rfl, hB1⟩
  have hs := hsm (by omega)
  clear hsm
  have x1 := block_cell hP1
  go_wp2_with fail
  refine (szPlan_any a3 ss.length cap3 lay bare l _ (by omega) (by omega) hn3).mono ?_
  rintro e w2 ⟨he, hb2⟩
  have hM2 := block_kept hM1 hb2
  have hP2 := block_kept hP1 hb2
  have hB2 := hB1.trans (hb2.mono hB1.size)
  clear hM1 hP1 hB1 hb2 x1
  by_cases hl1 : l < (ss.length : Int)
  · rw [if_pos hl1] at he
    subst he
    go_wp2_with fail
    go_ret
    exact ⟨rfl, hB2⟩
  rw [if_neg hl1] at he
  subst he
  have hn6 : ss.length ≤ 1048576 := by omega
  have hl2 : ¬ (l - (ss.length : Int)) < 0 := by omega
  obtain ⟨r, hr⟩ : ∃ r, r = pB (Good ts fs ∧ PlanP fs ss lay) := ⟨_, rfl⟩
  have HR : Hid (pB (Good ts fs ∧ PlanP fs ss lay) = r) := hr.symm
  clear hr
  have HS : Hid (∀ w', Below w2.heap.size w2 w' → w'.cell? ⟨w.heap.size, 0, none⟩ = some (.slice a ts.length cap) ∧ w'.cell? ⟨w.heap.size, 1, none⟩ = some (.slice a2 fs.length cap2) ∧ w'.cell? ⟨w.heap.size + 1, 0, none⟩ = some (.slice a3 ss.length cap3) ∧ w'.cell? ⟨w.heap.size + 1, 1, none⟩ = some (.int .i64 lay) ∧ w'.cell? ⟨w.heap.size + 1, 2, none⟩ = some (.bool bare)) := fun w' q =>
    ⟨by rw [block_cell (block_kept hM2 q)]; rfl, by rw [block_cell (block_kept hM2 q)]; rfl, by rw [block_cell (block_kept hP2 q)]; rfl, by rw [block_cell (block_kept hP2 q)]; rfl, by rw [block_cell (block_kept hP2 q)]; rfl⟩
  go_upto_region 8 with fail
  obtain ⟨j0, j1, j2, j3, j4⟩ := HS.out w2 (Below.refl _ _)
  have q : Below w2.heap.size w2 w2.drew := (Below.refl _ _).drew
  go_region_held3 (fun w' => w'.cell? ⟨w.heap.size, 0, none⟩ = some (.slice a ts.length cap) ∧ w'.cell? ⟨w.heap.size, 1, none⟩ = some (.slice a2 fs.length cap2) ∧ w'.cell? ⟨w.heap.size + 1, 0, none⟩ = some (.slice a3 ss.length cap3) ∧ w'.cell? ⟨w.heap.size + 1, 1, none⟩ = some (.int .i64 lay) ∧ w'.cell? ⟨w.heap.size + 1, 2, none⟩ = some (.bool bare))
    (first | exact ⟨j0, j1, j2, j3, j4⟩ | exact HS.out _ q)
    (first
      | (go_at_call 9; refine (toModule_any a a2 ts fs cap cap2 _ hs (by exact hm.mono (hB2.trans (q.mono hB2.size))) (by exact hm2.mono (hB2.trans (q.mono hB2.size)))).mono ?_; rintro e w3 ⟨g, g2, -, -, rfl, hst, hfn, hb3⟩; have q := q.trans (hb3.mono q.size))
      | (go_at_call 10; refine (toPlan_any a3 ss cap3 lay bare _ hn6 (by exact hm3.mono (hB2.trans (q.mono hB2.size)))).mono ?_; rintro e w4 ⟨g3, -, rfl, hsi, hb4⟩; have q := q.trans (hb4.mono q.size))
      | (go_at_call 8; refine (sPlanOk_any _ _ _ _ ts fs _ _ ss lay bare _ hs hn6 (by exact (hst.low (Nat.zero_le _)).mono hb4) (by exact (hfn.low (Nat.zero_le _)).mono hb4) (by exact hsi.low (Nat.zero_le _))).mono ?_; rintro e w5 ⟨he, hb5⟩; rw [HR.out] at he; subst he; have q := q.trans (hb5.mono q.size)))
  have hM5 := block_kept hM2 q
  have hP5 := block_kept hP2 q
  have hB5 := hB2.trans (q.mono hB2.size)
  clear HS j0 j1 j2 j3 j4 q hM2 hP2 hB2 hb3 hb4 hb5 hst hfn hsi
  have x5 := block_cell hM5
  go_wp2_with fail
  refine (toModule_any a a2 ts fs cap cap2 _ hs (hm.mono hB5) (hm2.mono hB5)).mono ?_
  rintro e w6 ⟨p, p2, -, -, rfl, hst, hfn, hb6⟩
  have hM6 := block_kept hM5 hb6
  have hP6 := block_kept hP5 hb6
  have hB6 := hB5.trans (hb6.mono hB5.size)
  clear hM5 hB5 hb6 x5 hP5
  have hX7 := block_new w6 #[.slice (some ⟨p, 0, none⟩) ts.length ts.length, .slice (some ⟨p2, 0, none⟩) fs.length fs.length] 34
  have hbq : Below w6.heap.size w6 (w6.alloc (.cells #[.slice (some ⟨p, 0, none⟩) ts.length ts.length, .slice (some ⟨p2, 0, none⟩) fs.length fs.length] 34)) := (Below.refl _ _).alloc (Nat.le_refl _) _
  have hM7 := block_kept hM6 hbq
  have hP7 := block_kept hP6 hbq
  have y7 := block_cell hP7
  have hB7 := hB6.trans (hbq.mono hB6.size)
  have hst7 := (hst.low (Nat.zero_le _)).mono hbq
  have hfn7 := (hfn.low (Nat.zero_le _)).mono hbq
  clear hst hfn hbq hM6 hB6 hP6
  obtain ⟨w7, hw7⟩ : ∃ w7, w7 = w6.alloc (.cells #[.slice (some ⟨p, 0, none⟩) ts.length ts.length, .slice (some ⟨p2, 0, none⟩) fs.length fs.length] 34) := ⟨_, rfl⟩
  rw [← hw7] at hX7 hM7 hB7 hst7 hfn7 hP7
  go_wp2_with fail
  rw [← hw7]
  clear hw7 y7
  refine (toPlan_any a3 ss cap3 lay bare w7 hn6 (hm3.mono hB7)).mono ?_
  rintro e w8 ⟨p3, -, rfl, hsi, hb8⟩
  have hM8 := block_kept hM7 hb8
  have hP8 := block_kept hP7 hb8
  have hX8 := block_kept hX7 hb8
  have hB8 := hB7.trans (hb8.mono hB7.size)
  have hst8 := hst7.mono hb8
  have hfn8 := hfn7.mono hb8
  clear hM7 hX7 hB7 hst7 hfn7 hb8 hP7
  have hbq : Below w8.heap.size w8 (w8.alloc (.cells #[.slice (some ⟨p3, 0, none⟩) ss.length ss.length, .int .i64 lay, .bool bare] 38)) := (Below.refl _ _).alloc (Nat.le_refl _) _
  have hY9 := block_new w8 #[.slice (some ⟨p3, 0, none⟩) ss.length ss.length, .int .i64 lay, .bool bare] 38
  have hM9 := block_kept hM8 hbq
  have hP9 := block_kept hP8 hbq
  have hX9 := block_kept hX8 hbq
  have hB9 := hB8.trans (hbq.mono hB8.size)
  have hst9 := hst8.mono hbq
  have hfn9 := hfn8.mono hbq
  have hsi9 := (hsi.low (Nat.zero_le _)).mono hbq
  have y1 := block_cell hX9
  have y2 := block_cell hY9
  obtain ⟨w9, hw9⟩ : ∃ w9, w9 = w8.alloc (.cells #[.slice (some ⟨p3, 0, none⟩) ss.length ss.length, .int .i64 lay, .bool bare] 38) := ⟨_, rfl⟩
  rw [← hw9] at hY9 hM9 hP9 hX9 hB9 hst9 hfn9 hsi9
  clear hM8 hP8 hX8 hB8 hst8 hfn8 hsi hbq
  go_wp2_with fail
  rw [← hw9]
  clear hw9 y1 y2
  refine (iPlanOk_any _ _ _ _ ts fs _ _ ss lay bare w9 hs hst9 hfn9 hsi9).mono ?_
  rintro e wz ⟨he, hbz⟩
  rw [HR.out] at he
  subst he
  have hMz := block_kept hM9 hbz
  have hPz := block_kept hP9 hbz
  have hXz := block_kept hX9 hbz
  have hYz := block_kept hY9 hbz
  have hBz := hB9.trans (hbz.mono hB9.size)
  have hstz := hst9.mono hbz
  have hfnz := hfn9.mono hbz
  have hsiz := hsi9.mono hbz
  clear hM9 hP9 hX9 hY9 hB9 hst9 hfn9 hbz hsi9
  have hrr : (r != r) = false := by cases r <;> rfl
  have HS : Hid (∀ w', Below wz.heap.size wz w' → w'.cell? ⟨w.heap.size, 0, none⟩ = some (.slice a ts.length cap) ∧ w'.cell? ⟨w.heap.size, 1, none⟩ = some (.slice a2 fs.length cap2) ∧ w'.cell? ⟨w6.heap.size, 0, none⟩ = some (.slice (some ⟨p, 0, none⟩) ts.length ts.length) ∧ w'.cell? ⟨w6.heap.size, 1, none⟩ = some (.slice (some ⟨p2, 0, none⟩) fs.length fs.length)) := fun w' q =>
    ⟨by rw [block_cell (block_kept hMz q)]; rfl, by rw [block_cell (block_kept hMz q)]; rfl, by rw [block_cell (block_kept hXz q)]; rfl, by rw [block_cell (block_kept hXz q)]; rfl⟩
  go_upto_region 14 with fail
  obtain ⟨j0, j1, j2, j3⟩ := HS.out wz (Below.refl _ _)
  have q : Below wz.heap.size wz wz.drew := (Below.refl _ _).drew
  go_region_held3 (fun w' => w'.cell? ⟨w.heap.size, 0, none⟩ = some (.slice a ts.length cap) ∧ w'.cell? ⟨w.heap.size, 1, none⟩ = some (.slice a2 fs.length cap2) ∧ w'.cell? ⟨w6.heap.size, 0, none⟩ = some (.slice (some ⟨p, 0, none⟩) ts.length ts.length) ∧ w'.cell? ⟨w6.heap.size, 1, none⟩ = some (.slice (some ⟨p2, 0, none⟩) fs.length fs.length))
    (first | exact ⟨j0, j1, j2, j3⟩ | exact HS.out _ q)
    (first
      | (go_at_call 9; refine (toModule_any a a2 ts fs cap cap2 _ hs (by exact hm.mono (hBz.trans (q.mono hBz.size))) (by exact hm2.mono (hBz.trans (q.mono hBz.size)))).mono ?_; rintro e wa ⟨g, g2, -, -, rfl, hst, hfn, kd⟩; have q := q.trans (kd.mono q.size))
      | (go_at_call 12; refine (eqModule_any _ _ _ _ ts fs _ _ _ _ _ hs (by exact hstz.mono q) (by exact hst.low (Nat.zero_le _)) (by exact hfnz.mono q) (by exact hfn.low (Nat.zero_le _))).mono ?_; rintro e wb ⟨rfl, kd⟩; have q := q.trans (kd.mono q.size)))
  have hBb := hBz.trans (q.mono hBz.size)
  have hsib := hsiz.mono q
  have hPb := block_kept hPz q
  have hYb := block_kept hYz q
  clear j0 j1 j2 j3 HS hst hfn kd hMz hXz hstz hfnz hPz hYz hsiz q
  have HS : Hid (∀ w', Below wb.heap.size wb w' → w'.cell? ⟨w.heap.size + 1, 0, none⟩ = some (.slice a3 ss.length cap3) ∧ w'.cell? ⟨w.heap.size + 1, 1, none⟩ = some (.int .i64 lay) ∧ w'.cell? ⟨w.heap.size + 1, 2, none⟩ = some (.bool bare) ∧ w'.cell? ⟨w8.heap.size, 0, none⟩ = some (.slice (some ⟨p3, 0, none⟩) ss.length ss.length) ∧ w'.cell? ⟨w8.heap.size, 1, none⟩ = some (.int .i64 lay) ∧ w'.cell? ⟨w8.heap.size, 2, none⟩ = some (.bool bare)) := fun w' q =>
    ⟨by rw [block_cell (block_kept hPb q)]; rfl, by rw [block_cell (block_kept hPb q)]; rfl, by rw [block_cell (block_kept hPb q)]; rfl, by rw [block_cell (block_kept hYb q)]; rfl, by rw [block_cell (block_kept hYb q)]; rfl, by rw [block_cell (block_kept hYb q)]; rfl⟩
  go_upto_region 17 with fail
  obtain ⟨j0, j1, j2, j3, j4, j5⟩ := HS.out wb (Below.refl _ _)
  have q : Below wb.heap.size wb wb.drew := (Below.refl _ _).drew
  go_region_held3 (fun w' => w'.cell? ⟨w.heap.size + 1, 0, none⟩ = some (.slice a3 ss.length cap3) ∧ w'.cell? ⟨w.heap.size + 1, 1, none⟩ = some (.int .i64 lay) ∧ w'.cell? ⟨w.heap.size + 1, 2, none⟩ = some (.bool bare) ∧ w'.cell? ⟨w8.heap.size, 0, none⟩ = some (.slice (some ⟨p3, 0, none⟩) ss.length ss.length) ∧ w'.cell? ⟨w8.heap.size, 1, none⟩ = some (.int .i64 lay) ∧ w'.cell? ⟨w8.heap.size, 2, none⟩ = some (.bool bare))
    (first | exact ⟨j0, j1, j2, j3, j4, j5⟩ | exact HS.out _ q)
    (first
      | (go_at_call 10; refine (toPlan_any a3 ss cap3 lay bare _ hn6 (by exact hm3.mono (hBb.trans (q.mono hBb.size)))).mono ?_; rintro e wc ⟨g, -, rfl, hst, kd⟩; have q := q.trans (kd.mono q.size))
      | (go_at_call 13; refine (eqPlan_any _ _ ss _ _ lay bare _ hn6 (by exact hsib.mono q) (by exact hst.low (Nat.zero_le _))).mono ?_; rintro e wd ⟨rfl, kd⟩; have q := q.trans (kd.mono q.size)))
  have HBd : Hid (Below w.heap.size w wd) := hBb.trans (q.mono hBb.size)
  clear j0 j1 j2 j3 j4 j5 HS hst kd hPb hYb hsib
  go_wp2
  go_ret
  exact ⟨rfl, HBd.out⟩
end Go.Proofs.Ytmjkkpmfneabjaa
