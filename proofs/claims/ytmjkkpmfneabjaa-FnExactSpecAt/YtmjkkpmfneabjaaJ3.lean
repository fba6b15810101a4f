/-
  The law of SpecAt, walked.
-/
import Derived.Test.YtmjkkpmfneabjaaJ2
import Derived.Deep.RegionHeld3
import Derived.Deep.CutRange
namespace Go.Proofs.Ytmjkkpmfneabjaa
open Go.RowKit

set_option maxRecDepth 100000 in
set_option maxHeartbeats 2000000 in
theorem lawSpecAt (a : Option Addr) (ss : List Si) (cap : Nat) (lay : Int) (bare : Bool) (f pc : Int) (w : World) (hn : ss.length ≤ maxLen) (hm : SitesAt w 0 a ss) :
    Calls Try.prog 4 #[.agg #[.slice a ss.length cap, .int .i64 lay, .bool bare], .int .i64 f, .int .i64 pc] w fun e w' => e = .returned (.bool true) ∧ Below w.heap.size w w' := by
  obtain ⟨w0, hw0⟩ : ∃ w0, w0 = w.alloc (.cells #[.slice a ss.length cap, .int .i64 lay, .bool bare] 28) := ⟨_, rfl⟩
  have hA0 : w0.heap[w.heap.size]? = some (.cells #[.slice a ss.length cap, .int .i64 lay, .bool bare] 28 (0, 0)) := by rw [hw0]; exact block_new _ _ _
  have hB0 : Below w.heap.size w w0 := by rw [hw0]; exact (Below.refl _ _).alloc (Nat.le_refl _) _
  go_enter Try.func4, Try.ntmps4
  go_wp2_with fail
  rw [← hw0]
  clear hw0
  refine (szPlan_any a ss.length cap lay bare 1048576 _ (by omega) (by omega) hn).mono ?_
  rintro e w1 ⟨rfl, hb1⟩
  have hA1 := block_kept hA0 hb1
  have hB1 := hB0.trans (hb1.mono hB0.size)
  clear hA0 hb1
  by_cases hl : (1048576 : Int) < ss.length
  · rw [if_pos hl]
    go_wp2_with fail
    go_ret
    exact ⟨rfl, hB1⟩
  rw [if_neg hl]
  have hn6 : ss.length ≤ 1048576 := by omega
  have hl2 : ¬ ((1048576 : Int) - (ss.length : Int)) < 0 := by omega
  obtain ⟨s0, hs0⟩ : ∃ s0, s0 = siteAt ss f pc := ⟨_, rfl⟩
  obtain ⟨x1, x2, x3, x4⟩ := s0
  have HS0 : Hid (siteAt ss f pc = ⟨x1, x2, x3, x4⟩) := hs0.symm
  clear hs0
  have q1 := block_cell hA1
  go_wp2_with fail
  refine (toPlan_any a ss cap lay bare _ hn6 (hm.mono hB1)).mono ?_
  rintro e w2 ⟨g1, hg1, rfl, hst, hb2⟩
  have hA2 := block_kept hA1 hb2
  have hB2 := hB1.trans (hb2.mono hB1.size)
  clear hA1 q1 hB1 hb2
  go_wp2_with fail
  refine (sSpecAt_any _ ss _ lay bare f pc w2 hn6 (hst.low (Nat.zero_le _))).mono ?_
  rintro e w3 ⟨he, hb3⟩
  rw [HS0.out] at he
  subst he
  have hA3 := block_kept hA2 hb3
  have hB3 := hB2.trans (hb3.mono hB2.size)
  clear hst hb3 hA2 hB2
  have hW := block_new w3 #[.int .i64 x1, .int .i64 x2, .int .i64 x3, .int .i64 x4] 44
  have q4 := block_cell (block_old hA3 (.cells #[.int .i64 x1, .int .i64 x2, .int .i64 x3, .int .i64 x4] 44))
  have hA4 := block_old hA3 (.cells #[.int .i64 x1, .int .i64 x2, .int .i64 x3, .int .i64 x4] 44)
  have hB4 := hB3.alloc hB3.size (.cells #[.int .i64 x1, .int .i64 x2, .int .i64 x3, .int .i64 x4] 44)
  obtain ⟨w4, hw4⟩ : ∃ w4, w4 = w3.alloc (.cells #[.int .i64 x1, .int .i64 x2, .int .i64 x3, .int .i64 x4] 44) := ⟨_, rfl⟩
  rw [← hw4] at hW hB4 hA4
  unfold Si.cells
  go_wp2_with fail
  rw [← hw4]
  clear hw4 q4
  refine (toPlan_any a ss cap lay bare w4 hn6 (hm.mono hB4)).mono ?_
  rintro e w5 ⟨g2, hg2, rfl, hx5, hb5⟩
  have hA5 := block_kept hA4 hb5
  have hW5 := block_kept hW hb5
  have hB5 := hB4.trans (hb5.mono hB4.size)
  clear hW hB4 hb5 hB3 hA4 hA3
  have hX5 := block_new w5 #[.slice (some ⟨g2, 0, none⟩) ss.length ss.length, .int .i64 lay, .bool bare] 38
  have hbq : Below w5.heap.size w5 (w5.alloc (.cells #[.slice (some ⟨g2, 0, none⟩) ss.length ss.length, .int .i64 lay, .bool bare] 38)) := (Below.refl _ _).alloc (Nat.le_refl _) _
  have q5 := block_cell hX5
  have hx5' := hx5.mono hbq
  have hA5' := block_kept hA5 hbq
  have hW5' := block_kept hW5 hbq
  have hB5' := hB5.trans (hbq.mono hB5.size)
  obtain ⟨w5', hw5⟩ : ∃ w5', w5' = w5.alloc (.cells #[.slice (some ⟨g2, 0, none⟩) ss.length ss.length, .int .i64 lay, .bool bare] 38) := ⟨_, rfl⟩
  rw [← hw5] at hX5 hx5' hA5' hW5' hB5'
  clear hx5 hA5 hW5 hB5 hbq
  go_wp2_with fail
  rw [← hw5]
  clear hw5 q5
  refine (iSpecAt_any _ ss _ lay bare f pc w5' hn6 (hx5'.low (Nat.zero_le _))).mono ?_
  rintro e w6 ⟨he, hb6⟩
  rw [HS0.out] at he
  subst he
  have hA6 := block_kept hA5' hb6
  have hW6 := block_kept hW5' hb6
  have hX6 := block_kept hX5 hb6
  have hx6 := hx5'.mono hb6
  have hB6 := hB5'.trans (hb6.mono hB5'.size)
  clear hW5' hx5' hb6 hB5' hA5' hX5
  unfold Si.cells
  have hG7 := block_new w6 #[.int .i64 x1, .int .i64 x2, .int .i64 x3, .int .i64 x4] 44
  have hbq : Below w6.heap.size w6 (w6.alloc (.cells #[.int .i64 x1, .int .i64 x2, .int .i64 x3, .int .i64 x4] 44)) := (Below.refl _ _).alloc (Nat.le_refl _) _
  have hW7 := block_kept hW6 hbq
  have hX7 := block_kept hX6 hbq
  have hA7 := block_kept hA6 hbq
  have y1 := block_cell hG7
  have y2 := block_cell hW7
  have hx7 := hx6.mono hbq
  have hB7 := hB6.trans (hbq.mono hB6.size)
  obtain ⟨w7, hw7⟩ : ∃ w7, w7 = w6.alloc (.cells #[.int .i64 x1, .int .i64 x2, .int .i64 x3, .int .i64 x4] 44) := ⟨_, rfl⟩
  rw [← hw7] at hG7 hW7 hx7 hB7 hX7 hA7
  clear hW6 hx6 hbq hB6 hX6 hA6
  go_wp2_with fail
  rw [← hw7]
  clear hw7
  refine (eqSpec_same x1 x2 x3 x4 w7).mono ?_
  rintro e w8 ⟨rfl, hb8⟩
  have hx8 := hx7.mono hb8
  have hX8 := block_kept hX7 hb8
  have hA8 := block_kept hA7 hb8
  have hB8 := hB7.trans (hb8.mono hB7.size)
  clear hx7 hB7 hb8 hG7 hW7 y1 y2 hX7 hA7
  have HS : Hid (∀ w', Below w8.heap.size w8 w' → w'.cell? ⟨w.heap.size, 0, none⟩ = some (.slice a ss.length cap) ∧ w'.cell? ⟨w.heap.size, 1, none⟩ = some (.int .i64 lay) ∧ w'.cell? ⟨w.heap.size, 2, none⟩ = some (.bool bare) ∧ w'.cell? ⟨w5.heap.size, 0, none⟩ = some (.slice (some ⟨g2, 0, none⟩) ss.length ss.length) ∧ w'.cell? ⟨w5.heap.size, 1, none⟩ = some (.int .i64 lay) ∧ w'.cell? ⟨w5.heap.size, 2, none⟩ = some (.bool bare)) := fun w' q =>
    ⟨by rw [block_cell (block_kept hA8 q)]; rfl, by rw [block_cell (block_kept hA8 q)]; rfl, by rw [block_cell (block_kept hA8 q)]; rfl, by rw [block_cell (block_kept hX8 q)]; rfl, by rw [block_cell (block_kept hX8 q)]; rfl, by rw [block_cell (block_kept hX8 q)]; rfl⟩
  go_upto_region 10 with fail
  obtain ⟨j0, j1, j2, j3, j4, j5⟩ := HS.out w8 (Below.refl _ _)
  have q : Below w8.heap.size w8 w8.drew := (Below.refl _ _).drew
  go_region_held3 (fun w' => w'.cell? ⟨w.heap.size, 0, none⟩ = some (.slice a ss.length cap) ∧ w'.cell? ⟨w.heap.size, 1, none⟩ = some (.int .i64 lay) ∧ w'.cell? ⟨w.heap.size, 2, none⟩ = some (.bool bare) ∧ w'.cell? ⟨w5.heap.size, 0, none⟩ = some (.slice (some ⟨g2, 0, none⟩) ss.length ss.length) ∧ w'.cell? ⟨w5.heap.size, 1, none⟩ = some (.int .i64 lay) ∧ w'.cell? ⟨w5.heap.size, 2, none⟩ = some (.bool bare))
    (first | exact ⟨j0, j1, j2, j3, j4, j5⟩ | exact HS.out _ q)
    (first
      | (go_at_call 10; refine (toPlan_any a ss cap lay bare _ hn6 (by exact hm.mono (hB8.trans (q.mono hB8.size)))).mono ?_; rintro e wa ⟨g, -, rfl, hst, kd⟩; have q := q.trans (kd.mono q.size))
      | (go_at_call 13; refine (eqPlan_any _ _ ss _ _ lay bare _ hn6 (by exact (hx8.low (Nat.zero_le _)).mono q) (by exact hst.low (Nat.zero_le _))).mono ?_; rintro e wb ⟨rfl, kd⟩; have q := q.trans (kd.mono q.size)))
  have HBb : Hid (Below w.heap.size w wb) := hB8.trans (q.mono hB8.size)
  clear j0 j1 j2 j3 j4 j5 HS hst kd hA8 hX8 hx8
  go_wp2
  go_ret
  exact ⟨rfl, HBb.out⟩
end Go.Proofs.Ytmjkkpmfneabjaa
