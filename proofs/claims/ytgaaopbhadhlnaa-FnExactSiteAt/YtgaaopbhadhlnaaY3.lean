/-
  The law of SiteAt, walked.
-/
import Derived.Test.YtgaaopbhadhlnaaY2
import Derived.Deep.RegionHeld3
namespace Go.Proofs.Ytgaaopbhadhlnaa
open Go.RowKit

set_option maxRecDepth 100000 in
set_option maxHeartbeats 2000000 in
theorem lawSiteAt (a : Option Addr) (ss : List Si) (cap : Nat) (f pc : Int) (w : World) (hn : ss.length ≤ maxLen) (hm : SitesAt w 0 a ss) :
    Calls Try.prog 4 #[.slice a ss.length cap, .int .i64 f, .int .i64 pc] w fun e w' => e = .returned (.bool true) ∧ Below w.heap.size w w' := by
  go_enter Try.func4, Try.ntmps4
  go_wp2_with fail
  refine (szSiteS_any a ss.length cap 1048576 _ (by omega) (by omega) hn).mono ?_
  rintro e w1 ⟨rfl, hw1⟩
  subst hw1
  by_cases hl : (1048576 : Int) < ss.length
  · rw [if_pos hl]
    go_wp2_with fail
    go_ret
    exact ⟨rfl, Below.refl _ _⟩
  rw [if_neg hl]
  have hn6 : ss.length ≤ 1048576 := by omega
  have hl2 : ¬ ((1048576 : Int) - (ss.length : Int)) < 0 := by omega
  obtain ⟨s0, hs0⟩ : ∃ s0, s0 = siteAt ss f pc := ⟨_, rfl⟩
  obtain ⟨x1, x2, x3, x4⟩ := s0
  have HS0 : Hid (siteAt ss f pc = ⟨x1, x2, x3, x4⟩) := hs0.symm
  clear hs0
  go_wp2_with fail
  refine (toSiteS_any a ss cap _ hn6 hm).mono ?_
  rintro e w2 ⟨rfl, hst, hb2⟩
  go_wp2_with fail
  refine (sSiteAt_any _ ss _ f pc w2 hn6 (hst.low (Nat.zero_le _))).mono ?_
  rintro e w3 ⟨he, hb3⟩
  rw [HS0.out] at he
  subst he
  have hB3 := hb2.trans (hb3.mono hb2.size)
  clear hst hb2 hb3
  have hW := block_new w3 #[.int .i64 x1, .int .i64 x2, .int .i64 x3, .int .i64 x4] 40
  have hB4 := hB3.alloc hB3.size (.cells #[.int .i64 x1, .int .i64 x2, .int .i64 x3, .int .i64 x4] 40)
  obtain ⟨w4, hw4⟩ : ∃ w4, w4 = w3.alloc (.cells #[.int .i64 x1, .int .i64 x2, .int .i64 x3, .int .i64 x4] 40) := ⟨_, rfl⟩
  rw [← hw4] at hW hB4
  unfold Si.cells
  go_wp2_with fail
  rw [← hw4]
  clear hw4
  refine (toSiteS_any a ss cap w4 hn6 (hm.mono hB4)).mono ?_
  rintro e w5 ⟨rfl, hx5, hb5⟩
  have hW5 := block_kept hW hb5
  have hB5 := hB4.trans (hb5.mono hB4.size)
  clear hW hB4 hb5 hB3
  go_wp2_with fail
  refine (iSiteAt_any _ ss _ f pc w5 hn6 (hx5.low (Nat.zero_le _))).mono ?_
  rintro e w6 ⟨he, hb6⟩
  rw [HS0.out] at he
  subst he
  have hW6 := block_kept hW5 hb6
  have hx6 := hx5.mono hb6
  have hB6 := hB5.trans (hb6.mono hB5.size)
  clear hW5 hx5 hb6 hB5
  unfold Si.cells
  have hG7 := block_new w6 #[.int .i64 x1, .int .i64 x2, .int .i64 x3, .int .i64 x4] 40
  have hbq : Below w6.heap.size w6 (w6.alloc (.cells #[.int .i64 x1, .int .i64 x2, .int .i64 x3, .int .i64 x4] 40)) := (Below.refl _ _).alloc (Nat.le_refl _) _
  have hW7 := block_kept hW6 hbq
  have y1 := block_cell hG7
  have y2 := block_cell hW7
  have hx7 := hx6.mono hbq
  have hB7 := hB6.trans (hbq.mono hB6.size)
  obtain ⟨w7, hw7⟩ : ∃ w7, w7 = w6.alloc (.cells #[.int .i64 x1, .int .i64 x2, .int .i64 x3, .int .i64 x4] 40) := ⟨_, rfl⟩
  rw [← hw7] at hG7 hW7 hx7 hB7
  clear hW6 hx6 hbq hB6
  go_wp2_with fail
  rw [← hw7]
  clear hw7
  refine (eqSite_same x1 x2 x3 x4 w7).mono ?_
  rintro e w8 ⟨rfl, hb8⟩
  have hx8 := hx7.mono hb8
  have hB8 := hB7.trans (hb8.mono hB7.size)
  clear hx7 hB7 hb8 hG7 hW7 y1 y2
  go_wp2_with fail
  refine (toSiteS_any a ss cap w8 hn6 (hm.mono hB8)).mono ?_
  rintro e w9 ⟨rfl, hz9, hb9⟩
  go_wp2_with fail
  refine (eqSiteS_any _ _ ss _ _ w9 hn6 ((hx8.low (Nat.zero_le _)).mono hb9) (hz9.low (Nat.zero_le _))).mono ?_
  rintro e w10 ⟨rfl, hb10⟩
  go_wp2
  go_ret
  have hB9 := hB8.trans (hb9.mono hB8.size)
  exact ⟨rfl, hB9.trans (hb10.mono hB9.size)⟩
end Go.Proofs.Ytgaaopbhadhlnaa
