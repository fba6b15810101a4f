/-
  The law of acts, walked.
-/
import Derived.Test.YtopbdjplpnojmaaDoorAC3
import Derived.Test.YtopbdjplpnojmaaDoorHT
namespace Go.Proofs.YtopbdjplpnojmaaDoor
open Go.RowKit

set_option maxRecDepth 100000 in
set_option maxHeartbeats 8000000 in
theorem lawAct (k a b l : Int) (s : Bool) (sa : Option Addr) (ss : List Si) (cap : Nat) (w : World) (hn0 : ss.length ≤ maxLen) (hm : SitesAt w 0 sa ss) (hL : LimAt w) :
    Calls Tryd.prog 3 #[.agg #[.int .i64 k, .int .i64 a, .int .i64 b, .int .i64 l, .bool s, .slice sa ss.length cap]] w fun e w' => e = .returned (.bool true) ∧ Below w.heap.size w w' := by
  have hb0 : Below w.heap.size w (w.alloc (.cells #[.int .i64 k, .int .i64 a, .int .i64 b, .int .i64 l, .bool s, .slice sa ss.length cap] 24)) := (Below.refl _ _).alloc (Nat.le_refl _) _
  have hA := block_new w #[.int .i64 k, .int .i64 a, .int .i64 b, .int .i64 l, .bool s, .slice sa ss.length cap] 24
  have m0 := block_cell hA
  go_enter Tryd.func3, Tryd.ntmps3
  go_wp2_with fail
  refine (szAct_any k a b l s sa ss.length cap 1048576 _ (by omega) (by omega) hn0).mono ?_
  rintro e w1 ⟨rfl, hb1⟩
  have hA1 := block_kept hA hb1
  have hbw1 := hb0.trans (hb1.mono hb0.size)
  have m1 := block_cell hA1
  clear hA hb0 hb1 m0
  by_cases hl : (1048576 : Int) < ss.length
  · rw [if_pos hl]
    have HB := hid hbw1
    clear hL hm hA1
    go_wp2_with fail
    go_ret
    exact ⟨rfl, HB.out⟩
  rw [if_neg hl]
  have hn : ss.length ≤ 1048576 := by omega
  have hl2 : ¬ ((1048576 : Int) - (ss.length : Int)) < 0 := by omega
  go_wp2_with fail
  refine (toAct_any k a b l s sa ss cap w1 hn (hm.mono hbw1)).mono ?_
  rintro e w2 ⟨g1, rfl, hs1, hb2⟩
  have hA2 := block_kept hA1 hb2
  have hbw2 := hbw1.trans (hb2.mono hbw1.size)
  clear hA1 hb2 hbw1 m1 hl2 hl
  go_wp2_with fail
  refine (sAct_any k a b l s _ ss.length ss.length w2 hn).mono ?_
  rintro e w3 ⟨⟨r, rfl, HR⟩, hb3⟩
  have HRR := hid HR
  have hA3 := block_kept hA2 hb3
  have hbw3 := hbw2.trans (hb3.mono hbw2.size)
  have m3 := block_cell hA3
  clear hA2 hb3 hbw2 hs1 HR
  go_wp2_with fail
  refine (toAct_any k a b l s sa ss cap w3 hn (hm.mono hbw3)).mono ?_
  rintro e w4 ⟨g2, rfl, hs2, hb4⟩
  have hA4 := block_kept hA3 hb4
  have hbw4 := hbw3.trans (hb4.mono hbw3.size)
  have hX4 := block_new w4 #[.int .i64 k, .int .i64 a, .int .i64 b, .int .i64 l, .bool s, .slice (some ⟨g2, 0, none⟩) ss.length ss.length] 29
  have hbx : Below w4.heap.size w4 (w4.alloc (.cells #[.int .i64 k, .int .i64 a, .int .i64 b, .int .i64 l, .bool s, .slice (some ⟨g2, 0, none⟩) ss.length ss.length] 29)) := (Below.refl _ _).alloc (Nat.le_refl _) _
  obtain ⟨BX, hBX⟩ : ∃ BX, BX = w4.heap.size := ⟨_, rfl⟩
  rw [← hBX] at hX4
  obtain ⟨w5, hw5⟩ : ∃ w5, w5 = w4.alloc (.cells #[.int .i64 k, .int .i64 a, .int .i64 b, .int .i64 l, .bool s, .slice (some ⟨g2, 0, none⟩) ss.length ss.length] 29) := ⟨_, rfl⟩
  rw [← hw5] at hX4 hbx
  have hA5 := block_kept hA4 hbx
  have hs5 := hs2.mono hbx
  have hbw5 := hbw4.trans (hbx.mono hbw4.size)
  have m5 := block_cell hX4
  clear hA3 hb4 hbw3 m3 hA4 hs2 hbw4 hbx
  go_upto_region 7 with fail
  rw [← hw5, ← hBX]
  clear hw5 hBX
  go_wp2_with fail
  refine (iAct_any k a b l s _ ss.length ss.length w5 (hL.mono hbw5) hn).mono ?_
  rintro e w6 ⟨⟨r', rfl, HR'⟩, hb6⟩
  obtain rfl := ActPost.one HRR.out HR'
  have hA6 := block_kept hA5 hb6
  have hX6 := block_kept hX4 hb6
  have hs6 := hs5.mono hb6
  have hbw6 := hbw5.trans (hb6.mono hbw5.size)
  have HS : Hid (∀ w' : World, Below w6.heap.size w6 w' → w'.cell? ⟨w.heap.size, 0, none⟩ = some (.int .i64 k) ∧ w'.cell? ⟨w.heap.size, 1, none⟩ = some (.int .i64 a) ∧ w'.cell? ⟨w.heap.size, 2, none⟩ = some (.int .i64 b) ∧ w'.cell? ⟨w.heap.size, 3, none⟩ = some (.int .i64 l) ∧ w'.cell? ⟨w.heap.size, 4, none⟩ = some (.bool s) ∧ w'.cell? ⟨w.heap.size, 5, none⟩ = some (.slice sa ss.length cap) ∧ w'.cell? ⟨BX, 0, none⟩ = some (.int .i64 k) ∧ w'.cell? ⟨BX, 1, none⟩ = some (.int .i64 a) ∧ w'.cell? ⟨BX, 2, none⟩ = some (.int .i64 b) ∧ w'.cell? ⟨BX, 3, none⟩ = some (.int .i64 l) ∧ w'.cell? ⟨BX, 4, none⟩ = some (.bool s) ∧ w'.cell? ⟨BX, 5, none⟩ = some (.slice (some ⟨g2, 0, none⟩) ss.length ss.length)) := fun w' q => by
    have z1 := block_cell (block_kept hA6 q)
    have z2 := block_cell (block_kept hX6 q)
    refine ⟨?_, ?_, ?_, ?_, ?_, ?_, ?_, ?_, ?_, ?_, ?_, ?_⟩
    · rw [z1]; rfl
    · rw [z1]; rfl
    · rw [z1]; rfl
    · rw [z1]; rfl
    · rw [z1]; rfl
    · rw [z1]; rfl
    · rw [z2]; rfl
    · rw [z2]; rfl
    · rw [z2]; rfl
    · rw [z2]; rfl
    · rw [z2]; rfl
    · rw [z2]; rfl
  have HSI := hid hs6
  have HBW := hid hbw6
  clear hA5 hX4 hs5 hbw5 hb6 HR' m5 hL hA6 hX6 hs6 hbw6
  have hrr : (r != r) = false := by simp
  go_upto_region 10 with fail
  have hh : (fun w' : World => w'.cell? ⟨w.heap.size, 0, none⟩ = some (.int .i64 k) ∧ w'.cell? ⟨w.heap.size, 1, none⟩ = some (.int .i64 a) ∧ w'.cell? ⟨w.heap.size, 2, none⟩ = some (.int .i64 b) ∧ w'.cell? ⟨w.heap.size, 3, none⟩ = some (.int .i64 l) ∧ w'.cell? ⟨w.heap.size, 4, none⟩ = some (.bool s) ∧ w'.cell? ⟨w.heap.size, 5, none⟩ = some (.slice sa ss.length cap) ∧ w'.cell? ⟨BX, 0, none⟩ = some (.int .i64 k) ∧ w'.cell? ⟨BX, 1, none⟩ = some (.int .i64 a) ∧ w'.cell? ⟨BX, 2, none⟩ = some (.int .i64 b) ∧ w'.cell? ⟨BX, 3, none⟩ = some (.int .i64 l) ∧ w'.cell? ⟨BX, 4, none⟩ = some (.bool s) ∧ w'.cell? ⟨BX, 5, none⟩ = some (.slice (some ⟨g2, 0, none⟩) ss.length ss.length)) _ := HS.out _ (Below.refl _ _).drew
  refine h_begin (fun w' : World => w'.cell? ⟨w.heap.size, 0, none⟩ = some (.int .i64 k) ∧ w'.cell? ⟨w.heap.size, 1, none⟩ = some (.int .i64 a) ∧ w'.cell? ⟨w.heap.size, 2, none⟩ = some (.int .i64 b) ∧ w'.cell? ⟨w.heap.size, 3, none⟩ = some (.int .i64 l) ∧ w'.cell? ⟨w.heap.size, 4, none⟩ = some (.bool s) ∧ w'.cell? ⟨w.heap.size, 5, none⟩ = some (.slice sa ss.length cap) ∧ w'.cell? ⟨BX, 0, none⟩ = some (.int .i64 k) ∧ w'.cell? ⟨BX, 1, none⟩ = some (.int .i64 a) ∧ w'.cell? ⟨BX, 2, none⟩ = some (.int .i64 b) ∧ w'.cell? ⟨BX, 3, none⟩ = some (.int .i64 l) ∧ w'.cell? ⟨BX, 4, none⟩ = some (.bool s) ∧ w'.cell? ⟨BX, 5, none⟩ = some (.slice (some ⟨g2, 0, none⟩) ss.length ss.length)) (by kernel_rfl) ?_
  refine h_take (i := 0) (oi := _) (v := ?_) rfl (by kernel_rfl) (by kernel_rfl) (by kernel_rfl) (fun _ _ _ h => h) (by kernel_rfl) ?_ hh ?_
  rotate_left
  · intro w' hSw
    obtain ⟨j0, j1, j2, j3, j4, j5, j6, j7, j8, j9, j10, j11⟩ := hSw
    go_simp
    try with_reducible rfl
  simp only [Act.put, List.setIfInBounds_toArray]
  refine h_take (i := 1) (oi := _) (v := ?_) rfl (by kernel_rfl) (by kernel_rfl) (by kernel_rfl) (fun _ _ _ h => h) (by kernel_rfl) ?_ hh ?_
  rotate_left
  · intro w' hSw
    obtain ⟨j0, j1, j2, j3, j4, j5, j6, j7, j8, j9, j10, j11⟩ := hSw
    go_simp
    try with_reducible rfl
  simp only [Act.put]
  refine h_one (i := 2) (o := _) (by kernel_rfl) rfl (fun K hK => ?_)
  go_simp
  go_at_call 6
  refine (toAct_any k a b l s sa ss cap _ hn (hm.mono (HBW.out.trans ((Below.refl _ _).drew.mono HBW.out.size)))).mono ?_
  rintro e wz ⟨gz, rfl, hsz, hbz⟩
  have q6 : Below w6.heap.size w6 wz := (Below.refl _ _).drew.trans hbz
  have hh : (fun w' : World => w'.cell? ⟨w.heap.size, 0, none⟩ = some (.int .i64 k) ∧ w'.cell? ⟨w.heap.size, 1, none⟩ = some (.int .i64 a) ∧ w'.cell? ⟨w.heap.size, 2, none⟩ = some (.int .i64 b) ∧ w'.cell? ⟨w.heap.size, 3, none⟩ = some (.int .i64 l) ∧ w'.cell? ⟨w.heap.size, 4, none⟩ = some (.bool s) ∧ w'.cell? ⟨w.heap.size, 5, none⟩ = some (.slice sa ss.length cap) ∧ w'.cell? ⟨BX, 0, none⟩ = some (.int .i64 k) ∧ w'.cell? ⟨BX, 1, none⟩ = some (.int .i64 a) ∧ w'.cell? ⟨BX, 2, none⟩ = some (.int .i64 b) ∧ w'.cell? ⟨BX, 3, none⟩ = some (.int .i64 l) ∧ w'.cell? ⟨BX, 4, none⟩ = some (.bool s) ∧ w'.cell? ⟨BX, 5, none⟩ = some (.slice (some ⟨g2, 0, none⟩) ss.length ss.length)) _ := HS.out wz q6
  refine hK.out _ _ hh ?_
  clear hK K
  try simp only [Act.put]
  refine h_one (i := 3) (o := _) (by kernel_rfl) rfl (fun K hK => ?_)
  go_simp
  go_at_call 8
  refine (eqAct_any k a b l s _ _ ss _ _ _ hn (HSI.out.mono q6) hsz).mono ?_
  rintro e wy ⟨rfl, hby⟩
  have q7 : Below w6.heap.size w6 wy := q6.trans (hby.mono q6.size)
  have hh : (fun w' : World => w'.cell? ⟨w.heap.size, 0, none⟩ = some (.int .i64 k) ∧ w'.cell? ⟨w.heap.size, 1, none⟩ = some (.int .i64 a) ∧ w'.cell? ⟨w.heap.size, 2, none⟩ = some (.int .i64 b) ∧ w'.cell? ⟨w.heap.size, 3, none⟩ = some (.int .i64 l) ∧ w'.cell? ⟨w.heap.size, 4, none⟩ = some (.bool s) ∧ w'.cell? ⟨w.heap.size, 5, none⟩ = some (.slice sa ss.length cap) ∧ w'.cell? ⟨BX, 0, none⟩ = some (.int .i64 k) ∧ w'.cell? ⟨BX, 1, none⟩ = some (.int .i64 a) ∧ w'.cell? ⟨BX, 2, none⟩ = some (.int .i64 b) ∧ w'.cell? ⟨BX, 3, none⟩ = some (.int .i64 l) ∧ w'.cell? ⟨BX, 4, none⟩ = some (.bool s) ∧ w'.cell? ⟨BX, 5, none⟩ = some (.slice (some ⟨g2, 0, none⟩) ss.length ss.length)) _ := HS.out wy q7
  refine hK.out _ _ hh ?_
  clear hK K
  try simp only [Act.put]
  refine h_take (i := 4) (oi := _) (v := ?_) rfl (by kernel_rfl) (by kernel_rfl) (by kernel_rfl) (fun _ _ _ h => h) (by kernel_rfl) ?_ hh ?_
  rotate_left
  · intro w' hSw
    obtain ⟨j0, j1, j2, j3, j4, j5, j6, j7, j8, j9, j10, j11⟩ := hSw
    go_simp
    try with_reducible rfl
  simp only [Act.put]
  have HF := hid (HBW.out.trans (q7.mono HBW.out.size))
  refine wpAnyH_done (by kernel_rfl) ?_ _
  go_simp
  go_wp2
  go_ret
  exact ⟨rfl, HF.out⟩
end Go.Proofs.YtopbdjplpnojmaaDoor
