/-
  Values: the law on ValueOk, walked.
-/
import Derived.Test.YtcebgbcgkkfedaaX6b
import Derived.Test.YtcebgbcgkkfedaaW2
import Derived.Test.YtcebgbcgkkfedaaW3
namespace Go.Proofs.Ytcebgbcgkkfedaa
open Go.RowKit

set_option maxHeartbeats 400000 in
theorem szModule_le (a a2 : Option Addr) (ts : List ByteArray) (fs : List Fn) (cap cap2 : Nat) (w : World) (hn : ts.length ≤ maxLen) (hc : ∀ s ∈ ts, s.size ≤ maxLen) (hm : StrsAt w 0 a ts)
    (hn2 : fs.length ≤ maxLen) (hc2 : ∀ f ∈ fs, f.code.length ≤ maxLen) (hm2 : FnsAt w 0 a2 fs) :
    Calls Try.prog 5 #[.agg #[.slice a ts.length cap, .slice a2 fs.length cap2], .int .i64 1048576] w fun e w' => ∃ r : Int, e = .returned (.int .i64 r) ∧ r ≤ 1048576 ∧ (0 ≤ r → Small ts fs) ∧ Below w.heap.size w w' := by
  go_enter Try.func5, Try.ntmps5
  go_wp2_with fail
  refine (szStringS_any a ts cap 1048576 _ (by omega) (by omega) hn hc (hm.mono ((Below.refl _ _).alloc (Nat.le_refl _) _))).mono ?_
  rintro e w1 ⟨r, rfl, hr, hs, hb⟩
  have hb1 : Below w.heap.size w w1 := ((Below.refl _ _).alloc (Nat.le_refl _) _).trans (hb.mono (by simp))
  obtain ⟨hx, hf⟩ : w1.cell? ⟨w.heap.size, 0, none⟩ = some (.slice a ts.length cap) ∧ w1.cell? ⟨w.heap.size, 1, none⟩ = some (.slice a2 fs.length cap2) := by
    constructor
    · exact cell_later hb (cell_new _ _ _ 0)
    · exact cell_later hb (cell_new _ _ _ 1)
  by_cases h0 : r < 0
  · go_wp2_with fail
    go_ret
    exact ⟨_, rfl, by omega, by omega, hb1⟩
  · go_wp2_with fail
    refine (szFuncS_any a2 fs cap2 r _ (by omega) (by omega) hn2 hc2 (hm2.mono hb1)).mono ?_
    rintro e w2 ⟨r2, rfl, hr2, hs2, hb2⟩
    have hb3 : Below w.heap.size w w2 := hb1.trans (hb2.mono hb1.size)
    by_cases h2 : r2 < 0
    · go_wp2_with fail
      go_ret
      exact ⟨_, rfl, by omega, by omega, hb3⟩
    · go_wp2_with fail
      go_ret
      exact ⟨_, rfl, by omega, fun _ => ⟨(hs (by omega)).1, (hs (by omega)).2, (hs2 (by omega)).1, (hs2 (by omega)).2⟩, hb3⟩

set_option maxRecDepth 100000 in
set_option maxHeartbeats 4000000 in
theorem lawValueOk (a a2 : Option Addr) (ts : List ByteArray) (fs : List Fn) (cap cap2 : Nat) (k n : Int) (s : ByteArray) (r : Int) (w : World) (hn : ts.length ≤ maxLen) (hc : ∀ s ∈ ts, s.size ≤ maxLen) (hm : StrsAt w 0 a ts)
    (hn2 : fs.length ≤ maxLen) (hc2 : ∀ f ∈ fs, f.code.length ≤ maxLen) (hm2 : FnsAt w 0 a2 fs) (hsz : s.size ≤ maxLen) :
    Calls Try.prog 4 #[.agg #[.slice a ts.length cap, .slice a2 fs.length cap2], .agg #[.int .i64 k, .int .i64 n, .string s], .int .i64 r] w fun e w' => e = .returned (.bool true) ∧ Below w.heap.size w w' := by
  have hA : Below w.heap.size w ((w.alloc (.cells #[.slice a ts.length cap, .slice a2 fs.length cap2] 25)).alloc (.cells #[.int .i64 k, .int .i64 n, .string s] 38)) := ((Below.refl _ _).alloc (Nat.le_refl _) _).alloc (by simp) _
  have hM0 := block_old (block_new w #[.slice a ts.length cap, .slice a2 fs.length cap2] 25) (.cells #[.int .i64 k, .int .i64 n, .string s] 38)
  have hV0 := block_new_at (w.alloc (.cells #[.slice a ts.length cap, .slice a2 fs.length cap2] 25)) #[.int .i64 k, .int .i64 n, .string s] 38 (w.heap.size + 1) (by simp)
  go_enter Try.func4, Try.ntmps4
  go_wp2_with fail
  refine (szModule_le a a2 ts fs cap cap2 _ hn hc (hm.mono hA) hn2 hc2 (hm2.mono hA)).mono ?_
  rintro e w1 ⟨l, rfl, hl, hsm, hb1⟩
  have hM1 := block_kept hM0 hb1
  have hV1 := block_kept hV0 hb1
  have hB1 := hA.trans (hb1.mono hA.size)
  clear hM0 hV0 hA hb1 hn hc hn2 hc2
  by_cases hl0 : l < 0
  · go_wp2_with fail
    go_ret
    exact ⟨rfl, hB1⟩
  have hs := hsm (by omega)
  clear hsm
  have y1 := block_cell hV1
  go_wp2_with fail
  refine (szVal_any _ _ _ _ _ (by omega) (by omega) hsz).mono ?_
  rintro e w2 ⟨rfl, hb2⟩
  have hM2 := block_kept hM1 hb2
  have hV2 := block_kept hV1 hb2
  have hB2 := hB1.trans (hb2.mono hB1.size)
  clear hM1 hV1 hB1 hb2 y1
  by_cases hl1 : l < (s.size : Int)
  · rw [if_pos hl1]
    go_wp2_with fail
    go_ret
    exact ⟨rfl, hB2⟩
  rw [if_neg hl1]
  have hs6 : s.size ≤ 1048576 := by omega
  have hl2 : ¬ (l - (s.size : Int)) < 0 := by omega
  have HZ : Hid (w.heap.size + 2 ≤ w2.heap.size) := lt_block hV2
  have hS : ∀ w', Below (w.heap.size + 2) w2 w' → w'.cell? ⟨w.heap.size, 0, none⟩ = some (.slice a ts.length cap) ∧ w'.cell? ⟨w.heap.size, 1, none⟩ = some (.slice a2 fs.length cap2) ∧ w'.cell? ⟨w.heap.size + 1, 0, none⟩ = some (.int .i64 k) ∧ w'.cell? ⟨w.heap.size + 1, 1, none⟩ = some (.int .i64 n) ∧ w'.cell? ⟨w.heap.size + 1, 2, none⟩ = some (.string s) := fun w' hb =>
    ⟨by rw [hb.cell (by simp), block_cell hM2]; rfl, by rw [hb.cell (by simp), block_cell hM2]; rfl, by rw [hb.cell (by simp), block_cell hV2]; rfl, by rw [hb.cell (by simp), block_cell hV2]; rfl, by rw [hb.cell (by simp), block_cell hV2]; rfl⟩
  have HS : Hid (∀ w', Below (w.heap.size + 2) w2 w' → w'.cell? ⟨w.heap.size, 0, none⟩ = some (.slice a ts.length cap) ∧ w'.cell? ⟨w.heap.size, 1, none⟩ = some (.slice a2 fs.length cap2) ∧ w'.cell? ⟨w.heap.size + 1, 0, none⟩ = some (.int .i64 k) ∧ w'.cell? ⟨w.heap.size + 1, 1, none⟩ = some (.int .i64 n) ∧ w'.cell? ⟨w.heap.size + 1, 2, none⟩ = some (.string s)) := hS
  obtain ⟨j0, j1, j2, j3, j4⟩ := hS w2 (Below.refl _ _)
  have HB : Hid (Below w.heap.size w w2) := hB2
  have q : Below w2.heap.size w2 w2.drew := (Below.refl _ _).drew
  have HM : Hid (w2.heap[w.heap.size]? = some (.cells #[.slice a ts.length cap, .slice a2 fs.length cap2] 25 (0, 0))) := hM2
  have HV : Hid (w2.heap[w.heap.size + 1]? = some (.cells #[.int .i64 k, .int .i64 n, .string s] 38 (0, 0))) := hV2
  have H6 : Hid (s.size ≤ 1048576) := hs6
  clear hS hM2 hV2 hB2 hl1 hl0 hl hsz hs6
  go_wp2
  clear hl2
  go_region_held3 (fun w' => w'.cell? ⟨w.heap.size, 0, none⟩ = some (.slice a ts.length cap) ∧ w'.cell? ⟨w.heap.size, 1, none⟩ = some (.slice a2 fs.length cap2) ∧ w'.cell? ⟨w.heap.size + 1, 0, none⟩ = some (.int .i64 k) ∧ w'.cell? ⟨w.heap.size + 1, 1, none⟩ = some (.int .i64 n) ∧ w'.cell? ⟨w.heap.size + 1, 2, none⟩ = some (.string s))
    (first | exact ⟨j0, j1, j2, j3, j4⟩ | exact HS.out _ (q.mono HZ.out))
    (first
      | (go_at_call 7; refine (toModule_any a a2 ts fs cap cap2 _ hs (by exact hm.mono (HB.out.trans (q.mono HB.out.size))) (by exact hm2.mono (HB.out.trans (q.mono HB.out.size)))).mono ?_; rintro e wa ⟨g, g2, -, -, rfl, hst, hfn, kd⟩; have q := q.trans (kd.mono q.size))
      | (go_at_call 13; refine (toValue_any _ _ _ _).mono ?_; rintro e wb ⟨rfl, kd⟩; have hst := hst.mono kd; have hfn := hfn.mono kd; have q := q.trans (kd.mono q.size))
      | (go_at_call 12; refine (sValueOk_any _ _ _ _ _ _ ts fs _ _ _ hs (by exact hst.low (Nat.zero_le _)) (by exact hfn.low (Nat.zero_le _)) H6.out).mono ?_; rintro e w3 ⟨rfl, kd⟩; have q := q.trans (kd.mono q.size)))
  have hB3 := HB.out.trans (q.mono HB.out.size)
  have hM3 := block_kept HM.out q
  have hV3 := block_kept HV.out q
  have x3 := block_cell hM3
  clear j0 j1 j2 j3 j4 HS HZ HB HM HV q hst hfn kd
  go_wp2_with fail
  refine (toModule_any a a2 ts fs cap cap2 _ hs (hm.mono hB3) (hm2.mono hB3)).mono ?_
  rintro e w4 ⟨p, p2, -, -, rfl, hst, hfn, hb4⟩
  have hM4 := block_kept hM3 hb4
  have hV4 := block_kept hV3 hb4
  have hB4 := hB3.trans (hb4.mono hB3.size)
  clear hM3 hV3 hB3 hb4 x3
  obtain ⟨w5, hw5⟩ : ∃ w5, w5 = w4.alloc (.cells #[.slice (some ⟨p, 0, none⟩) ts.length ts.length, .slice (some ⟨p2, 0, none⟩) fs.length fs.length] 32) := ⟨_, rfl⟩
  have hbq : Below w4.heap.size w4 w5 := by rw [hw5]; exact (Below.refl _ _).alloc (Nat.le_refl _) _
  have hX5 : w5.heap[w4.heap.size]? = some (.cells #[.slice (some ⟨p, 0, none⟩) ts.length ts.length, .slice (some ⟨p2, 0, none⟩) fs.length fs.length] 32 (0, 0)) := by rw [hw5]; exact block_new w4 _ _
  have hM5 := block_kept hM4 hbq
  have hV5 := block_kept hV4 hbq
  have hB5 := hB4.trans (hbq.mono hB4.size)
  have hst5 := (hst.low (Nat.zero_le _)).mono hbq
  have hfn5 := (hfn.low (Nat.zero_le _)).mono hbq
  have hlt : w.heap.size + 1 < w4.heap.size := lt_block hV4
  have hS : ∀ w', Below w5.heap.size w5 w' → w'.cell? ⟨w4.heap.size, 0, none⟩ = some (.slice (some ⟨p, 0, none⟩) ts.length ts.length) ∧ w'.cell? ⟨w4.heap.size, 1, none⟩ = some (.slice (some ⟨p2, 0, none⟩) fs.length fs.length) ∧ w'.cell? ⟨w.heap.size + 1, 0, none⟩ = some (.int .i64 k) ∧ w'.cell? ⟨w.heap.size + 1, 1, none⟩ = some (.int .i64 n) ∧ w'.cell? ⟨w.heap.size + 1, 2, none⟩ = some (.string s) := fun w' hb =>
    ⟨by rw [block_cell (block_kept hX5 hb)]; rfl, by rw [block_cell (block_kept hX5 hb)]; rfl, by rw [block_cell (block_kept hV5 hb)]; rfl, by rw [block_cell (block_kept hV5 hb)]; rfl, by rw [block_cell (block_kept hV5 hb)]; rfl⟩
  have HS : Hid (∀ w', Below w5.heap.size w5 w' → w'.cell? ⟨w4.heap.size, 0, none⟩ = some (.slice (some ⟨p, 0, none⟩) ts.length ts.length) ∧ w'.cell? ⟨w4.heap.size, 1, none⟩ = some (.slice (some ⟨p2, 0, none⟩) fs.length fs.length) ∧ w'.cell? ⟨w.heap.size + 1, 0, none⟩ = some (.int .i64 k) ∧ w'.cell? ⟨w.heap.size + 1, 1, none⟩ = some (.int .i64 n) ∧ w'.cell? ⟨w.heap.size + 1, 2, none⟩ = some (.string s)) := hS
  obtain ⟨j0, j1, j2, j3, j4⟩ := hS w5 (Below.refl _ _)
  have q : Below w5.heap.size w5 w5.drew := (Below.refl _ _).drew
  have HM : Hid (w5.heap[w.heap.size]? = some (.cells #[.slice a ts.length cap, .slice a2 fs.length cap2] 25 (0, 0))) := hM5
  have HX : Hid (w5.heap[w4.heap.size]? = some (.cells #[.slice (some ⟨p, 0, none⟩) ts.length ts.length, .slice (some ⟨p2, 0, none⟩) fs.length fs.length] 32 (0, 0))) := hX5
  have HB : Hid (Below w.heap.size w w5) := hB5
  have HL : Hid (w.heap.size + 1 < w4.heap.size) := hlt
  clear hS hM4 hV4 hB4 hM5 hV5 hX5 hB5 hbq hst hfn hlt
  go_wp2
  rw [← hw5]
  clear hw5
  go_region_held3 (fun w' => w'.cell? ⟨w4.heap.size, 0, none⟩ = some (.slice (some ⟨p, 0, none⟩) ts.length ts.length) ∧ w'.cell? ⟨w4.heap.size, 1, none⟩ = some (.slice (some ⟨p2, 0, none⟩) fs.length fs.length) ∧ w'.cell? ⟨w.heap.size + 1, 0, none⟩ = some (.int .i64 k) ∧ w'.cell? ⟨w.heap.size + 1, 1, none⟩ = some (.int .i64 n) ∧ w'.cell? ⟨w.heap.size + 1, 2, none⟩ = some (.string s))
    (first | exact ⟨j0, j1, j2, j3, j4⟩ | exact HS.out _ q)
    (first
      | (go_at_call 13; refine (toValue_any _ _ _ _).mono ?_; rintro e wb ⟨rfl, kd⟩; have q := q.trans (kd.mono q.size))
      | (go_at_call 14; refine (iValueOk_any _ _ _ _ _ _ ts fs _ _ _ hs (by exact hst5.mono q) (by exact hfn5.mono q) H6.out).mono ?_; rintro e w6 ⟨rfl, kd⟩; have q := q.trans (kd.mono q.size)))
  have hM6 := block_kept HM.out q
  have hX6 := block_kept HX.out q
  have hB6 := HB.out.trans (q.mono HB.out.size)
  have hst6 := hst5.mono q
  have hfn6 := hfn5.mono q
  have hS : ∀ w', Below w6.heap.size w6 w' → w'.cell? ⟨w.heap.size, 0, none⟩ = some (.slice a ts.length cap) ∧ w'.cell? ⟨w.heap.size, 1, none⟩ = some (.slice a2 fs.length cap2) ∧ w'.cell? ⟨w4.heap.size, 0, none⟩ = some (.slice (some ⟨p, 0, none⟩) ts.length ts.length) ∧ w'.cell? ⟨w4.heap.size, 1, none⟩ = some (.slice (some ⟨p2, 0, none⟩) fs.length fs.length) := fun w' hb =>
    ⟨by rw [block_cell (block_kept hM6 hb)]; rfl, by rw [block_cell (block_kept hM6 hb)]; rfl, by rw [block_cell (block_kept hX6 hb)]; rfl, by rw [block_cell (block_kept hX6 hb)]; rfl⟩
  have HS6 : Hid (∀ w', Below w6.heap.size w6 w' → w'.cell? ⟨w.heap.size, 0, none⟩ = some (.slice a ts.length cap) ∧ w'.cell? ⟨w.heap.size, 1, none⟩ = some (.slice a2 fs.length cap2) ∧ w'.cell? ⟨w4.heap.size, 0, none⟩ = some (.slice (some ⟨p, 0, none⟩) ts.length ts.length) ∧ w'.cell? ⟨w4.heap.size, 1, none⟩ = some (.slice (some ⟨p2, 0, none⟩) fs.length fs.length)) := hS
  clear HS j0 j1 j2 j3 j4 q kd HM HX hst5 hfn5 HB HL
  obtain ⟨j0, j1, j2, j3⟩ := hS w6 (Below.refl _ _)
  have HB : Hid (Below w.heap.size w w6) := hB6
  clear hS hM6 hX6 hB6
  go_wp2
  have q : Below w6.heap.size w6 w6.drew := (Below.refl _ _).drew
  go_region_held3 (fun w' => w'.cell? ⟨w.heap.size, 0, none⟩ = some (.slice a ts.length cap) ∧ w'.cell? ⟨w.heap.size, 1, none⟩ = some (.slice a2 fs.length cap2) ∧ w'.cell? ⟨w4.heap.size, 0, none⟩ = some (.slice (some ⟨p, 0, none⟩) ts.length ts.length) ∧ w'.cell? ⟨w4.heap.size, 1, none⟩ = some (.slice (some ⟨p2, 0, none⟩) fs.length fs.length))
    (first | exact ⟨j0, j1, j2, j3⟩ | exact HS6.out _ q)
    (first
      | (go_at_call 7; refine (toModule_any a a2 ts fs cap cap2 _ hs (by exact hm.mono (HB.out.trans (q.mono HB.out.size))) (by exact hm2.mono (HB.out.trans (q.mono HB.out.size)))).mono ?_; rintro e wa ⟨g, g2, -, -, rfl, hst, hfn, kd⟩; have q := q.trans (kd.mono q.size))
      | (go_at_call 10; refine (eqModule_any _ _ _ _ ts fs _ _ _ _ _ hs (by exact hst6.mono q) (by exact hst.low (Nat.zero_le _)) (by exact hfn6.mono q) (by exact hfn.low (Nat.zero_le _))).mono ?_; rintro e w8 ⟨rfl, kd⟩; have q := q.trans (kd.mono q.size)))
  go_wp2
  go_ret
  exact ⟨rfl, HB.out.trans (q.mono HB.out.size)⟩
end Go.Proofs.Ytcebgbcgkkfedaa
