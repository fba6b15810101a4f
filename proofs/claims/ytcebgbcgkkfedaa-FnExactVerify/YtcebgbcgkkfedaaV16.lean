/-
  The walk of laws.FnExactVerify: it returns true and writes nothing that was there.
-/
import Derived.Test.YtcebgbcgkkfedaaV15
import Derived.Test.YtcebgbcgkkfedaaV14
import Derived.Test.YtcebgbcgkkfedaaW2
import Derived.Test.YtcebgbcgkkfedaaW3
namespace Go.Proofs.Ytcebgbcgkkfedaa
open Go.RowKit

set_option maxHeartbeats 400000 in
theorem eqTrouble_same (c f a : Int) (w : World) :
    Calls Try.prog 9 #[.agg #[.int .i64 c, .int .i64 f, .int .i64 a], .agg #[.int .i64 c, .int .i64 f, .int .i64 a]] w fun e w' => e = .returned (.bool true) ∧ Below w.heap.size w w' := by
  go_enter Try.func9, Try.ntmps9
  go_wp2
  go_ret
  exact ⟨rfl, ((Below.refl _ _).alloc (Nat.le_refl _) _).alloc (by simp) _⟩

set_option maxRecDepth 100000 in
set_option maxHeartbeats 2000000 in
theorem lawVerify (a a2 : Option Addr) (ts : List ByteArray) (fs : List Fn) (cap cap2 : Nat) (w : World) (hn : ts.length ≤ maxLen) (hc : ∀ s ∈ ts, s.size ≤ maxLen) (hm : StrsAt w 0 a ts)
    (hn2 : fs.length ≤ maxLen) (hc2 : ∀ f ∈ fs, f.code.length ≤ maxLen) (hm2 : FnsAt w 0 a2 fs) :
    Calls Try.prog 3 #[.agg #[.slice a ts.length cap, .slice a2 fs.length cap2]] w fun e w' => e = .returned (.bool true) ∧ Below w.heap.size w w' := by
  go_enter Try.func3, Try.ntmps3
  go_wp2_with fail
  have hb0 : Below w.heap.size w (w.alloc (.cells #[.slice a ts.length cap, .slice a2 fs.length cap2] 25)) := (Below.refl _ _).alloc (Nat.le_refl _) _
  have hM0 := block_new w #[.slice a ts.length cap, .slice a2 fs.length cap2] 25
  refine (szModule_any a a2 ts fs cap cap2 _ hn hc (hm.mono hb0) hn2 hc2 (hm2.mono hb0)).mono ?_
  rintro e w1 ⟨r, rfl, hsm, hbx⟩
  have hM1 := block_kept hM0 hbx
  have hb1 : Below w.heap.size w w1 := hb0.trans (hbx.mono (by simp))
  clear hM0 hb0 hbx
  by_cases hr : r < 0
  · go_wp2_with fail
    go_ret
    exact ⟨rfl, hb1⟩
  have hs := hsm (by omega)
  clear hsm
  have x1 := block_cell hM1
  go_wp2_with fail
  refine (toModule_any a a2 ts fs cap cap2 _ hs (hm.mono hb1) (hm2.mono hb1)).mono ?_
  rintro e w2 ⟨g, g2, hg, hg2, rfl, hst, hfn, hbx⟩
  have hM2 := block_kept hM1 hbx
  have hb2 : Below w.heap.size w w2 := hb1.trans (hbx.mono hb1.size)
  clear hM1 hb1 hbx x1
  go_wp2_with fail
  refine (sVerify_any _ _ _ _ ts fs _ hs (hst.low (Nat.zero_le _)) (hfn.low (Nat.zero_le _))).mono ?_
  rintro e w3 ⟨c, f, q, rfl, hV, hbx⟩
  have hM3 := block_kept hM2 hbx
  have hb3 : Below w.heap.size w w3 := hb2.trans (hbx.mono hb2.size)
  clear hM2 hb2 hbx hst hfn hg hg2
  have hM3a := block_old hM3 (.cells #[.int .i64 c, .int .i64 f, .int .i64 q] 28)
  have hT3 := block_new w3 #[.int .i64 c, .int .i64 f, .int .i64 q] 28
  have hb3a : Below w.heap.size w (w3.alloc (.cells #[.int .i64 c, .int .i64 f, .int .i64 q] 28)) := hb3.alloc hb3.size _
  have x3 := block_cell hM3a
  clear hM3 hb3
  go_wp2_with fail
  refine (toModule_any a a2 ts fs cap cap2 _ hs (hm.mono hb3a) (hm2.mono hb3a)).mono ?_
  rintro e w4 ⟨p, p2, hp, hp2, rfl, hst, hfn, hbx⟩
  have hM4 := block_kept hM3a hbx
  have hT4 := block_kept hT3 hbx
  have hb4 : Below w.heap.size w w4 := hb3a.trans (hbx.mono hb3a.size)
  clear hM3a hT3 hb3a hbx x3
  go_wp2_with fail
  have hb5 : Below w.heap.size w (w4.alloc (.cells #[.slice (some ⟨p, 0, none⟩) ts.length ts.length, .slice (some ⟨p2, 0, none⟩) fs.length fs.length] 32)) := hb4.alloc hb4.size _
  have hbq : Below w4.heap.size w4 (w4.alloc (.cells #[.slice (some ⟨p, 0, none⟩) ts.length ts.length, .slice (some ⟨p2, 0, none⟩) fs.length fs.length] 32)) := (Below.refl _ _).alloc (Nat.le_refl _) _
  refine (iVerify_any _ _ _ _ ts fs _ hs ((hst.low (Nat.zero_le _)).mono hbq) ((hfn.low (Nat.zero_le _)).mono hbq)).mono ?_
  rintro e w5 ⟨c', f', q', rfl, hV', hbx⟩
  obtain ⟨rfl, rfl, rfl⟩ := hV.one hV'
  have hM5 := block_kept (block_old hM4 (.cells #[.slice (some ⟨p, 0, none⟩) ts.length ts.length, .slice (some ⟨p2, 0, none⟩) fs.length fs.length] 32)) hbx
  have hT5 := block_kept (block_old hT4 (.cells #[.slice (some ⟨p, 0, none⟩) ts.length ts.length, .slice (some ⟨p2, 0, none⟩) fs.length fs.length] 32)) hbx
  have hX5 := block_kept (block_new w4 #[.slice (some ⟨p, 0, none⟩) ts.length ts.length, .slice (some ⟨p2, 0, none⟩) fs.length fs.length] 32) hbx
  have hb6 : Below w.heap.size w w5 := hb5.trans (hbx.mono (by have := hb4.size; simp; omega))
  have hs5 : StrsAt w5 0 (some ⟨p, 0, none⟩) ts := ((hst.low (Nat.zero_le _)).mono hbq).mono hbx
  have hf5 : FnsAt w5 0 (some ⟨p2, 0, none⟩) fs := ((hfn.low (Nat.zero_le _)).mono hbq).mono hbx
  clear hM4 hT4 hb4 hb5 hbq hbx hst hfn hp hp2 hV hV'
  have hbr : Below w5.heap.size w5 (w5.alloc (.cells #[.int .i64 c, .int .i64 f, .int .i64 q] 28)) := (Below.refl _ _).alloc (Nat.le_refl _) _
  have t6 := block_cell (block_kept hT5 hbr)
  have u6 := block_cell (block_new w5 #[.int .i64 c, .int .i64 f, .int .i64 q] 28)
  go_wp2_with fail
  refine (eqTrouble_same c f q _).mono ?_
  rintro e w6 ⟨rfl, hbx⟩
  have k56 : Below w5.heap.size w5 w6 := hbr.trans (hbx.mono hbr.size)
  have hM6 := block_kept hM5 k56
  have hX6 := block_kept hX5 k56
  have hs6 := hs5.mono k56
  have hf6 := hf5.mono k56
  have hb7 : Below w.heap.size w w6 := hb6.trans (k56.mono hb6.size)
  have x6 := block_cell hM6
  have y6 := block_cell hX6
  clear hM5 hT5 hX5 hb6 hs5 hf5 hbr hbx k56 t6 u6
  go_wp2
  go_region_held3 (fun w' => w'.cell? ⟨w.heap.size, 0, none⟩ = some (.slice a ts.length cap) ∧ w'.cell? ⟨w.heap.size, 1, none⟩ = some (.slice a2 fs.length cap2) ∧ w'.cell? ⟨w4.heap.size, 0, none⟩ = some (.slice (some ⟨p, 0, none⟩) ts.length ts.length) ∧ w'.cell? ⟨w4.heap.size, 1, none⟩ = some (.slice (some ⟨p2, 0, none⟩) fs.length fs.length))
    (first | exact ⟨(x6 0).trans rfl, (x6 1).trans rfl, (y6 0).trans rfl, (y6 1).trans rfl⟩ | exact ⟨by rw [block_cell (block_kept hM6 k6)]; rfl, by rw [block_cell (block_kept hM6 k6)]; rfl, by rw [block_cell (block_kept hX6 k6)]; rfl, by rw [block_cell (block_kept hX6 k6)]; rfl⟩)
    (first
      | (go_at_call 7; refine (toModule_any a a2 ts fs cap cap2 _ hs (by exact hm.mono hb7.drew) (by exact hm2.mono hb7.drew)).mono ?_; rintro e w7 ⟨q1, q2, -, -, rfl, hst6, hfn6, k6d⟩; have k6 := below_undraw k6d)
      | (go_at_call 10; refine (eqModule_any _ _ _ _ ts fs _ _ _ _ _ hs (by exact hs6.mono k6) (by exact hst6.low (Nat.zero_le _)) (by exact hf6.mono k6) (by exact hfn6.low (Nat.zero_le _))).mono ?_; rintro e w8 ⟨rfl, k7⟩; have k6 := k6.trans (k7.mono k6.size)))
  go_wp2
  go_ret
  exact ⟨rfl, hb7.trans (k6.mono hb7.size)⟩
end Go.Proofs.Ytcebgbcgkkfedaa
