/-
  The walk of laws.FnExactUsesOf: it returns true and writes nothing that was there.
-/
import Derived.Test.YtbpkfgamkklghaaV2
import Derived.Test.YtbpkfgamkklghaaW2
import Derived.Test.YtbpkfgamkklghaaW3
import Derived.Test.YtbpkfgamkklghaaW8
import Derived.Deep.RegionHeld3
namespace Go.Proofs.Ytbpkfgamkklghaa
open Go.RowKit

set_option maxRecDepth 100000 in
set_option maxHeartbeats 2000000 in
theorem lawUsesOf (a a2 : Option Addr) (ts : List ByteArray) (fs : List Fn) (cap cap2 : Nat) (op x : Int) (w : World) (hn : ts.length ≤ maxLen) (hc : ∀ s ∈ ts, s.size ≤ maxLen) (hm : StrsAt w 0 a ts)
    (hn2 : fs.length ≤ maxLen) (hc2 : ∀ f ∈ fs, f.code.length ≤ maxLen) (hm2 : FnsAt w 0 a2 fs) :
    Calls Try.prog 4 #[.agg #[.slice a ts.length cap, .slice a2 fs.length cap2], .agg #[.int .i64 op, .int .i64 x]] w fun e w' => e = .returned (.bool true) ∧ Below w.heap.size w w' := by
  go_enter Try.func4, Try.ntmps4
  go_wp2_with fail
  have hb0 : Below w.heap.size w ((w.alloc (.cells #[.slice a ts.length cap, .slice a2 fs.length cap2] 43)).alloc (.cells #[.int .i64 op, .int .i64 x] 44)) := ((Below.refl _ _).alloc (Nat.le_refl _) _).alloc (by simp) _
  have hM0 := block_old (block_new w #[.slice a ts.length cap, .slice a2 fs.length cap2] 43) (.cells #[.int .i64 op, .int .i64 x] 44)
  have hX0 := block_new (w.alloc (.cells #[.slice a ts.length cap, .slice a2 fs.length cap2] 43)) #[.int .i64 op, .int .i64 x] 44
  rw [World.size_alloc] at hX0
  refine (szModule_any a a2 ts fs cap cap2 _ hn hc (hm.mono hb0) hn2 hc2 (hm2.mono hb0)).mono ?_
  rintro e w1 ⟨r, rfl, hsm, hbx⟩
  have hM1 := block_kept hM0 hbx
  have hX1 := block_kept hX0 hbx
  have hb1 : Below w.heap.size w w1 := hb0.trans (hbx.mono (by simp; omega))
  clear hM0 hX0 hb0 hbx
  by_cases hr : r < 0
  · go_wp2_with fail
    go_ret
    exact ⟨rfl, hb1⟩
  have hs := hsm (by omega)
  have hs2 := hs.funcs
  clear hsm
  have x1 := block_cell hM1
  have y1 := block_cell hX1
  go_wp2
  go_region_held3 (fun w' => w'.cell? ⟨w.heap.size, 0, none⟩ = some (.slice a ts.length cap) ∧ w'.cell? ⟨w.heap.size, 1, none⟩ = some (.slice a2 fs.length cap2) ∧ w'.cell? ⟨w.heap.size + 1, 0, none⟩ = some (.int .i64 op) ∧ w'.cell? ⟨w.heap.size + 1, 1, none⟩ = some (.int .i64 x))
    (first | exact ⟨(x1 0).trans rfl, (x1 1).trans rfl, (y1 0).trans rfl, (y1 1).trans rfl⟩ | exact ⟨by rw [block_cell (block_kept hM1 k6)]; rfl, by rw [block_cell (block_kept hM1 k6)]; rfl, by rw [block_cell (block_kept hX1 k6)]; rfl, by rw [block_cell (block_kept hX1 k6)]; rfl⟩)
    (first
      | (go_at_call 15; refine (toModule_any a a2 ts fs cap cap2 _ hs (by exact hm.mono hb1.drew) (by exact hm2.mono hb1.drew)).mono ?_; rintro e w2 ⟨g, g2, -, -, rfl, hst, hfn, k6d⟩; have k6 := below_undraw k6d)
      | (go_at_call 16; refine (toIns_any op x _).mono ?_; rintro e w3 ⟨rfl, k7⟩; have hfn3 := hfn.mono k7; have k6 := k6.trans (k7.mono k6.size))
      | (go_at_call 14; refine (sUses_any _ _ _ _ _ fs op x _ hs2 (by exact hfn3.low (Nat.zero_le _))).mono ?_; rintro e w4 ⟨rfl, k8⟩; have k6 := k6.trans (k8.mono k6.size)))
  have hM3 := block_kept hM1 k6
  have hX3 := block_kept hX1 k6
  have hb3 : Below w.heap.size w w4 := hb1.trans (k6.mono hb1.size)
  have x3 := block_cell hM3
  clear hM1 hX1 x1 y1 hb1 k6 k6d k7 k8 hst hfn hfn3
  go_wp2_with fail
  refine (toModule_any a a2 ts fs cap cap2 _ hs (hm.mono hb3) (hm2.mono hb3)).mono ?_
  rintro e w5 ⟨p, p2, hp, hp2, rfl, hst, hfn, hbx⟩
  have hM4 := block_kept hM3 hbx
  have hX4 := block_kept hX3 hbx
  have hb4 : Below w.heap.size w w5 := hb3.trans (hbx.mono hb3.size)
  clear hM3 hX3 hb3 hbx x3
  obtain ⟨wq, hwq⟩ : ∃ wq, wq = w5.alloc (.cells #[.slice (some ⟨p, 0, none⟩) ts.length ts.length, .slice (some ⟨p2, 0, none⟩) fs.length fs.length] 27) := ⟨_, rfl⟩
  have hb5 : Below w.heap.size w wq := by rw [hwq]; exact hb4.alloc hb4.size _
  have hbq : Below w5.heap.size w5 wq := by rw [hwq]; exact (Below.refl _ _).alloc (Nat.le_refl _) _
  have hM5 := block_kept hM4 hbq
  have hX5 := block_kept hX4 hbq
  have hQ5 : wq.heap[w5.heap.size]? = some (.cells #[.slice (some ⟨p, 0, none⟩) ts.length ts.length, .slice (some ⟨p2, 0, none⟩) fs.length fs.length] 27 (0, 0)) := by rw [hwq]; exact block_new _ _ _
  have hs5 : StrsAt wq 0 (some ⟨p, 0, none⟩) ts := (hst.low (Nat.zero_le _)).mono hbq
  have hf5 : FnsAt wq 0 (some ⟨p2, 0, none⟩) fs := (hfn.low (Nat.zero_le _)).mono hbq
  have x5 := block_cell hX5
  have y5 := block_cell hQ5
  have HW : Hid (wq = w5.alloc (.cells #[.slice (some ⟨p, 0, none⟩) ts.length ts.length, .slice (some ⟨p2, 0, none⟩) fs.length fs.length] 27)) := hwq
  clear hwq hM4 hX4 hb4 hbq hst hfn hp hp2
  go_wp2
  rw [← HW.out]
  go_region_held3 (fun w' => w'.cell? ⟨w5.heap.size, 0, none⟩ = some (.slice (some ⟨p, 0, none⟩) ts.length ts.length) ∧ w'.cell? ⟨w5.heap.size, 1, none⟩ = some (.slice (some ⟨p2, 0, none⟩) fs.length fs.length) ∧ w'.cell? ⟨w.heap.size + 1, 0, none⟩ = some (.int .i64 op) ∧ w'.cell? ⟨w.heap.size + 1, 1, none⟩ = some (.int .i64 x))
    (first | exact ⟨(y5 0).trans rfl, (y5 1).trans rfl, (x5 0).trans rfl, (x5 1).trans rfl⟩ | exact ⟨by rw [block_cell (block_kept hQ5 k6)]; rfl, by rw [block_cell (block_kept hQ5 k6)]; rfl, by rw [block_cell (block_kept hX5 k6)]; rfl, by rw [block_cell (block_kept hX5 k6)]; rfl⟩)
    (first
      | (go_at_call 16; refine (toIns_any op x _).mono ?_; rintro e w6 ⟨rfl, k6d⟩; have k6 := below_undraw k6d)
      | (go_at_call 12; refine (iUses_any _ _ _ _ _ fs op x _ (by exact hf5.mono k6)).mono ?_; rintro e w7 ⟨rfl, k8⟩; have k6 := k6.trans (k8.mono k6.size)))
  have hM6 := block_kept hM5 k6
  have hQ6 := block_kept hQ5 k6
  have hs6 := hs5.mono k6
  have hf6 := hf5.mono k6
  have hb6 : Below w.heap.size w w7 := hb5.trans (k6.mono hb5.size)
  have z6 := block_cell hM6
  have y6 := block_cell hQ6
  clear hM5 hX5 hQ5 x5 y5 hb5 k6 k6d k8 hs5 hf5 HW
  go_wp2
  go_region_held3 (fun w' => w'.cell? ⟨w.heap.size, 0, none⟩ = some (.slice a ts.length cap) ∧ w'.cell? ⟨w.heap.size, 1, none⟩ = some (.slice a2 fs.length cap2) ∧ w'.cell? ⟨w5.heap.size, 0, none⟩ = some (.slice (some ⟨p, 0, none⟩) ts.length ts.length) ∧ w'.cell? ⟨w5.heap.size, 1, none⟩ = some (.slice (some ⟨p2, 0, none⟩) fs.length fs.length))
    (first | exact ⟨(z6 0).trans rfl, (z6 1).trans rfl, (y6 0).trans rfl, (y6 1).trans rfl⟩ | exact ⟨by rw [block_cell (block_kept hM6 k6)]; rfl, by rw [block_cell (block_kept hM6 k6)]; rfl, by rw [block_cell (block_kept hQ6 k6)]; rfl, by rw [block_cell (block_kept hQ6 k6)]; rfl⟩)
    (first
      | (go_at_call 15; refine (toModule_any a a2 ts fs cap cap2 _ hs (by exact hm.mono hb6.drew) (by exact hm2.mono hb6.drew)).mono ?_; rintro e w8 ⟨q, q2, -, -, rfl, hst6, hfn6, k6d⟩; have k6 := below_undraw k6d)
      | (go_at_call 17; refine (eqModule_any _ _ _ _ ts fs _ _ _ _ _ hs (by exact hs6.mono k6) (by exact hst6.low (Nat.zero_le _)) (by exact hf6.mono k6) (by exact hfn6.low (Nat.zero_le _))).mono ?_; rintro e w9 ⟨rfl, k7⟩; have k6 := k6.trans (k7.mono k6.size)))
  go_wp2
  go_ret
  exact ⟨rfl, hb6.trans (k6.mono hb6.size)⟩
end Go.Proofs.Ytbpkfgamkklghaa
