/-
  The walk of laws.FnExactShowModule: it returns true and writes nothing that was there.
-/
import Derived.Test.YtbffmhcahdblnabDoorU3
import Derived.Test.YtbffmhcahdblnabDoorU5
import Derived.Test.YtbffmhcahdblnabDoorW2
import Derived.Test.YtbffmhcahdblnabDoorW3
import Derived.Deep.RegionHeld3
namespace Go.Proofs.YtbffmhcahdblnabDoor
open Go.RowKit

set_option maxHeartbeats 1000000 in
theorem lawShow (a a2 : Option Addr) (ts : List ByteArray) (fs : List Fn) (cap cap2 : Nat) (w : World) (hn : ts.length ≤ maxLen) (hc : ∀ s ∈ ts, s.size ≤ maxLen) (hm : StrsAt w 0 a ts)
    (hn2 : fs.length ≤ maxLen) (hc2 : ∀ f ∈ fs, f.code.length ≤ maxLen) (hm2 : FnsAt w 0 a2 fs) (hw : Hid (∀ k s, words[k]? = some s → w.cell? ⟨0, k, none⟩ = some (.string s))) (htab : Lib.TabIs Tryd.prog w "internal/strconv.uint64pow10" .u64 Lib.pow10Tab) :
    Calls Tryd.prog 4 #[.agg #[.slice a ts.length cap, .slice a2 fs.length cap2]] w fun e w' => e = .returned (.bool true) ∧ Below w.heap.size w w' := by
  go_enter Tryd.func4, Tryd.ntmps4
  go_wp2_with fail
  have hb0 : Below w.heap.size w (w.alloc (.cells #[.slice a ts.length cap, .slice a2 fs.length cap2] 31)) := (Below.refl _ _).alloc (Nat.le_refl _) _
  have hM0 := block_new w #[.slice a ts.length cap, .slice a2 fs.length cap2] 31
  refine (szModule_any a a2 ts fs cap cap2 _ hn hc (hm.mono hb0) hn2 hc2 (hm2.mono hb0)).mono ?_
  rintro e w1 ⟨r, rfl, hsm, hbx⟩
  have hM1 := block_kept hM0 hbx
  have hb1 : Below w.heap.size w w1 := hb0.trans (hbx.mono (by simp))
  clear hM0 hb0 hbx
  by_cases hr : r < 0
  · go_wp2_with fail
    go_ret
    exact ⟨rfl, hb1⟩
  have hs := hsm (by omega)
  clear hsm
  have x1 := block_cell hM1
  go_wp2_with fail
  refine (toModule_any a a2 ts fs cap cap2 _ hs (hm.mono hb1) (hm2.mono hb1)).mono ?_
  rintro e w2 ⟨g, g2, hg, hg2, rfl, hst, hfn, hbx⟩
  have hM2 := block_kept hM1 hbx
  have hb2 : Below w.heap.size w w2 := hb1.trans (hbx.mono hb1.size)
  clear hM1 hb1 hbx x1
  go_wp2_with fail
  refine (sShow_any _ _ ts fs _ _ _ hs (hst.low (Nat.zero_le _)) (hfn.low (Nat.zero_le _))).mono ?_
  rintro e w3 ⟨rfl, hbx⟩
  have hM3 := block_kept hM2 hbx
  have hb3 : Below w.heap.size w w3 := hb2.trans (hbx.mono hb2.size)
  have x3 := block_cell hM3
  clear hM2 hb2 hbx hst hfn hg hg2
  go_wp2_with fail
  refine (toModule_any a a2 ts fs cap cap2 _ hs (hm.mono hb3) (hm2.mono hb3)).mono ?_
  rintro e w4 ⟨p, p2, hp, hp2, rfl, hst, hfn, hbx⟩
  have hM4 := block_kept hM3 hbx
  have hb4 : Below w.heap.size w w4 := hb3.trans (hbx.mono hb3.size)
  clear hM3 hb3 hbx x3
  go_wp2_with fail
  have hb5 : Below w.heap.size w (w4.alloc (.cells #[.slice (some ⟨p, 0, none⟩) ts.length ts.length, .slice (some ⟨p2, 0, none⟩) fs.length fs.length] 36)) := hb4.alloc hb4.size _
  have hbq : Below w4.heap.size w4 (w4.alloc (.cells #[.slice (some ⟨p, 0, none⟩) ts.length ts.length, .slice (some ⟨p2, 0, none⟩) fs.length fs.length] 36)) := (Below.refl _ _).alloc (Nat.le_refl _) _
  refine (iShow_any _ _ ts fs _ _ _ hs ((hst.low (Nat.zero_le _)).mono hbq) ((hfn.low (Nat.zero_le _)).mono hbq) (fun k s h => cell_later hb5 (hw.out k s h)) (Lib.tabBelow_of_tabIs htab _ hb5)).mono ?_
  rintro e w5 ⟨rfl, hbx⟩
  have hM5 := block_kept (block_old hM4 (.cells #[.slice (some ⟨p, 0, none⟩) ts.length ts.length, .slice (some ⟨p2, 0, none⟩) fs.length fs.length] 36)) hbx
  have hX5 := block_kept (block_new w4 #[.slice (some ⟨p, 0, none⟩) ts.length ts.length, .slice (some ⟨p2, 0, none⟩) fs.length fs.length] 36) hbx
  have hb6 : Below w.heap.size w w5 := hb5.trans (hbx.mono (by have := hb4.size; simp; omega))
  have hs5 : StrsAt w5 0 (some ⟨p, 0, none⟩) ts := ((hst.low (Nat.zero_le _)).mono hbq).mono hbx
  have hf5 : FnsAt w5 0 (some ⟨p2, 0, none⟩) fs := ((hfn.low (Nat.zero_le _)).mono hbq).mono hbx
  have x5 := block_cell hM5
  have y5 := block_cell hX5
  have hlt := lt_block hM5
  generalize shown ts fs = sh
  clear hM4 hb4 hb5 hbq hbx hst hfn hp hp2
  go_wp2
  go_region_held3 (fun w' => w'.cell? ⟨w.heap.size, 0, none⟩ = some (.slice a ts.length cap) ∧ w'.cell? ⟨w.heap.size, 1, none⟩ = some (.slice a2 fs.length cap2) ∧ w'.cell? ⟨w4.heap.size, 0, none⟩ = some (.slice (some ⟨p, 0, none⟩) ts.length ts.length) ∧ w'.cell? ⟨w4.heap.size, 1, none⟩ = some (.slice (some ⟨p2, 0, none⟩) fs.length fs.length))
    (first | exact ⟨(x5 0).trans rfl, (x5 1).trans rfl, (y5 0).trans rfl, (y5 1).trans rfl⟩ | exact ⟨by rw [block_cell (block_kept hM5 k6)]; rfl, by rw [block_cell (block_kept hM5 k6)]; rfl, by rw [block_cell (block_kept hX5 k6)]; rfl, by rw [block_cell (block_kept hX5 k6)]; rfl⟩)
    (first
      | (go_at_call 11; refine (toModule_any a a2 ts fs cap cap2 _ hs (by exact hm.mono hb6.drew) (by exact hm2.mono hb6.drew)).mono ?_; rintro e w6 ⟨q, q2, -, -, rfl, hst6, hfn6, k6d⟩; have k6 := below_undraw k6d)
      | (go_at_call 13; refine (eqModule_any _ _ _ _ ts fs _ _ _ _ _ hs (by exact hs5.mono k6) (by exact hst6.low (Nat.zero_le _)) (by exact hf5.mono k6) (by exact hfn6.low (Nat.zero_le _))).mono ?_; rintro e w7 ⟨rfl, k7⟩; have k6 := k6.trans (k7.mono k6.size)))
  go_wp2
  go_ret
  exact ⟨rfl, hb6.trans (k6.mono hb6.size)⟩
end Go.Proofs.YtbffmhcahdblnabDoor
