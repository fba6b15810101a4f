/-
  The walk of laws.FnExactHeadsOf: it returns true and writes nothing that was there.
-/
import Derived.Test.YtenmbdegaldngaaDoorV11
import Derived.Test.YtenmbdegaldngaaDoorB6
import Derived.Test.YtenmbdegaldngaaDoorS6
import Derived.Test.YtenmbdegaldngaaDoorW3
import Derived.Test.YtenmbdegaldngaaDoorW2
namespace Go.Proofs.YtenmbdegaldngaaDoor
open Go.RowKit

set_option maxRecDepth 100000 in
set_option maxHeartbeats 2000000 in
theorem lawHeadsOf (a a2 : Option Addr) (ts : List ByteArray) (fs : List Fn) (cap cap2 : Nat) (f : Int) (w : World) (hn : ts.length ≤ maxLen) (hc : ∀ s ∈ ts, s.size ≤ maxLen) (hm : StrsAt w 0 a ts)
    (hn2 : fs.length ≤ maxLen) (hc2 : ∀ f ∈ fs, f.code.length ≤ maxLen) (hm2 : FnsAt w 0 a2 fs) (hDB : DB w) :
    Calls Tryd.prog 4 #[.agg #[.slice a ts.length cap, .slice a2 fs.length cap2], .int .i64 f] w fun e w' => e = .returned (.bool true) ∧ Below w.heap.size w w' := by
  go_enter Tryd.func4, Tryd.ntmps4
  go_wp2_with fail
  have hb0 : Below w.heap.size w (w.alloc (.cells #[.slice a ts.length cap, .slice a2 fs.length cap2] 25)) := (Below.refl _ _).alloc (Nat.le_refl _) _
  have hM0 := block_new w #[.slice a ts.length cap, .slice a2 fs.length cap2] 25
  refine (szModule_any a a2 ts fs cap cap2 _ hn hc (hm.mono hb0) hn2 hc2 (hm2.mono hb0)).mono ?_
  rintro e w1 ⟨r, rfl, hsm, hbx⟩
  have hM1 := block_kept hM0 hbx
  have hb1 : Below w.heap.size w w1 := hb0.trans (hbx.mono (by simp))
  clear hM0 hb0 hbx
  by_cases hr : r < 0
  · go_wp2_with fail
    go_ret
    exact ⟨rfl, hb1⟩
  have hs := hsm (by omega)
  clear hsm
  have x1 := block_cell hM1
  go_wp2_with fail
  refine (toModule_any a a2 ts fs cap cap2 _ hs (hm.mono hb1) (hm2.mono hb1)).mono ?_
  rintro e w2 ⟨g, g2, hg, hg2, rfl, hst, hfn, hbx⟩
  have hM2 := block_kept hM1 hbx
  have hb2 : Below w.heap.size w w2 := hb1.trans (hbx.mono hb1.size)
  clear hM1 hb1 hbx x1
  go_wp2_with fail
  refine (sHeadsOf_any _ _ _ _ ts fs f _ hs (hst.low (Nat.zero_le _)) (hfn.low (Nat.zero_le _))).mono ?_
  rintro e w3 ⟨v0, S, rfl, hS0, hbuf0, hbx⟩
  have hSl : S.length ≤ 1048576 := Nat.le_trans hS0.len (by omega)
  obtain ⟨aw, cw, rfl, -⟩ := hbuf0.form
  have hby0 := hbuf0.ints
  have hM3 := block_kept hM2 hbx
  have hb3 : Below w.heap.size w w3 := hb2.trans (hbx.mono hb2.size)
  have x3 := block_cell hM3
  clear hM2 hb2 hbx hst hfn hg hg2 hbuf0
  go_wp2_with fail
  refine (toModule_made a a2 ts fs cap cap2 _ hs (hm.mono hb3) (hm2.mono hb3)).mono ?_
  rintro e w4 ⟨p, p2, hp, hp2, rfl, hst, hfn, hbx, htb, hfb⟩
  have hM4 := block_kept hM3 hbx
  have hb4 : Below w.heap.size w w4 := hb3.trans (hbx.mono hb3.size)
  have k34 : Below w3.heap.size w3 w4 := hbx
  clear hM3 hbx x3
  go_wp2_with fail
  have hb5 : Below w.heap.size w (w4.alloc (.cells #[.slice (some ⟨p, 0, none⟩) ts.length ts.length, .slice (some ⟨p2, 0, none⟩) fs.length fs.length] 31)) := hb4.alloc hb4.size _
  have hbq : Below w4.heap.size w4 (w4.alloc (.cells #[.slice (some ⟨p, 0, none⟩) ts.length ts.length, .slice (some ⟨p2, 0, none⟩) fs.length fs.length] 31)) := (Below.refl _ _).alloc (Nat.le_refl _) _
  refine (iHeads_any _ _ _ _ ts fs f _ hs ((hst.low (Nat.zero_le _)).mono hbq) ((hfn.low (Nat.zero_le _)).mono hbq) (hDB.mono hb5)).mono ?_
  rintro e w5 ⟨vg, Sg, rfl, hSg, hbufg, hbx⟩
  obtain rfl := hS0.one hSg
  obtain ⟨ag, cg, rfl, -⟩ := hbufg.form
  simp only [World.size_alloc] at hbufg
  have hM5 := block_kept (block_old hM4 (.cells #[.slice (some ⟨p, 0, none⟩) ts.length ts.length, .slice (some ⟨p2, 0, none⟩) fs.length fs.length] 31)) hbx
  have hX5 := block_kept (block_new w4 #[.slice (some ⟨p, 0, none⟩) ts.length ts.length, .slice (some ⟨p2, 0, none⟩) fs.length fs.length] 31) hbx
  have hq5 := hbx.size
  simp only [World.size_alloc] at hq5
  have hb6 : Below w.heap.size w w5 := hb5.trans (hbx.mono (by have := hb4.size; simp; omega))
  have hs5 : StrsAt w5 0 (some ⟨p, 0, none⟩) ts := ((hst.low (Nat.zero_le _)).mono hbq).mono hbx
  have hf5 : FnsAt w5 0 (some ⟨p2, 0, none⟩) fs := ((hfn.low (Nat.zero_le _)).mono hbq).mono hbx
  have ht5 := (htb.mono hbq).mono hbx
  have hg5 := (hfb.mono hbq).mono hbx
  have k35 : Below w3.heap.size w3 w5 := k34.trans ((hbq.trans (hbx.mono (by simp))).mono k34.size)
  have q34 := k34.size
  clear hM4 hb4 hb5 hbq hbx hst hfn htb hfb k34
  go_wp2_with fail
  refine (eqIntS_any ag aw S cg cw _ hSl hbufg.ints (hby0.mono k35)).mono ?_
  rintro e w6 ⟨rfl, hbx⟩
  have hM6 := block_kept hM5 hbx
  have hX6 := block_kept hX5 hbx
  have hb7 : Below w.heap.size w w6 := hb6.trans (hbx.mono hb6.size)
  have k36 := k35.trans (hbx.mono k35.size)
  have hs6 := hs5.mono hbx
  have hf6 := hf5.mono hbx
  have ht6 := ht5.mono hbx
  have hg6 := hg5.mono hbx
  have hbufg6 := hbufg.mono hbx
  have hz56 : w5.heap.size ≤ w6.heap.size := hbx.size
  have x5 := block_cell hM6
  have y5 := block_cell hX6
  have hlt := lt_block hM6
  clear hM5 hX5 hb6 hbx k35 hs5 hf5 ht5 hg5 hbufg
  go_wp2
  go_region_held3 (fun w' => w'.cell? ⟨w.heap.size, 0, none⟩ = some (.slice a ts.length cap) ∧ w'.cell? ⟨w.heap.size, 1, none⟩ = some (.slice a2 fs.length cap2) ∧ w'.cell? ⟨w4.heap.size, 0, none⟩ = some (.slice (some ⟨p, 0, none⟩) ts.length ts.length) ∧ w'.cell? ⟨w4.heap.size, 1, none⟩ = some (.slice (some ⟨p2, 0, none⟩) fs.length fs.length))
    (first | exact ⟨(x5 0).trans rfl, (x5 1).trans rfl, (y5 0).trans rfl, (y5 1).trans rfl⟩ | exact ⟨by rw [block_cell (block_kept hM6 k6)]; rfl, by rw [block_cell (block_kept hM6 k6)]; rfl, by rw [block_cell (block_kept hX6 k6)]; rfl, by rw [block_cell (block_kept hX6 k6)]; rfl⟩)
    (first
      | (go_at_call 8; refine (toModule_any a a2 ts fs cap cap2 _ hs (by exact hm.mono hb7.drew) (by exact hm2.mono hb7.drew)).mono ?_; rintro e w7 ⟨q, q2, -, -, rfl, hst7, hfn7, k6d⟩; have k6 := below_undraw k6d)
      | (go_at_call 11; refine (eqModule_any _ _ _ _ ts fs _ _ _ _ _ hs (by exact hs6.mono k6) (by exact hst7.low (Nat.zero_le _)) (by exact hf6.mono k6) (by exact hfn7.low (Nat.zero_le _))).mono ?_; rintro e w8 ⟨rfl, k7⟩; have k6 := k6.trans (k7.mono k6.size)))
  have hM8 := block_kept hM6 k6
  have hX8 := block_kept hX6 k6
  have hb8 : Below w.heap.size w w8 := hb7.trans (k6.mono hb7.size)
  have k38 := k36.trans (k6.mono k36.size)
  have ht8 := ht6.mono k6
  have hg8 := hg6.mono k6
  have hbufg8 := hbufg6.mono k6
  have hz58 : w5.heap.size ≤ w8.heap.size := Nat.le_trans hz56 k6.size
  have y8 := block_cell hX8
  clear hM6 hX6 hb7 k36 ht6 hg6 hbufg6 x5 y5 hs6 hf6 k6 k7 k6d hst7 hfn7
  go_wp2_with fail
  refine (markModule_any w3.heap.size p p2 _ _ ts fs _ hs hp hp2 ht8 hg8).mono ?_
  rintro e w9 ⟨km, rfl, hkm, hk9⟩
  have hM9 := hk9.cell hM8 (by simp)
  have hbufg9 := hbufg8.keeps hk9 (by simp)
  have hz59 : w5.heap.size ≤ w9.heap.size := Nat.le_trans hz58 hk9.size
  have hb9 : Below w.heap.size w w9 := hb8.trans ((hk9.toBelow k38.size).mono hb3.size)
  have k39 := k38.trans (hk9.toBelow k38.size)
  clear hM8 hX8 hb8 k38 ht8 hg8 hbufg8 y8 hk9
  go_wp2_with fail
  refine (eqIntS_any ag aw S cg cw _ hSl hbufg9.ints (hby0.mono k39)).mono ?_
  rintro e w10 ⟨rfl, hbx⟩
  have hM10 := block_kept hM9 hbx
  have hbufg10 := hbufg9.mono hbx
  have hz510 : w5.heap.size ≤ w10.heap.size := Nat.le_trans hz59 hbx.size
  have hb10 : Below w.heap.size w w10 := hb9.trans (hbx.mono hb9.size)
  have k310 := k39.trans (hbx.mono k39.size)
  clear hM9 hbufg9 hb9 k39 hbx
  go_wp2_with fail
  refine (markIntS_any (w4.heap.size + 1) ag S cg 1 _ hSl (by omega) (by omega) hbufg10).mono ?_
  rintro e w11 ⟨rfl, hbufm, hk11⟩
  have hM11 := hk11.cell hM10 (by simp)
  have z10 := k310.size
  have hBg : w4.heap.size + 1 ≤ w10.heap.size := by
    have h1 := lt_block hM10
    have h2 : w4.heap.size + 1 ≤ w5.heap.size := hq5
    exact Nat.le_trans h2 hz510
  have hbk := hk11.toBelow hBg
  have hb11 : Below w.heap.size w w11 := hb10.trans (hbk.mono (by have := hb3.size; omega))
  have k311 := k310.trans (hbk.mono (by omega))
  clear hM10 hbufg10 hb10 k310 hk11 hbk
  go_wp2_with fail
  refine (heldIntS_any ag S.length cg 1 _ hSl (by omega) (by omega) hbufm.ints).mono ?_
  rintro e w12 ⟨rfl, hbx⟩
  have hM12 := block_kept hM11 hbx
  have hbufm12 := hbufm.mono hbx
  have hb12 : Below w.heap.size w w12 := hb11.trans (hbx.mono hb11.size)
  have k312 := k311.trans (hbx.mono k311.size)
  have x12 := block_cell hM12
  clear hM11 hbufm hb11 k311 hbx
  go_wp2_with fail
  refine (toModule_any a a2 ts fs cap cap2 _ hs (hm.mono hb12) (hm2.mono hb12)).mono ?_
  rintro e w13 ⟨q, q2, -, -, rfl, hst, hfn, hbx⟩
  have hbufm13 := hbufm12.mono hbx
  have hb13 : Below w.heap.size w w13 := hb12.trans (hbx.mono hb12.size)
  have k313 := k312.trans (hbx.mono k312.size)
  clear hM12 hbufm12 hb12 k312 hbx x12
  go_wp2_with fail
  refine (iHeads_any _ _ _ _ ts fs f _ hs (hst.low (Nat.zero_le _)) (hfn.low (Nat.zero_le _)) (hDB.mono hb13)).mono ?_
  rintro e w14 ⟨vh, Sh, rfl, hSh, hbufh, hbx⟩
  obtain rfl := hS0.one hSh
  obtain ⟨ah, ch, rfl, -⟩ := hbufh.form
  have hbufm14 := hbufm13.mono hbx
  have hb14 : Below w.heap.size w w14 := hb13.trans (hbx.mono hb13.size)
  have k314 := k313.trans (hbx.mono k313.size)
  clear hbufm13 hb13 k313 hbx hst hfn
  go_wp2_with fail
  refine (eqIntS_any ah aw S ch cw _ hSl hbufh.ints (hby0.mono k314)).mono ?_
  rintro e w15 ⟨rfl, hbx⟩
  have hbufm15 := hbufm14.mono hbx
  have hb15 : Below w.heap.size w w15 := hb14.trans (hbx.mono hb14.size)
  clear hbufm14 hb14 k314 hbx hbufh
  go_wp2_with fail
  refine (heldIntS_any ag S.length cg 1 _ hSl (by omega) (by omega) hbufm15.ints).mono ?_
  rintro e w16 ⟨rfl, hbx⟩
  go_wp2
  go_ret
  exact ⟨rfl, hb15.trans (hbx.mono hb15.size)⟩
end Go.Proofs.YtenmbdegaldngaaDoor
