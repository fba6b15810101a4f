/-
  The sizes of lists of code.
-/
import Derived.Test.YtopbdjplpnojmaaKF
namespace Go.Proofs.Ytopbdjplpnojmaa
open Go.RowKit

set_option maxRecDepth 100000 in
set_option maxHeartbeats 1000000 in
theorem szFastE_m (x : FastD) (a0 : Option Addr) (c0 : Nat) (a1 : Option Addr) (c1 : Nat) (left : Int) (w : World) (h0 : 0 ≤ left) (h1 : left ≤ 1048576) (hx : FastDMax x) (p0 : FosAt w 0 a0 x.ops) (p1 : ExsAt w 0 a1 x.exits) :
    Calls Try.prog 35 #[.agg #[.int .i64 x.fn, .int .i64 x.entry, .int .i64 x.vals, .int .i64 x.nums, .slice a0 x.ops.length c0, .slice a1 x.exits.length c1], .int .i64 left] w fun e w' => ∃ r : Int, e = .returned (.int .i64 r) ∧ r ≤ left ∧ (0 ≤ r → FastDSmall x ∧ (mFast x : Int) + r ≤ left) ∧ Below w.heap.size w w' := by
  have hbA : Below w.heap.size w (w.alloc (.cells #[.int .i64 x.fn, .int .i64 x.entry, .int .i64 x.vals, .int .i64 x.nums, .slice a0 x.ops.length c0, .slice a1 x.exits.length c1] 83)) := (Below.refl _ _).alloc (Nat.le_refl _) _
  have hM0 := block_new w #[.int .i64 x.fn, .int .i64 x.entry, .int .i64 x.vals, .int .i64 x.nums, .slice a0 x.ops.length c0, .slice a1 x.exits.length c1] 83
  go_enter Try.func35, Try.ntmps35
  go_wp2_with fail
  refine (szFOpS_m a0 x.ops c0 left _ h0 h1 hx.1 (p0.mono hbA)).mono ?_
  rintro e w1 ⟨r0, rfl, hr0, hs0, hb0⟩
  have hB0 := hbA.trans (hb0.mono hbA.size)
  have hM1 := block_kept hM0 hb0
  by_cases hn0 : r0 < 0
  · clear hs0
    go_wp2
    go_ret
    exact ⟨-1, rfl, by omega, by omega, hB0⟩
  obtain ⟨hz0, ha0⟩ := hs0 (by omega)
  have HA0 : Hid ((LM mFo x.ops : Int) + r0 ≤ left) := ha0
  clear hs0 ha0
  have y1 := block_cell hM1
  go_wp2_with fail
  refine (szExitS_m a1 x.exits c1 r0 _ (by omega) (by omega) hx.2 (p1.mono hB0)).mono ?_
  rintro e w2 ⟨r1, rfl, hr1, hs1, hb1⟩
  have hB1 := hB0.trans (hb1.mono hB0.size)
  have hM2 := block_kept hM1 hb1
  clear y1
  by_cases hn1 : r1 < 0
  · clear hs1 HA0
    go_wp2
    go_ret
    exact ⟨-1, rfl, by omega, by omega, hB1⟩
  obtain ⟨hz1, ha1⟩ := hs1 (by omega)
  have HA1 : Hid ((LM mEx x.exits : Int) + r1 ≤ r0) := ha1
  clear hs1 ha1
  go_wp2
  go_ret
  exact ⟨_, rfl, by omega, fun _ => ⟨⟨hz0, hz1⟩, by show ((LM mFo x.ops + LM mEx x.exits : Nat) : Int) + _ ≤ _; have a0_ := HA0.out; have a1_ := HA1.out;  omega⟩, hB1⟩

set_option maxRecDepth 100000 in
set_option maxHeartbeats 1000000 in
theorem szFastS_m (a : Option Addr) (xs : List FastD) (cap : Nat) (left : Int) (w : World) (h0 : 0 ≤ left) (h1 : left ≤ 1048576) (hx : LMax FastDMax xs) (hm : FasAt w 0 a xs) :
    Calls Try.prog 15 #[.slice a xs.length cap, .int .i64 left] w fun e w' => ∃ r : Int, e = .returned (.int .i64 r) ∧ r ≤ left ∧ (0 ≤ r → LSmall FastDSmall xs ∧ (LM mFast xs : Int) + r ≤ left) ∧ Below w.heap.size w w' := by
  obtain ⟨hn, hc⟩ := hx
  unfold maxLen at hn
  by_cases h : left < xs.length
  · go_enter Try.func15, Try.ntmps15
    go_wp2
    go_ret
    exact ⟨-1, rfl, by omega, by omega, Below.refl _ _⟩
  · go_enter Try.func15, Try.ntmps15
    go_wp2
    go_loopw [1, 5] (fun l i wr => ∃ (k : Nat) (q : Int), k ≤ xs.length ∧ i = .int .i64 k ∧ l = .int .i64 q ∧ 0 ≤ q ∧ q ≤ left - xs.length ∧ Hid ((sumBy mFast (xs.take k) : Int) + q ≤ left - xs.length) ∧ Hid (∀ f ∈ xs.take k, FastDSmall f) ∧ Below w.heap.size w wr) (fun _ i _ => xs.length - (intOf i).toNat)
    case atStart => exact ⟨0, _, by omega, rfl, rfl, by omega, by omega, by show ((0 : Nat) : Int) + _ ≤ _; omega, by intro f hf; simp at hf, Below.refl _ _⟩
    case round =>
      obtain ⟨k, q, hk, rfl, rfl, hq0, hq1, HQ, hall, hb⟩ := hrel
      by_cases hlt : k < xs.length
      · obtain ⟨b, off, a0, c0, a1, c1, rfl, -, d0, d1, d2, d3, d4, d5, p0, p1⟩ := hm k hlt
        have e0 := cell_later hb d0
        have e1 := cell_later hb d1
        have e2 := cell_later hb d2
        have e3 := cell_later hb d3
        have e4 := cell_later hb d4
        have e5 := cell_later hb d5
        clear d0 d1 d2 d3 d4 d5
        have hck := hc xs[k] (List.getElem_mem hlt)
        go_wp2_with fail
        refine (szFastE_m xs[k] _ _ _ _ _ _ hq0 (by omega) hck (p0.mono hb) (p1.mono hb)).mono ?_
        rintro e w2 ⟨r, rfl, hr, hs, hb'⟩
        have hB := hb.trans (hb'.mono hb.size)
        clear hb' e0 e1 e2 e3 e4 e5
        by_cases hr0 : r < 0
        · clear hs
          go_wp2
          go_ret
          exact ⟨-1, rfl, by omega, by omega, hB⟩
        · have HS := hs (by omega)
          have HS2 : Hid (FastDSmall xs[k] ∧ (mFast xs[k] : Int) + r ≤ q) := HS
          clear hs HS
          go_wp2
          go_roundw
          case rel => exact ⟨k + 1, r, by omega, by go_num, rfl, by omega, by omega, by show _ ≤ _; rw [sumBy_take _ _ _ hlt]; have a1 := HQ.out; have a2 := HS2.out.2; push_cast; omega, take_succ_mem hlt hall.out HS2.out.1, hB⟩
          case measure => simp [intOf]; omega
      · have hkn : k = xs.length := by omega
        have HQ2 : Hid ((sumBy mFast xs : Int) + q ≤ left - xs.length) := by have := HQ.out; rwa [hkn, sumBy_all] at this
        clear HQ
        go_wp2
        go_ret
        exact ⟨q, rfl, by omega, fun _ => ⟨⟨by omega, by have := hall.out; rwa [List.take_of_length_le (by omega)] at this⟩, by have := HQ2.out; show ((xs.length + sumBy mFast xs : Nat) : Int) + _ ≤ _; push_cast; omega⟩, hb⟩

end Go.Proofs.Ytopbdjplpnojmaa
