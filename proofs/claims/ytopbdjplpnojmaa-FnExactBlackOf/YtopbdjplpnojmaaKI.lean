/-
  Lists of code compared.
-/
import Derived.Test.YtopbdjplpnojmaaKF
import Derived.Test.YtopbdjplpnojmaaK5
namespace Go.Proofs.Ytopbdjplpnojmaa
open Go.RowKit

set_option maxRecDepth 100000 in
set_option maxHeartbeats 2000000 in
theorem eqFastE_any (x : FastD) (a0 b0 : Option Addr) (c0 e0 : Nat) (a1 b1 : Option Addr) (c1 e1 : Nat) (w : World) (hn0 : LSmall FoSmall x.ops) (p0 : FosAt w 0 a0 x.ops) (q0 : FosAt w 0 b0 x.ops) (hn1 : LSmall ExSmall x.exits) (p1 : ExsAt w 0 a1 x.exits) (q1 : ExsAt w 0 b1 x.exits) :
    Calls Try.prog 49 #[.agg #[.int .i64 x.fn, .int .i64 x.entry, .int .i64 x.vals, .int .i64 x.nums, .slice a0 x.ops.length c0, .slice a1 x.exits.length c1], .agg #[.int .i64 x.fn, .int .i64 x.entry, .int .i64 x.vals, .int .i64 x.nums, .slice b0 x.ops.length e0, .slice b1 x.exits.length e1]] w fun e w' => e = .returned (.bool true) ∧ Below w.heap.size w w' := by
  have hbA : Below w.heap.size w ((w.alloc (.cells #[.int .i64 x.fn, .int .i64 x.entry, .int .i64 x.vals, .int .i64 x.nums, .slice a0 x.ops.length c0, .slice a1 x.exits.length c1] 95)).alloc (.cells #[.int .i64 x.fn, .int .i64 x.entry, .int .i64 x.vals, .int .i64 x.nums, .slice b0 x.ops.length e0, .slice b1 x.exits.length e1] 95)) := ((Below.refl _ _).alloc (Nat.le_refl _) _).alloc (by simp) _
  have hX0 := block_old (block_new w #[.int .i64 x.fn, .int .i64 x.entry, .int .i64 x.vals, .int .i64 x.nums, .slice a0 x.ops.length c0, .slice a1 x.exits.length c1] 95) (.cells #[.int .i64 x.fn, .int .i64 x.entry, .int .i64 x.vals, .int .i64 x.nums, .slice b0 x.ops.length e0, .slice b1 x.exits.length e1] 95)
  have hY0 := block_new (w.alloc (.cells #[.int .i64 x.fn, .int .i64 x.entry, .int .i64 x.vals, .int .i64 x.nums, .slice a0 x.ops.length c0, .slice a1 x.exits.length c1] 95)) #[.int .i64 x.fn, .int .i64 x.entry, .int .i64 x.vals, .int .i64 x.nums, .slice b0 x.ops.length e0, .slice b1 x.exits.length e1] 95
  simp only [World.size_alloc] at hY0
  go_enter Try.func49, Try.ntmps49
  go_wp2_with fail
  refine (eqFOpS_any _ _ x.ops _ _ _ hn0 (p0.mono hbA) (q0.mono hbA)).mono ?_
  rintro e w1 ⟨rfl, hb⟩
  have hB1 := hbA.trans (hb.mono hbA.size)
  have hX1 := block_kept hX0 hb
  have hY1 := block_kept hY0 hb
  clear hb
  have x1 := block_cell hX1
  have y1 := block_cell hY1
  go_wp2_with fail
  refine (eqExitS_any _ _ x.exits _ _ _ hn1 (p1.mono hB1) (q1.mono hB1)).mono ?_
  rintro e w2 ⟨rfl, hb⟩
  have hB2 := hB1.trans (hb.mono hB1.size)
  have hX2 := block_kept hX1 hb
  have hY2 := block_kept hY1 hb
  clear x1 y1 hb
  have x2 := block_cell hX2
  have y2 := block_cell hY2
  go_wp2
  go_ret
  exact ⟨rfl, hB2⟩

set_option maxRecDepth 100000 in
set_option maxHeartbeats 2000000 in
theorem eqFastS_any (a a' : Option Addr) (xs : List FastD) (cap cap2 : Nat) (w : World) (hx : LSmall FastDSmall xs) (hm : FasAt w 0 a xs) (hm2 : FasAt w 0 a' xs) :
    Calls Try.prog 25 #[.slice a xs.length cap, .slice a' xs.length cap2] w fun e w' => e = .returned (.bool true) ∧ Below w.heap.size w w' := by
  obtain ⟨hn, hc⟩ := hx
  go_enter Try.func25, Try.ntmps25
  go_wp2
  go_loopw [5] (fun i wr => ∃ (k : Nat), k ≤ xs.length ∧ i = .int .i64 k ∧ Below w.heap.size w wr) (fun i _ => xs.length - (intOf i).toNat)
  case atStart => exact ⟨0, by omega, rfl, Below.refl _ _⟩
  case round =>
    obtain ⟨k, hk, rfl, hb⟩ := hrel
    by_cases hlt : k < xs.length
    · obtain ⟨b, off, a0, c0, a1, c1, rfl, -, d0, d1, d2, d3, d4, d5, p0, p1⟩ := hm k hlt
      obtain ⟨b', off', b0, e0, b1, e1, rfl, -, k0, k1, k2, k3, k4, k5, q0, q1⟩ := hm2 k hlt
      have d0' := cell_later hb d0
      have k0' := cell_later hb k0
      have d1' := cell_later hb d1
      have k1' := cell_later hb k1
      have d2' := cell_later hb d2
      have k2' := cell_later hb k2
      have d3' := cell_later hb d3
      have k3' := cell_later hb k3
      have d4' := cell_later hb d4
      have k4' := cell_later hb k4
      have d5' := cell_later hb d5
      have k5' := cell_later hb k5
      have hc0 := (hc xs[k] (List.getElem_mem hlt)).1
      have hc1 := (hc xs[k] (List.getElem_mem hlt)).2
      clear d0 k0 d1 k1 d2 k2 d3 k3 d4 k4 d5 k5
      go_wp2
      go_region_with (go_at_call 49; refine (eqFastE_any xs[k] _ _ _ _ _ _ _ _ _ hc0 (by exact p0.mono (by repeat (first | exact hb | apply Below.drew))) (by exact q0.mono (by repeat (first | exact hb | apply Below.drew))) hc1 (by exact p1.mono (by repeat (first | exact hb | apply Below.drew))) (by exact q1.mono (by repeat (first | exact hb | apply Below.drew)))).mono ?_; rintro e w1 ⟨rfl, hb1⟩)
      all_goals
        go_wp2
        go_roundw
        case rel =>
          refine ⟨k + 1, by omega, by go_num, Below.trans ?_ (hb1.mono ?_)⟩
          · repeat (first | exact hb | apply Below.drew)
          · exact hb.size
        case measure => simp [intOf]; omega
    · go_wp2
      go_ret
      exact ⟨rfl, hb⟩

end Go.Proofs.Ytopbdjplpnojmaa
