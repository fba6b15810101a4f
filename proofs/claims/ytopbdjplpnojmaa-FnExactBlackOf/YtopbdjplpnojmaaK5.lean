/-
  The comparing functions of the laws return true of lists of ops, sources, frames, records and exits, and of code that read as the same data.
-/
import Derived.Test.YtopbdjplpnojmaaK3
import Derived.Test.YtopbdjplpnojmaaW3
import Derived.Test.YtopbdjplpnojmaaM5
namespace Go.Proofs.Ytopbdjplpnojmaa
open Go.RowKit

set_option maxRecDepth 100000 in
set_option maxHeartbeats 2000000 in
theorem eqSrc_any (x : Sr) (w : World) :
    Calls Try.prog 100 #[.agg #[.int .i64 x.k, .int .i64 x.n, .int .i64 x.v.k, .int .i64 x.v.n, .string x.v.s], .agg #[.int .i64 x.k, .int .i64 x.n, .int .i64 x.v.k, .int .i64 x.v.n, .string x.v.s]] w fun e w' => e = .returned (.bool true) ∧ Below w.heap.size w w' := by
  have hbA : Below w.heap.size w ((w.alloc (.cells #[.int .i64 x.k, .int .i64 x.n, .int .i64 x.v.k, .int .i64 x.v.n, .string x.v.s] 174)).alloc (.cells #[.int .i64 x.k, .int .i64 x.n, .int .i64 x.v.k, .int .i64 x.v.n, .string x.v.s] 174)) := ((Below.refl _ _).alloc (Nat.le_refl _) _).alloc (by simp) _
  have hX0 := block_old (block_new w #[.int .i64 x.k, .int .i64 x.n, .int .i64 x.v.k, .int .i64 x.v.n, .string x.v.s] 174) (.cells #[.int .i64 x.k, .int .i64 x.n, .int .i64 x.v.k, .int .i64 x.v.n, .string x.v.s] 174)
  have hY0 := block_new (w.alloc (.cells #[.int .i64 x.k, .int .i64 x.n, .int .i64 x.v.k, .int .i64 x.v.n, .string x.v.s] 174)) #[.int .i64 x.k, .int .i64 x.n, .int .i64 x.v.k, .int .i64 x.v.n, .string x.v.s] 174
  simp only [World.size_alloc] at hY0
  go_enter Try.func100, Try.ntmps100
  go_wp2_with fail
  refine (eqValue_same _ _ _ _).mono ?_
  rintro e w1 ⟨rfl, hb⟩
  have hB1 := hbA.trans (hb.mono hbA.size)
  have hX1 := block_kept hX0 hb
  have hY1 := block_kept hY0 hb
  clear hb
  have x1 := block_cell hX1
  have y1 := block_cell hY1
  go_wp2
  go_ret
  exact ⟨rfl, hB1⟩

set_option maxRecDepth 100000 in
set_option maxHeartbeats 2000000 in
theorem eqSrcS_any (a a' : Option Addr) (xs : List Sr) (cap cap2 : Nat) (w : World) (hx : LSmall SrSmall xs) (hm : SrsAt w 0 a xs) (hm2 : SrsAt w 0 a' xs) :
    Calls Try.prog 97 #[.slice a xs.length cap, .slice a' xs.length cap2] w fun e w' => e = .returned (.bool true) ∧ Below w.heap.size w w' := by
  obtain ⟨hn, hc⟩ := hx
  go_enter Try.func97, Try.ntmps97
  go_wp2
  go_loopw [5] (fun i wr => ∃ (k : Nat), k ≤ xs.length ∧ i = .int .i64 k ∧ Below w.heap.size w wr) (fun i _ => xs.length - (intOf i).toNat)
  case atStart => exact ⟨0, by omega, rfl, Below.refl _ _⟩
  case round =>
    obtain ⟨k, hk, rfl, hb⟩ := hrel
    by_cases hlt : k < xs.length
    · obtain ⟨b, off, rfl, -, d0, d1, d2, d3, d4⟩ := hm k hlt
      obtain ⟨b', off', rfl, -, k0, k1, k2, k3, k4⟩ := hm2 k hlt
      have d0' := cell_later hb d0
      have k0' := cell_later hb k0
      have d1' := cell_later hb d1
      have k1' := cell_later hb k1
      have d2' := cell_later hb d2
      have k2' := cell_later hb k2
      have d3' := cell_later hb d3
      have k3' := cell_later hb k3
      have d4' := cell_later hb d4
      have k4' := cell_later hb k4
      clear d0 k0 d1 k1 d2 k2 d3 k3 d4 k4
      go_wp2
      go_region_with (go_at_call 100; refine (eqSrc_any xs[k] _).mono ?_; rintro e w1 ⟨rfl, hb1⟩)
      all_goals
        go_wp2
        go_roundw
        case rel =>
          refine ⟨k + 1, by omega, by go_num, Below.trans ?_ (hb1.mono ?_)⟩
          · repeat (first | exact hb | apply Below.drew)
          · exact hb.size
        case measure => simp [intOf]; omega
    · go_wp2
      go_ret
      exact ⟨rfl, hb⟩

set_option maxRecDepth 100000 in
set_option maxHeartbeats 2000000 in
theorem eqExFrame_any (x : EF) (a0 b0 : Option Addr) (c0 e0 : Nat) (a1 b1 : Option Addr) (c1 e1 : Nat) (w : World) (hn0 : LSmall SrSmall x.locals) (p0 : SrsAt w 0 a0 x.locals) (q0 : SrsAt w 0 b0 x.locals) (hn1 : LSmall SrSmall x.stack) (p1 : SrsAt w 0 a1 x.stack) (q1 : SrsAt w 0 b1 x.stack) :
    Calls Try.prog 93 #[.agg #[.int .i64 x.fn, .int .i64 x.pc, .slice a0 x.locals.length c0, .slice a1 x.stack.length c1], .agg #[.int .i64 x.fn, .int .i64 x.pc, .slice b0 x.locals.length e0, .slice b1 x.stack.length e1]] w fun e w' => e = .returned (.bool true) ∧ Below w.heap.size w w' := by
  have hbA : Below w.heap.size w ((w.alloc (.cells #[.int .i64 x.fn, .int .i64 x.pc, .slice a0 x.locals.length c0, .slice a1 x.stack.length c1] 162)).alloc (.cells #[.int .i64 x.fn, .int .i64 x.pc, .slice b0 x.locals.length e0, .slice b1 x.stack.length e1] 162)) := ((Below.refl _ _).alloc (Nat.le_refl _) _).alloc (by simp) _
  have hX0 := block_old (block_new w #[.int .i64 x.fn, .int .i64 x.pc, .slice a0 x.locals.length c0, .slice a1 x.stack.length c1] 162) (.cells #[.int .i64 x.fn, .int .i64 x.pc, .slice b0 x.locals.length e0, .slice b1 x.stack.length e1] 162)
  have hY0 := block_new (w.alloc (.cells #[.int .i64 x.fn, .int .i64 x.pc, .slice a0 x.locals.length c0, .slice a1 x.stack.length c1] 162)) #[.int .i64 x.fn, .int .i64 x.pc, .slice b0 x.locals.length e0, .slice b1 x.stack.length e1] 162
  simp only [World.size_alloc] at hY0
  go_enter Try.func93, Try.ntmps93
  go_wp2_with fail
  refine (eqSrcS_any _ _ x.locals _ _ _ hn0 (p0.mono hbA) (q0.mono hbA)).mono ?_
  rintro e w1 ⟨rfl, hb⟩
  have hB1 := hbA.trans (hb.mono hbA.size)
  have hX1 := block_kept hX0 hb
  have hY1 := block_kept hY0 hb
  clear hb
  have x1 := block_cell hX1
  have y1 := block_cell hY1
  go_wp2_with fail
  refine (eqSrcS_any _ _ x.stack _ _ _ hn1 (p1.mono hB1) (q1.mono hB1)).mono ?_
  rintro e w2 ⟨rfl, hb⟩
  have hB2 := hB1.trans (hb.mono hB1.size)
  have hX2 := block_kept hX1 hb
  have hY2 := block_kept hY1 hb
  clear x1 y1 hb
  have x2 := block_cell hX2
  have y2 := block_cell hY2
  go_wp2
  go_ret
  exact ⟨rfl, hB2⟩

set_option maxRecDepth 100000 in
set_option maxHeartbeats 2000000 in
theorem eqExFrameS_any (a a' : Option Addr) (xs : List EF) (cap cap2 : Nat) (w : World) (hx : LSmall EFSmall xs) (hm : EFsAt w 0 a xs) (hm2 : EFsAt w 0 a' xs) :
    Calls Try.prog 87 #[.slice a xs.length cap, .slice a' xs.length cap2] w fun e w' => e = .returned (.bool true) ∧ Below w.heap.size w w' := by
  obtain ⟨hn, hc⟩ := hx
  go_enter Try.func87, Try.ntmps87
  go_wp2
  go_loopw [5] (fun i wr => ∃ (k : Nat), k ≤ xs.length ∧ i = .int .i64 k ∧ Below w.heap.size w wr) (fun i _ => xs.length - (intOf i).toNat)
  case atStart => exact ⟨0, by omega, rfl, Below.refl _ _⟩
  case round =>
    obtain ⟨k, hk, rfl, hb⟩ := hrel
    by_cases hlt : k < xs.length
    · obtain ⟨b, off, a0, c0, a1, c1, rfl, -, d0, d1, d2, d3, p0, p1⟩ := hm k hlt
      obtain ⟨b', off', b0, e0, b1, e1, rfl, -, k0, k1, k2, k3, q0, q1⟩ := hm2 k hlt
      have d0' := cell_later hb d0
      have k0' := cell_later hb k0
      have d1' := cell_later hb d1
      have k1' := cell_later hb k1
      have d2' := cell_later hb d2
      have k2' := cell_later hb k2
      have d3' := cell_later hb d3
      have k3' := cell_later hb k3
      have hc0 := (hc xs[k] (List.getElem_mem hlt)).1
      have hc1 := (hc xs[k] (List.getElem_mem hlt)).2
      clear d0 k0 d1 k1 d2 k2 d3 k3
      go_wp2
      go_region_with (go_at_call 93; refine (eqExFrame_any xs[k] _ _ _ _ _ _ _ _ _ hc0 (by exact p0.mono (by repeat (first | exact hb | apply Below.drew))) (by exact q0.mono (by repeat (first | exact hb | apply Below.drew))) hc1 (by exact p1.mono (by repeat (first | exact hb | apply Below.drew))) (by exact q1.mono (by repeat (first | exact hb | apply Below.drew)))).mono ?_; rintro e w1 ⟨rfl, hb1⟩)
      all_goals
        go_wp2
        go_roundw
        case rel =>
          refine ⟨k + 1, by omega, by go_num, Below.trans ?_ (hb1.mono ?_)⟩
          · repeat (first | exact hb | apply Below.drew)
          · exact hb.size
        case measure => simp [intOf]; omega
    · go_wp2
      go_ret
      exact ⟨rfl, hb⟩

set_option maxRecDepth 100000 in
set_option maxHeartbeats 2000000 in
theorem eqExRec_any (x : ER) (a0 b0 : Option Addr) (c0 e0 : Nat) (w : World) (hn0 : LSmall SrSmall x.fields) (p0 : SrsAt w 0 a0 x.fields) (q0 : SrsAt w 0 b0 x.fields) :
    Calls Try.prog 94 #[.agg #[.slice a0 x.fields.length c0], .agg #[.slice b0 x.fields.length e0]] w fun e w' => e = .returned (.bool true) ∧ Below w.heap.size w w' := by
  have hbA : Below w.heap.size w ((w.alloc (.cells #[.slice a0 x.fields.length c0] 165)).alloc (.cells #[.slice b0 x.fields.length e0] 165)) := ((Below.refl _ _).alloc (Nat.le_refl _) _).alloc (by simp) _
  have hX0 := block_old (block_new w #[.slice a0 x.fields.length c0] 165) (.cells #[.slice b0 x.fields.length e0] 165)
  have hY0 := block_new (w.alloc (.cells #[.slice a0 x.fields.length c0] 165)) #[.slice b0 x.fields.length e0] 165
  simp only [World.size_alloc] at hY0
  go_enter Try.func94, Try.ntmps94
  go_wp2_with fail
  refine (eqSrcS_any _ _ x.fields _ _ _ hn0 (p0.mono hbA) (q0.mono hbA)).mono ?_
  rintro e w1 ⟨rfl, hb⟩
  have hB1 := hbA.trans (hb.mono hbA.size)
  have hX1 := block_kept hX0 hb
  have hY1 := block_kept hY0 hb
  clear hb
  have x1 := block_cell hX1
  have y1 := block_cell hY1
  go_wp2
  go_ret
  exact ⟨rfl, hB1⟩

set_option maxRecDepth 100000 in
set_option maxHeartbeats 2000000 in
theorem eqExRecS_any (a a' : Option Addr) (xs : List ER) (cap cap2 : Nat) (w : World) (hx : LSmall ERSmall xs) (hm : ERsAt w 0 a xs) (hm2 : ERsAt w 0 a' xs) :
    Calls Try.prog 88 #[.slice a xs.length cap, .slice a' xs.length cap2] w fun e w' => e = .returned (.bool true) ∧ Below w.heap.size w w' := by
  obtain ⟨hn, hc⟩ := hx
  go_enter Try.func88, Try.ntmps88
  go_wp2
  go_loopw [5] (fun i wr => ∃ (k : Nat), k ≤ xs.length ∧ i = .int .i64 k ∧ Below w.heap.size w wr) (fun i _ => xs.length - (intOf i).toNat)
  case atStart => exact ⟨0, by omega, rfl, Below.refl _ _⟩
  case round =>
    obtain ⟨k, hk, rfl, hb⟩ := hrel
    by_cases hlt : k < xs.length
    · obtain ⟨b, off, a0, c0, rfl, -, d0, p0⟩ := hm k hlt
      obtain ⟨b', off', b0, e0, rfl, -, k0, q0⟩ := hm2 k hlt
      have d0' := cell_later hb d0
      have k0' := cell_later hb k0
      have hc0 := (hc xs[k] (List.getElem_mem hlt))
      clear d0 k0
      go_wp2
      go_region_with (go_at_call 94; refine (eqExRec_any xs[k] _ _ _ _ _ hc0 (by exact p0.mono (by repeat (first | exact hb | apply Below.drew))) (by exact q0.mono (by repeat (first | exact hb | apply Below.drew)))).mono ?_; rintro e w1 ⟨rfl, hb1⟩)
      all_goals
        go_wp2
        go_roundw
        case rel =>
          refine ⟨k + 1, by omega, by go_num, Below.trans ?_ (hb1.mono ?_)⟩
          · repeat (first | exact hb | apply Below.drew)
          · exact hb.size
        case measure => simp [intOf]; omega
    · go_wp2
      go_ret
      exact ⟨rfl, hb⟩

set_option maxRecDepth 100000 in
set_option maxHeartbeats 2000000 in
theorem eqExit_any (x : Ex) (a0 b0 : Option Addr) (c0 e0 : Nat) (a1 b1 : Option Addr) (c1 e1 : Nat) (w : World) (hn0 : LSmall EFSmall x.frames) (p0 : EFsAt w 0 a0 x.frames) (q0 : EFsAt w 0 b0 x.frames) (hn1 : LSmall ERSmall x.recs) (p1 : ERsAt w 0 a1 x.recs) (q1 : ERsAt w 0 b1 x.recs) :
    Calls Try.prog 80 #[.agg #[.int .i64 x.kind, .int .i64 x.spec.f, .int .i64 x.spec.pc, .int .i64 x.spec.seen, .int .i64 x.spec.target, .slice a0 x.frames.length c0, .slice a1 x.recs.length c1], .agg #[.int .i64 x.kind, .int .i64 x.spec.f, .int .i64 x.spec.pc, .int .i64 x.spec.seen, .int .i64 x.spec.target, .slice b0 x.frames.length e0, .slice b1 x.recs.length e1]] w fun e w' => e = .returned (.bool true) ∧ Below w.heap.size w w' := by
  have hbA : Below w.heap.size w ((w.alloc (.cells #[.int .i64 x.kind, .int .i64 x.spec.f, .int .i64 x.spec.pc, .int .i64 x.spec.seen, .int .i64 x.spec.target, .slice a0 x.frames.length c0, .slice a1 x.recs.length c1] 140)).alloc (.cells #[.int .i64 x.kind, .int .i64 x.spec.f, .int .i64 x.spec.pc, .int .i64 x.spec.seen, .int .i64 x.spec.target, .slice b0 x.frames.length e0, .slice b1 x.recs.length e1] 140)) := ((Below.refl _ _).alloc (Nat.le_refl _) _).alloc (by simp) _
  have hX0 := block_old (block_new w #[.int .i64 x.kind, .int .i64 x.spec.f, .int .i64 x.spec.pc, .int .i64 x.spec.seen, .int .i64 x.spec.target, .slice a0 x.frames.length c0, .slice a1 x.recs.length c1] 140) (.cells #[.int .i64 x.kind, .int .i64 x.spec.f, .int .i64 x.spec.pc, .int .i64 x.spec.seen, .int .i64 x.spec.target, .slice b0 x.frames.length e0, .slice b1 x.recs.length e1] 140)
  have hY0 := block_new (w.alloc (.cells #[.int .i64 x.kind, .int .i64 x.spec.f, .int .i64 x.spec.pc, .int .i64 x.spec.seen, .int .i64 x.spec.target, .slice a0 x.frames.length c0, .slice a1 x.recs.length c1] 140)) #[.int .i64 x.kind, .int .i64 x.spec.f, .int .i64 x.spec.pc, .int .i64 x.spec.seen, .int .i64 x.spec.target, .slice b0 x.frames.length e0, .slice b1 x.recs.length e1] 140
  simp only [World.size_alloc] at hY0
  go_enter Try.func80, Try.ntmps80
  go_wp2_with fail
  refine (eqSpec_same _ _ _ _ _).mono ?_
  rintro e w1 ⟨rfl, hb⟩
  have hB1 := hbA.trans (hb.mono hbA.size)
  have hX1 := block_kept hX0 hb
  have hY1 := block_kept hY0 hb
  clear hb
  have x1 := block_cell hX1
  have y1 := block_cell hY1
  go_wp2_with fail
  refine (eqExFrameS_any _ _ x.frames _ _ _ hn0 (p0.mono hB1) (q0.mono hB1)).mono ?_
  rintro e w2 ⟨rfl, hb⟩
  have hB2 := hB1.trans (hb.mono hB1.size)
  have hX2 := block_kept hX1 hb
  have hY2 := block_kept hY1 hb
  clear x1 y1 hb
  have x2 := block_cell hX2
  have y2 := block_cell hY2
  go_wp2_with fail
  refine (eqExRecS_any _ _ x.recs _ _ _ hn1 (p1.mono hB2) (q1.mono hB2)).mono ?_
  rintro e w3 ⟨rfl, hb⟩
  have hB3 := hB2.trans (hb.mono hB2.size)
  have hX3 := block_kept hX2 hb
  have hY3 := block_kept hY2 hb
  clear x2 y2 hb
  have x3 := block_cell hX3
  have y3 := block_cell hY3
  go_wp2
  go_ret
  exact ⟨rfl, hB3⟩

set_option maxRecDepth 100000 in
set_option maxHeartbeats 2000000 in
theorem eqExitS_any (a a' : Option Addr) (xs : List Ex) (cap cap2 : Nat) (w : World) (hx : LSmall ExSmall xs) (hm : ExsAt w 0 a xs) (hm2 : ExsAt w 0 a' xs) :
    Calls Try.prog 67 #[.slice a xs.length cap, .slice a' xs.length cap2] w fun e w' => e = .returned (.bool true) ∧ Below w.heap.size w w' := by
  obtain ⟨hn, hc⟩ := hx
  go_enter Try.func67, Try.ntmps67
  go_wp2
  go_loopw [5] (fun i wr => ∃ (k : Nat), k ≤ xs.length ∧ i = .int .i64 k ∧ Below w.heap.size w wr) (fun i _ => xs.length - (intOf i).toNat)
  case atStart => exact ⟨0, by omega, rfl, Below.refl _ _⟩
  case round =>
    obtain ⟨k, hk, rfl, hb⟩ := hrel
    by_cases hlt : k < xs.length
    · obtain ⟨b, off, a0, c0, a1, c1, rfl, -, d0, d1, d2, d3, d4, d5, d6, p0, p1⟩ := hm k hlt
      obtain ⟨b', off', b0, e0, b1, e1, rfl, -, k0, k1, k2, k3, k4, k5, k6, q0, q1⟩ := hm2 k hlt
      have d0' := cell_later hb d0
      have k0' := cell_later hb k0
      have d1' := cell_later hb d1
      have k1' := cell_later hb k1
      have d2' := cell_later hb d2
      have k2' := cell_later hb k2
      have d3' := cell_later hb d3
      have k3' := cell_later hb k3
      have d4' := cell_later hb d4
      have k4' := cell_later hb k4
      have d5' := cell_later hb d5
      have k5' := cell_later hb k5
      have d6' := cell_later hb d6
      have k6' := cell_later hb k6
      have hc0 := (hc xs[k] (List.getElem_mem hlt)).1
      have hc1 := (hc xs[k] (List.getElem_mem hlt)).2
      clear d0 k0 d1 k1 d2 k2 d3 k3 d4 k4 d5 k5 d6 k6
      go_wp2
      go_region_with (go_at_call 80; refine (eqExit_any xs[k] _ _ _ _ _ _ _ _ _ hc0 (by exact p0.mono (by repeat (first | exact hb | apply Below.drew))) (by exact q0.mono (by repeat (first | exact hb | apply Below.drew))) hc1 (by exact p1.mono (by repeat (first | exact hb | apply Below.drew))) (by exact q1.mono (by repeat (first | exact hb | apply Below.drew)))).mono ?_; rintro e w1 ⟨rfl, hb1⟩)
      all_goals
        go_wp2
        go_roundw
        case rel =>
          refine ⟨k + 1, by omega, by go_num, Below.trans ?_ (hb1.mono ?_)⟩
          · repeat (first | exact hb | apply Below.drew)
          · exact hb.size
        case measure => simp [intOf]; omega
    · go_wp2
      go_ret
      exact ⟨rfl, hb⟩

set_option maxRecDepth 100000 in
set_option maxHeartbeats 2000000 in
theorem eqFOp_any (x : Fo) (w : World) :
    Calls Try.prog 79 #[.agg #[.int .i64 x.op, .int .i64 x.d, .int .i64 x.a, .int .i64 x.b, .int .i64 x.x, .int .i64 x.f, .int .i64 x.p, .int .i64 x.v.k, .int .i64 x.v.n, .string x.v.s], .agg #[.int .i64 x.op, .int .i64 x.d, .int .i64 x.a, .int .i64 x.b, .int .i64 x.x, .int .i64 x.f, .int .i64 x.p, .int .i64 x.v.k, .int .i64 x.v.n, .string x.v.s]] w fun e w' => e = .returned (.bool true) ∧ Below w.heap.size w w' := by
  have hbA : Below w.heap.size w ((w.alloc (.cells #[.int .i64 x.op, .int .i64 x.d, .int .i64 x.a, .int .i64 x.b, .int .i64 x.x, .int .i64 x.f, .int .i64 x.p, .int .i64 x.v.k, .int .i64 x.v.n, .string x.v.s] 136)).alloc (.cells #[.int .i64 x.op, .int .i64 x.d, .int .i64 x.a, .int .i64 x.b, .int .i64 x.x, .int .i64 x.f, .int .i64 x.p, .int .i64 x.v.k, .int .i64 x.v.n, .string x.v.s] 136)) := ((Below.refl _ _).alloc (Nat.le_refl _) _).alloc (by simp) _
  have hX0 := block_old (block_new w #[.int .i64 x.op, .int .i64 x.d, .int .i64 x.a, .int .i64 x.b, .int .i64 x.x, .int .i64 x.f, .int .i64 x.p, .int .i64 x.v.k, .int .i64 x.v.n, .string x.v.s] 136) (.cells #[.int .i64 x.op, .int .i64 x.d, .int .i64 x.a, .int .i64 x.b, .int .i64 x.x, .int .i64 x.f, .int .i64 x.p, .int .i64 x.v.k, .int .i64 x.v.n, .string x.v.s] 136)
  have hY0 := block_new (w.alloc (.cells #[.int .i64 x.op, .int .i64 x.d, .int .i64 x.a, .int .i64 x.b, .int .i64 x.x, .int .i64 x.f, .int .i64 x.p, .int .i64 x.v.k, .int .i64 x.v.n, .string x.v.s] 136)) #[.int .i64 x.op, .int .i64 x.d, .int .i64 x.a, .int .i64 x.b, .int .i64 x.x, .int .i64 x.f, .int .i64 x.p, .int .i64 x.v.k, .int .i64 x.v.n, .string x.v.s] 136
  simp only [World.size_alloc] at hY0
  go_enter Try.func79, Try.ntmps79
  go_wp2_with fail
  refine (eqValue_same _ _ _ _).mono ?_
  rintro e w1 ⟨rfl, hb⟩
  have hB1 := hbA.trans (hb.mono hbA.size)
  have hX1 := block_kept hX0 hb
  have hY1 := block_kept hY0 hb
  clear hb
  have x1 := block_cell hX1
  have y1 := block_cell hY1
  go_wp2
  go_ret
  exact ⟨rfl, hB1⟩

set_option maxRecDepth 100000 in
set_option maxHeartbeats 2000000 in
theorem eqFOpS_any (a a' : Option Addr) (xs : List Fo) (cap cap2 : Nat) (w : World) (hx : LSmall FoSmall xs) (hm : FosAt w 0 a xs) (hm2 : FosAt w 0 a' xs) :
    Calls Try.prog 66 #[.slice a xs.length cap, .slice a' xs.length cap2] w fun e w' => e = .returned (.bool true) ∧ Below w.heap.size w w' := by
  obtain ⟨hn, hc⟩ := hx
  go_enter Try.func66, Try.ntmps66
  go_wp2
  go_loopw [5] (fun i wr => ∃ (k : Nat), k ≤ xs.length ∧ i = .int .i64 k ∧ Below w.heap.size w wr) (fun i _ => xs.length - (intOf i).toNat)
  case atStart => exact ⟨0, by omega, rfl, Below.refl _ _⟩
  case round =>
    obtain ⟨k, hk, rfl, hb⟩ := hrel
    by_cases hlt : k < xs.length
    · obtain ⟨b, off, rfl, -, d0, d1, d2, d3, d4, d5, d6, d7, d8, d9⟩ := hm k hlt
      obtain ⟨b', off', rfl, -, k0, k1, k2, k3, k4, k5, k6, k7, k8, k9⟩ := hm2 k hlt
      have d0' := cell_later hb d0
      have k0' := cell_later hb k0
      have d1' := cell_later hb d1
      have k1' := cell_later hb k1
      have d2' := cell_later hb d2
      have k2' := cell_later hb k2
      have d3' := cell_later hb d3
      have k3' := cell_later hb k3
      have d4' := cell_later hb d4
      have k4' := cell_later hb k4
      have d5' := cell_later hb d5
      have k5' := cell_later hb k5
      have d6' := cell_later hb d6
      have k6' := cell_later hb k6
      have d7' := cell_later hb d7
      have k7' := cell_later hb k7
      have d8' := cell_later hb d8
      have k8' := cell_later hb k8
      have d9' := cell_later hb d9
      have k9' := cell_later hb k9
      clear d0 k0 d1 k1 d2 k2 d3 k3 d4 k4 d5 k5 d6 k6 d7 k7 d8 k8 d9 k9
      go_wp2
      go_region_with (go_at_call 79; refine (eqFOp_any xs[k] _).mono ?_; rintro e w1 ⟨rfl, hb1⟩)
      all_goals
        go_wp2
        go_roundw
        case rel =>
          refine ⟨k + 1, by omega, by go_num, Below.trans ?_ (hb1.mono ?_)⟩
          · repeat (first | exact hb | apply Below.drew)
          · exact hb.size
        case measure => simp [intOf]; omega
    · go_wp2
      go_ret
      exact ⟨rfl, hb⟩

set_option maxRecDepth 100000 in
set_option maxHeartbeats 2000000 in
theorem eqFast_any (oa ea ob eb : Option Addr) (oc ec oc2 ec2 : Nat) (d : FastD) (w : World) (hx : FastSmall d) (hm : FastAt w 0 oa ea d) (hm2 : FastAt w 0 ob eb d) :
    Calls Try.prog 49 #[.agg (fastCells oa ea oc ec d), .agg (fastCells ob eb oc2 ec2 d)] w fun e w' => e = .returned (.bool true) ∧ Below w.heap.size w w' := by
  have hbA : Below w.heap.size w ((w.alloc (.cells (fastCells oa ea oc ec d) 95)).alloc (.cells (fastCells ob eb oc2 ec2 d) 95)) := ((Below.refl _ _).alloc (Nat.le_refl _) _).alloc (by simp) _
  have hX0 := block_old (block_new w (fastCells oa ea oc ec d) 95) (.cells (fastCells ob eb oc2 ec2 d) 95)
  have hY0 := block_new (w.alloc (.cells (fastCells oa ea oc ec d) 95)) (fastCells ob eb oc2 ec2 d) 95
  simp only [World.size_alloc] at hY0
  unfold fastCells at hbA hX0 hY0 ⊢
  go_enter Try.func49, Try.ntmps49
  go_wp2_with fail
  refine (eqFOpS_any _ _ d.ops _ _ _ hx.1 (hm.ops.mono hbA) (hm2.ops.mono hbA)).mono ?_
  rintro e w1 ⟨rfl, hb⟩
  have hB1 := hbA.trans (hb.mono hbA.size)
  have hX1 := block_kept hX0 hb
  have hY1 := block_kept hY0 hb
  have x1 := block_cell hX1
  have y1 := block_cell hY1
  clear hbA hX0 hY0 hb
  go_wp2_with fail
  refine (eqExitS_any _ _ d.exits _ _ _ hx.2 (hm.exits.mono hB1) (hm2.exits.mono hB1)).mono ?_
  rintro e w2 ⟨rfl, hb⟩
  have hB2 := hB1.trans (hb.mono hB1.size)
  clear x1 y1 hX1 hY1 hB1 hb
  go_wp2
  go_ret
  exact ⟨rfl, hB2⟩
end Go.Proofs.Ytopbdjplpnojmaa
