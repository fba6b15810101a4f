/-
  What the size functions of the laws return of lists of ops, sources, frames, records and exits, and of code.
-/
import Derived.Test.YtcbknjjnphknbaaGreatDoorZOQ3
import Derived.Test.YtcbknjjnphknbaaGreatDoorZOQ11
namespace Go.Proofs.YtcbknjjnphknbaaGreatDoor
open Go.RowKit

set_option maxRecDepth 100000 in
set_option maxHeartbeats 1000000 in
theorem szSrc_any (x : Sr) (left : Int) (w : World) (h0 : 0 ≤ left) (h1 : left ≤ 1048576) (hx : SrMax x) :
    Calls Tryz.prog 150 #[.agg #[.int .i64 x.k, .int .i64 x.n, .int .i64 x.v.k, .int .i64 x.v.n, .string x.v.s], .int .i64 left] w fun e w' => ∃ r : Int, e = .returned (.int .i64 r) ∧ r ≤ left ∧ (0 ≤ r → SrSmall x) ∧ Below w.heap.size w w' := by
  have hbA : Below w.heap.size w (w.alloc (.cells #[.int .i64 x.k, .int .i64 x.n, .int .i64 x.v.k, .int .i64 x.v.n, .string x.v.s] 255)) := (Below.refl _ _).alloc (Nat.le_refl _) _
  unfold SrMax at hx
  go_enter Tryz.func150, Tryz.ntmps150
  go_wp2_with fail
  refine (szVal_any _ _ _ _ _ h0 h1 hx).mono ?_
  rintro e w1 ⟨rfl, hb⟩
  have hB := hbA.trans (hb.mono hbA.size)
  by_cases hr : left < (x.v.s.size : Int)
  · rw [if_pos hr]
    go_wp2
    go_ret
    exact ⟨-1, rfl, by omega, by omega, hB⟩
  · rw [if_neg hr]
    have hr0 : ¬ left - (x.v.s.size : Int) < 0 := by omega
    go_wp2
    go_ret
    exact ⟨_, rfl, by omega, fun _ => by show _ ≤ _; omega, hB⟩

set_option maxRecDepth 100000 in
set_option maxHeartbeats 1000000 in
theorem szSrcS_any (a : Option Addr) (xs : List Sr) (cap : Nat) (left : Int) (w : World) (h0 : 0 ≤ left) (h1 : left ≤ 1048576) (hx : LMax SrMax xs) (hm : SrsAt w 0 a xs) :
    Calls Tryz.prog 137 #[.slice a xs.length cap, .int .i64 left] w fun e w' => ∃ r : Int, e = .returned (.int .i64 r) ∧ r ≤ left ∧ (0 ≤ r → LSmall SrSmall xs) ∧ Below w.heap.size w w' := by
  obtain ⟨hn, hc⟩ := hx
  unfold maxLen at hn
  by_cases h : left < xs.length
  · go_enter Tryz.func137, Tryz.ntmps137
    go_wp2
    go_ret
    exact ⟨-1, rfl, by omega, by omega, Below.refl _ _⟩
  · go_enter Tryz.func137, Tryz.ntmps137
    go_wp2
    go_loopw [1, 5] (fun l i wr => ∃ (k : Nat) (q : Int), k ≤ xs.length ∧ i = .int .i64 k ∧ l = .int .i64 q ∧ 0 ≤ q ∧ q ≤ left - xs.length ∧ Hid (∀ f ∈ xs.take k, SrSmall f) ∧ Below w.heap.size w wr) (fun _ i _ => xs.length - (intOf i).toNat)
    case atStart => exact ⟨0, _, by omega, rfl, rfl, by omega, by omega, by intro f hf; simp at hf, Below.refl _ _⟩
    case round =>
      obtain ⟨k, q, hk, rfl, rfl, hq0, hq1, hall, hb⟩ := hrel
      by_cases hlt : k < xs.length
      · obtain ⟨b, off, rfl, -, d0, d1, d2, d3, d4⟩ := hm k hlt
        have e0 := cell_later hb d0
        have e1 := cell_later hb d1
        have e2 := cell_later hb d2
        have e3 := cell_later hb d3
        have e4 := cell_later hb d4
        clear d0 d1 d2 d3 d4
        have hck := hc xs[k] (List.getElem_mem hlt)
        go_wp2_with fail
        refine (szSrc_any xs[k] _ _ hq0 (by omega) hck).mono ?_
        rintro e w2 ⟨r, rfl, hr, hs, hb'⟩
        have hB := hb.trans (hb'.mono hb.size)
        clear hb' e0 e1 e2 e3 e4
        by_cases hr0 : r < 0
        · go_wp2
          go_ret
          exact ⟨-1, rfl, by omega, by omega, hB⟩
        · go_wp2
          go_roundw
          case rel => exact ⟨k + 1, r, by omega, by go_num, rfl, by omega, by omega, take_succ_mem hlt hall.out (hs (by omega)), hB⟩
          case measure => simp [intOf]; omega
      · go_wp2
        go_ret
        exact ⟨q, rfl, by omega, fun _ => ⟨by omega, by have := hall.out; rwa [List.take_of_length_le (by omega)] at this⟩, hb⟩

set_option maxRecDepth 100000 in
set_option maxHeartbeats 1000000 in
theorem szExFrame_any (x : EF) (a0 : Option Addr) (c0 : Nat) (a1 : Option Addr) (c1 : Nat) (left : Int) (w : World) (h0 : 0 ≤ left) (h1 : left ≤ 1048576) (hx : EFMax x) (p0 : SrsAt w 0 a0 x.locals) (p1 : SrsAt w 0 a1 x.stack) :
    Calls Tryz.prog 107 #[.agg #[.int .i64 x.fn, .int .i64 x.pc, .slice a0 x.locals.length c0, .slice a1 x.stack.length c1], .int .i64 left] w fun e w' => ∃ r : Int, e = .returned (.int .i64 r) ∧ r ≤ left ∧ (0 ≤ r → EFSmall x) ∧ Below w.heap.size w w' := by
  have hbA : Below w.heap.size w (w.alloc (.cells #[.int .i64 x.fn, .int .i64 x.pc, .slice a0 x.locals.length c0, .slice a1 x.stack.length c1] 198)) := (Below.refl _ _).alloc (Nat.le_refl _) _
  have hM0 := block_new w #[.int .i64 x.fn, .int .i64 x.pc, .slice a0 x.locals.length c0, .slice a1 x.stack.length c1] 198
  go_enter Tryz.func107, Tryz.ntmps107
  go_wp2_with fail
  refine (szSrcS_any a0 x.locals c0 left _ h0 h1 hx.1 (p0.mono hbA)).mono ?_
  rintro e w1 ⟨r0, rfl, hr0, hs0, hb0⟩
  have hB0 := hbA.trans (hb0.mono hbA.size)
  have hM1 := block_kept hM0 hb0
  by_cases hn0 : r0 < 0
  · go_wp2
    go_ret
    exact ⟨-1, rfl, by omega, by omega, hB0⟩
  have y1 := block_cell hM1
  go_wp2_with fail
  refine (szSrcS_any a1 x.stack c1 r0 _ (by omega) (by omega) hx.2 (p1.mono hB0)).mono ?_
  rintro e w2 ⟨r1, rfl, hr1, hs1, hb1⟩
  have hB1 := hB0.trans (hb1.mono hB0.size)
  have hM2 := block_kept hM1 hb1
  clear y1
  by_cases hn1 : r1 < 0
  · go_wp2
    go_ret
    exact ⟨-1, rfl, by omega, by omega, hB1⟩
  go_wp2
  go_ret
  exact ⟨_, rfl, by omega, fun _ => ⟨hs0 (by omega), hs1 (by omega)⟩, hB1⟩

set_option maxRecDepth 100000 in
set_option maxHeartbeats 1000000 in
theorem szExFrameS_any (a : Option Addr) (xs : List EF) (cap : Nat) (left : Int) (w : World) (h0 : 0 ≤ left) (h1 : left ≤ 1048576) (hx : LMax EFMax xs) (hm : EFsAt w 0 a xs) :
    Calls Tryz.prog 61 #[.slice a xs.length cap, .int .i64 left] w fun e w' => ∃ r : Int, e = .returned (.int .i64 r) ∧ r ≤ left ∧ (0 ≤ r → LSmall EFSmall xs) ∧ Below w.heap.size w w' := by
  obtain ⟨hn, hc⟩ := hx
  unfold maxLen at hn
  by_cases h : left < xs.length
  · go_enter Tryz.func61, Tryz.ntmps61
    go_wp2
    go_ret
    exact ⟨-1, rfl, by omega, by omega, Below.refl _ _⟩
  · go_enter Tryz.func61, Tryz.ntmps61
    go_wp2
    go_loopw [1, 5] (fun l i wr => ∃ (k : Nat) (q : Int), k ≤ xs.length ∧ i = .int .i64 k ∧ l = .int .i64 q ∧ 0 ≤ q ∧ q ≤ left - xs.length ∧ Hid (∀ f ∈ xs.take k, EFSmall f) ∧ Below w.heap.size w wr) (fun _ i _ => xs.length - (intOf i).toNat)
    case atStart => exact ⟨0, _, by omega, rfl, rfl, by omega, by omega, by intro f hf; simp at hf, Below.refl _ _⟩
    case round =>
      obtain ⟨k, q, hk, rfl, rfl, hq0, hq1, hall, hb⟩ := hrel
      by_cases hlt : k < xs.length
      · obtain ⟨b, off, a0, c0, a1, c1, rfl, -, d0, d1, d2, d3, p0, p1⟩ := hm k hlt
        have e0 := cell_later hb d0
        have e1 := cell_later hb d1
        have e2 := cell_later hb d2
        have e3 := cell_later hb d3
        clear d0 d1 d2 d3
        have hck := hc xs[k] (List.getElem_mem hlt)
        go_wp2_with fail
        refine (szExFrame_any xs[k] _ _ _ _ _ _ hq0 (by omega) hck (p0.mono hb) (p1.mono hb)).mono ?_
        rintro e w2 ⟨r, rfl, hr, hs, hb'⟩
        have hB := hb.trans (hb'.mono hb.size)
        clear hb' e0 e1 e2 e3
        by_cases hr0 : r < 0
        · go_wp2
          go_ret
          exact ⟨-1, rfl, by omega, by omega, hB⟩
        · go_wp2
          go_roundw
          case rel => exact ⟨k + 1, r, by omega, by go_num, rfl, by omega, by omega, take_succ_mem hlt hall.out (hs (by omega)), hB⟩
          case measure => simp [intOf]; omega
      · go_wp2
        go_ret
        exact ⟨q, rfl, by omega, fun _ => ⟨by omega, by have := hall.out; rwa [List.take_of_length_le (by omega)] at this⟩, hb⟩

set_option maxRecDepth 100000 in
set_option maxHeartbeats 1000000 in
theorem szExRec_any (x : ER) (a0 : Option Addr) (c0 : Nat) (left : Int) (w : World) (h0 : 0 ≤ left) (h1 : left ≤ 1048576) (hx : ERMax x) (p0 : SrsAt w 0 a0 x.fields) :
    Calls Tryz.prog 108 #[.agg #[.slice a0 x.fields.length c0], .int .i64 left] w fun e w' => ∃ r : Int, e = .returned (.int .i64 r) ∧ r ≤ left ∧ (0 ≤ r → ERSmall x) ∧ Below w.heap.size w w' := by
  have hbA : Below w.heap.size w (w.alloc (.cells #[.slice a0 x.fields.length c0] 201)) := (Below.refl _ _).alloc (Nat.le_refl _) _
  have hM0 := block_new w #[.slice a0 x.fields.length c0] 201
  go_enter Tryz.func108, Tryz.ntmps108
  go_wp2_with fail
  refine (szSrcS_any a0 x.fields c0 left _ h0 h1 hx (p0.mono hbA)).mono ?_
  rintro e w1 ⟨r0, rfl, hr0, hs0, hb0⟩
  have hB0 := hbA.trans (hb0.mono hbA.size)
  have hM1 := block_kept hM0 hb0
  by_cases hn0 : r0 < 0
  · go_wp2
    go_ret
    exact ⟨-1, rfl, by omega, by omega, hB0⟩
  go_wp2
  go_ret
  exact ⟨_, rfl, by omega, fun _ => hs0 (by omega), hB0⟩

set_option maxRecDepth 100000 in
set_option maxHeartbeats 1000000 in
theorem szExRecS_any (a : Option Addr) (xs : List ER) (cap : Nat) (left : Int) (w : World) (h0 : 0 ≤ left) (h1 : left ≤ 1048576) (hx : LMax ERMax xs) (hm : ERsAt w 0 a xs) :
    Calls Tryz.prog 62 #[.slice a xs.length cap, .int .i64 left] w fun e w' => ∃ r : Int, e = .returned (.int .i64 r) ∧ r ≤ left ∧ (0 ≤ r → LSmall ERSmall xs) ∧ Below w.heap.size w w' := by
  obtain ⟨hn, hc⟩ := hx
  unfold maxLen at hn
  by_cases h : left < xs.length
  · go_enter Tryz.func62, Tryz.ntmps62
    go_wp2
    go_ret
    exact ⟨-1, rfl, by omega, by omega, Below.refl _ _⟩
  · go_enter Tryz.func62, Tryz.ntmps62
    go_wp2
    go_loopw [1, 5] (fun l i wr => ∃ (k : Nat) (q : Int), k ≤ xs.length ∧ i = .int .i64 k ∧ l = .int .i64 q ∧ 0 ≤ q ∧ q ≤ left - xs.length ∧ Hid (∀ f ∈ xs.take k, ERSmall f) ∧ Below w.heap.size w wr) (fun _ i _ => xs.length - (intOf i).toNat)
    case atStart => exact ⟨0, _, by omega, rfl, rfl, by omega, by omega, by intro f hf; simp at hf, Below.refl _ _⟩
    case round =>
      obtain ⟨k, q, hk, rfl, rfl, hq0, hq1, hall, hb⟩ := hrel
      by_cases hlt : k < xs.length
      · obtain ⟨b, off, a0, c0, rfl, -, d0, p0⟩ := hm k hlt
        have e0 := cell_later hb d0
        clear d0
        have hck := hc xs[k] (List.getElem_mem hlt)
        go_wp2_with fail
        refine (szExRec_any xs[k] _ _ _ _ hq0 (by omega) hck (p0.mono hb)).mono ?_
        rintro e w2 ⟨r, rfl, hr, hs, hb'⟩
        have hB := hb.trans (hb'.mono hb.size)
        clear hb' e0
        by_cases hr0 : r < 0
        · go_wp2
          go_ret
          exact ⟨-1, rfl, by omega, by omega, hB⟩
        · go_wp2
          go_roundw
          case rel => exact ⟨k + 1, r, by omega, by go_num, rfl, by omega, by omega, take_succ_mem hlt hall.out (hs (by omega)), hB⟩
          case measure => simp [intOf]; omega
      · go_wp2
        go_ret
        exact ⟨q, rfl, by omega, fun _ => ⟨by omega, by have := hall.out; rwa [List.take_of_length_le (by omega)] at this⟩, hb⟩

set_option maxRecDepth 100000 in
set_option maxHeartbeats 1000000 in
theorem szExit_any (x : Ex) (a0 : Option Addr) (c0 : Nat) (a1 : Option Addr) (c1 : Nat) (left : Int) (w : World) (h0 : 0 ≤ left) (h1 : left ≤ 1048576) (hx : ExMax x) (p0 : EFsAt w 0 a0 x.frames) (p1 : ERsAt w 0 a1 x.recs) :
    Calls Tryz.prog 32 #[.agg #[.int .i64 x.kind, .int .i64 x.spec.f, .int .i64 x.spec.pc, .int .i64 x.spec.seen, .int .i64 x.spec.target, .slice a0 x.frames.length c0, .slice a1 x.recs.length c1], .int .i64 left] w fun e w' => ∃ r : Int, e = .returned (.int .i64 r) ∧ r ≤ left ∧ (0 ≤ r → ExSmall x) ∧ Below w.heap.size w w' := by
  have hbA : Below w.heap.size w (w.alloc (.cells #[.int .i64 x.kind, .int .i64 x.spec.f, .int .i64 x.spec.pc, .int .i64 x.spec.seen, .int .i64 x.spec.target, .slice a0 x.frames.length c0, .slice a1 x.recs.length c1] 84)) := (Below.refl _ _).alloc (Nat.le_refl _) _
  have hM0 := block_new w #[.int .i64 x.kind, .int .i64 x.spec.f, .int .i64 x.spec.pc, .int .i64 x.spec.seen, .int .i64 x.spec.target, .slice a0 x.frames.length c0, .slice a1 x.recs.length c1] 84
  go_enter Tryz.func32, Tryz.ntmps32
  go_wp2_with fail
  refine (szExFrameS_any a0 x.frames c0 left _ h0 h1 hx.1 (p0.mono hbA)).mono ?_
  rintro e w1 ⟨r0, rfl, hr0, hs0, hb0⟩
  have hB0 := hbA.trans (hb0.mono hbA.size)
  have hM1 := block_kept hM0 hb0
  by_cases hn0 : r0 < 0
  · go_wp2
    go_ret
    exact ⟨-1, rfl, by omega, by omega, hB0⟩
  have y1 := block_cell hM1
  go_wp2_with fail
  refine (szExRecS_any a1 x.recs c1 r0 _ (by omega) (by omega) hx.2 (p1.mono hB0)).mono ?_
  rintro e w2 ⟨r1, rfl, hr1, hs1, hb1⟩
  have hB1 := hB0.trans (hb1.mono hB0.size)
  have hM2 := block_kept hM1 hb1
  clear y1
  by_cases hn1 : r1 < 0
  · go_wp2
    go_ret
    exact ⟨-1, rfl, by omega, by omega, hB1⟩
  go_wp2
  go_ret
  exact ⟨_, rfl, by omega, fun _ => ⟨hs0 (by omega), hs1 (by omega)⟩, hB1⟩

set_option maxRecDepth 100000 in
set_option maxHeartbeats 1000000 in
theorem szExitS_any (a : Option Addr) (xs : List Ex) (cap : Nat) (left : Int) (w : World) (h0 : 0 ≤ left) (h1 : left ≤ 1048576) (hx : LMax ExMax xs) (hm : ExsAt w 0 a xs) :
    Calls Tryz.prog 15 #[.slice a xs.length cap, .int .i64 left] w fun e w' => ∃ r : Int, e = .returned (.int .i64 r) ∧ r ≤ left ∧ (0 ≤ r → LSmall ExSmall xs) ∧ Below w.heap.size w w' := by
  obtain ⟨hn, hc⟩ := hx
  unfold maxLen at hn
  by_cases h : left < xs.length
  · go_enter Tryz.func15, Tryz.ntmps15
    go_wp2
    go_ret
    exact ⟨-1, rfl, by omega, by omega, Below.refl _ _⟩
  · go_enter Tryz.func15, Tryz.ntmps15
    go_wp2
    go_loopw [1, 5] (fun l i wr => ∃ (k : Nat) (q : Int), k ≤ xs.length ∧ i = .int .i64 k ∧ l = .int .i64 q ∧ 0 ≤ q ∧ q ≤ left - xs.length ∧ Hid (∀ f ∈ xs.take k, ExSmall f) ∧ Below w.heap.size w wr) (fun _ i _ => xs.length - (intOf i).toNat)
    case atStart => exact ⟨0, _, by omega, rfl, rfl, by omega, by omega, by intro f hf; simp at hf, Below.refl _ _⟩
    case round =>
      obtain ⟨k, q, hk, rfl, rfl, hq0, hq1, hall, hb⟩ := hrel
      by_cases hlt : k < xs.length
      · obtain ⟨b, off, a0, c0, a1, c1, rfl, -, d0, d1, d2, d3, d4, d5, d6, p0, p1⟩ := hm k hlt
        have e0 := cell_later hb d0
        have e1 := cell_later hb d1
        have e2 := cell_later hb d2
        have e3 := cell_later hb d3
        have e4 := cell_later hb d4
        have e5 := cell_later hb d5
        have e6 := cell_later hb d6
        clear d0 d1 d2 d3 d4 d5 d6
        have hck := hc xs[k] (List.getElem_mem hlt)
        go_wp2_with fail
        refine (szExit_any xs[k] _ _ _ _ _ _ hq0 (by omega) hck (p0.mono hb) (p1.mono hb)).mono ?_
        rintro e w2 ⟨r, rfl, hr, hs, hb'⟩
        have hB := hb.trans (hb'.mono hb.size)
        clear hb' e0 e1 e2 e3 e4 e5 e6
        by_cases hr0 : r < 0
        · go_wp2
          go_ret
          exact ⟨-1, rfl, by omega, by omega, hB⟩
        · go_wp2
          go_roundw
          case rel => exact ⟨k + 1, r, by omega, by go_num, rfl, by omega, by omega, take_succ_mem hlt hall.out (hs (by omega)), hB⟩
          case measure => simp [intOf]; omega
      · go_wp2
        go_ret
        exact ⟨q, rfl, by omega, fun _ => ⟨by omega, by have := hall.out; rwa [List.take_of_length_le (by omega)] at this⟩, hb⟩

set_option maxRecDepth 100000 in
set_option maxHeartbeats 1000000 in
theorem szFOp_any (x : Fo) (left : Int) (w : World) (h0 : 0 ≤ left) (h1 : left ≤ 1048576) (hx : FoMax x) :
    Calls Tryz.prog 31 #[.agg #[.int .i64 x.op, .int .i64 x.d, .int .i64 x.a, .int .i64 x.b, .int .i64 x.x, .int .i64 x.f, .int .i64 x.p, .int .i64 x.v.k, .int .i64 x.v.n, .string x.v.s], .int .i64 left] w fun e w' => ∃ r : Int, e = .returned (.int .i64 r) ∧ r ≤ left ∧ (0 ≤ r → FoSmall x) ∧ Below w.heap.size w w' := by
  have hbA : Below w.heap.size w (w.alloc (.cells #[.int .i64 x.op, .int .i64 x.d, .int .i64 x.a, .int .i64 x.b, .int .i64 x.x, .int .i64 x.f, .int .i64 x.p, .int .i64 x.v.k, .int .i64 x.v.n, .string x.v.s] 77)) := (Below.refl _ _).alloc (Nat.le_refl _) _
  unfold FoMax at hx
  go_enter Tryz.func31, Tryz.ntmps31
  go_wp2_with fail
  refine (szVal_any _ _ _ _ _ h0 h1 hx).mono ?_
  rintro e w1 ⟨rfl, hb⟩
  have hB := hbA.trans (hb.mono hbA.size)
  by_cases hr : left < (x.v.s.size : Int)
  · rw [if_pos hr]
    go_wp2
    go_ret
    exact ⟨-1, rfl, by omega, by omega, hB⟩
  · rw [if_neg hr]
    have hr0 : ¬ left - (x.v.s.size : Int) < 0 := by omega
    go_wp2
    go_ret
    exact ⟨_, rfl, by omega, fun _ => by show _ ≤ _; omega, hB⟩

set_option maxRecDepth 100000 in
set_option maxHeartbeats 1000000 in
theorem szFOpS_any (a : Option Addr) (xs : List Fo) (cap : Nat) (left : Int) (w : World) (h0 : 0 ≤ left) (h1 : left ≤ 1048576) (hx : LMax FoMax xs) (hm : FosAt w 0 a xs) :
    Calls Tryz.prog 14 #[.slice a xs.length cap, .int .i64 left] w fun e w' => ∃ r : Int, e = .returned (.int .i64 r) ∧ r ≤ left ∧ (0 ≤ r → LSmall FoSmall xs) ∧ Below w.heap.size w w' := by
  obtain ⟨hn, hc⟩ := hx
  unfold maxLen at hn
  by_cases h : left < xs.length
  · go_enter Tryz.func14, Tryz.ntmps14
    go_wp2
    go_ret
    exact ⟨-1, rfl, by omega, by omega, Below.refl _ _⟩
  · go_enter Tryz.func14, Tryz.ntmps14
    go_wp2
    go_loopw [1, 5] (fun l i wr => ∃ (k : Nat) (q : Int), k ≤ xs.length ∧ i = .int .i64 k ∧ l = .int .i64 q ∧ 0 ≤ q ∧ q ≤ left - xs.length ∧ Hid (∀ f ∈ xs.take k, FoSmall f) ∧ Below w.heap.size w wr) (fun _ i _ => xs.length - (intOf i).toNat)
    case atStart => exact ⟨0, _, by omega, rfl, rfl, by omega, by omega, by intro f hf; simp at hf, Below.refl _ _⟩
    case round =>
      obtain ⟨k, q, hk, rfl, rfl, hq0, hq1, hall, hb⟩ := hrel
      by_cases hlt : k < xs.length
      · obtain ⟨b, off, rfl, -, d0, d1, d2, d3, d4, d5, d6, d7, d8, d9⟩ := hm k hlt
        have e0 := cell_later hb d0
        have e1 := cell_later hb d1
        have e2 := cell_later hb d2
        have e3 := cell_later hb d3
        have e4 := cell_later hb d4
        have e5 := cell_later hb d5
        have e6 := cell_later hb d6
        have e7 := cell_later hb d7
        have e8 := cell_later hb d8
        have e9 := cell_later hb d9
        clear d0 d1 d2 d3 d4 d5 d6 d7 d8 d9
        have hck := hc xs[k] (List.getElem_mem hlt)
        go_wp2_with fail
        refine (szFOp_any xs[k] _ _ hq0 (by omega) hck).mono ?_
        rintro e w2 ⟨r, rfl, hr, hs, hb'⟩
        have hB := hb.trans (hb'.mono hb.size)
        clear hb' e0 e1 e2 e3 e4 e5 e6 e7 e8 e9
        by_cases hr0 : r < 0
        · go_wp2
          go_ret
          exact ⟨-1, rfl, by omega, by omega, hB⟩
        · go_wp2
          go_roundw
          case rel => exact ⟨k + 1, r, by omega, by go_num, rfl, by omega, by omega, take_succ_mem hlt hall.out (hs (by omega)), hB⟩
          case measure => simp [intOf]; omega
      · go_wp2
        go_ret
        exact ⟨q, rfl, by omega, fun _ => ⟨by omega, by have := hall.out; rwa [List.take_of_length_le (by omega)] at this⟩, hb⟩

set_option maxRecDepth 100000 in
set_option maxHeartbeats 1000000 in
theorem szFast_any (oa ea : Option Addr) (oc ec : Nat) (d : FastD) (left : Int) (w : World) (h0 : 0 ≤ left) (h1 : left ≤ 1048576) (hx : FastMax d) (hm : FastAt w 0 oa ea d) :
    Calls Tryz.prog 5 #[.agg (fastCells oa ea oc ec d), .int .i64 left] w fun e w' => ∃ r : Int, e = .returned (.int .i64 r) ∧ r ≤ left ∧ (0 ≤ r → FastSmall d) ∧ Below w.heap.size w w' := by
  unfold fastCells
  have hbA : Below w.heap.size w (w.alloc (.cells #[.int .i64 d.fn, .int .i64 d.entry, .int .i64 d.vals, .int .i64 d.nums, .slice oa d.ops.length oc, .slice ea d.exits.length ec] 29)) := (Below.refl _ _).alloc (Nat.le_refl _) _
  have hM0 := block_new w #[.int .i64 d.fn, .int .i64 d.entry, .int .i64 d.vals, .int .i64 d.nums, .slice oa d.ops.length oc, .slice ea d.exits.length ec] 29
  go_enter Tryz.func5, Tryz.ntmps5
  go_wp2_with fail
  refine (szFOpS_any oa d.ops oc left _ h0 h1 hx.1 (hm.ops.mono hbA)).mono ?_
  rintro e w1 ⟨r1, rfl, hr1, hs1, hb1⟩
  have hB1 := hbA.trans (hb1.mono hbA.size)
  have hM1 := block_kept hM0 hb1
  by_cases hn1 : r1 < 0
  · go_wp2
    go_ret
    exact ⟨-1, rfl, by omega, by omega, hB1⟩
  have y1 := block_cell hM1
  go_wp2_with fail
  refine (szExitS_any ea d.exits ec r1 _ (by omega) (by omega) hx.2 (hm.exits.mono hB1)).mono ?_
  rintro e w2 ⟨r2, rfl, hr2, hs2, hb2⟩
  have hB2 := hB1.trans (hb2.mono hB1.size)
  clear y1
  by_cases hn2 : r2 < 0
  · go_wp2
    go_ret
    exact ⟨-1, rfl, by omega, by omega, hB2⟩
  go_wp2
  go_ret
  exact ⟨_, rfl, by omega, fun _ => ⟨hs1 (by omega), hs2 (by omega)⟩, hB2⟩
end Go.Proofs.YtcbknjjnphknbaaGreatDoor
