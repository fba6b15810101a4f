/-
What the size functions of the laws return of lists of ops, sources, frames, records and exits, and of code.
Two values held against each other.
What impl.frameFits returns.
-/
import Derived.Test.YtoimokjohmhnaaaGreatDoorHA2
import Derived.Test.YtoimokjohmhnaaaGreatDoorHX1
import Derived.Test.YtoimokjohmhnaaaGreatDoorHA1
import Derived.Test.YtoimokjohmhnaaaGreatDoorHJ7
import Derived.Laws.StructEq
import Derived.Test.YtoimokjohmhnaaaGreatDoorHW2
import Derived.Test.YtoimokjohmhnaaaGreatDoorHV14
import Derived.Deep.QuietTactic
import Derived.BigQuiet
namespace Go.Proofs.YtoimokjohmhnaaaGreatDoor
set_option maxRecDepth 100000
open Go.RowKit
set_option maxHeartbeats 1000000 in
theorem szSrc_any (x : Sr) (left : Int) (w : World) (h0 : 0 ≤ left) (h1 : left ≤ 1048576) (hx : SrMax x) :
  Calls Tryz.prog 240 #[.agg #[.int .i64 x.k, .int .i64 x.n, .int .i64 x.v.k, .int .i64 x.v.n, .string x.v.s], .int .i64 left] w fun e w' => ∃ r : Int, e = .returned (.int .i64 r) ∧ r ≤ left ∧ (0 ≤ r → SrSmall x) ∧ Below w.heap.size w w' := by
 have hbA : Below w.heap.size w (w.alloc (.cells #[.int .i64 x.k, .int .i64 x.n, .int .i64 x.v.k, .int .i64 x.v.n, .string x.v.s] 359)) := (Below.refl _ _).alloc (Nat.le_refl _) _
 unfold SrMax at hx
 go_enter Tryz.func240, Tryz.ntmps240
 go_wp2_with fail
 refine (szVal_any _ _ _ _ _ h0 h1 hx).mono ?_
 rintro e w1 ⟨rfl, hb⟩
 have hB := hbA.trans (hb.mono hbA.size)
 by_cases hr : left < (x.v.s.size : Int)
 ·
  rw [if_pos hr]
  go_wp2
  go_ret
  exact ⟨-1, rfl, by omega, by omega, hB⟩
 ·
  rw [if_neg hr]
  have hr0 : ¬ left - (x.v.s.size : Int) < 0 := by omega
  go_wp2
  go_ret
  exact ⟨_, rfl, by omega, fun _ => by show _ ≤ _; omega, hB⟩
set_option maxHeartbeats 1000000 in
theorem szSrcS_any (a : Option Addr) (xs : List Sr) (cap : Nat) (left : Int) (w : World) (h0 : 0 ≤ left) (h1 : left ≤ 1048576) (hx : LMax SrMax xs) (hm : SrsAt w 0 a xs) :
  Calls Tryz.prog 228 #[.slice a xs.length cap, .int .i64 left] w fun e w' => ∃ r : Int, e = .returned (.int .i64 r) ∧ r ≤ left ∧ (0 ≤ r → LSmall SrSmall xs) ∧ Below w.heap.size w w' := by
 obtain ⟨hn, hc⟩ := hx
 unfold maxLen at hn
 by_cases h : left < xs.length
 ·
  go_enter Tryz.func228, Tryz.ntmps228
  go_wp2
  go_ret
  exact ⟨-1, rfl, by omega, by omega, Below.refl _ _⟩
 ·
  go_enter Tryz.func228, Tryz.ntmps228
  go_wp2
  go_loopw [1, 5] (fun l i wr => ∃ (k : Nat) (q : Int), k ≤ xs.length ∧ i = .int .i64 k ∧ l = .int .i64 q ∧ 0 ≤ q ∧ q ≤ left - xs.length ∧ Hid (∀ f ∈ xs.take k, SrSmall f) ∧ Below w.heap.size w wr) (fun _ i _ => xs.length - (intOf i).toNat)
  case atStart => exact ⟨0, _, by omega, rfl, rfl, by omega, by omega, by intro f hf; simp at hf, Below.refl _ _⟩
  case round =>
   obtain ⟨k, q, hk, rfl, rfl, hq0, hq1, hall, hb⟩ := hrel
   by_cases hlt : k < xs.length
   ·
    obtain ⟨b, off, rfl, -, d0, d1, d2, d3, d4⟩ := hm k hlt
    have e0 := cell_later hb d0
    have e1 := cell_later hb d1
    have e2 := cell_later hb d2
    have e3 := cell_later hb d3
    have e4 := cell_later hb d4
    clear d0 d1 d2 d3 d4
    have hck := hc xs[k] (List.getElem_mem hlt)
    go_wp2_with fail
    refine (szSrc_any xs[k] _ _ hq0 (by omega) hck).mono ?_
    rintro e w2 ⟨r, rfl, hr, hs, hb'⟩
    have hB := hb.trans (hb'.mono hb.size)
    clear hb' e0 e1 e2 e3 e4
    by_cases hr0 : r < 0
    ·
     go_wp2
     go_ret
     exact ⟨-1, rfl, by omega, by omega, hB⟩
    ·
     go_wp2
     go_roundw
     case rel => exact ⟨k + 1, r, by omega, by go_num, rfl, by omega, by omega, take_succ_mem hlt hall.out (hs (by omega)), hB⟩
     case measure => simp [intOf]; omega
   ·
    go_wp2
    go_ret
    exact ⟨q, rfl, by omega, fun _ => ⟨by omega, by have := hall.out; rwa [List.take_of_length_le (by omega)] at this⟩, hb⟩
set_option maxHeartbeats 1000000 in
theorem szExFrame_any (x : EF) (a0 : Option Addr) (c0 : Nat) (a1 : Option Addr) (c1 : Nat) (left : Int) (w : World) (h0 : 0 ≤ left) (h1 : left ≤ 1048576) (hx : EFMax x) (p0 : SrsAt w 0 a0 x.locals) (p1 : SrsAt w 0 a1 x.stack) :
  Calls Tryz.prog 197 #[.agg #[.int .i64 x.fn, .int .i64 x.pc, .slice a0 x.locals.length c0, .slice a1 x.stack.length c1], .int .i64 left] w fun e w' => ∃ r : Int, e = .returned (.int .i64 r) ∧ r ≤ left ∧ (0 ≤ r → EFSmall x) ∧ Below w.heap.size w w' := by
 have hbA : Below w.heap.size w (w.alloc (.cells #[.int .i64 x.fn, .int .i64 x.pc, .slice a0 x.locals.length c0, .slice a1 x.stack.length c1] 297)) := (Below.refl _ _).alloc (Nat.le_refl _) _
 have hM0 := block_new w #[.int .i64 x.fn, .int .i64 x.pc, .slice a0 x.locals.length c0, .slice a1 x.stack.length c1] 297
 go_enter Tryz.func197, Tryz.ntmps197
 go_wp2_with fail
 refine (szSrcS_any a0 x.locals c0 left _ h0 h1 hx.1 (p0.mono hbA)).mono ?_
 rintro e w1 ⟨r0, rfl, hr0, hs0, hb0⟩
 have hB0 := hbA.trans (hb0.mono hbA.size)
 have hM1 := block_kept hM0 hb0
 by_cases hn0 : r0 < 0
 ·
  go_wp2
  go_ret
  exact ⟨-1, rfl, by omega, by omega, hB0⟩
 have y1 := block_cell hM1
 go_wp2_with fail
 refine (szSrcS_any a1 x.stack c1 r0 _ (by omega) (by omega) hx.2 (p1.mono hB0)).mono ?_
 rintro e w2 ⟨r1, rfl, hr1, hs1, hb1⟩
 have hB1 := hB0.trans (hb1.mono hB0.size)
 have hM2 := block_kept hM1 hb1
 clear y1
 by_cases hn1 : r1 < 0
 ·
  go_wp2
  go_ret
  exact ⟨-1, rfl, by omega, by omega, hB1⟩
 go_wp2
 go_ret
 exact ⟨_, rfl, by omega, fun _ => ⟨hs0 (by omega), hs1 (by omega)⟩, hB1⟩
set_option maxHeartbeats 1000000 in
theorem szExFrameS_any (a : Option Addr) (xs : List EF) (cap : Nat) (left : Int) (w : World) (h0 : 0 ≤ left) (h1 : left ≤ 1048576) (hx : LMax EFMax xs) (hm : EFsAt w 0 a xs) :
  Calls Tryz.prog 139 #[.slice a xs.length cap, .int .i64 left] w fun e w' => ∃ r : Int, e = .returned (.int .i64 r) ∧ r ≤ left ∧ (0 ≤ r → LSmall EFSmall xs) ∧ Below w.heap.size w w' := by
 obtain ⟨hn, hc⟩ := hx
 unfold maxLen at hn
 by_cases h : left < xs.length
 ·
  go_enter Tryz.func139, Tryz.ntmps139
  go_wp2
  go_ret
  exact ⟨-1, rfl, by omega, by omega, Below.refl _ _⟩
 ·
  go_enter Tryz.func139, Tryz.ntmps139
  go_wp2
  go_loopw [1, 5] (fun l i wr => ∃ (k : Nat) (q : Int), k ≤ xs.length ∧ i = .int .i64 k ∧ l = .int .i64 q ∧ 0 ≤ q ∧ q ≤ left - xs.length ∧ Hid (∀ f ∈ xs.take k, EFSmall f) ∧ Below w.heap.size w wr) (fun _ i _ => xs.length - (intOf i).toNat)
  case atStart => exact ⟨0, _, by omega, rfl, rfl, by omega, by omega, by intro f hf; simp at hf, Below.refl _ _⟩
  case round =>
   obtain ⟨k, q, hk, rfl, rfl, hq0, hq1, hall, hb⟩ := hrel
   by_cases hlt : k < xs.length
   ·
    obtain ⟨b, off, a0, c0, a1, c1, rfl, -, d0, d1, d2, d3, p0, p1⟩ := hm k hlt
    have e0 := cell_later hb d0
    have e1 := cell_later hb d1
    have e2 := cell_later hb d2
    have e3 := cell_later hb d3
    clear d0 d1 d2 d3
    have hck := hc xs[k] (List.getElem_mem hlt)
    go_wp2_with fail
    refine (szExFrame_any xs[k] _ _ _ _ _ _ hq0 (by omega) hck (p0.mono hb) (p1.mono hb)).mono ?_
    rintro e w2 ⟨r, rfl, hr, hs, hb'⟩
    have hB := hb.trans (hb'.mono hb.size)
    clear hb' e0 e1 e2 e3
    by_cases hr0 : r < 0
    ·
     go_wp2
     go_ret
     exact ⟨-1, rfl, by omega, by omega, hB⟩
    ·
     go_wp2
     go_roundw
     case rel => exact ⟨k + 1, r, by omega, by go_num, rfl, by omega, by omega, take_succ_mem hlt hall.out (hs (by omega)), hB⟩
     case measure => simp [intOf]; omega
   ·
    go_wp2
    go_ret
    exact ⟨q, rfl, by omega, fun _ => ⟨by omega, by have := hall.out; rwa [List.take_of_length_le (by omega)] at this⟩, hb⟩
set_option maxHeartbeats 1000000 in
theorem szExRec_any (x : ER) (a0 : Option Addr) (c0 : Nat) (left : Int) (w : World) (h0 : 0 ≤ left) (h1 : left ≤ 1048576) (hx : ERMax x) (p0 : SrsAt w 0 a0 x.fields) :
  Calls Tryz.prog 198 #[.agg #[.slice a0 x.fields.length c0], .int .i64 left] w fun e w' => ∃ r : Int, e = .returned (.int .i64 r) ∧ r ≤ left ∧ (0 ≤ r → ERSmall x) ∧ Below w.heap.size w w' := by
 have hbA : Below w.heap.size w (w.alloc (.cells #[.slice a0 x.fields.length c0] 300)) := (Below.refl _ _).alloc (Nat.le_refl _) _
 have hM0 := block_new w #[.slice a0 x.fields.length c0] 300
 go_enter Tryz.func198, Tryz.ntmps198
 go_wp2_with fail
 refine (szSrcS_any a0 x.fields c0 left _ h0 h1 hx (p0.mono hbA)).mono ?_
 rintro e w1 ⟨r0, rfl, hr0, hs0, hb0⟩
 have hB0 := hbA.trans (hb0.mono hbA.size)
 have hM1 := block_kept hM0 hb0
 by_cases hn0 : r0 < 0
 ·
  go_wp2
  go_ret
  exact ⟨-1, rfl, by omega, by omega, hB0⟩
 go_wp2
 go_ret
 exact ⟨_, rfl, by omega, fun _ => hs0 (by omega), hB0⟩
set_option maxHeartbeats 1000000 in
theorem szExRecS_any (a : Option Addr) (xs : List ER) (cap : Nat) (left : Int) (w : World) (h0 : 0 ≤ left) (h1 : left ≤ 1048576) (hx : LMax ERMax xs) (hm : ERsAt w 0 a xs) :
  Calls Tryz.prog 140 #[.slice a xs.length cap, .int .i64 left] w fun e w' => ∃ r : Int, e = .returned (.int .i64 r) ∧ r ≤ left ∧ (0 ≤ r → LSmall ERSmall xs) ∧ Below w.heap.size w w' := by
 obtain ⟨hn, hc⟩ := hx
 unfold maxLen at hn
 by_cases h : left < xs.length
 ·
  go_enter Tryz.func140, Tryz.ntmps140
  go_wp2
  go_ret
  exact ⟨-1, rfl, by omega, by omega, Below.refl _ _⟩
 ·
  go_enter Tryz.func140, Tryz.ntmps140
  go_wp2
  go_loopw [1, 5] (fun l i wr => ∃ (k : Nat) (q : Int), k ≤ xs.length ∧ i = .int .i64 k ∧ l = .int .i64 q ∧ 0 ≤ q ∧ q ≤ left - xs.length ∧ Hid (∀ f ∈ xs.take k, ERSmall f) ∧ Below w.heap.size w wr) (fun _ i _ => xs.length - (intOf i).toNat)
  case atStart => exact ⟨0, _, by omega, rfl, rfl, by omega, by omega, by intro f hf; simp at hf, Below.refl _ _⟩
  case round =>
   obtain ⟨k, q, hk, rfl, rfl, hq0, hq1, hall, hb⟩ := hrel
   by_cases hlt : k < xs.length
   ·
    obtain ⟨b, off, a0, c0, rfl, -, d0, p0⟩ := hm k hlt
    have e0 := cell_later hb d0
    clear d0
    have hck := hc xs[k] (List.getElem_mem hlt)
    go_wp2_with fail
    refine (szExRec_any xs[k] _ _ _ _ hq0 (by omega) hck (p0.mono hb)).mono ?_
    rintro e w2 ⟨r, rfl, hr, hs, hb'⟩
    have hB := hb.trans (hb'.mono hb.size)
    clear hb' e0
    by_cases hr0 : r < 0
    ·
     go_wp2
     go_ret
     exact ⟨-1, rfl, by omega, by omega, hB⟩
    ·
     go_wp2
     go_roundw
     case rel => exact ⟨k + 1, r, by omega, by go_num, rfl, by omega, by omega, take_succ_mem hlt hall.out (hs (by omega)), hB⟩
     case measure => simp [intOf]; omega
   ·
    go_wp2
    go_ret
    exact ⟨q, rfl, by omega, fun _ => ⟨by omega, by have := hall.out; rwa [List.take_of_length_le (by omega)] at this⟩, hb⟩
set_option maxHeartbeats 1000000 in
theorem szExit_any (x : Ex) (a0 : Option Addr) (c0 : Nat) (a1 : Option Addr) (c1 : Nat) (left : Int) (w : World) (h0 : 0 ≤ left) (h1 : left ≤ 1048576) (hx : ExMax x) (p0 : EFsAt w 0 a0 x.frames) (p1 : ERsAt w 0 a1 x.recs) :
  Calls Tryz.prog 85 #[.agg #[.int .i64 x.kind, .int .i64 x.spec.f, .int .i64 x.spec.pc, .int .i64 x.spec.seen, .int .i64 x.spec.target, .slice a0 x.frames.length c0, .slice a1 x.recs.length c1], .int .i64 left] w fun e w' => ∃ r : Int, e = .returned (.int .i64 r) ∧ r ≤ left ∧ (0 ≤ r → ExSmall x) ∧ Below w.heap.size w w' := by
 have hbA : Below w.heap.size w (w.alloc (.cells #[.int .i64 x.kind, .int .i64 x.spec.f, .int .i64 x.spec.pc, .int .i64 x.spec.seen, .int .i64 x.spec.target, .slice a0 x.frames.length c0, .slice a1 x.recs.length c1] 158)) := (Below.refl _ _).alloc (Nat.le_refl _) _
 have hM0 := block_new w #[.int .i64 x.kind, .int .i64 x.spec.f, .int .i64 x.spec.pc, .int .i64 x.spec.seen, .int .i64 x.spec.target, .slice a0 x.frames.length c0, .slice a1 x.recs.length c1] 158
 go_enter Tryz.func85, Tryz.ntmps85
 go_wp2_with fail
 refine (szExFrameS_any a0 x.frames c0 left _ h0 h1 hx.1 (p0.mono hbA)).mono ?_
 rintro e w1 ⟨r0, rfl, hr0, hs0, hb0⟩
 have hB0 := hbA.trans (hb0.mono hbA.size)
 have hM1 := block_kept hM0 hb0
 by_cases hn0 : r0 < 0
 ·
  go_wp2
  go_ret
  exact ⟨-1, rfl, by omega, by omega, hB0⟩
 have y1 := block_cell hM1
 go_wp2_with fail
 refine (szExRecS_any a1 x.recs c1 r0 _ (by omega) (by omega) hx.2 (p1.mono hB0)).mono ?_
 rintro e w2 ⟨r1, rfl, hr1, hs1, hb1⟩
 have hB1 := hB0.trans (hb1.mono hB0.size)
 have hM2 := block_kept hM1 hb1
 clear y1
 by_cases hn1 : r1 < 0
 ·
  go_wp2
  go_ret
  exact ⟨-1, rfl, by omega, by omega, hB1⟩
 go_wp2
 go_ret
 exact ⟨_, rfl, by omega, fun _ => ⟨hs0 (by omega), hs1 (by omega)⟩, hB1⟩
set_option maxHeartbeats 1000000 in
theorem szExitS_any (a : Option Addr) (xs : List Ex) (cap : Nat) (left : Int) (w : World) (h0 : 0 ≤ left) (h1 : left ≤ 1048576) (hx : LMax ExMax xs) (hm : ExsAt w 0 a xs) :
  Calls Tryz.prog 41 #[.slice a xs.length cap, .int .i64 left] w fun e w' => ∃ r : Int, e = .returned (.int .i64 r) ∧ r ≤ left ∧ (0 ≤ r → LSmall ExSmall xs) ∧ Below w.heap.size w w' := by
 obtain ⟨hn, hc⟩ := hx
 unfold maxLen at hn
 by_cases h : left < xs.length
 ·
  go_enter Tryz.func41, Tryz.ntmps41
  go_wp2
  go_ret
  exact ⟨-1, rfl, by omega, by omega, Below.refl _ _⟩
 ·
  go_enter Tryz.func41, Tryz.ntmps41
  go_wp2
  go_loopw [1, 5] (fun l i wr => ∃ (k : Nat) (q : Int), k ≤ xs.length ∧ i = .int .i64 k ∧ l = .int .i64 q ∧ 0 ≤ q ∧ q ≤ left - xs.length ∧ Hid (∀ f ∈ xs.take k, ExSmall f) ∧ Below w.heap.size w wr) (fun _ i _ => xs.length - (intOf i).toNat)
  case atStart => exact ⟨0, _, by omega, rfl, rfl, by omega, by omega, by intro f hf; simp at hf, Below.refl _ _⟩
  case round =>
   obtain ⟨k, q, hk, rfl, rfl, hq0, hq1, hall, hb⟩ := hrel
   by_cases hlt : k < xs.length
   ·
    obtain ⟨b, off, a0, c0, a1, c1, rfl, -, d0, d1, d2, d3, d4, d5, d6, p0, p1⟩ := hm k hlt
    have e0 := cell_later hb d0
    have e1 := cell_later hb d1
    have e2 := cell_later hb d2
    have e3 := cell_later hb d3
    have e4 := cell_later hb d4
    have e5 := cell_later hb d5
    have e6 := cell_later hb d6
    clear d0 d1 d2 d3 d4 d5 d6
    have hck := hc xs[k] (List.getElem_mem hlt)
    go_wp2_with fail
    refine (szExit_any xs[k] _ _ _ _ _ _ hq0 (by omega) hck (p0.mono hb) (p1.mono hb)).mono ?_
    rintro e w2 ⟨r, rfl, hr, hs, hb'⟩
    have hB := hb.trans (hb'.mono hb.size)
    clear hb' e0 e1 e2 e3 e4 e5 e6
    by_cases hr0 : r < 0
    ·
     go_wp2
     go_ret
     exact ⟨-1, rfl, by omega, by omega, hB⟩
    ·
     go_wp2
     go_roundw
     case rel => exact ⟨k + 1, r, by omega, by go_num, rfl, by omega, by omega, take_succ_mem hlt hall.out (hs (by omega)), hB⟩
     case measure => simp [intOf]; omega
   ·
    go_wp2
    go_ret
    exact ⟨q, rfl, by omega, fun _ => ⟨by omega, by have := hall.out; rwa [List.take_of_length_le (by omega)] at this⟩, hb⟩
set_option maxHeartbeats 1000000 in
theorem szFOp_any (x : Fo) (left : Int) (w : World) (h0 : 0 ≤ left) (h1 : left ≤ 1048576) (hx : FoMax x) :
  Calls Tryz.prog 84 #[.agg #[.int .i64 x.op, .int .i64 x.d, .int .i64 x.a, .int .i64 x.b, .int .i64 x.x, .int .i64 x.f, .int .i64 x.p, .int .i64 x.v.k, .int .i64 x.v.n, .string x.v.s], .int .i64 left] w fun e w' => ∃ r : Int, e = .returned (.int .i64 r) ∧ r ≤ left ∧ (0 ≤ r → FoSmall x) ∧ Below w.heap.size w w' := by
 have hbA : Below w.heap.size w (w.alloc (.cells #[.int .i64 x.op, .int .i64 x.d, .int .i64 x.a, .int .i64 x.b, .int .i64 x.x, .int .i64 x.f, .int .i64 x.p, .int .i64 x.v.k, .int .i64 x.v.n, .string x.v.s] 152)) := (Below.refl _ _).alloc (Nat.le_refl _) _
 unfold FoMax at hx
 go_enter Tryz.func84, Tryz.ntmps84
 go_wp2_with fail
 refine (szVal_any _ _ _ _ _ h0 h1 hx).mono ?_
 rintro e w1 ⟨rfl, hb⟩
 have hB := hbA.trans (hb.mono hbA.size)
 by_cases hr : left < (x.v.s.size : Int)
 ·
  rw [if_pos hr]
  go_wp2
  go_ret
  exact ⟨-1, rfl, by omega, by omega, hB⟩
 ·
  rw [if_neg hr]
  have hr0 : ¬ left - (x.v.s.size : Int) < 0 := by omega
  go_wp2
  go_ret
  exact ⟨_, rfl, by omega, fun _ => by show _ ≤ _; omega, hB⟩
set_option maxHeartbeats 1000000 in
theorem szFOpS_any (a : Option Addr) (xs : List Fo) (cap : Nat) (left : Int) (w : World) (h0 : 0 ≤ left) (h1 : left ≤ 1048576) (hx : LMax FoMax xs) (hm : FosAt w 0 a xs) :
  Calls Tryz.prog 40 #[.slice a xs.length cap, .int .i64 left] w fun e w' => ∃ r : Int, e = .returned (.int .i64 r) ∧ r ≤ left ∧ (0 ≤ r → LSmall FoSmall xs) ∧ Below w.heap.size w w' := by
 obtain ⟨hn, hc⟩ := hx
 unfold maxLen at hn
 by_cases h : left < xs.length
 ·
  go_enter Tryz.func40, Tryz.ntmps40
  go_wp2
  go_ret
  exact ⟨-1, rfl, by omega, by omega, Below.refl _ _⟩
 ·
  go_enter Tryz.func40, Tryz.ntmps40
  go_wp2
  go_loopw [1, 5] (fun l i wr => ∃ (k : Nat) (q : Int), k ≤ xs.length ∧ i = .int .i64 k ∧ l = .int .i64 q ∧ 0 ≤ q ∧ q ≤ left - xs.length ∧ Hid (∀ f ∈ xs.take k, FoSmall f) ∧ Below w.heap.size w wr) (fun _ i _ => xs.length - (intOf i).toNat)
  case atStart => exact ⟨0, _, by omega, rfl, rfl, by omega, by omega, by intro f hf; simp at hf, Below.refl _ _⟩
  case round =>
   obtain ⟨k, q, hk, rfl, rfl, hq0, hq1, hall, hb⟩ := hrel
   by_cases hlt : k < xs.length
   ·
    obtain ⟨b, off, rfl, -, d0, d1, d2, d3, d4, d5, d6, d7, d8, d9⟩ := hm k hlt
    have e0 := cell_later hb d0
    have e1 := cell_later hb d1
    have e2 := cell_later hb d2
    have e3 := cell_later hb d3
    have e4 := cell_later hb d4
    have e5 := cell_later hb d5
    have e6 := cell_later hb d6
    have e7 := cell_later hb d7
    have e8 := cell_later hb d8
    have e9 := cell_later hb d9
    clear d0 d1 d2 d3 d4 d5 d6 d7 d8 d9
    have hck := hc xs[k] (List.getElem_mem hlt)
    go_wp2_with fail
    refine (szFOp_any xs[k] _ _ hq0 (by omega) hck).mono ?_
    rintro e w2 ⟨r, rfl, hr, hs, hb'⟩
    have hB := hb.trans (hb'.mono hb.size)
    clear hb' e0 e1 e2 e3 e4 e5 e6 e7 e8 e9
    by_cases hr0 : r < 0
    ·
     go_wp2
     go_ret
     exact ⟨-1, rfl, by omega, by omega, hB⟩
    ·
     go_wp2
     go_roundw
     case rel => exact ⟨k + 1, r, by omega, by go_num, rfl, by omega, by omega, take_succ_mem hlt hall.out (hs (by omega)), hB⟩
     case measure => simp [intOf]; omega
   ·
    go_wp2
    go_ret
    exact ⟨q, rfl, by omega, fun _ => ⟨by omega, by have := hall.out; rwa [List.take_of_length_le (by omega)] at this⟩, hb⟩
set_option maxHeartbeats 1000000 in
theorem szFast_any (oa ea : Option Addr) (oc ec : Nat) (d : FastD) (left : Int) (w : World) (h0 : 0 ≤ left) (h1 : left ≤ 1048576) (hx : FastMax d) (hm : FastAt w 0 oa ea d) :
  Calls Tryz.prog 7 #[.agg (fastCells oa ea oc ec d), .int .i64 left] w fun e w' => ∃ r : Int, e = .returned (.int .i64 r) ∧ r ≤ left ∧ (0 ≤ r → FastSmall d) ∧ Below w.heap.size w w' := by
 unfold fastCells
 have hbA : Below w.heap.size w (w.alloc (.cells #[.int .i64 d.fn, .int .i64 d.entry, .int .i64 d.vals, .int .i64 d.nums, .slice oa d.ops.length oc, .slice ea d.exits.length ec] 29)) := (Below.refl _ _).alloc (Nat.le_refl _) _
 have hM0 := block_new w #[.int .i64 d.fn, .int .i64 d.entry, .int .i64 d.vals, .int .i64 d.nums, .slice oa d.ops.length oc, .slice ea d.exits.length ec] 29
 go_enter Tryz.func7, Tryz.ntmps7
 go_wp2_with fail
 refine (szFOpS_any oa d.ops oc left _ h0 h1 hx.1 (hm.ops.mono hbA)).mono ?_
 rintro e w1 ⟨r1, rfl, hr1, hs1, hb1⟩
 have hB1 := hbA.trans (hb1.mono hbA.size)
 have hM1 := block_kept hM0 hb1
 by_cases hn1 : r1 < 0
 ·
  go_wp2
  go_ret
  exact ⟨-1, rfl, by omega, by omega, hB1⟩
 have y1 := block_cell hM1
 go_wp2_with fail
 refine (szExitS_any ea d.exits ec r1 _ (by omega) (by omega) hx.2 (hm.exits.mono hB1)).mono ?_
 rintro e w2 ⟨r2, rfl, hr2, hs2, hb2⟩
 have hB2 := hB1.trans (hb2.mono hB1.size)
 clear y1
 by_cases hn2 : r2 < 0
 ·
  go_wp2
  go_ret
  exact ⟨-1, rfl, by omega, by omega, hB2⟩
 go_wp2
 go_ret
 exact ⟨_, rfl, by omega, fun _ => ⟨hs1 (by omega), hs2 (by omega)⟩, hB2⟩
end Go.Proofs.YtoimokjohmhnaaaGreatDoor
namespace Go.Proofs.YtoimokjohmhnaaaGreatDoor
open Go.RowKit
theorem vl_eq {v u : Vl} : v = u ↔ v.k = u.k ∧ v.n = u.n ∧ v.s = u.s := by
 cases v; cases u; simp
theorem bytes_eq (a b : ByteArray) : (a.toList == b.toList) = pB (a = b) := by
 rw [Bool.eq_iff_iff]
 simp only [beq_iff_eq, pB, decide_eq_true_eq]
 rw [ByteArray.toList_eq, ByteArray.toList_eq]
 obtain ⟨⟨x⟩⟩ := a
 obtain ⟨⟨y⟩⟩ := b
 simp
theorem guard36 : Tryz.prog.eqGuardType Tryz.prog.depth 76 = false := by kernel_rfl
theorem eqIn36 (v u : Vl) (W : World) : (Op.equalIn 10000 76 (.agg #[.int .i64 v.k, .int .i64 v.n, .string v.s]) (.agg #[.int .i64 u.k, .int .i64 u.n, .string u.s])).run Tryz.prog W = .ok (pB (v = u)) W := by
 have h : ∀ d : Nat, (Op.equalIn (d + 1 + 1) 76 (.agg #[.int .i64 v.k, .int .i64 v.n, .string v.s]) (.agg #[.int .i64 u.k, .int .i64 u.n, .string u.s])).run Tryz.prog W = .ok (pB (v = u)) W := fun d => by
  have ht : Tryz.prog.underlying 76 = some (.struct (Tryz.prog.fieldsOf 76)) := by kernel_rfl
  have hp : Tryz.prog.stoodInHeld 76 = false := by kernel_rfl
  have hf : (Tryz.prog.fieldsOf 76).toList.map (fun f => (f.name, f.type, f.offset)) = [("Kind", 3, 0), ("N", 3, 1), ("S", 9, 2)] := by kernel_rfl
  rw [run_equalIn_struct W (d + 1) 76 _ _ ht hp]
  have p0 : ∀ (a b : Int) (s : ByteArray) (W : World), (part 3 #[.int .i64 a, .int .i64 b, .string s] 0).run Tryz.prog W = .ok (.int .i64 a) W := fun _ _ _ _ => by kernel_rfl
  have p1 : ∀ (a b : Int) (s : ByteArray) (W : World), (part 3 #[.int .i64 a, .int .i64 b, .string s] 1).run Tryz.prog W = .ok (.int .i64 b) W := fun _ _ _ _ => by kernel_rfl
  have p2 : ∀ (a b : Int) (s : ByteArray) (W : World), (part 9 #[.int .i64 a, .int .i64 b, .string s] 2).run Tryz.prog W = .ok (.string s) W := fun _ _ _ _ => by kernel_rfl
  rcases hL : (Tryz.prog.fieldsOf 76).toList with _ | ⟨f1, _ | ⟨f2, _ | ⟨f3, _ | _⟩⟩⟩
  · rw [hL] at hf; simp at hf
  · rw [hL] at hf; simp at hf
  · rw [hL] at hf; simp at hf
  ·
   rw [hL] at hf
   simp only [List.map_cons, List.map_nil, List.cons.injEq, Prod.mk.injEq, and_true] at hf
   obtain ⟨⟨n1, t1, o1⟩, ⟨n2, t2, o2⟩, n3, t3, o3⟩ := hf
   have e1 := run_equalIn_int (P := Tryz.prog) W d 3 .i64 .i64 v.k u.k Tryz.underlying3
   have e2 := run_equalIn_int (P := Tryz.prog) W d 3 .i64 .i64 v.n u.n Tryz.underlying3
   have e3 := run_equalIn_string (P := Tryz.prog) W d 9 v.s u.s Tryz.underlying9
   rw [int_eq] at e1 e2
   rw [bytes_eq] at e3
   have hb : pB (v = u) = (pB (v.k = u.k) && (pB (v.n = u.n) && pB (v.s = u.s))) := by
    rw [← pB_and, ← pB_and, show (v = u) = (v.k = u.k ∧ v.n = u.n ∧ v.s = u.s) from propext vl_eq]
   rw [hb]
   cases hk : pB (v.k = u.k) <;> cases hn : pB (v.n = u.n) <;> cases hs : pB (v.s = u.s) <;> rw [hk] at e1 <;> rw [hn] at e2 <;> rw [hs] at e3 <;>
    simp [Op.eqFields, n1, t1, o1, n2, t2, o2, n3, t3, o3, p0, p1, p2, e1, e2, e3]
  · rw [hL] at hf; simp at hf
 exact h 9998
end Go.Proofs.YtoimokjohmhnaaaGreatDoor
namespace Go.Proofs.YtoimokjohmhnaaaGreatDoor
set_option maxRecDepth 100000
open Go.RowKit
set_option maxHeartbeats 400000 in
theorem callOp_any (op : Int) (w : World) : Calls Tryz.prog 227 #[.int .i64 op] w fun e w' => e = .returned (.bool (decide (op = 23) || decide (op = 24))) ∧ w' = w := by
 by_cases h1 : op = 23
 ·
  subst h1
  go_enter Tryz.func227, Tryz.ntmps227
  go_wp2
  go_ret
  exact ⟨rfl, rfl⟩
 ·
  by_cases h2 : op = 24
  ·
   subst h2
   go_enter Tryz.func227, Tryz.ntmps227
   go_wp2
   go_ret
   exact ⟨rfl, rfl⟩
  ·
   have b1 : (op == 23) = false := by simpa using h1
   have b2 : (op == 24) = false := by simpa using h2
   go_enter Tryz.func227, Tryz.ntmps227
   go_wp2
   go_ret
   exact ⟨ret_bool (by simp [h1, h2]), rfl⟩
set_option maxHeartbeats 4000000 in
theorem fits_any (a1 a2 : Option Addr) (nt c1 c2 : Nat) (fs : List Fn) (base G : Nat) (f pc nl ns : Int) (last : Bool) (w : World) (hm : FnsAt w 0 a2 fs) (hH : Hs w base G fs.length fs) (FF : ∀ k (hk : k < fs.length), Fine fs fs[k].code) :
  Calls Tryz.prog 196 #[.agg #[.slice a1 nt c1, .slice a2 fs.length c2], .slice (some ⟨G, 0, none⟩) fs.length fs.length, .int .i64 f, .int .i64 pc, .int .i64 nl, .int .i64 ns, .bool last] w fun e w' => Says (Fits fs f pc nl ns last) e ∧ Below w.heap.size w w' := by
 have hbA : Below w.heap.size w (w.alloc (.cells #[.slice a1 nt c1, .slice a2 fs.length c2] 35)) := (Below.refl _ _).alloc (Nat.le_refl _) _
 by_cases hf0 : f < 0
 ·
  go_enter Tryz.func196, Tryz.ntmps196
  go_wp2
  go_ret
  exact ⟨Says.no rfl (fits_fn (.inl hf0)), hbA⟩
 by_cases hf1 : (fs.length : Int) ≤ f
 ·
  go_enter Tryz.func196, Tryz.ntmps196
  go_wp2
  go_ret
  exact ⟨Says.no rfl (fits_fn (.inr hf1)), hbA⟩
 obtain ⟨i, rfl⟩ : ∃ i : Nat, f = i := ⟨f.toNat, by omega⟩
 have hi : i < fs.length := by omega
 clear hf0 hf1
 obtain ⟨b, off, ca, cc, rfl, -, d1, d2, d3, d4⟩ := hm i hi
 have d2' := cell_later hbA d2
 have d3' := cell_later hbA d3
 clear d1 d2 d3
 by_cases hl : nl = fs[i].locals
 case neg =>
  have hl' : (nl != fs[i].locals) = true := by simpa using hl
  have HL : Hid (nl ≠ fs[i].locals) := hl
  clear hl
  go_enter Tryz.func196, Tryz.ntmps196
  go_wp2
  go_ret
  exact ⟨Says.no rfl (fits_locals hi HL.out), hbA⟩
 have HL : Hid (nl = fs[i].locals) := hl
 have hl' : (nl != fs[i].locals) = false := by simpa using hl
 clear hl
 obtain ⟨g, d, hg, hD, hHt⟩ := hH.at hi hi
 have F := FF i hi
 have P := hD.hts F
 have hmost := F.most
 have hdl : Hid (d.length = fs[i].code.length) := P.len
 have hg' := cell_later hbA hg
 clear hg
 go_enter Tryz.func196, Tryz.ntmps196
 go_wp2
 go_quiet (fail)
 clear d2' d3' hl'
 by_cases hp0 : pc < 0
 ·
  go_wp2
  go_ret
  exact ⟨Says.no rfl (fits_pc hi (.inl hp0)), below_draws hbA _⟩
 by_cases hp1 : (fs[i].code.length : Int) ≤ pc
 ·
  go_wp2
  go_ret
  exact ⟨Says.no rfl (fits_pc hi (.inr hp1)), below_draws hbA _⟩
 obtain ⟨p, rfl⟩ : ∃ p : Nat, pc = p := ⟨pc.toNat, by omega⟩
 have hpd : p < d.length := by rw [hdl.out]; omega
 have hpl : p < fs[i].code.length := by omega
 clear hp0 hp1
 have hHA := hHt.mono hbA
 have hc0 := hHA.cell hpd
 have hlow := P.low p hpd
 have hhigh := P.high p hpd
 by_cases hm1 : d[p] = -1
 ·
  have HM : Hid (d[p] = -1) := hm1
  have hm1' : (d[p] == -1) = true := by simpa using hm1
  go_wp2
  go_ret
  exact ⟨Says.no rfl (fits_none hi hD hpd (by rw [HM.out]; decide)), below_draws hbA _⟩
 have HM : Hid (0 ≤ d[p]) := by show 0 ≤ d[p]; omega
 have hm1' : (d[p] == -1) = false := by simpa using hm1
 clear hm1
 cases last with
 | true =>
  go_wp2
  go_ret
  refine ⟨⟨_, rfl, ?_⟩, below_draws hbA _⟩
  rw [fits_last hi hD hpd hdl.out HL.out HM.out]
  simp
 | false =>
  cases p with
  | zero =>
   go_wp2
   all_goals go_ret
   all_goals exact ⟨Says.no rfl fits_first, below_draws hbA _⟩
  | succ p =>
   have hpd0 : p < d.length := by omega
   have hpl0 : p < fs[i].code.length := by omega
   obtain ⟨cb, coff, rfl, -, e1, -⟩ := d4 p hpl0
   have e1' := cell_later hbA e1
   have hc1 := hHA.cell hpd0
   have hlow0 := P.low p hpd0
   clear e1
   by_cases ho : fs[i].code[p].1 = 23 ∨ fs[i].code[p].1 = 24
   case neg =>
    have ho' : (decide (fs[i].code[p].1 = 23) || decide (fs[i].code[p].1 = 24)) = false := by simpa using ho
    have HO : Hid (¬ (fs[i].code[p].1 = 23 ∨ fs[i].code[p].1 = 24)) := ho
    clear ho
    go_wp2_with (go_at_call 227; refine (callOp_any _ _).mono ?_; rintro e w' ⟨rfl, hw⟩; rw [hw]; clear hw w')
    go_ret
    refine ⟨Says.no rfl ?_, below_draws hbA _⟩
    rw [fits_other hi hD hpd hdl.out HL.out HM.out]
    exact fun h => HO.out h.2.1
   have ho' : (decide (fs[i].code[p].1 = 23) || decide (fs[i].code[p].1 = 24)) = true := by simpa using ho
   have HO : Hid (fs[i].code[p].1 = 23 ∨ fs[i].code[p].1 = 24) := ho
   clear ho
   by_cases hm0 : d[p] = -1
   ·
    have HM0 : Hid (d[p] = -1) := hm0
    have hm0' : (d[p] != -1) = false := by simpa using hm0
    clear hm0
    go_wp2_with (go_at_call 227; refine (callOp_any _ _).mono ?_; rintro e w' ⟨rfl, hw⟩; rw [hw]; clear hw w')
    go_ret
    refine ⟨Says.no rfl ?_, below_draws hbA _⟩
    rw [fits_other hi hD hpd hdl.out HL.out HM.out]
    exact fun h => absurd h.1 (by rw [HM0.out]; decide)
   ·
    have HM0 : Hid (0 ≤ d[p]) := by show 0 ≤ d[p]; omega
    have hm0' : (d[p] != -1) = true := by simpa using hm0
    clear hm0
    go_wp2_with (go_at_call 227; refine (callOp_any _ _).mono ?_; rintro e w' ⟨rfl, hw⟩; rw [hw]; clear hw w')
    go_ret
    refine ⟨⟨_, rfl, ?_⟩, below_draws hbA _⟩
    rw [fits_other hi hD hpd hdl.out HL.out HM.out]
    constructor
    ·
     intro h
     exact ⟨HM0.out, HO.out, by simpa using h⟩
    ·
     rintro ⟨-, -, h⟩
     simpa using h
end Go.Proofs.YtoimokjohmhnaaaGreatDoor
