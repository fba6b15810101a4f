/-
  What the size functions of the laws return of code, with how much it is.
-/
import Derived.Test.YtopbdjplpnojmaaK0
import Derived.Test.YtopbdjplpnojmaaX1
namespace Go.Proofs.Ytopbdjplpnojmaa
open Go.RowKit

/-- How much a list holds. -/
def sumBy {α : Type} (m : α → Nat) (l : List α) : Nat := (l.map m).sum
def LM {α : Type} (m : α → Nat) (l : List α) : Nat := l.length + sumBy m l
theorem sumBy_take {α : Type} (m : α → Nat) (l : List α) (k : Nat) (h : k < l.length) : sumBy m (l.take (k + 1)) = sumBy m (l.take k) + m l[k] := by
  unfold sumBy
  rw [List.take_succ_eq_append_getElem h, List.map_append, List.sum_append]
  simp only [List.map_cons, List.map_nil, List.sum_cons, List.sum_nil, Nat.add_zero]
theorem sumBy_all {α : Type} (m : α → Nat) (l : List α) : sumBy m (l.take l.length) = sumBy m l := by rw [List.take_length]
theorem sumBy_le {α : Type} (m : α → Nat) (l : List α) (k : Nat) : sumBy m (l.take k) ≤ sumBy m l := by
  have h : sumBy m l = sumBy m (l.take k) + sumBy m (l.drop k) := by
    unfold sumBy
    rw [← List.sum_append, ← List.map_append, List.take_append_drop]
  omega
def mSr (_ : Sr) : Nat := 0
def mFo (_ : Fo) : Nat := 0
def mEF (x : EF) : Nat := LM mSr x.locals + LM mSr x.stack
def mER (x : ER) : Nat := LM mSr x.fields
def mEx (x : Ex) : Nat := LM mEF x.frames + LM mER x.recs
def mFast (d : FastD) : Nat := LM mFo d.ops + LM mEx d.exits
set_option maxRecDepth 100000 in
set_option maxHeartbeats 1000000 in
theorem szSrc_m (x : Sr) (left : Int) (w : World) (h0 : 0 ≤ left) (h1 : left ≤ 1048576) (hx : SrMax x) :
    Calls Try.prog 98 #[.agg #[.int .i64 x.k, .int .i64 x.n, .int .i64 x.v.k, .int .i64 x.v.n, .string x.v.s], .int .i64 left] w fun e w' => ∃ r : Int, e = .returned (.int .i64 r) ∧ r ≤ left ∧ (0 ≤ r → SrSmall x ∧ (mSr x : Int) + r ≤ left) ∧ Below w.heap.size w w' := by
  have hbA : Below w.heap.size w (w.alloc (.cells #[.int .i64 x.k, .int .i64 x.n, .int .i64 x.v.k, .int .i64 x.v.n, .string x.v.s] 191)) := (Below.refl _ _).alloc (Nat.le_refl _) _
  unfold SrMax at hx
  go_enter Try.func98, Try.ntmps98
  go_wp2_with fail
  refine (szVal_any _ _ _ _ _ h0 h1 hx).mono ?_
  rintro e w1 ⟨rfl, hb⟩
  have hB := hbA.trans (hb.mono hbA.size)
  by_cases hr : left < (x.v.s.size : Int)
  · rw [if_pos hr]
    go_wp2
    go_ret
    exact ⟨-1, rfl, by omega, by omega, hB⟩
  · rw [if_neg hr]
    have hr0 : ¬ left - (x.v.s.size : Int) < 0 := by omega
    go_wp2
    go_ret
    exact ⟨_, rfl, by omega, fun _ => ⟨by show _ ≤ _; omega, by show ((0 : Nat) : Int) + _ ≤ _; omega⟩, hB⟩

set_option maxRecDepth 100000 in
set_option maxHeartbeats 1000000 in
theorem szSrcS_m (a : Option Addr) (xs : List Sr) (cap : Nat) (left : Int) (w : World) (h0 : 0 ≤ left) (h1 : left ≤ 1048576) (hx : LMax SrMax xs) (hm : SrsAt w 0 a xs) :
    Calls Try.prog 95 #[.slice a xs.length cap, .int .i64 left] w fun e w' => ∃ r : Int, e = .returned (.int .i64 r) ∧ r ≤ left ∧ (0 ≤ r → LSmall SrSmall xs ∧ (LM mSr xs : Int) + r ≤ left) ∧ Below w.heap.size w w' := by
  obtain ⟨hn, hc⟩ := hx
  unfold maxLen at hn
  by_cases h : left < xs.length
  · go_enter Try.func95, Try.ntmps95
    go_wp2
    go_ret
    exact ⟨-1, rfl, by omega, by omega, Below.refl _ _⟩
  · go_enter Try.func95, Try.ntmps95
    go_wp2
    go_loopw [1, 5] (fun l i wr => ∃ (k : Nat) (q : Int), k ≤ xs.length ∧ i = .int .i64 k ∧ l = .int .i64 q ∧ 0 ≤ q ∧ q ≤ left - xs.length ∧ Hid ((sumBy mSr (xs.take k) : Int) + q ≤ left - xs.length) ∧ Hid (∀ f ∈ xs.take k, SrSmall f) ∧ Below w.heap.size w wr) (fun _ i _ => xs.length - (intOf i).toNat)
    case atStart => exact ⟨0, _, by omega, rfl, rfl, by omega, by omega, by show ((0 : Nat) : Int) + _ ≤ _; omega, by intro f hf; simp at hf, Below.refl _ _⟩
    case round =>
      obtain ⟨k, q, hk, rfl, rfl, hq0, hq1, HQ, hall, hb⟩ := hrel
      by_cases hlt : k < xs.length
      · obtain ⟨b, off, rfl, -, d0, d1, d2, d3, d4⟩ := hm k hlt
        have e0 := cell_later hb d0
        have e1 := cell_later hb d1
        have e2 := cell_later hb d2
        have e3 := cell_later hb d3
        have e4 := cell_later hb d4
        clear d0 d1 d2 d3 d4
        have hck := hc xs[k] (List.getElem_mem hlt)
        go_wp2_with fail
        refine (szSrc_m xs[k] _ _ hq0 (by omega) hck).mono ?_
        rintro e w2 ⟨r, rfl, hr, hs, hb'⟩
        have hB := hb.trans (hb'.mono hb.size)
        clear hb' e0 e1 e2 e3 e4
        by_cases hr0 : r < 0
        · clear hs
          go_wp2
          go_ret
          exact ⟨-1, rfl, by omega, by omega, hB⟩
        · have HS := hs (by omega)
          have HS2 : Hid (SrSmall xs[k] ∧ (mSr xs[k] : Int) + r ≤ q) := HS
          clear hs HS
          go_wp2
          go_roundw
          case rel => exact ⟨k + 1, r, by omega, by go_num, rfl, by omega, by omega, by show _ ≤ _; rw [sumBy_take _ _ _ hlt]; have a1 := HQ.out; have a2 := HS2.out.2; push_cast; omega, take_succ_mem hlt hall.out HS2.out.1, hB⟩
          case measure => simp [intOf]; omega
      · have hkn : k = xs.length := by omega
        have HQ2 : Hid ((sumBy mSr xs : Int) + q ≤ left - xs.length) := by have := HQ.out; rwa [hkn, sumBy_all] at this
        clear HQ
        go_wp2
        go_ret
        exact ⟨q, rfl, by omega, fun _ => ⟨⟨by omega, by have := hall.out; rwa [List.take_of_length_le (by omega)] at this⟩, by have := HQ2.out; show ((xs.length + sumBy mSr xs : Nat) : Int) + _ ≤ _; push_cast; omega⟩, hb⟩

set_option maxRecDepth 100000 in
set_option maxHeartbeats 1000000 in
theorem szExFrame_m (x : EF) (a0 : Option Addr) (c0 : Nat) (a1 : Option Addr) (c1 : Nat) (left : Int) (w : World) (h0 : 0 ≤ left) (h1 : left ≤ 1048576) (hx : EFMax x) (p0 : SrsAt w 0 a0 x.locals) (p1 : SrsAt w 0 a1 x.stack) :
    Calls Try.prog 89 #[.agg #[.int .i64 x.fn, .int .i64 x.pc, .slice a0 x.locals.length c0, .slice a1 x.stack.length c1], .int .i64 left] w fun e w' => ∃ r : Int, e = .returned (.int .i64 r) ∧ r ≤ left ∧ (0 ≤ r → EFSmall x ∧ (mEF x : Int) + r ≤ left) ∧ Below w.heap.size w w' := by
  have hbA : Below w.heap.size w (w.alloc (.cells #[.int .i64 x.fn, .int .i64 x.pc, .slice a0 x.locals.length c0, .slice a1 x.stack.length c1] 178)) := (Below.refl _ _).alloc (Nat.le_refl _) _
  have hM0 := block_new w #[.int .i64 x.fn, .int .i64 x.pc, .slice a0 x.locals.length c0, .slice a1 x.stack.length c1] 178
  go_enter Try.func89, Try.ntmps89
  go_wp2_with fail
  refine (szSrcS_m a0 x.locals c0 left _ h0 h1 hx.1 (p0.mono hbA)).mono ?_
  rintro e w1 ⟨r0, rfl, hr0, hs0, hb0⟩
  have hB0 := hbA.trans (hb0.mono hbA.size)
  have hM1 := block_kept hM0 hb0
  by_cases hn0 : r0 < 0
  · clear hs0
    go_wp2
    go_ret
    exact ⟨-1, rfl, by omega, by omega, hB0⟩
  obtain ⟨hz0, ha0⟩ := hs0 (by omega)
  have HA0 : Hid ((LM mSr x.locals : Int) + r0 ≤ left) := ha0
  clear hs0 ha0
  have y1 := block_cell hM1
  go_wp2_with fail
  refine (szSrcS_m a1 x.stack c1 r0 _ (by omega) (by omega) hx.2 (p1.mono hB0)).mono ?_
  rintro e w2 ⟨r1, rfl, hr1, hs1, hb1⟩
  have hB1 := hB0.trans (hb1.mono hB0.size)
  have hM2 := block_kept hM1 hb1
  clear y1
  by_cases hn1 : r1 < 0
  · clear hs1 HA0
    go_wp2
    go_ret
    exact ⟨-1, rfl, by omega, by omega, hB1⟩
  obtain ⟨hz1, ha1⟩ := hs1 (by omega)
  have HA1 : Hid ((LM mSr x.stack : Int) + r1 ≤ r0) := ha1
  clear hs1 ha1
  go_wp2
  go_ret
  exact ⟨_, rfl, by omega, fun _ => ⟨⟨hz0, hz1⟩, by show ((LM mSr x.locals + LM mSr x.stack : Nat) : Int) + _ ≤ _; have a0_ := HA0.out; have a1_ := HA1.out;  omega⟩, hB1⟩

set_option maxRecDepth 100000 in
set_option maxHeartbeats 1000000 in
theorem szExFrameS_m (a : Option Addr) (xs : List EF) (cap : Nat) (left : Int) (w : World) (h0 : 0 ≤ left) (h1 : left ≤ 1048576) (hx : LMax EFMax xs) (hm : EFsAt w 0 a xs) :
    Calls Try.prog 82 #[.slice a xs.length cap, .int .i64 left] w fun e w' => ∃ r : Int, e = .returned (.int .i64 r) ∧ r ≤ left ∧ (0 ≤ r → LSmall EFSmall xs ∧ (LM mEF xs : Int) + r ≤ left) ∧ Below w.heap.size w w' := by
  obtain ⟨hn, hc⟩ := hx
  unfold maxLen at hn
  by_cases h : left < xs.length
  · go_enter Try.func82, Try.ntmps82
    go_wp2
    go_ret
    exact ⟨-1, rfl, by omega, by omega, Below.refl _ _⟩
  · go_enter Try.func82, Try.ntmps82
    go_wp2
    go_loopw [1, 5] (fun l i wr => ∃ (k : Nat) (q : Int), k ≤ xs.length ∧ i = .int .i64 k ∧ l = .int .i64 q ∧ 0 ≤ q ∧ q ≤ left - xs.length ∧ Hid ((sumBy mEF (xs.take k) : Int) + q ≤ left - xs.length) ∧ Hid (∀ f ∈ xs.take k, EFSmall f) ∧ Below w.heap.size w wr) (fun _ i _ => xs.length - (intOf i).toNat)
    case atStart => exact ⟨0, _, by omega, rfl, rfl, by omega, by omega, by show ((0 : Nat) : Int) + _ ≤ _; omega, by intro f hf; simp at hf, Below.refl _ _⟩
    case round =>
      obtain ⟨k, q, hk, rfl, rfl, hq0, hq1, HQ, hall, hb⟩ := hrel
      by_cases hlt : k < xs.length
      · obtain ⟨b, off, a0, c0, a1, c1, rfl, -, d0, d1, d2, d3, p0, p1⟩ := hm k hlt
        have e0 := cell_later hb d0
        have e1 := cell_later hb d1
        have e2 := cell_later hb d2
        have e3 := cell_later hb d3
        clear d0 d1 d2 d3
        have hck := hc xs[k] (List.getElem_mem hlt)
        go_wp2_with fail
        refine (szExFrame_m xs[k] _ _ _ _ _ _ hq0 (by omega) hck (p0.mono hb) (p1.mono hb)).mono ?_
        rintro e w2 ⟨r, rfl, hr, hs, hb'⟩
        have hB := hb.trans (hb'.mono hb.size)
        clear hb' e0 e1 e2 e3
        by_cases hr0 : r < 0
        · clear hs
          go_wp2
          go_ret
          exact ⟨-1, rfl, by omega, by omega, hB⟩
        · have HS := hs (by omega)
          have HS2 : Hid (EFSmall xs[k] ∧ (mEF xs[k] : Int) + r ≤ q) := HS
          clear hs HS
          go_wp2
          go_roundw
          case rel => exact ⟨k + 1, r, by omega, by go_num, rfl, by omega, by omega, by show _ ≤ _; rw [sumBy_take _ _ _ hlt]; have a1 := HQ.out; have a2 := HS2.out.2; push_cast; omega, take_succ_mem hlt hall.out HS2.out.1, hB⟩
          case measure => simp [intOf]; omega
      · have hkn : k = xs.length := by omega
        have HQ2 : Hid ((sumBy mEF xs : Int) + q ≤ left - xs.length) := by have := HQ.out; rwa [hkn, sumBy_all] at this
        clear HQ
        go_wp2
        go_ret
        exact ⟨q, rfl, by omega, fun _ => ⟨⟨by omega, by have := hall.out; rwa [List.take_of_length_le (by omega)] at this⟩, by have := HQ2.out; show ((xs.length + sumBy mEF xs : Nat) : Int) + _ ≤ _; push_cast; omega⟩, hb⟩

set_option maxRecDepth 100000 in
set_option maxHeartbeats 1000000 in
theorem szExRec_m (x : ER) (a0 : Option Addr) (c0 : Nat) (left : Int) (w : World) (h0 : 0 ≤ left) (h1 : left ≤ 1048576) (hx : ERMax x) (p0 : SrsAt w 0 a0 x.fields) :
    Calls Try.prog 90 #[.agg #[.slice a0 x.fields.length c0], .int .i64 left] w fun e w' => ∃ r : Int, e = .returned (.int .i64 r) ∧ r ≤ left ∧ (0 ≤ r → ERSmall x ∧ (mER x : Int) + r ≤ left) ∧ Below w.heap.size w w' := by
  have hbA : Below w.heap.size w (w.alloc (.cells #[.slice a0 x.fields.length c0] 181)) := (Below.refl _ _).alloc (Nat.le_refl _) _
  have hM0 := block_new w #[.slice a0 x.fields.length c0] 181
  go_enter Try.func90, Try.ntmps90
  go_wp2_with fail
  refine (szSrcS_m a0 x.fields c0 left _ h0 h1 hx (p0.mono hbA)).mono ?_
  rintro e w1 ⟨r0, rfl, hr0, hs0, hb0⟩
  have hB0 := hbA.trans (hb0.mono hbA.size)
  have hM1 := block_kept hM0 hb0
  by_cases hn0 : r0 < 0
  · clear hs0
    go_wp2
    go_ret
    exact ⟨-1, rfl, by omega, by omega, hB0⟩
  obtain ⟨hz0, ha0⟩ := hs0 (by omega)
  have HA0 : Hid ((LM mSr x.fields : Int) + r0 ≤ left) := ha0
  clear hs0 ha0
  go_wp2
  go_ret
  exact ⟨_, rfl, by omega, fun _ => ⟨hz0, by show ((LM mSr x.fields : Nat) : Int) + _ ≤ _; have a0_ := HA0.out;  omega⟩, hB0⟩

set_option maxRecDepth 100000 in
set_option maxHeartbeats 1000000 in
theorem szExRecS_m (a : Option Addr) (xs : List ER) (cap : Nat) (left : Int) (w : World) (h0 : 0 ≤ left) (h1 : left ≤ 1048576) (hx : LMax ERMax xs) (hm : ERsAt w 0 a xs) :
    Calls Try.prog 83 #[.slice a xs.length cap, .int .i64 left] w fun e w' => ∃ r : Int, e = .returned (.int .i64 r) ∧ r ≤ left ∧ (0 ≤ r → LSmall ERSmall xs ∧ (LM mER xs : Int) + r ≤ left) ∧ Below w.heap.size w w' := by
  obtain ⟨hn, hc⟩ := hx
  unfold maxLen at hn
  by_cases h : left < xs.length
  · go_enter Try.func83, Try.ntmps83
    go_wp2
    go_ret
    exact ⟨-1, rfl, by omega, by omega, Below.refl _ _⟩
  · go_enter Try.func83, Try.ntmps83
    go_wp2
    go_loopw [1, 5] (fun l i wr => ∃ (k : Nat) (q : Int), k ≤ xs.length ∧ i = .int .i64 k ∧ l = .int .i64 q ∧ 0 ≤ q ∧ q ≤ left - xs.length ∧ Hid ((sumBy mER (xs.take k) : Int) + q ≤ left - xs.length) ∧ Hid (∀ f ∈ xs.take k, ERSmall f) ∧ Below w.heap.size w wr) (fun _ i _ => xs.length - (intOf i).toNat)
    case atStart => exact ⟨0, _, by omega, rfl, rfl, by omega, by omega, by show ((0 : Nat) : Int) + _ ≤ _; omega, by intro f hf; simp at hf, Below.refl _ _⟩
    case round =>
      obtain ⟨k, q, hk, rfl, rfl, hq0, hq1, HQ, hall, hb⟩ := hrel
      by_cases hlt : k < xs.length
      · obtain ⟨b, off, a0, c0, rfl, -, d0, p0⟩ := hm k hlt
        have e0 := cell_later hb d0
        clear d0
        have hck := hc xs[k] (List.getElem_mem hlt)
        go_wp2_with fail
        refine (szExRec_m xs[k] _ _ _ _ hq0 (by omega) hck (p0.mono hb)).mono ?_
        rintro e w2 ⟨r, rfl, hr, hs, hb'⟩
        have hB := hb.trans (hb'.mono hb.size)
        clear hb' e0
        by_cases hr0 : r < 0
        · clear hs
          go_wp2
          go_ret
          exact ⟨-1, rfl, by omega, by omega, hB⟩
        · have HS := hs (by omega)
          have HS2 : Hid (ERSmall xs[k] ∧ (mER xs[k] : Int) + r ≤ q) := HS
          clear hs HS
          go_wp2
          go_roundw
          case rel => exact ⟨k + 1, r, by omega, by go_num, rfl, by omega, by omega, by show _ ≤ _; rw [sumBy_take _ _ _ hlt]; have a1 := HQ.out; have a2 := HS2.out.2; push_cast; omega, take_succ_mem hlt hall.out HS2.out.1, hB⟩
          case measure => simp [intOf]; omega
      · have hkn : k = xs.length := by omega
        have HQ2 : Hid ((sumBy mER xs : Int) + q ≤ left - xs.length) := by have := HQ.out; rwa [hkn, sumBy_all] at this
        clear HQ
        go_wp2
        go_ret
        exact ⟨q, rfl, by omega, fun _ => ⟨⟨by omega, by have := hall.out; rwa [List.take_of_length_le (by omega)] at this⟩, by have := HQ2.out; show ((xs.length + sumBy mER xs : Nat) : Int) + _ ≤ _; push_cast; omega⟩, hb⟩

set_option maxRecDepth 100000 in
set_option maxHeartbeats 1000000 in
theorem szExit_m (x : Ex) (a0 : Option Addr) (c0 : Nat) (a1 : Option Addr) (c1 : Nat) (left : Int) (w : World) (h0 : 0 ≤ left) (h1 : left ≤ 1048576) (hx : ExMax x) (p0 : EFsAt w 0 a0 x.frames) (p1 : ERsAt w 0 a1 x.recs) :
    Calls Try.prog 74 #[.agg #[.int .i64 x.kind, .int .i64 x.spec.f, .int .i64 x.spec.pc, .int .i64 x.spec.seen, .int .i64 x.spec.target, .slice a0 x.frames.length c0, .slice a1 x.recs.length c1], .int .i64 left] w fun e w' => ∃ r : Int, e = .returned (.int .i64 r) ∧ r ≤ left ∧ (0 ≤ r → ExSmall x ∧ (mEx x : Int) + r ≤ left) ∧ Below w.heap.size w w' := by
  have hbA : Below w.heap.size w (w.alloc (.cells #[.int .i64 x.kind, .int .i64 x.spec.f, .int .i64 x.spec.pc, .int .i64 x.spec.seen, .int .i64 x.spec.target, .slice a0 x.frames.length c0, .slice a1 x.recs.length c1] 152)) := (Below.refl _ _).alloc (Nat.le_refl _) _
  have hM0 := block_new w #[.int .i64 x.kind, .int .i64 x.spec.f, .int .i64 x.spec.pc, .int .i64 x.spec.seen, .int .i64 x.spec.target, .slice a0 x.frames.length c0, .slice a1 x.recs.length c1] 152
  go_enter Try.func74, Try.ntmps74
  go_wp2_with fail
  refine (szExFrameS_m a0 x.frames c0 left _ h0 h1 hx.1 (p0.mono hbA)).mono ?_
  rintro e w1 ⟨r0, rfl, hr0, hs0, hb0⟩
  have hB0 := hbA.trans (hb0.mono hbA.size)
  have hM1 := block_kept hM0 hb0
  by_cases hn0 : r0 < 0
  · clear hs0
    go_wp2
    go_ret
    exact ⟨-1, rfl, by omega, by omega, hB0⟩
  obtain ⟨hz0, ha0⟩ := hs0 (by omega)
  have HA0 : Hid ((LM mEF x.frames : Int) + r0 ≤ left) := ha0
  clear hs0 ha0
  have y1 := block_cell hM1
  go_wp2_with fail
  refine (szExRecS_m a1 x.recs c1 r0 _ (by omega) (by omega) hx.2 (p1.mono hB0)).mono ?_
  rintro e w2 ⟨r1, rfl, hr1, hs1, hb1⟩
  have hB1 := hB0.trans (hb1.mono hB0.size)
  have hM2 := block_kept hM1 hb1
  clear y1
  by_cases hn1 : r1 < 0
  · clear hs1 HA0
    go_wp2
    go_ret
    exact ⟨-1, rfl, by omega, by omega, hB1⟩
  obtain ⟨hz1, ha1⟩ := hs1 (by omega)
  have HA1 : Hid ((LM mER x.recs : Int) + r1 ≤ r0) := ha1
  clear hs1 ha1
  go_wp2
  go_ret
  exact ⟨_, rfl, by omega, fun _ => ⟨⟨hz0, hz1⟩, by show ((LM mEF x.frames + LM mER x.recs : Nat) : Int) + _ ≤ _; have a0_ := HA0.out; have a1_ := HA1.out;  omega⟩, hB1⟩

set_option maxRecDepth 100000 in
set_option maxHeartbeats 1000000 in
theorem szExitS_m (a : Option Addr) (xs : List Ex) (cap : Nat) (left : Int) (w : World) (h0 : 0 ≤ left) (h1 : left ≤ 1048576) (hx : LMax ExMax xs) (hm : ExsAt w 0 a xs) :
    Calls Try.prog 59 #[.slice a xs.length cap, .int .i64 left] w fun e w' => ∃ r : Int, e = .returned (.int .i64 r) ∧ r ≤ left ∧ (0 ≤ r → LSmall ExSmall xs ∧ (LM mEx xs : Int) + r ≤ left) ∧ Below w.heap.size w w' := by
  obtain ⟨hn, hc⟩ := hx
  unfold maxLen at hn
  by_cases h : left < xs.length
  · go_enter Try.func59, Try.ntmps59
    go_wp2
    go_ret
    exact ⟨-1, rfl, by omega, by omega, Below.refl _ _⟩
  · go_enter Try.func59, Try.ntmps59
    go_wp2
    go_loopw [1, 5] (fun l i wr => ∃ (k : Nat) (q : Int), k ≤ xs.length ∧ i = .int .i64 k ∧ l = .int .i64 q ∧ 0 ≤ q ∧ q ≤ left - xs.length ∧ Hid ((sumBy mEx (xs.take k) : Int) + q ≤ left - xs.length) ∧ Hid (∀ f ∈ xs.take k, ExSmall f) ∧ Below w.heap.size w wr) (fun _ i _ => xs.length - (intOf i).toNat)
    case atStart => exact ⟨0, _, by omega, rfl, rfl, by omega, by omega, by show ((0 : Nat) : Int) + _ ≤ _; omega, by intro f hf; simp at hf, Below.refl _ _⟩
    case round =>
      obtain ⟨k, q, hk, rfl, rfl, hq0, hq1, HQ, hall, hb⟩ := hrel
      by_cases hlt : k < xs.length
      · obtain ⟨b, off, a0, c0, a1, c1, rfl, -, d0, d1, d2, d3, d4, d5, d6, p0, p1⟩ := hm k hlt
        have e0 := cell_later hb d0
        have e1 := cell_later hb d1
        have e2 := cell_later hb d2
        have e3 := cell_later hb d3
        have e4 := cell_later hb d4
        have e5 := cell_later hb d5
        have e6 := cell_later hb d6
        clear d0 d1 d2 d3 d4 d5 d6
        have hck := hc xs[k] (List.getElem_mem hlt)
        go_wp2_with fail
        refine (szExit_m xs[k] _ _ _ _ _ _ hq0 (by omega) hck (p0.mono hb) (p1.mono hb)).mono ?_
        rintro e w2 ⟨r, rfl, hr, hs, hb'⟩
        have hB := hb.trans (hb'.mono hb.size)
        clear hb' e0 e1 e2 e3 e4 e5 e6
        by_cases hr0 : r < 0
        · clear hs
          go_wp2
          go_ret
          exact ⟨-1, rfl, by omega, by omega, hB⟩
        · have HS := hs (by omega)
          have HS2 : Hid (ExSmall xs[k] ∧ (mEx xs[k] : Int) + r ≤ q) := HS
          clear hs HS
          go_wp2
          go_roundw
          case rel => exact ⟨k + 1, r, by omega, by go_num, rfl, by omega, by omega, by show _ ≤ _; rw [sumBy_take _ _ _ hlt]; have a1 := HQ.out; have a2 := HS2.out.2; push_cast; omega, take_succ_mem hlt hall.out HS2.out.1, hB⟩
          case measure => simp [intOf]; omega
      · have hkn : k = xs.length := by omega
        have HQ2 : Hid ((sumBy mEx xs : Int) + q ≤ left - xs.length) := by have := HQ.out; rwa [hkn, sumBy_all] at this
        clear HQ
        go_wp2
        go_ret
        exact ⟨q, rfl, by omega, fun _ => ⟨⟨by omega, by have := hall.out; rwa [List.take_of_length_le (by omega)] at this⟩, by have := HQ2.out; show ((xs.length + sumBy mEx xs : Nat) : Int) + _ ≤ _; push_cast; omega⟩, hb⟩

set_option maxRecDepth 100000 in
set_option maxHeartbeats 1000000 in
theorem szFOp_m (x : Fo) (left : Int) (w : World) (h0 : 0 ≤ left) (h1 : left ≤ 1048576) (hx : FoMax x) :
    Calls Try.prog 73 #[.agg #[.int .i64 x.op, .int .i64 x.d, .int .i64 x.a, .int .i64 x.b, .int .i64 x.x, .int .i64 x.f, .int .i64 x.p, .int .i64 x.v.k, .int .i64 x.v.n, .string x.v.s], .int .i64 left] w fun e w' => ∃ r : Int, e = .returned (.int .i64 r) ∧ r ≤ left ∧ (0 ≤ r → FoSmall x ∧ (mFo x : Int) + r ≤ left) ∧ Below w.heap.size w w' := by
  have hbA : Below w.heap.size w (w.alloc (.cells #[.int .i64 x.op, .int .i64 x.d, .int .i64 x.a, .int .i64 x.b, .int .i64 x.x, .int .i64 x.f, .int .i64 x.p, .int .i64 x.v.k, .int .i64 x.v.n, .string x.v.s] 146)) := (Below.refl _ _).alloc (Nat.le_refl _) _
  unfold FoMax at hx
  go_enter Try.func73, Try.ntmps73
  go_wp2_with fail
  refine (szVal_any _ _ _ _ _ h0 h1 hx).mono ?_
  rintro e w1 ⟨rfl, hb⟩
  have hB := hbA.trans (hb.mono hbA.size)
  by_cases hr : left < (x.v.s.size : Int)
  · rw [if_pos hr]
    go_wp2
    go_ret
    exact ⟨-1, rfl, by omega, by omega, hB⟩
  · rw [if_neg hr]
    have hr0 : ¬ left - (x.v.s.size : Int) < 0 := by omega
    go_wp2
    go_ret
    exact ⟨_, rfl, by omega, fun _ => ⟨by show _ ≤ _; omega, by show ((0 : Nat) : Int) + _ ≤ _; omega⟩, hB⟩

set_option maxRecDepth 100000 in
set_option maxHeartbeats 1000000 in
theorem szFOpS_m (a : Option Addr) (xs : List Fo) (cap : Nat) (left : Int) (w : World) (h0 : 0 ≤ left) (h1 : left ≤ 1048576) (hx : LMax FoMax xs) (hm : FosAt w 0 a xs) :
    Calls Try.prog 58 #[.slice a xs.length cap, .int .i64 left] w fun e w' => ∃ r : Int, e = .returned (.int .i64 r) ∧ r ≤ left ∧ (0 ≤ r → LSmall FoSmall xs ∧ (LM mFo xs : Int) + r ≤ left) ∧ Below w.heap.size w w' := by
  obtain ⟨hn, hc⟩ := hx
  unfold maxLen at hn
  by_cases h : left < xs.length
  · go_enter Try.func58, Try.ntmps58
    go_wp2
    go_ret
    exact ⟨-1, rfl, by omega, by omega, Below.refl _ _⟩
  · go_enter Try.func58, Try.ntmps58
    go_wp2
    go_loopw [1, 5] (fun l i wr => ∃ (k : Nat) (q : Int), k ≤ xs.length ∧ i = .int .i64 k ∧ l = .int .i64 q ∧ 0 ≤ q ∧ q ≤ left - xs.length ∧ Hid ((sumBy mFo (xs.take k) : Int) + q ≤ left - xs.length) ∧ Hid (∀ f ∈ xs.take k, FoSmall f) ∧ Below w.heap.size w wr) (fun _ i _ => xs.length - (intOf i).toNat)
    case atStart => exact ⟨0, _, by omega, rfl, rfl, by omega, by omega, by show ((0 : Nat) : Int) + _ ≤ _; omega, by intro f hf; simp at hf, Below.refl _ _⟩
    case round =>
      obtain ⟨k, q, hk, rfl, rfl, hq0, hq1, HQ, hall, hb⟩ := hrel
      by_cases hlt : k < xs.length
      · obtain ⟨b, off, rfl, -, d0, d1, d2, d3, d4, d5, d6, d7, d8, d9⟩ := hm k hlt
        have e0 := cell_later hb d0
        have e1 := cell_later hb d1
        have e2 := cell_later hb d2
        have e3 := cell_later hb d3
        have e4 := cell_later hb d4
        have e5 := cell_later hb d5
        have e6 := cell_later hb d6
        have e7 := cell_later hb d7
        have e8 := cell_later hb d8
        have e9 := cell_later hb d9
        clear d0 d1 d2 d3 d4 d5 d6 d7 d8 d9
        have hck := hc xs[k] (List.getElem_mem hlt)
        go_wp2_with fail
        refine (szFOp_m xs[k] _ _ hq0 (by omega) hck).mono ?_
        rintro e w2 ⟨r, rfl, hr, hs, hb'⟩
        have hB := hb.trans (hb'.mono hb.size)
        clear hb' e0 e1 e2 e3 e4 e5 e6 e7 e8 e9
        by_cases hr0 : r < 0
        · clear hs
          go_wp2
          go_ret
          exact ⟨-1, rfl, by omega, by omega, hB⟩
        · have HS := hs (by omega)
          have HS2 : Hid (FoSmall xs[k] ∧ (mFo xs[k] : Int) + r ≤ q) := HS
          clear hs HS
          go_wp2
          go_roundw
          case rel => exact ⟨k + 1, r, by omega, by go_num, rfl, by omega, by omega, by show _ ≤ _; rw [sumBy_take _ _ _ hlt]; have a1 := HQ.out; have a2 := HS2.out.2; push_cast; omega, take_succ_mem hlt hall.out HS2.out.1, hB⟩
          case measure => simp [intOf]; omega
      · have hkn : k = xs.length := by omega
        have HQ2 : Hid ((sumBy mFo xs : Int) + q ≤ left - xs.length) := by have := HQ.out; rwa [hkn, sumBy_all] at this
        clear HQ
        go_wp2
        go_ret
        exact ⟨q, rfl, by omega, fun _ => ⟨⟨by omega, by have := hall.out; rwa [List.take_of_length_le (by omega)] at this⟩, by have := HQ2.out; show ((xs.length + sumBy mFo xs : Nat) : Int) + _ ≤ _; push_cast; omega⟩, hb⟩

set_option maxRecDepth 100000 in
set_option maxHeartbeats 1000000 in
theorem szFast_m (oa ea : Option Addr) (oc ec : Nat) (d : FastD) (left : Int) (w : World) (h0 : 0 ≤ left) (h1 : left ≤ 1048576) (hx : FastMax d) (hm : FastAt w 0 oa ea d) :
    Calls Try.prog 35 #[.agg (fastCells oa ea oc ec d), .int .i64 left] w fun e w' => ∃ r : Int, e = .returned (.int .i64 r) ∧ r ≤ left ∧ (0 ≤ r → FastSmall d ∧ (mFast d : Int) + r ≤ left) ∧ Below w.heap.size w w' := by
  unfold fastCells
  have hbA : Below w.heap.size w (w.alloc (.cells #[.int .i64 d.fn, .int .i64 d.entry, .int .i64 d.vals, .int .i64 d.nums, .slice oa d.ops.length oc, .slice ea d.exits.length ec] 83)) := (Below.refl _ _).alloc (Nat.le_refl _) _
  have hM0 := block_new w #[.int .i64 d.fn, .int .i64 d.entry, .int .i64 d.vals, .int .i64 d.nums, .slice oa d.ops.length oc, .slice ea d.exits.length ec] 83
  go_enter Try.func35, Try.ntmps35
  go_wp2_with fail
  refine (szFOpS_m oa d.ops oc left _ h0 h1 hx.1 (hm.ops.mono hbA)).mono ?_
  rintro e w1 ⟨r1, rfl, hr1, hs1, hb1⟩
  have hB1 := hbA.trans (hb1.mono hbA.size)
  have hM1 := block_kept hM0 hb1
  by_cases hn1 : r1 < 0
  · clear hs1
    go_wp2
    go_ret
    exact ⟨-1, rfl, by omega, by omega, hB1⟩
  have HS1 : Hid (LSmall FoSmall d.ops ∧ (LM mFo d.ops : Int) + r1 ≤ left) := hs1 (by omega)
  clear hs1
  have y1 := block_cell hM1
  go_wp2_with fail
  refine (szExitS_m ea d.exits ec r1 _ (by omega) (by omega) hx.2 (hm.exits.mono hB1)).mono ?_
  rintro e w2 ⟨r2, rfl, hr2, hs2, hb2⟩
  have hB2 := hB1.trans (hb2.mono hB1.size)
  clear y1
  by_cases hn2 : r2 < 0
  · clear hs2
    go_wp2
    go_ret
    exact ⟨-1, rfl, by omega, by omega, hB2⟩
  have HS2 : Hid (LSmall ExSmall d.exits ∧ (LM mEx d.exits : Int) + r2 ≤ r1) := hs2 (by omega)
  clear hs2
  go_wp2
  go_ret
  exact ⟨_, rfl, by omega, fun _ => ⟨⟨HS1.out.1, HS2.out.1⟩, by have a1 := HS1.out.2; have a2 := HS2.out.2; show ((LM mFo d.ops + LM mEx d.exits : Nat) : Int) + _ ≤ _; push_cast; omega⟩, hB2⟩
end Go.Proofs.Ytopbdjplpnojmaa
