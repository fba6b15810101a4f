/-
  The drawing functions of the document's model: what a cursor over bytes is in memory; a number taken off it; a cursor laid over bytes.
-/
import Derived.Test.YtlpbolchedngoaaDoorE14
namespace Go.Proofs.YtlpbolchedngoaaDoor
open Go.RowKit

/-- The cells of a byte slice. -/
def BytesAt (w : World) (lo : Nat) (a : Option Addr) (bs : List Int) : Prop :=
  ∀ i (h : i < bs.length), ∃ b off, a = some ⟨b, off, none⟩ ∧ lo ≤ b ∧ w.cell? ⟨b, off + i, none⟩ = some (.int .u8 bs[i])

theorem BytesAt.mono {w w' : World} {lo : Nat} {a : Option Addr} {bs : List Int} (h : BytesAt w lo a bs) (hb : Below w.heap.size w w') : BytesAt w' lo a bs := by
  intro i hi
  obtain ⟨b, off, h1, h2, h3⟩ := h i hi
  exact ⟨b, off, h1, h2, cell_later hb h3⟩

/-- Nothing but block C is written, and nothing is laid. -/
structure Px (C : Nat) (w w' : World) : Prop where
  os : w'.os = w.os
  tape : w'.tape = w.tape
  output : w'.output = w.output
  size : w'.heap.size = w.heap.size
  block : ∀ k, k ≠ C → w'.heap[k]? = w.heap[k]?

theorem Px.below {C B : Nat} {w w' : World} (h : Px C w w') (hB : B ≤ C) : Below B w w' := ⟨h.os, h.tape, h.output, by rw [h.size]; exact Nat.le_refl _, fun k hk => h.block k (by omega)⟩
theorem Px.refl (C : Nat) (w : World) : Px C w w := ⟨rfl, rfl, rfl, rfl, fun _ _ => rfl⟩
theorem Px.set {C : Nat} {a w : World} (h : Px C a w) (i : Nat) (v : Value) : Px C a (w.setCell ⟨C, i, none⟩ v) :=
  ⟨h.os, h.tape, h.output, by simpa using h.size, fun k hk => by rw [Below.heap_setCell _ _ _ _ hk]; exact h.block k hk⟩
theorem Px.drew {C : Nat} {a w : World} (h : Px C a w) : Px C a w.drew := ⟨h.os, h.tape, h.output, h.size, h.block⟩

theorem Px.drewN {C : Nat} {a w : World} (h : Px C a w) (n : Nat) : Px C a (w.drewN n) := ⟨h.os, h.tape, h.output, h.size, h.block⟩

/-- A cursor at block C over the bytes 'bs', which lie in the memory of W; it has handed out at most M numbers. -/
structure CurAt (W w : World) (C : Nat) (xa : Option Addr) (bs : List Int) (xc M : Nat) : Prop where
  blk : ∃ p s : Int, w.heap[C]? = some (.cells #[.slice xa bs.length xc, .int .i64 p, .int .i64 s] 53 (0, 0)) ∧ 0 ≤ p ∧ p ≤ M ∧ 0 ≤ s ∧ s ≤ 65521
  low : W.heap.size ≤ C
  below : Below W.heap.size W w
  bytes : BytesAt W 0 xa bs
  small : bs.length ≤ 1048576
  vals : ∀ x ∈ bs, 0 ≤ x ∧ x ≤ 255

theorem CurAt.px {W w w' : World} {C xc M : Nat} {xa : Option Addr} {bs : List Int} (h : CurAt W w C xa bs xc M) (hx : Px C w w') {p s : Int} (hp : w'.heap[C]? = some (.cells #[.slice xa bs.length xc, .int .i64 p, .int .i64 s] 53 (0, 0))) {M' : Nat} (h0 : 0 ≤ p) (h1 : p ≤ M') (h2 : 0 ≤ s) (h3 : s ≤ 65521) : CurAt W w' C xa bs xc M' :=
  ⟨⟨p, s, hp, h0, h1, h2, h3⟩, h.low, h.below.trans (hx.below h.low), h.bytes, h.small, h.vals⟩

set_option maxRecDepth 100000 in
set_option maxHeartbeats 2000000 in
theorem pick_any (W : World) (C xc M : Nat) (xa : Option Addr) (bs : List Int) (n : Int) (w : World) (h : CurAt W w C xa bs xc M) (hM : M ≤ 100000000) :
    Calls Tryd.prog 35 #[.pointer (some ⟨C, 0, none⟩), .int .i64 n] w fun e w' => ∃ r : Int, e = .returned (.int .i64 r) ∧ 0 ≤ r ∧ (r < n ∨ r < 1) ∧ CurAt W w' C xa bs xc (M + 1) ∧ Px C w w' := by
  by_cases hn : n < 2
  · go_enter Tryd.func35, Tryd.ntmps35
    go_wp2
    go_ret
    obtain ⟨p, s, hb, h0, h1, h2, h3⟩ := h.blk
    exact ⟨0, rfl, by omega, by omega, h.px (Px.refl _ _) hb h0 (by omega) h2 h3, Px.refl _ _⟩
  obtain ⟨p, s, hb, h0, h1, h2, h3⟩ := h.blk
  have hsm := h.small
  have hc := block_cell hb
  have hfz := block_free hb
  by_cases hp : p < bs.length
  · obtain ⟨k, rfl⟩ : ∃ k : Nat, p = k := ⟨p.toNat, by omega⟩
    have hk : k < bs.length := by omega
    obtain ⟨b, off, rfl, -, c1⟩ := h.bytes k hk
    have c1' := cell_later h.below c1
    have hv := h.vals bs[k] (List.getElem_mem hk)
    have c2 : w.drew.cell? ⟨b, off + k, none⟩ = some (.int .u8 bs[k]) := c1'
    go_enter Tryd.func35, Tryd.ntmps35
    go_wp2
    go_quiet (fail)
    obtain ⟨nq1, rfl⟩ : ∃ nq1, nq1 = nq := ⟨_, rfl⟩
    go_wp2
    go_quiet (fail)
    obtain ⟨nq2, rfl⟩ : ∃ nq2, nq2 = nq := ⟨_, rfl⟩
    go_wp2
    go_ret
    have hb2 : (w.drewN (nq1 + nq2)).heap[C]? = some (.cells #[.slice (some ⟨b, off, none⟩) bs.length xc, .int .i64 (k : Int), .int .i64 s] 53 (0, 0)) := hb
    have hb3 := block_set (i := 1) hb2 (.int .i64 ((k : Int) + 1))
    have hpx : Px C w ((w.drewN (nq1 + nq2)).setCell ⟨C, 1, none⟩ (.int .i64 ((k : Int) + 1))) := Px.set (Px.drewN (Px.refl _ _) _) _ _
    refine ⟨bs[k] % n, rfl, Int.emod_nonneg _ (by omega), Or.inl (Int.emod_lt_of_pos _ (by omega)), h.px hpx (by simpa using hb3) (by omega) (by omega) h2 h3, hpx⟩
  · by_cases he : bs = []
    · subst he
      go_enter Tryd.func35, Tryd.ntmps35
      go_wp2
      go_quiet (fail)
      go_wp2
      go_ret
      have hb2 : (w.drewN nq).heap[C]? = some (.cells #[.slice xa 0 xc, .int .i64 p, .int .i64 s] 53 (0, 0)) := hb
      have hb3 := block_set (i := 1) (block_set (i := 2) hb2 (.int .i64 ((s * 1103 + 12345) % 65521))) (.int .i64 (p + 1))
      have hpx : Px C w (((w.drewN nq).setCell ⟨C, 2, none⟩ (.int .i64 ((s * 1103 + 12345) % 65521))).setCell ⟨C, 1, none⟩ (.int .i64 (p + 1))) := Px.set (Px.set (Px.drewN (Px.refl _ _) _) _ _) _ _
      exact ⟨0, rfl, by omega, by omega, h.px hpx (by simpa using hb3) (by omega) (by omega) (by omega) (by omega), hpx⟩
    · have hl : 0 < bs.length := List.length_pos_iff.2 he
      obtain ⟨k, hk⟩ : ∃ k : Nat, p % (bs.length : Int) = (k : Int) := ⟨(p % (bs.length : Int)).toNat, by have := Int.emod_nonneg p (b := (bs.length : Int)) (by omega); omega⟩
      have hkl : k < bs.length := by have := Int.emod_lt_of_pos p (b := (bs.length : Int)) (by omega); omega
      obtain ⟨b, off, rfl, -, c1⟩ := h.bytes k hkl
      have hv := h.vals bs[k] (List.getElem_mem hkl)
      obtain ⟨q, hq⟩ : ∃ q, q = (s * 1103 + 12345) % 65521 := ⟨_, rfl⟩
      have hq0 : 0 ≤ q := by omega
      have hq1 : q ≤ 65521 := by omega
      have HQ : Hid (q = (s * 1103 + 12345) % 65521) := hq
      clear hq
      go_enter Tryd.func35, Tryd.ntmps35
      go_wp2
      go_quiet (fail)
      go_wp2
      rw [← HQ.out]
      obtain ⟨wz, hwz⟩ : ∃ wz, wz = (w.drewN nq).setCell ⟨C, 2, none⟩ (.int .i64 q) := ⟨_, rfl⟩
      rw [← hwz]
      have hb2 : (w.drewN nq).heap[C]? = some (.cells #[.slice (some ⟨b, off, none⟩) bs.length xc, .int .i64 p, .int .i64 s] 53 (0, 0)) := hb
      have hb3 : wz.heap[C]? = some (.cells #[.slice (some ⟨b, off, none⟩) bs.length xc, .int .i64 p, .int .i64 q] 53 (0, 0)) := by
        rw [hwz]
        have := block_set (i := 2) hb2 (.int .i64 q)
        simpa using this
      have hpx : Px C w wz := by rw [hwz]; exact Px.set (Px.drewN (Px.refl _ _) _) _ _
      have c2 : wz.cell? ⟨b, off + k, none⟩ = some (.int .u8 bs[k]) := cell_later (h.below.trans (hpx.below h.low)) c1
      have x3 := block_cell hb3
      have f3 := block_free hb3
      clear hb2 hwz hc hfz c1
      go_quiet (fail)
      obtain ⟨nq2, rfl⟩ : ∃ nq2, nq2 = nq := ⟨_, rfl⟩
      go_wp2
      go_ret
      have hb4 : (wz.drewN nq2).heap[C]? = some (.cells #[.slice (some ⟨b, off, none⟩) bs.length xc, .int .i64 p, .int .i64 q] 53 (0, 0)) := hb3
      have hb5 := block_set (i := 1) hb4 (.int .i64 (p + 1))
      have hpx2 : Px C w ((wz.drewN nq2).setCell ⟨C, 1, none⟩ (.int .i64 (p + 1))) := Px.set (Px.drewN hpx _) _ _
      exact ⟨(q / 7 + bs[k]) % n, rfl, Int.emod_nonneg _ (by omega), Or.inl (Int.emod_lt_of_pos _ (by omega)), h.px hpx2 (by simpa using hb5) (by omega) (by omega) hq0 hq1, hpx2⟩
/-- Blocks below N but C and A are as they were. -/
structure Fr (C A N : Nat) (w w' : World) : Prop where
  os : w'.os = w.os
  tape : w'.tape = w.tape
  output : w'.output = w.output
  size : w.heap.size ≤ w'.heap.size
  block : ∀ k, k < N → k ≠ C → k ≠ A → w'.heap[k]? = w.heap[k]?
theorem Fr.refl (C A N : Nat) (w : World) : Fr C A N w w := ⟨rfl, rfl, rfl, Nat.le_refl _, fun _ _ _ _ => rfl⟩
theorem Fr.trans {C A N : Nat} {a b c : World} (h : Fr C A N a b) (k : Fr C A N b c) : Fr C A N a c :=
  ⟨k.os.trans h.os, k.tape.trans h.tape, k.output.trans h.output, Nat.le_trans h.size k.size, fun i h1 h2 h3 => (k.block i h1 h2 h3).trans (h.block i h1 h2 h3)⟩
theorem Fr.px {C A N : Nat} {w w' : World} (h : Px C w w') : Fr C A N w w' := ⟨h.os, h.tape, h.output, by rw [h.size]; exact Nat.le_refl _, fun k _ h2 _ => h.block k h2⟩
theorem Fr.below {C A N : Nat} {w w' : World} (h : Below w.heap.size w w') (hN : N ≤ w.heap.size) : Fr C A N w w' := ⟨h.os, h.tape, h.output, h.size, fun k h1 _ _ => h.block k (by omega)⟩
theorem Fr.setA {C A N : Nat} {a w : World} (h : Fr C A N a w) (i : Nat) (v : Value) : Fr C A N a (w.setCell ⟨A, i, none⟩ v) :=
  ⟨h.os, h.tape, h.output, by simpa using h.size, fun k h1 h2 h3 => by rw [Below.heap_setCell _ _ _ _ h3]; exact h.block k h1 h2 h3⟩
theorem Fr.setFar {C A N : Nat} {a w : World} (h : Fr C A N a w) {p : Addr} (hp : N ≤ p.block) (v : Value) : Fr C A N a (w.setCell p v) :=
  ⟨h.os, h.tape, h.output, by simpa using h.size, fun k h1 h2 h3 => by rw [Below.heap_setCell _ _ _ _ (by omega)]; exact h.block k h1 h2 h3⟩
theorem Fr.toBelow {C A N B : Nat} {w w' : World} (h : Fr C A N w w') (h1 : B ≤ C) (h2 : B ≤ A) (h3 : B ≤ N) : Below B w w' :=
  ⟨h.os, h.tape, h.output, h.size, fun k hk => h.block k (by omega) (by omega) (by omega)⟩

def isI : Value → Bool
  | .int .i64 _ => true
  | _ => false
/-- A cell of a list of numbers that was written out, behind a number taken off the cursor. -/
theorem lit_cell {w w' : World} {C k : Nat} {cs : Array Value} (hP : Px C (w.alloc (.cells cs 3)) w') (hne : w.heap.size ≠ C) (hall : cs.toList.all isI = true) (hk : k < cs.size) : ∃ z, w'.cell? ⟨w.heap.size, k, none⟩ = some (.int .i64 z) := by
  have hb : w'.heap[w.heap.size]? = some (.cells cs 3 (0, 0)) := by rw [hP.block _ hne]; exact block_new _ _ _
  rw [block_cell hb, Array.getElem?_eq_getElem hk]
  have := List.all_eq_true.1 hall cs[k] (by simp)
  revert this
  cases cs[k] with
  | int kd z => cases kd <;> simp [isI]
  | _ => simp [isI]

/-- Behind new memory. -/
theorem CurAt.later {W w w' : World} {C xc M : Nat} {xa : Option Addr} {bs : List Int} (h : CurAt W w C xa bs xc M) (hb : Below w.heap.size w w') : CurAt W w' C xa bs xc M := by
  obtain ⟨p, s, hc, q⟩ := h.blk
  have := h.below.size
  exact { h with blk := ⟨p, s, block_kept hc hb, q⟩, below := h.below.trans (hb.mono this) }
/-- Behind a store elsewhere. -/
theorem CurAt.set {W w : World} {C xc M : Nat} {xa : Option Addr} {bs : List Int} (h : CurAt W w C xa bs xc M) {p : Addr} (hp : p.block ≠ C) (hW : W.heap.size ≤ p.block) (v : Value) : CurAt W (w.setCell p v) C xa bs xc M := by
  obtain ⟨q, s, hc, r⟩ := h.blk
  exact { h with blk := ⟨q, s, by rw [Below.heap_setCell _ _ _ _ (fun e => hp e.symm)]; exact hc, r⟩, below := h.below.setCell hW v }
theorem CurAt.grow {W w : World} {C xc M M' : Nat} {xa : Option Addr} {bs : List Int} (h : CurAt W w C xa bs xc M) (hM : M ≤ M') : CurAt W w C xa bs xc M' := by
  obtain ⟨q, s, hc, h0, h1, r⟩ := h.blk
  exact { h with blk := ⟨q, s, hc, h0, by omega, r⟩ }

set_option maxRecDepth 100000 in
set_option maxHeartbeats 1000000 in
theorem number_any (W : World) (C xc M : Nat) (xa : Option Addr) (bs : List Int) (w : World) (h : CurAt W w C xa bs xc M) (hM : M ≤ 10000000) :
    Calls Tryd.prog 37 #[.pointer (some ⟨C, 0, none⟩)] w fun e w' => ∃ r : Int, e = .returned (.int .i64 r) ∧ CurAt W w' C xa bs xc (M + 2) ∧ Fr C C w.heap.size w w' := by
  obtain ⟨p, s, hc, -⟩ := h.blk
  have hlt := lt_block hc
  clear hc p s
  go_enter Tryd.func37, Tryd.ntmps37
  go_wp2_with fail
  refine (pick_any W C xc M xa bs _ _ h (by omega)).mono ?_
  rintro e w1 ⟨r, rfl, r0, r1, hC, hP⟩
  have hsz := hP.size
  have HZ : Hid (w1.heap.size = w.heap.size) := hsz
  have hF : Fr C C w.heap.size w w1 := Fr.px hP
  by_cases h0 : r = 0
  · subst h0
    go_wp2_with fail
    refine (pick_any W C xc _ xa bs _ _ hC (by omega)).mono ?_
    rintro e w2 ⟨r2, rfl, r20, r21, hC2, hP2⟩
    go_wp2
    go_ret
    exact ⟨_, rfl, hC2, hF.trans (Fr.px hP2)⟩
  by_cases h1 : r = 1
  · subst h1
    have hne : w1.heap.size ≠ C := by omega
    clear hsz
    go_wp2_with fail
    refine (pick_any W C xc _ xa bs _ _ (hC.later ((Below.refl _ _).alloc (Nat.le_refl _) _)) (by omega)).mono ?_
    rintro e w2 ⟨r2, rfl, r20, r21, hC2, hP2⟩
    obtain ⟨k, rfl⟩ : ∃ k : Nat, r2 = k := ⟨r2.toNat, by omega⟩
    have hk8 : (k : Int) < 8 := by omega
    have hF2 : Fr C C w.heap.size w w2 := (hF.trans (Fr.below ((Below.refl _ _).alloc (Nat.le_refl _) _) (by have := HZ.out; omega))).trans (Fr.px hP2)
    obtain ⟨z, hz⟩ := lit_cell (k := k) hP2 hne rfl (by simp; omega)
    clear hP2
    go_wp2
    go_ret
    exact ⟨_, rfl, hC2, hF2⟩
  · have b0 : (r == 0) = false := by simpa using h0
    have b1 : (r == 1) = false := by simpa using h1
    clear h0 h1 hsz
    go_wp2_with fail
    refine (pick_any W C xc _ xa bs _ _ hC (by omega)).mono ?_
    rintro e w2 ⟨r2, rfl, r20, r21, hC2, hP2⟩
    go_wp2
    go_ret
    exact ⟨_, rfl, hC2, hF.trans (Fr.px hP2)⟩

set_option maxHeartbeats 400000 in
theorem big_any (a : Option Addr) (n cap : Nat) (w : World) :
    Calls Tryd.prog 8 #[.slice a n cap] w fun e w' => e = .returned (.bool (decide ((1048576 : Int) < n))) ∧ w' = w := by
  go_enter Tryd.func8, Tryd.ntmps8
  go_wp2
  go_ret
  exact ⟨rfl, rfl⟩

set_option maxHeartbeats 400000 in
theorem open_any (xa : Option Addr) (bs : List Int) (xc : Nat) (w : World) (hn : bs.length ≤ 1048576) (hB : BytesAt w 0 xa bs) (hv : ∀ x ∈ bs, 0 ≤ x ∧ x ≤ 255) :
    Calls Tryd.prog 23 #[.slice xa bs.length xc] w fun e w' => e = .returned (.pointer (some ⟨w.heap.size, 0, none⟩)) ∧ CurAt w w' w.heap.size xa bs xc 0 := by
  go_enter Tryd.func23, Tryd.ntmps23
  go_wp2
  go_ret
  refine ⟨rfl, ⟨_, _, block_new _ _ _, by omega, by omega, by omega, by omega⟩, Nat.le_refl _, (Below.refl _ _).alloc (Nat.le_refl _) _, hB, hn, hv⟩
end Go.Proofs.YtlpbolchedngoaaDoor
