/-
  The drawing functions of the document's model: what a cursor over bytes is in memory, and that taking a number off it gives a number below the bound and changes nothing but the cursor.
-/
import Derived.Test.YtpmkfdinkomaiaaGreatDoorGQ1
import Derived.Test.YtpmkfdinkomaiaaGreatDoorMem3
import Derived.Test.YtpmkfdinkomaiaaGreatDoorGQ2
namespace Go.Proofs.YtpmkfdinkomaiaaGreatDoor
open Go.RowKit

/-- Nothing but block C is written, and nothing is laid. -/
structure Px (C : Nat) (w w' : World) : Prop where
  os : w'.os = w.os
  tape : w'.tape = w.tape
  output : w'.output = w.output
  size : w'.heap.size = w.heap.size
  block : ∀ k, k ≠ C → w'.heap[k]? = w.heap[k]?

theorem Px.below {C B : Nat} {w w' : World} (h : Px C w w') (hB : B ≤ C) : Below B w w' := ⟨h.os, h.tape, h.output, by rw [h.size]; exact Nat.le_refl _, fun k hk => h.block k (by omega)⟩
theorem Px.refl (C : Nat) (w : World) : Px C w w := ⟨rfl, rfl, rfl, rfl, fun _ _ => rfl⟩
theorem Px.set {C : Nat} {a w : World} (h : Px C a w) (i : Nat) (v : Value) : Px C a (w.setCell ⟨C, i, none⟩ v) :=
  ⟨h.os, h.tape, h.output, by simpa using h.size, fun k hk => by rw [Below.heap_setCell _ _ _ _ hk]; exact h.block k hk⟩
theorem Px.drew {C : Nat} {a w : World} (h : Px C a w) : Px C a w.drew := ⟨h.os, h.tape, h.output, h.size, h.block⟩

theorem Px.drewN {C : Nat} {a w : World} (h : Px C a w) (n : Nat) : Px C a (w.drewN n) := ⟨h.os, h.tape, h.output, h.size, h.block⟩

/-- A cursor at block C over the bytes 'bs', which lie in the memory of W; it has handed out at most M numbers. -/
structure CurAt (W w : World) (C : Nat) (xa : Option Addr) (bs : List Int) (xc M : Nat) : Prop where
  blk : ∃ p s : Int, w.heap[C]? = some (.cells #[.slice xa bs.length xc, .int .i64 p, .int .i64 s] 71 (0, 0)) ∧ 0 ≤ p ∧ p ≤ M ∧ 0 ≤ s ∧ s ≤ 65521
  low : W.heap.size ≤ C
  below : Below W.heap.size W w
  bytes : BytesAt W 0 xa bs
  small : bs.length ≤ 1048576
  vals : ∀ x ∈ bs, 0 ≤ x ∧ x ≤ 255

theorem CurAt.px {W w w' : World} {C xc M : Nat} {xa : Option Addr} {bs : List Int} (h : CurAt W w C xa bs xc M) (hx : Px C w w') {p s : Int} (hp : w'.heap[C]? = some (.cells #[.slice xa bs.length xc, .int .i64 p, .int .i64 s] 71 (0, 0))) {M' : Nat} (h0 : 0 ≤ p) (h1 : p ≤ M') (h2 : 0 ≤ s) (h3 : s ≤ 65521) : CurAt W w' C xa bs xc M' :=
  ⟨⟨p, s, hp, h0, h1, h2, h3⟩, h.low, h.below.trans (hx.below h.low), h.bytes, h.small, h.vals⟩

set_option maxRecDepth 100000 in
set_option maxHeartbeats 2000000 in
theorem pick_any (W : World) (C xc M : Nat) (xa : Option Addr) (bs : List Int) (n : Int) (w : World) (h : CurAt W w C xa bs xc M) (hM : M ≤ 100000000) :
    Calls Tryz.prog 30 #[.pointer (some ⟨C, 0, none⟩), .int .i64 n] w fun e w' => ∃ r : Int, e = .returned (.int .i64 r) ∧ 0 ≤ r ∧ (r < n ∨ r < 1) ∧ CurAt W w' C xa bs xc (M + 1) ∧ Px C w w' := by
  by_cases hn : n < 2
  · go_enter Tryz.func30, Tryz.ntmps30
    go_wp2
    go_ret
    obtain ⟨p, s, hb, h0, h1, h2, h3⟩ := h.blk
    exact ⟨0, rfl, by omega, by omega, h.px (Px.refl _ _) hb h0 (by omega) h2 h3, Px.refl _ _⟩
  obtain ⟨p, s, hb, h0, h1, h2, h3⟩ := h.blk
  have hsm := h.small
  have hc := block_cell hb
  have hfz := block_free hb
  by_cases hp : p < bs.length
  · obtain ⟨k, rfl⟩ : ∃ k : Nat, p = k := ⟨p.toNat, by omega⟩
    have hk : k < bs.length := by omega
    obtain ⟨b, off, rfl, -, c1⟩ := h.bytes k hk
    have c1' := cell_later h.below c1
    have hv := h.vals bs[k] (List.getElem_mem hk)
    have c2 : w.drew.cell? ⟨b, off + k, none⟩ = some (.int .u8 bs[k]) := c1'
    go_enter Tryz.func30, Tryz.ntmps30
    go_wp2
    go_quiet (fail)
    obtain ⟨nq1, rfl⟩ : ∃ nq1, nq1 = nq := ⟨_, rfl⟩
    go_wp2
    go_quiet (fail)
    obtain ⟨nq2, rfl⟩ : ∃ nq2, nq2 = nq := ⟨_, rfl⟩
    go_wp2
    go_ret
    have hb2 : (w.drewN (nq1 + nq2)).heap[C]? = some (.cells #[.slice (some ⟨b, off, none⟩) bs.length xc, .int .i64 (k : Int), .int .i64 s] 71 (0, 0)) := hb
    have hb3 := block_set (i := 1) hb2 (.int .i64 ((k : Int) + 1))
    have hpx : Px C w ((w.drewN (nq1 + nq2)).setCell ⟨C, 1, none⟩ (.int .i64 ((k : Int) + 1))) := Px.set (Px.drewN (Px.refl _ _) _) _ _
    refine ⟨bs[k] % n, rfl, Int.emod_nonneg _ (by omega), Or.inl (Int.emod_lt_of_pos _ (by omega)), h.px hpx (by simpa using hb3) (by omega) (by omega) h2 h3, hpx⟩
  · by_cases he : bs = []
    · subst he
      go_enter Tryz.func30, Tryz.ntmps30
      go_wp2
      go_quiet (fail)
      go_wp2
      go_ret
      have hb2 : (w.drewN nq).heap[C]? = some (.cells #[.slice xa 0 xc, .int .i64 p, .int .i64 s] 71 (0, 0)) := hb
      have hb3 := block_set (i := 1) (block_set (i := 2) hb2 (.int .i64 ((s * 1103 + 12345) % 65521))) (.int .i64 (p + 1))
      have hpx : Px C w (((w.drewN nq).setCell ⟨C, 2, none⟩ (.int .i64 ((s * 1103 + 12345) % 65521))).setCell ⟨C, 1, none⟩ (.int .i64 (p + 1))) := Px.set (Px.set (Px.drewN (Px.refl _ _) _) _ _) _ _
      exact ⟨0, rfl, by omega, by omega, h.px hpx (by simpa using hb3) (by omega) (by omega) (by omega) (by omega), hpx⟩
    · have hl : 0 < bs.length := List.length_pos_iff.2 he
      obtain ⟨k, hk⟩ : ∃ k : Nat, p % (bs.length : Int) = (k : Int) := ⟨(p % (bs.length : Int)).toNat, by have := Int.emod_nonneg p (b := (bs.length : Int)) (by omega); omega⟩
      have hkl : k < bs.length := by have := Int.emod_lt_of_pos p (b := (bs.length : Int)) (by omega); omega
      obtain ⟨b, off, rfl, -, c1⟩ := h.bytes k hkl
      have hv := h.vals bs[k] (List.getElem_mem hkl)
      obtain ⟨q, hq⟩ : ∃ q, q = (s * 1103 + 12345) % 65521 := ⟨_, rfl⟩
      have hq0 : 0 ≤ q := by omega
      have hq1 : q ≤ 65521 := by omega
      have HQ : Hid (q = (s * 1103 + 12345) % 65521) := hq
      clear hq
      go_enter Tryz.func30, Tryz.ntmps30
      go_wp2
      go_quiet (fail)
      go_wp2
      rw [← HQ.out]
      obtain ⟨wz, hwz⟩ : ∃ wz, wz = (w.drewN nq).setCell ⟨C, 2, none⟩ (.int .i64 q) := ⟨_, rfl⟩
      rw [← hwz]
      have hb2 : (w.drewN nq).heap[C]? = some (.cells #[.slice (some ⟨b, off, none⟩) bs.length xc, .int .i64 p, .int .i64 s] 71 (0, 0)) := hb
      have hb3 : wz.heap[C]? = some (.cells #[.slice (some ⟨b, off, none⟩) bs.length xc, .int .i64 p, .int .i64 q] 71 (0, 0)) := by
        rw [hwz]
        have := block_set (i := 2) hb2 (.int .i64 q)
        simpa using this
      have hpx : Px C w wz := by rw [hwz]; exact Px.set (Px.drewN (Px.refl _ _) _) _ _
      have c2 : wz.cell? ⟨b, off + k, none⟩ = some (.int .u8 bs[k]) := cell_later (h.below.trans (hpx.below h.low)) c1
      have x3 := block_cell hb3
      have f3 := block_free hb3
      clear hb2 hwz hc hfz c1
      go_quiet (fail)
      obtain ⟨nq2, rfl⟩ : ∃ nq2, nq2 = nq := ⟨_, rfl⟩
      go_wp2
      go_ret
      have hb4 : (wz.drewN nq2).heap[C]? = some (.cells #[.slice (some ⟨b, off, none⟩) bs.length xc, .int .i64 p, .int .i64 q] 71 (0, 0)) := hb3
      have hb5 := block_set (i := 1) hb4 (.int .i64 (p + 1))
      have hpx2 : Px C w ((wz.drewN nq2).setCell ⟨C, 1, none⟩ (.int .i64 (p + 1))) := Px.set (Px.drewN hpx _) _ _
      exact ⟨(q / 7 + bs[k]) % n, rfl, Int.emod_nonneg _ (by omega), Or.inl (Int.emod_lt_of_pos _ (by omega)), h.px hpx2 (by simpa using hb5) (by omega) (by omega) hq0 hq1, hpx2⟩
end Go.Proofs.YtpmkfdinkomaiaaGreatDoor
