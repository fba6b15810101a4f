/-
  The drawing functions of the document's model: two values, drawn.
-/
import Derived.Test.YtlpbolchedngoaaDoorP2
import Derived.Deep.RegionHeld3
namespace Go.Proofs.YtlpbolchedngoaaDoor
open Go.RowKit

/-- A block behind three stores into another. -/
theorem far3 {w : World} {g b : Nat} {o : Obj} {x y z : Value} (h : w.heap[g]? = some o) (hne : g ≠ b) : (((w.setCell ⟨b, 0, none⟩ x).setCell ⟨b, 1, none⟩ y).setCell ⟨b, 2, none⟩ z).heap[g]? = some o := by
  rw [Below.heap_setCell _ _ _ _ hne, Below.heap_setCell _ _ _ _ hne, Below.heap_setCell _ _ _ _ hne]
  exact h

set_option maxRecDepth 100000 in
set_option maxHeartbeats 4000000 in
theorem drawAdd_any (xa : Option Addr) (bs : List Int) (xc : Nat) (w : World) (hn : bs.length ≤ 1048576) (hB : BytesAt w 0 xa bs) (hv : ∀ x ∈ bs, 0 ≤ x ∧ x ≤ 255) :
    Calls Tryd.prog 9 #[.slice xa bs.length xc] w fun e w' => ∃ (k n : Int) (s : ByteArray) (k' n' : Int) (s' : ByteArray), e = .returned (.tuple #[.agg #[.int .i64 k, .int .i64 n, .string s], .agg #[.int .i64 k', .int .i64 n', .string s']]) ∧ s.size ≤ 64 ∧ s'.size ≤ 64 ∧ Below w.heap.size w w' := by
  obtain ⟨W0, hW0⟩ : ∃ W0, W0 = (w.alloc (.cells #[.int .i64 0, .int .i64 0, .string ⟨#[]⟩] 25)).alloc (.cells #[.int .i64 0, .int .i64 0, .string ⟨#[]⟩] 25) := ⟨_, rfl⟩
  have hA : Below w.heap.size w W0 := by rw [hW0]; exact ((Below.refl _ _).alloc (Nat.le_refl _) _).alloc (by simp) _
  have hz0 : W0.heap.size = w.heap.size + 2 := by rw [hW0]; simp
  have hr0 : W0.heap[w.heap.size]? = some (.cells #[.int .i64 0, .int .i64 0, .string ⟨#[]⟩] 25 (0, 0)) := by rw [hW0]; exact block_kept (block_new w _ _) ((Below.refl _ _).alloc (Nat.le_refl _) _)
  have hr1 : W0.heap[w.heap.size + 1]? = some (.cells #[.int .i64 0, .int .i64 0, .string ⟨#[]⟩] 25 (0, 0)) := by rw [hW0]; exact block_new_at _ _ _ _ (by simp)
  have hBa := hB.mono hA
  have HZ : Hid (W0.heap.size = w.heap.size + 2) := hz0
  have HA : Hid (Below w.heap.size w W0) := hA
  have HR0 : Hid (W0.heap[w.heap.size]? = some (.cells #[.int .i64 0, .int .i64 0, .string ⟨#[]⟩] 25 (0, 0))) := hr0
  have HR1 : Hid (W0.heap[w.heap.size + 1]? = some (.cells #[.int .i64 0, .int .i64 0, .string ⟨#[]⟩] 25 (0, 0))) := hr1
  clear hA hz0 hr0 hr1 hB
  go_enter Tryd.func9, Tryd.ntmps9
  go_wp2_with fail
  rw [← hW0]
  clear hW0
  refine (open_any xa bs xc W0 hn hBa hv).mono ?_
  rintro e w2 ⟨rfl, hC2⟩
  have hb2 := hC2.below
  have hq0 := block_kept HR0.out hb2
  have hq1 := block_kept HR1.out hb2
  have hl2 : W0.heap.size < w2.heap.size := by obtain ⟨p, q, hc, -⟩ := hC2.blk; exact lt_block hc
  have HL2 : Hid (W0.heap.size < w2.heap.size) := hl2
  have HB2 : Hid (Below w.heap.size w w2) := HA.out.trans (hb2.mono (by have := HZ.out; omega))
  clear hb2 hl2
  go_wp2_with fail
  refine (drawValue_any W0 _ xc _ xa bs w2 hC2 (by omega)).mono ?_
  rintro e w3 ⟨k, n, s, rfl, hs, hC3, hF3⟩
  have hp0 := hF3.kept (B := w.heap.size) (by have := HZ.out; omega) (by have := HZ.out; have := HL2.out; omega) hq0
  have hp1 := hF3.kept (B := w.heap.size + 1) (by have := HZ.out; omega) (by have := HZ.out; have := HL2.out; omega) hq1
  have HB3 : Hid (Below w.heap.size w w3) := HB2.out.trans (hF3.toBelow (by have := HZ.out; omega) (by have := HZ.out; omega) (by have := HZ.out; have := HL2.out; omega))
  have hl3 : W0.heap.size < w3.heap.size := Nat.lt_of_lt_of_le HL2.out hF3.size
  have HS : Hid (s.size ≤ 64) := hs
  obtain ⟨w4, hw4⟩ : ∃ w4, w4 = w3.alloc (.cells #[.int .i64 k, .int .i64 n, .string s] 25) := ⟨_, rfl⟩
  have hb4 : Below w3.heap.size w3 w4 := by rw [hw4]; exact (Below.refl _ _).alloc (Nat.le_refl _) _
  have hx4 : w4.heap[w3.heap.size]? = some (.cells #[.int .i64 k, .int .i64 n, .string s] 25 (0, 0)) := by rw [hw4]; exact block_new w3 _ _
  have hz4 : w4.heap.size = w3.heap.size + 1 := by rw [hw4]; simp
  have hC4 := hC3.later hb4
  have HP0 : Hid (w4.heap[w.heap.size]? = some (.cells #[.int .i64 0, .int .i64 0, .string ⟨#[]⟩] 25 (0, 0))) := block_kept hp0 hb4
  have HP1 : Hid (w4.heap[w.heap.size + 1]? = some (.cells #[.int .i64 0, .int .i64 0, .string ⟨#[]⟩] 25 (0, 0))) := block_kept hp1 hb4
  have HX : Hid (w4.heap[w3.heap.size]? = some (.cells #[.int .i64 k, .int .i64 n, .string s] 25 (0, 0))) := hx4
  have HZ4 : Hid (w4.heap.size = w3.heap.size + 1) := hz4
  have HL3 : Hid (W0.heap.size < w3.heap.size) := hl3
  have HB4 : Hid (Below w.heap.size w w4) := HB3.out.trans (hb4.mono HB3.out.size)
  have y4 := block_cell hx4
  clear hp0 hp1 hq0 hq1 hF3 hC3 hC2 hb4 hx4 hz4 hl3 hs
  go_wp2
  rw [← hw4]
  clear hw4
  have hC5 : CurAt W0 w4.drew W0.heap.size xa bs xc 10 := hC4.later (Below.refl _ _).drew
  go_region_with (first
      | (go_at_call 24; refine (drawValue_any W0 _ xc _ xa bs _ hC5 (by omega)).mono ?_; rintro e w5 ⟨k', n', s', rfl, hs', hC6, hF6⟩; have hxx := hF6.kept (B := w3.heap.size) (by have := HL3.out; omega) (by show w3.heap.size < w4.heap.size; have := HZ4.out; omega) HX.out; have hk0 := hF6.kept (B := w.heap.size) (by have := HZ.out; omega) (by show w.heap.size < w4.heap.size; have := HZ.out; have := HL3.out; have := HZ4.out; omega) HP0.out; have hk1 := hF6.kept (B := w.heap.size + 1) (by have := HZ.out; omega) (by show w.heap.size + 1 < w4.heap.size; have := HZ.out; have := HL3.out; have := HZ4.out; omega) HP1.out; have c0 := block_cell hk0; have f0 := block_free hk0; have c1 := block_cell hk1; have f1 := block_free hk1; have y5 := block_cell hxx))
  all_goals
    have u := block_cell (far3 (x := .int .i64 k') (y := .int .i64 n') (z := .string s') (b := w.heap.size + 1) (stored3 (a := .int .i64 k) (b := .int .i64 n) (c := .string s) hk0) (by omega))
    have v := block_cell (stored3 (a := .int .i64 k') (b := .int .i64 n') (c := .string s') (far3 (x := .int .i64 k) (y := .int .i64 n) (z := .string s) (b := w.heap.size) hk1 (by omega)))
    have u0 := u 0
    have u1 := u 1
    have u2 := u 2
    have v0 := v 0
    have v1 := v 1
    have v2 := v 2
    have hB5 : Below w.heap.size w w5 := HB4.out.drew.trans (hF6.toBelow (by have := HZ.out; omega) (by have := HZ.out; omega) (by show w.heap.size ≤ w4.heap.size; have := HZ.out; have := HL3.out; have := HZ4.out; omega))
    clear hk0 hk1 hxx c0 c1 f0 f1 y5 hF6 hC6 hC5 hC4 y4 u v
    go_wp2
    refine bodyPost_ret (v := .tuple #[.agg #[.int .i64 k, .int .i64 n, .string s], .agg #[.int .i64 k', .int .i64 n', .string s']]) (by simp [results, Tryd.results9, go_sem, u0, u1, u2, v0, v1, v2]) rfl ⟨k, n, s, k', n', s', rfl, HS.out, hs', ?_⟩
    exact (((((hB5.setCell (Nat.le_refl _) _).setCell (Nat.le_refl _) _).setCell (Nat.le_refl _) _).setCell (by simp) _).setCell (by simp) _).setCell (by simp) _
end Go.Proofs.YtlpbolchedngoaaDoor
