/-
  What the copying functions of the laws return of code: copies in new memory, with their blocks.
-/
import Derived.Test.YtopbdjplpnojmaaKF
import Derived.Test.YtopbdjplpnojmaaKX
namespace Go.Proofs.Ytopbdjplpnojmaa
open Go.RowKit

theorem infoTFast : (Try.prog.info? 95).map (fun i => (i.zero, i.size, i.bytes)) = some (some (.agg #[.int .i64 0, .int .i64 0, .int .i64 0, .int .i64 0, .slice none 0 0, .slice none 0 0]), 6, 80) := by kernel_rfl
set_option maxRecDepth 100000 in
set_option maxHeartbeats 4000000 in
theorem toFastE_b (x : FastD) (a0 : Option Addr) (c0 : Nat) (a1 : Option Addr) (c1 : Nat) (w : World) (hn0 : LSmall FoSmall x.ops) (p0 : FosAt w 0 a0 x.ops) (hn1 : LSmall ExSmall x.exits) (p1 : ExsAt w 0 a1 x.exits) :
    Calls Try.prog 41 #[.agg #[.int .i64 x.fn, .int .i64 x.entry, .int .i64 x.vals, .int .i64 x.nums, .slice a0 x.ops.length c0, .slice a1 x.exits.length c1]] w fun e w' => ∃ g0 g1, w.heap.size ≤ g0 ∧ w.heap.size ≤ g1 ∧ e = .returned (.agg #[.int .i64 x.fn, .int .i64 x.entry, .int .i64 x.vals, .int .i64 x.nums, .slice (some ⟨g0, 0, none⟩) x.ops.length x.ops.length, .slice (some ⟨g1, 0, none⟩) x.exits.length x.exits.length]) ∧ FoY w' w.heap.size (some ⟨g0, 0, none⟩) x.ops ∧ ExY w' w.heap.size (some ⟨g1, 0, none⟩) x.exits ∧ Below w.heap.size w w' := by
  have hbA : Below w.heap.size w (((w.alloc (.cells #[.int .i64 x.fn, .int .i64 x.entry, .int .i64 x.vals, .int .i64 x.nums, .slice a0 x.ops.length c0, .slice a1 x.exits.length c1] 83)).alloc (.cells #[.int .i64 0, .int .i64 0, .int .i64 0, .int .i64 0, .slice none 0 0, .slice none 0 0] 95)).alloc (.cells #[.int .i64 x.fn, .int .i64 x.entry, .int .i64 x.vals, .int .i64 x.nums, .slice none 0 0, .slice none 0 0] 95)) := (((Below.refl _ _).alloc (Nat.le_refl _) _).alloc (by simp) _).alloc (by simp; omega) _
  have hI0 := block_old (block_old (block_new w #[.int .i64 x.fn, .int .i64 x.entry, .int .i64 x.vals, .int .i64 x.nums, .slice a0 x.ops.length c0, .slice a1 x.exits.length c1] 83) (.cells #[.int .i64 0, .int .i64 0, .int .i64 0, .int .i64 0, .slice none 0 0, .slice none 0 0] 95)) (.cells #[.int .i64 x.fn, .int .i64 x.entry, .int .i64 x.vals, .int .i64 x.nums, .slice none 0 0, .slice none 0 0] 95)
  have hR0 := block_old (block_new (w.alloc (.cells #[.int .i64 x.fn, .int .i64 x.entry, .int .i64 x.vals, .int .i64 x.nums, .slice a0 x.ops.length c0, .slice a1 x.exits.length c1] 83)) #[.int .i64 0, .int .i64 0, .int .i64 0, .int .i64 0, .slice none 0 0, .slice none 0 0] 95) (.cells #[.int .i64 x.fn, .int .i64 x.entry, .int .i64 x.vals, .int .i64 x.nums, .slice none 0 0, .slice none 0 0] 95)
  have hO0 := block_new ((w.alloc (.cells #[.int .i64 x.fn, .int .i64 x.entry, .int .i64 x.vals, .int .i64 x.nums, .slice a0 x.ops.length c0, .slice a1 x.exits.length c1] 83)).alloc (.cells #[.int .i64 0, .int .i64 0, .int .i64 0, .int .i64 0, .slice none 0 0, .slice none 0 0] 95)) #[.int .i64 x.fn, .int .i64 x.entry, .int .i64 x.vals, .int .i64 x.nums, .slice none 0 0, .slice none 0 0] 95
  simp only [World.size_alloc] at hR0 hO0
  go_enter Try.func41, Try.ntmps41
  go_wp2_with fail
  refine (toFOpS_b a0 x.ops c0 _ hn0 (p0.mono hbA)).mono ?_
  rintro e w1 ⟨rfl, hnew, hbn⟩
  have hI1 := block_kept hI0 hbn
  have hR1 := block_kept hR0 hbn
  have hO1 := block_kept hO0 hbn
  have hB1 := hbA.trans (hbn.mono hbA.size)
  simp only [World.size_alloc] at hnew
  have q0 := hnew
  clear hI0 hR0 hO0 hbA hbn hnew
  obtain ⟨x1, hx1⟩ : ∃ x1, x1 = (w1.setCell ⟨w.heap.size + 1 + 1, 4, none⟩ (.slice (some ⟨w.heap.size + 1 + 1 + 1, 0, none⟩) x.ops.length x.ops.length)) := ⟨_, rfl⟩
  have hOx : x1.heap[w.heap.size + 1 + 1]? = some (.cells #[.int .i64 x.fn, .int .i64 x.entry, .int .i64 x.vals, .int .i64 x.nums, .slice (some ⟨w.heap.size + 1 + 1 + 1, 0, none⟩) x.ops.length x.ops.length, .slice none 0 0] 95 (0, 0)) := by rw [hx1]; simpa using (block_set (i := 4) hO1 (.slice (some ⟨w.heap.size + 1 + 1 + 1, 0, none⟩) x.ops.length x.ops.length))
  have hRx : x1.heap[w.heap.size + 1]? = some (.cells #[.int .i64 0, .int .i64 0, .int .i64 0, .int .i64 0, .slice none 0 0, .slice none 0 0] 95 (0, 0)) := by rw [hx1, Below.heap_setCell _ _ _ _ (by simp)]; exact hR1
  have hIx : x1.heap[w.heap.size]? = some (.cells #[.int .i64 x.fn, .int .i64 x.entry, .int .i64 x.vals, .int .i64 x.nums, .slice a0 x.ops.length c0, .slice a1 x.exits.length c1] 83 (0, 0)) := by rw [hx1, Below.heap_setCell _ _ _ _ (by simp; omega)]; exact hI1
  have hBx : Below w.heap.size w x1 := by rw [hx1]; exact (hB1.setCell (by simp; omega) _)
  have hzx : w.heap.size + 1 + 1 + 1 ≤ x1.heap.size := lt_block hOx
  have q0x := q0.above (w' := x1) (by rw [hx1]; exact ((Above.refl _ _).setCell (by simp) _))
  have i1 := block_cell hI1
  have o1 := block_cell hO1
  have o2 := block_free hO1
  go_wp2_with fail
  rw [← hx1]
  clear hx1 i1 o1 o2 hI1 hR1 hO1 hB1 q0
  refine (toExitS_b a1 x.exits c1 _ hn1 (p1.mono hBx)).mono ?_
  rintro e w2 ⟨rfl, hnew, hbn⟩
  have hI2 := block_kept hIx hbn
  have hR2 := block_kept hRx hbn
  have hO2 := block_kept hOx hbn
  have hB2 := hBx.trans (hbn.mono hBx.size)
  have q0 := q0x.mono hbn
  have q1 := hnew.low hzx
  clear hIx hRx hOx hBx hbn q0x hnew
  have i1 := block_cell hI2
  have r1 := block_cell hR2
  have r2 := block_free hR2
  have o1 := block_cell hO2
  have o2 := block_free hO2
  have hzy : w.heap.size + 1 + 1 < w2.heap.size := lt_block hO2
  go_wp2
  refine bodyPost_ret (v := .agg #[.int .i64 x.fn, .int .i64 x.entry, .int .i64 x.vals, .int .i64 x.nums, .slice (some ⟨w.heap.size + 1 + 1 + 1, 0, none⟩) x.ops.length x.ops.length, .slice (some ⟨x1.heap.size, 0, none⟩) x.exits.length x.exits.length]) (by simp [results, Try.results41, go_sem, r1]) rfl ⟨_, _, by omega, by omega, rfl, ?_, ?_, ?_⟩
  · exact (q0.above ((((((((Above.refl _ _).setCell (by simp) _).setCell (by simp) _).setCell (by simp) _).setCell (by simp) _).setCell (by simp) _).setCell (by simp) _).setCell (by simp) _)).low (by omega)
  · exact (q1.above ((((((((Above.refl _ _).setCell (by simp) _).setCell (by simp) _).setCell (by simp) _).setCell (by simp) _).setCell (by simp) _).setCell (by simp) _).setCell (by simp) _)).low (by omega)
  · exact (((((((hB2.setCell (by simp; first | done | omega) _).setCell (by simp; first | done | omega) _).setCell (by simp; first | done | omega) _).setCell (by simp; first | done | omega) _).setCell (by simp; first | done | omega) _).setCell (by simp; first | done | omega) _).setCell (by simp; first | done | omega) _)

set_option maxRecDepth 100000 in
set_option maxHeartbeats 4000000 in
theorem toFastS_b (a : Option Addr) (xs : List FastD) (cap : Nat) (w : World) (hx : LSmall FastDSmall xs) (hm : FasAt w 0 a xs) :
    Calls Try.prog 19 #[.slice a xs.length cap] w fun e w' => e = .returned (.slice (some ⟨w.heap.size, 0, none⟩) xs.length xs.length) ∧ FaY w' w.heap.size (some ⟨w.heap.size, 0, none⟩) xs ∧ Below w.heap.size w w' := by
  obtain ⟨hn, hc⟩ := hx
  obtain ⟨i0, hi, hz0, hz1, hz2⟩ := info_parts infoTFast
  go_enter Try.func19, Try.ntmps19
  go_wp2_with (first | (at_make; refine wpList_make_full _ rfl _ _ 43 rfl w.heap.size 95 i0 (.agg #[.int .i64 0, .int .i64 0, .int .i64 0, .int .i64 0, .slice none 0 0, .slice none 0 0]) 6 Try.underlying43 hi hz0 hz1 _ _ _ _ xs.length rfl rfl rfl rfl (by rw [hz2]; omega) (by unfold maxLen; omega) (Nat.le_refl _) ?_; intro w1 hown hgrow))
  obtain ⟨cur0, hblk, hsz⟩ := made_block hown
  have hb0 : Below w.heap.size w w1 := (Below.refl _ _).grown hgrow (Nat.le_refl _) (by intro k hk; cases hk)
  clear hown hgrow hi hz0 hz1 hz2
  go_loopw [4] (fun i wr => ∃ (k : Nat) (cur : Array Value), k ≤ xs.length ∧ i = .int .i64 k ∧ wr.heap[w.heap.size]? = some (.cells cur 95 (0, 0)) ∧ cur.size = xs.length * 6 ∧ (∀ j (hj : j < xs.length), j < k → ∃ g0 g1, cur[j * 6]? = some (.int .i64 xs[j].fn) ∧ cur[j * 6 + 1]? = some (.int .i64 xs[j].entry) ∧ cur[j * 6 + 2]? = some (.int .i64 xs[j].vals) ∧ cur[j * 6 + 3]? = some (.int .i64 xs[j].nums) ∧ cur[j * 6 + 4]? = some (.slice (some ⟨g0, 0, none⟩) xs[j].ops.length xs[j].ops.length) ∧ cur[j * 6 + 5]? = some (.slice (some ⟨g1, 0, none⟩) xs[j].exits.length xs[j].exits.length) ∧ FoY wr (w.heap.size + 1) (some ⟨g0, 0, none⟩) xs[j].ops ∧ ExY wr (w.heap.size + 1) (some ⟨g1, 0, none⟩) xs[j].exits) ∧ Below w.heap.size w wr) (fun i _ => xs.length - (intOf i).toNat)
  case atStart => exact ⟨0, cur0, by omega, rfl, hblk, hsz, fun j _ h => by omega, hb0⟩
  case round =>
    obtain ⟨k, cur, hk, rfl, hblk, hsz, hdone, hb⟩ := hrel
    by_cases hlt : k < xs.length
    · obtain ⟨b, off, a0, c0, a1, c1, rfl, -, d0, d1, d2, d3, d4, d5, p0, p1⟩ := hm k hlt
      have e0 := cell_later hb d0
      have e1 := cell_later hb d1
      have e2 := cell_later hb d2
      have e3 := cell_later hb d3
      have e4 := cell_later hb d4
      have e5 := cell_later hb d5
      clear d0 d1 d2 d3 d4 d5
      have hgs : w.heap.size < wr.heap.size := lt_block hblk
      have hc0 := (hc xs[k] (List.getElem_mem hlt)).1
      have hc1 := (hc xs[k] (List.getElem_mem hlt)).2
      go_wp2_with fail
      refine (toFastE_b xs[k] _ _ _ _ _ hc0 (p0.mono hb) hc1 (p1.mono hb)).mono ?_
      rintro e w2 ⟨g0, g1, hg0, hg1, rfl, s0, s1, hb2⟩
      have hblk2 := block_kept hblk hb2
      have hfz := block_free hblk2
      have hcl0 : w2.cell? ⟨w.heap.size, k * 6, none⟩ = some cur[k * 6] := by rw [block_cell hblk2]; simp
      have hcl1 : w2.cell? ⟨w.heap.size, k * 6 + 1, none⟩ = some cur[k * 6 + 1] := by rw [block_cell hblk2]; simp
      have hcl2 : w2.cell? ⟨w.heap.size, k * 6 + 2, none⟩ = some cur[k * 6 + 2] := by rw [block_cell hblk2]; simp
      have hcl3 : w2.cell? ⟨w.heap.size, k * 6 + 3, none⟩ = some cur[k * 6 + 3] := by rw [block_cell hblk2]; simp
      have hcl4 : w2.cell? ⟨w.heap.size, k * 6 + 4, none⟩ = some cur[k * 6 + 4] := by rw [block_cell hblk2]; simp
      have hcl5 : w2.cell? ⟨w.heap.size, k * 6 + 5, none⟩ = some cur[k * 6 + 5] := by rw [block_cell hblk2]; simp
      have hb3 : Below w.heap.size w w2 := hb.trans (hb2.mono hb.size)
      go_wp2
      go_roundw
      case rel =>
        have hab : Above (w.heap.size + 1) w2 ((((((w2.setCell ⟨w.heap.size, k * 6, none⟩ (.int .i64 xs[k].fn)).setCell ⟨w.heap.size, k * 6 + 1, none⟩ (.int .i64 xs[k].entry)).setCell ⟨w.heap.size, k * 6 + 2, none⟩ (.int .i64 xs[k].vals)).setCell ⟨w.heap.size, k * 6 + 3, none⟩ (.int .i64 xs[k].nums)).setCell ⟨w.heap.size, k * 6 + 4, none⟩ (.slice (some ⟨g0, 0, none⟩) xs[k].ops.length xs[k].ops.length)).setCell ⟨w.heap.size, k * 6 + 5, none⟩ (.slice (some ⟨g1, 0, none⟩) xs[k].exits.length xs[k].exits.length)) := (((((((Above.refl _ _).setCell (by simp) _).setCell (by simp) _).setCell (by simp) _).setCell (by simp) _).setCell (by simp) _).setCell (by simp) _)
        refine ⟨k + 1, ((((((cur.setIfInBounds (k * 6) (.int .i64 xs[k].fn)).setIfInBounds (k * 6 + 1) (.int .i64 xs[k].entry)).setIfInBounds (k * 6 + 2) (.int .i64 xs[k].vals)).setIfInBounds (k * 6 + 3) (.int .i64 xs[k].nums)).setIfInBounds (k * 6 + 4) (.slice (some ⟨g0, 0, none⟩) xs[k].ops.length xs[k].ops.length)).setIfInBounds (k * 6 + 5) (.slice (some ⟨g1, 0, none⟩) xs[k].exits.length xs[k].exits.length)), by omega, by go_num, (block_set (block_set (block_set (block_set (block_set (block_set hblk2 _) _) _) _) _) _), by simpa using hsz, ?_, ((((((hb3.setCell (Nat.le_refl _) _).setCell (Nat.le_refl _) _).setCell (Nat.le_refl _) _).setCell (Nat.le_refl _) _).setCell (Nat.le_refl _) _).setCell (Nat.le_refl _) _)⟩
        intro j hj hjk
        by_cases e : j = k
        · subst e
          refine ⟨g0, g1, ?_, ?_, ?_, ?_, ?_, ?_, (s0.low (by omega)).above hab, (s1.low (by omega)).above hab⟩
          · rw [set_else _ (by omega), set_else _ (by omega), set_else _ (by omega), set_else _ (by omega), set_else _ (by omega)]; exact set_self _ (by first | omega | (simp; omega))
          · rw [set_else _ (by omega), set_else _ (by omega), set_else _ (by omega), set_else _ (by omega)]; exact set_self _ (by first | omega | (simp; omega))
          · rw [set_else _ (by omega), set_else _ (by omega), set_else _ (by omega)]; exact set_self _ (by first | omega | (simp; omega))
          · rw [set_else _ (by omega), set_else _ (by omega)]; exact set_self _ (by first | omega | (simp; omega))
          · rw [set_else _ (by omega)]; exact set_self _ (by first | omega | (simp; omega))
          · exact set_self _ (by first | omega | (simp; omega))
        · obtain ⟨g0', g1', d0, d1, d2, d3, d4, d5, s0', s1'⟩ := hdone j hj (by omega)
          refine ⟨g0', g1', ?_, ?_, ?_, ?_, ?_, ?_, (s0'.mono hb2).above hab, (s1'.mono hb2).above hab⟩
          · rw [set_else _ (by omega), set_else _ (by omega), set_else _ (by omega), set_else _ (by omega), set_else _ (by omega), set_else _ (by omega)]; exact d0
          · rw [set_else _ (by omega), set_else _ (by omega), set_else _ (by omega), set_else _ (by omega), set_else _ (by omega), set_else _ (by omega)]; exact d1
          · rw [set_else _ (by omega), set_else _ (by omega), set_else _ (by omega), set_else _ (by omega), set_else _ (by omega), set_else _ (by omega)]; exact d2
          · rw [set_else _ (by omega), set_else _ (by omega), set_else _ (by omega), set_else _ (by omega), set_else _ (by omega), set_else _ (by omega)]; exact d3
          · rw [set_else _ (by omega), set_else _ (by omega), set_else _ (by omega), set_else _ (by omega), set_else _ (by omega), set_else _ (by omega)]; exact d4
          · rw [set_else _ (by omega), set_else _ (by omega), set_else _ (by omega), set_else _ (by omega), set_else _ (by omega), set_else _ (by omega)]; exact d5
      case measure => simp [intOf]; omega
    · go_wp2
      go_ret
      refine ⟨rfl, ⟨fun j hj => ?_, w.heap.size, rfl, Nat.le_refl _, cur, hblk, hsz, fun j hj => ?_⟩, hb⟩
      · obtain ⟨g0', g1', d0, d1, d2, d3, d4, d5, s0', s1'⟩ := hdone j hj (by omega)
        exact ⟨w.heap.size, 0, some ⟨g0', 0, none⟩, xs[j].ops.length, some ⟨g1', 0, none⟩, xs[j].exits.length, rfl, Nat.le_refl _, by rw [block_cell hblk, Nat.zero_add]; exact d0, by rw [block_cell hblk, Nat.zero_add]; exact d1, by rw [block_cell hblk, Nat.zero_add]; exact d2, by rw [block_cell hblk, Nat.zero_add]; exact d3, by rw [block_cell hblk, Nat.zero_add]; exact d4, by rw [block_cell hblk, Nat.zero_add]; exact d5, s0'.at_.low (by omega), s1'.at_.low (by omega)⟩
      · obtain ⟨g0', g1', d0, d1, d2, d3, d4, d5, s0', s1'⟩ := hdone j hj (by omega)
        exact ⟨by rw [d0]; exact noSl_int _ _, by rw [d1]; exact noSl_int _ _, by rw [d2]; exact noSl_int _ _, by rw [d3]; exact noSl_int _ _, g0', g1', d4, d5, s0'.of.low (by omega), s1'.of.low (by omega)⟩

end Go.Proofs.Ytopbdjplpnojmaa
