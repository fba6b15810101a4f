/-
  What the copying functions of the laws return of lists of ops, sources, frames, records and exits, and of code: copies in new memory.
-/
import Derived.Test.YtopbdjplpnojmaaK0
import Derived.Test.YtopbdjplpnojmaaX1
import Derived.Test.YtopbdjplpnojmaaW2
import Derived.Test.YtopbdjplpnojmaaJ1
namespace Go.Proofs.Ytopbdjplpnojmaa
open Go.RowKit

theorem infoTSrc : (Try.prog.info? 174).map (fun i => (i.zero, i.size, i.bytes)) = some (some (.agg #[.int .i64 0, .int .i64 0, .int .i64 0, .int .i64 0, .string ByteArray.empty]), 5, 48) := by kernel_rfl
set_option maxRecDepth 100000 in
set_option maxHeartbeats 4000000 in
theorem toSrc_any (x : Sr) (w : World) :
    Calls Try.prog 99 #[.agg #[.int .i64 x.k, .int .i64 x.n, .int .i64 x.v.k, .int .i64 x.v.n, .string x.v.s]] w fun e w' => e = .returned (.agg #[.int .i64 x.k, .int .i64 x.n, .int .i64 x.v.k, .int .i64 x.v.n, .string x.v.s]) ∧ Below w.heap.size w w' := by
  have hbA : Below w.heap.size w (((w.alloc (.cells #[.int .i64 x.k, .int .i64 x.n, .int .i64 x.v.k, .int .i64 x.v.n, .string x.v.s] 191)).alloc (.cells #[.int .i64 0, .int .i64 0, .int .i64 0, .int .i64 0, .string ⟨#[]⟩] 174)).alloc (.cells #[.int .i64 x.k, .int .i64 x.n, .int .i64 0, .int .i64 0, .string ⟨#[]⟩] 174)) := (((Below.refl _ _).alloc (Nat.le_refl _) _).alloc (by simp) _).alloc (by simp; omega) _
  have hI0 := block_old (block_old (block_new w #[.int .i64 x.k, .int .i64 x.n, .int .i64 x.v.k, .int .i64 x.v.n, .string x.v.s] 191) (.cells #[.int .i64 0, .int .i64 0, .int .i64 0, .int .i64 0, .string ⟨#[]⟩] 174)) (.cells #[.int .i64 x.k, .int .i64 x.n, .int .i64 0, .int .i64 0, .string ⟨#[]⟩] 174)
  have hR0 := block_old (block_new (w.alloc (.cells #[.int .i64 x.k, .int .i64 x.n, .int .i64 x.v.k, .int .i64 x.v.n, .string x.v.s] 191)) #[.int .i64 0, .int .i64 0, .int .i64 0, .int .i64 0, .string ⟨#[]⟩] 174) (.cells #[.int .i64 x.k, .int .i64 x.n, .int .i64 0, .int .i64 0, .string ⟨#[]⟩] 174)
  have hO0 := block_new ((w.alloc (.cells #[.int .i64 x.k, .int .i64 x.n, .int .i64 x.v.k, .int .i64 x.v.n, .string x.v.s] 191)).alloc (.cells #[.int .i64 0, .int .i64 0, .int .i64 0, .int .i64 0, .string ⟨#[]⟩] 174)) #[.int .i64 x.k, .int .i64 x.n, .int .i64 0, .int .i64 0, .string ⟨#[]⟩] 174
  simp only [World.size_alloc] at hR0 hO0
  go_enter Try.func99, Try.ntmps99
  go_wp2_with fail
  refine (toValue_any _ _ _ _).mono ?_
  rintro e w1 ⟨rfl, hbn⟩
  have hI1 := block_kept hI0 hbn
  have hR1 := block_kept hR0 hbn
  have hO1 := block_kept hO0 hbn
  have hB1 := hbA.trans (hbn.mono hbA.size)
  clear hI0 hR0 hO0 hbA hbn
  have i1 := block_cell hI1
  have r1 := block_cell hR1
  have r2 := block_free hR1
  have o1 := block_cell hO1
  have o2 := block_free hO1
  have hzy : w.heap.size + 1 + 1 < w1.heap.size := lt_block hO1
  go_wp2
  refine bodyPost_ret (v := .agg #[.int .i64 x.k, .int .i64 x.n, .int .i64 x.v.k, .int .i64 x.v.n, .string x.v.s]) (by simp [results, Try.results99, go_sem, r1]) rfl ⟨rfl, ?_⟩
  · exact ((((((((hB1.setCell (by simp; first | done | omega) _).setCell (by simp; first | done | omega) _).setCell (by simp; first | done | omega) _).setCell (by simp; first | done | omega) _).setCell (by simp; first | done | omega) _).setCell (by simp; first | done | omega) _).setCell (by simp; first | done | omega) _).setCell (by simp; first | done | omega) _)

set_option maxRecDepth 100000 in
set_option maxHeartbeats 4000000 in
theorem toSrcS_any (a : Option Addr) (xs : List Sr) (cap : Nat) (w : World) (hx : LSmall SrSmall xs) (hm : SrsAt w 0 a xs) :
    Calls Try.prog 96 #[.slice a xs.length cap] w fun e w' => e = .returned (.slice (some ⟨w.heap.size, 0, none⟩) xs.length xs.length) ∧ SrsAt w' w.heap.size (some ⟨w.heap.size, 0, none⟩) xs ∧ Below w.heap.size w w' := by
  obtain ⟨hn, hc⟩ := hx
  obtain ⟨i0, hi, hz0, hz1, hz2⟩ := info_parts infoTSrc
  go_enter Try.func96, Try.ntmps96
  go_wp2_with (first | (at_make; refine wpList_make_full _ rfl _ _ 160 rfl w.heap.size 174 i0 (.agg #[.int .i64 0, .int .i64 0, .int .i64 0, .int .i64 0, .string ByteArray.empty]) 5 Try.underlying160 hi hz0 hz1 _ _ _ _ xs.length rfl rfl rfl rfl (by rw [hz2]; omega) (by unfold maxLen; omega) (Nat.le_refl _) ?_; intro w1 hown hgrow))
  obtain ⟨cur0, hblk, hsz⟩ := made_block hown
  have hb0 : Below w.heap.size w w1 := (Below.refl _ _).grown hgrow (Nat.le_refl _) (by intro k hk; cases hk)
  clear hown hgrow hi hz0 hz1 hz2
  go_loopw [4] (fun i wr => ∃ (k : Nat) (cur : Array Value), k ≤ xs.length ∧ i = .int .i64 k ∧ wr.heap[w.heap.size]? = some (.cells cur 174 (0, 0)) ∧ cur.size = xs.length * 5 ∧ (∀ j (hj : j < xs.length), j < k → cur[j * 5]? = some (.int .i64 xs[j].k) ∧ cur[j * 5 + 1]? = some (.int .i64 xs[j].n) ∧ cur[j * 5 + 2]? = some (.int .i64 xs[j].v.k) ∧ cur[j * 5 + 3]? = some (.int .i64 xs[j].v.n) ∧ cur[j * 5 + 4]? = some (.string xs[j].v.s)) ∧ Below w.heap.size w wr) (fun i _ => xs.length - (intOf i).toNat)
  case atStart => exact ⟨0, cur0, by omega, rfl, hblk, hsz, fun j _ h => by omega, hb0⟩
  case round =>
    obtain ⟨k, cur, hk, rfl, hblk, hsz, hdone, hb⟩ := hrel
    by_cases hlt : k < xs.length
    · obtain ⟨b, off, rfl, -, d0, d1, d2, d3, d4⟩ := hm k hlt
      have e0 := cell_later hb d0
      have e1 := cell_later hb d1
      have e2 := cell_later hb d2
      have e3 := cell_later hb d3
      have e4 := cell_later hb d4
      clear d0 d1 d2 d3 d4
      have hgs : w.heap.size < wr.heap.size := lt_block hblk
      go_wp2_with fail
      refine (toSrc_any xs[k] _).mono ?_
      rintro e w2 ⟨rfl, hb2⟩
      have hblk2 := block_kept hblk hb2
      have hfz := block_free hblk2
      have hcl0 : w2.cell? ⟨w.heap.size, k * 5, none⟩ = some cur[k * 5] := by rw [block_cell hblk2]; simp
      have hcl1 : w2.cell? ⟨w.heap.size, k * 5 + 1, none⟩ = some cur[k * 5 + 1] := by rw [block_cell hblk2]; simp
      have hcl2 : w2.cell? ⟨w.heap.size, k * 5 + 2, none⟩ = some cur[k * 5 + 2] := by rw [block_cell hblk2]; simp
      have hcl3 : w2.cell? ⟨w.heap.size, k * 5 + 3, none⟩ = some cur[k * 5 + 3] := by rw [block_cell hblk2]; simp
      have hcl4 : w2.cell? ⟨w.heap.size, k * 5 + 4, none⟩ = some cur[k * 5 + 4] := by rw [block_cell hblk2]; simp
      have hb3 : Below w.heap.size w w2 := hb.trans (hb2.mono hb.size)
      go_wp2
      go_roundw
      case rel =>
        have hab : Above (w.heap.size + 1) w2 (((((w2.setCell ⟨w.heap.size, k * 5, none⟩ (.int .i64 xs[k].k)).setCell ⟨w.heap.size, k * 5 + 1, none⟩ (.int .i64 xs[k].n)).setCell ⟨w.heap.size, k * 5 + 2, none⟩ (.int .i64 xs[k].v.k)).setCell ⟨w.heap.size, k * 5 + 3, none⟩ (.int .i64 xs[k].v.n)).setCell ⟨w.heap.size, k * 5 + 4, none⟩ (.string xs[k].v.s)) := ((((((Above.refl _ _).setCell (by simp) _).setCell (by simp) _).setCell (by simp) _).setCell (by simp) _).setCell (by simp) _)
        refine ⟨k + 1, (((((cur.setIfInBounds (k * 5) (.int .i64 xs[k].k)).setIfInBounds (k * 5 + 1) (.int .i64 xs[k].n)).setIfInBounds (k * 5 + 2) (.int .i64 xs[k].v.k)).setIfInBounds (k * 5 + 3) (.int .i64 xs[k].v.n)).setIfInBounds (k * 5 + 4) (.string xs[k].v.s)), by omega, by go_num, (block_set (block_set (block_set (block_set (block_set hblk2 _) _) _) _) _), by simpa using hsz, ?_, (((((hb3.setCell (Nat.le_refl _) _).setCell (Nat.le_refl _) _).setCell (Nat.le_refl _) _).setCell (Nat.le_refl _) _).setCell (Nat.le_refl _) _)⟩
        intro j hj hjk
        by_cases e : j = k
        · subst e
          refine ⟨?_, ?_, ?_, ?_, ?_⟩
          · rw [set_else _ (by omega), set_else _ (by omega), set_else _ (by omega), set_else _ (by omega)]; exact set_self _ (by first | omega | (simp; omega))
          · rw [set_else _ (by omega), set_else _ (by omega), set_else _ (by omega)]; exact set_self _ (by first | omega | (simp; omega))
          · rw [set_else _ (by omega), set_else _ (by omega)]; exact set_self _ (by first | omega | (simp; omega))
          · rw [set_else _ (by omega)]; exact set_self _ (by first | omega | (simp; omega))
          · exact set_self _ (by first | omega | (simp; omega))
        · obtain ⟨d0, d1, d2, d3, d4⟩ := hdone j hj (by omega)
          refine ⟨?_, ?_, ?_, ?_, ?_⟩
          · rw [set_else _ (by omega), set_else _ (by omega), set_else _ (by omega), set_else _ (by omega), set_else _ (by omega)]; exact d0
          · rw [set_else _ (by omega), set_else _ (by omega), set_else _ (by omega), set_else _ (by omega), set_else _ (by omega)]; exact d1
          · rw [set_else _ (by omega), set_else _ (by omega), set_else _ (by omega), set_else _ (by omega), set_else _ (by omega)]; exact d2
          · rw [set_else _ (by omega), set_else _ (by omega), set_else _ (by omega), set_else _ (by omega), set_else _ (by omega)]; exact d3
          · rw [set_else _ (by omega), set_else _ (by omega), set_else _ (by omega), set_else _ (by omega), set_else _ (by omega)]; exact d4
      case measure => simp [intOf]; omega
    · go_wp2
      go_ret
      refine ⟨rfl, fun j hj => ?_, hb⟩
      obtain ⟨d0, d1, d2, d3, d4⟩ := hdone j hj (by omega)
      exact ⟨w.heap.size, 0, rfl, Nat.le_refl _, by rw [block_cell hblk, Nat.zero_add]; exact d0, by rw [block_cell hblk, Nat.zero_add]; exact d1, by rw [block_cell hblk, Nat.zero_add]; exact d2, by rw [block_cell hblk, Nat.zero_add]; exact d3, by rw [block_cell hblk, Nat.zero_add]; exact d4⟩

theorem infoTExFrame : (Try.prog.info? 162).map (fun i => (i.zero, i.size, i.bytes)) = some (some (.agg #[.int .i64 0, .int .i64 0, .slice none 0 0, .slice none 0 0]), 4, 64) := by kernel_rfl
set_option maxRecDepth 100000 in
set_option maxHeartbeats 4000000 in
theorem toExFrame_any (x : EF) (a0 : Option Addr) (c0 : Nat) (a1 : Option Addr) (c1 : Nat) (w : World) (hn0 : LSmall SrSmall x.locals) (p0 : SrsAt w 0 a0 x.locals) (hn1 : LSmall SrSmall x.stack) (p1 : SrsAt w 0 a1 x.stack) :
    Calls Try.prog 91 #[.agg #[.int .i64 x.fn, .int .i64 x.pc, .slice a0 x.locals.length c0, .slice a1 x.stack.length c1]] w fun e w' => ∃ g0 g1, w.heap.size ≤ g0 ∧ w.heap.size ≤ g1 ∧ e = .returned (.agg #[.int .i64 x.fn, .int .i64 x.pc, .slice (some ⟨g0, 0, none⟩) x.locals.length x.locals.length, .slice (some ⟨g1, 0, none⟩) x.stack.length x.stack.length]) ∧ SrsAt w' w.heap.size (some ⟨g0, 0, none⟩) x.locals ∧ SrsAt w' w.heap.size (some ⟨g1, 0, none⟩) x.stack ∧ Below w.heap.size w w' := by
  have hbA : Below w.heap.size w (((w.alloc (.cells #[.int .i64 x.fn, .int .i64 x.pc, .slice a0 x.locals.length c0, .slice a1 x.stack.length c1] 178)).alloc (.cells #[.int .i64 0, .int .i64 0, .slice none 0 0, .slice none 0 0] 162)).alloc (.cells #[.int .i64 x.fn, .int .i64 x.pc, .slice none 0 0, .slice none 0 0] 162)) := (((Below.refl _ _).alloc (Nat.le_refl _) _).alloc (by simp) _).alloc (by simp; omega) _
  have hI0 := block_old (block_old (block_new w #[.int .i64 x.fn, .int .i64 x.pc, .slice a0 x.locals.length c0, .slice a1 x.stack.length c1] 178) (.cells #[.int .i64 0, .int .i64 0, .slice none 0 0, .slice none 0 0] 162)) (.cells #[.int .i64 x.fn, .int .i64 x.pc, .slice none 0 0, .slice none 0 0] 162)
  have hR0 := block_old (block_new (w.alloc (.cells #[.int .i64 x.fn, .int .i64 x.pc, .slice a0 x.locals.length c0, .slice a1 x.stack.length c1] 178)) #[.int .i64 0, .int .i64 0, .slice none 0 0, .slice none 0 0] 162) (.cells #[.int .i64 x.fn, .int .i64 x.pc, .slice none 0 0, .slice none 0 0] 162)
  have hO0 := block_new ((w.alloc (.cells #[.int .i64 x.fn, .int .i64 x.pc, .slice a0 x.locals.length c0, .slice a1 x.stack.length c1] 178)).alloc (.cells #[.int .i64 0, .int .i64 0, .slice none 0 0, .slice none 0 0] 162)) #[.int .i64 x.fn, .int .i64 x.pc, .slice none 0 0, .slice none 0 0] 162
  simp only [World.size_alloc] at hR0 hO0
  go_enter Try.func91, Try.ntmps91
  go_wp2_with fail
  refine (toSrcS_any a0 x.locals c0 _ hn0 (p0.mono hbA)).mono ?_
  rintro e w1 ⟨rfl, hnew, hbn⟩
  have hI1 := block_kept hI0 hbn
  have hR1 := block_kept hR0 hbn
  have hO1 := block_kept hO0 hbn
  have hB1 := hbA.trans (hbn.mono hbA.size)
  simp only [World.size_alloc] at hnew
  have q0 := hnew
  clear hI0 hR0 hO0 hbA hbn hnew
  obtain ⟨x1, hx1⟩ : ∃ x1, x1 = (w1.setCell ⟨w.heap.size + 1 + 1, 2, none⟩ (.slice (some ⟨w.heap.size + 1 + 1 + 1, 0, none⟩) x.locals.length x.locals.length)) := ⟨_, rfl⟩
  have hOx : x1.heap[w.heap.size + 1 + 1]? = some (.cells #[.int .i64 x.fn, .int .i64 x.pc, .slice (some ⟨w.heap.size + 1 + 1 + 1, 0, none⟩) x.locals.length x.locals.length, .slice none 0 0] 162 (0, 0)) := by rw [hx1]; simpa using (block_set (i := 2) hO1 (.slice (some ⟨w.heap.size + 1 + 1 + 1, 0, none⟩) x.locals.length x.locals.length))
  have hRx : x1.heap[w.heap.size + 1]? = some (.cells #[.int .i64 0, .int .i64 0, .slice none 0 0, .slice none 0 0] 162 (0, 0)) := by rw [hx1, Below.heap_setCell _ _ _ _ (by simp)]; exact hR1
  have hIx : x1.heap[w.heap.size]? = some (.cells #[.int .i64 x.fn, .int .i64 x.pc, .slice a0 x.locals.length c0, .slice a1 x.stack.length c1] 178 (0, 0)) := by rw [hx1, Below.heap_setCell _ _ _ _ (by simp; omega)]; exact hI1
  have hBx : Below w.heap.size w x1 := by rw [hx1]; exact (hB1.setCell (by simp; omega) _)
  have hzx : w.heap.size + 1 + 1 + 1 ≤ x1.heap.size := lt_block hOx
  have q0x := q0.above (w' := x1) (by rw [hx1]; exact ((Above.refl _ _).setCell (by simp) _))
  have i1 := block_cell hI1
  have o1 := block_cell hO1
  have o2 := block_free hO1
  go_wp2_with fail
  rw [← hx1]
  clear hx1 i1 o1 o2 hI1 hR1 hO1 hB1 q0
  refine (toSrcS_any a1 x.stack c1 _ hn1 (p1.mono hBx)).mono ?_
  rintro e w2 ⟨rfl, hnew, hbn⟩
  have hI2 := block_kept hIx hbn
  have hR2 := block_kept hRx hbn
  have hO2 := block_kept hOx hbn
  have hB2 := hBx.trans (hbn.mono hBx.size)
  have q0 := q0x.mono hbn
  have q1 := hnew.low hzx
  clear hIx hRx hOx hBx hbn q0x hnew
  have i1 := block_cell hI2
  have r1 := block_cell hR2
  have r2 := block_free hR2
  have o1 := block_cell hO2
  have o2 := block_free hO2
  have hzy : w.heap.size + 1 + 1 < w2.heap.size := lt_block hO2
  go_wp2
  refine bodyPost_ret (v := .agg #[.int .i64 x.fn, .int .i64 x.pc, .slice (some ⟨w.heap.size + 1 + 1 + 1, 0, none⟩) x.locals.length x.locals.length, .slice (some ⟨x1.heap.size, 0, none⟩) x.stack.length x.stack.length]) (by simp [results, Try.results91, go_sem, r1]) rfl ⟨_, _, by omega, by omega, rfl, ?_, ?_, ?_⟩
  · exact (q0.above ((((((Above.refl _ _).setCell (by simp) _).setCell (by simp) _).setCell (by simp) _).setCell (by simp) _).setCell (by simp) _)).low (by omega)
  · exact (q1.above ((((((Above.refl _ _).setCell (by simp) _).setCell (by simp) _).setCell (by simp) _).setCell (by simp) _).setCell (by simp) _)).low (by omega)
  · exact (((((hB2.setCell (by simp; first | done | omega) _).setCell (by simp; first | done | omega) _).setCell (by simp; first | done | omega) _).setCell (by simp; first | done | omega) _).setCell (by simp; first | done | omega) _)

set_option maxRecDepth 100000 in
set_option maxHeartbeats 4000000 in
theorem toExFrameS_any (a : Option Addr) (xs : List EF) (cap : Nat) (w : World) (hx : LSmall EFSmall xs) (hm : EFsAt w 0 a xs) :
    Calls Try.prog 85 #[.slice a xs.length cap] w fun e w' => e = .returned (.slice (some ⟨w.heap.size, 0, none⟩) xs.length xs.length) ∧ EFsAt w' w.heap.size (some ⟨w.heap.size, 0, none⟩) xs ∧ Below w.heap.size w w' := by
  obtain ⟨hn, hc⟩ := hx
  obtain ⟨i0, hi, hz0, hz1, hz2⟩ := info_parts infoTExFrame
  go_enter Try.func85, Try.ntmps85
  go_wp2_with (first | (at_make; refine wpList_make_full _ rfl _ _ 137 rfl w.heap.size 162 i0 (.agg #[.int .i64 0, .int .i64 0, .slice none 0 0, .slice none 0 0]) 4 Try.underlying137 hi hz0 hz1 _ _ _ _ xs.length rfl rfl rfl rfl (by rw [hz2]; omega) (by unfold maxLen; omega) (Nat.le_refl _) ?_; intro w1 hown hgrow))
  obtain ⟨cur0, hblk, hsz⟩ := made_block hown
  have hb0 : Below w.heap.size w w1 := (Below.refl _ _).grown hgrow (Nat.le_refl _) (by intro k hk; cases hk)
  clear hown hgrow hi hz0 hz1 hz2
  go_loopw [4] (fun i wr => ∃ (k : Nat) (cur : Array Value), k ≤ xs.length ∧ i = .int .i64 k ∧ wr.heap[w.heap.size]? = some (.cells cur 162 (0, 0)) ∧ cur.size = xs.length * 4 ∧ (∀ j (hj : j < xs.length), j < k → ∃ g0 g1, cur[j * 4]? = some (.int .i64 xs[j].fn) ∧ cur[j * 4 + 1]? = some (.int .i64 xs[j].pc) ∧ cur[j * 4 + 2]? = some (.slice (some ⟨g0, 0, none⟩) xs[j].locals.length xs[j].locals.length) ∧ cur[j * 4 + 3]? = some (.slice (some ⟨g1, 0, none⟩) xs[j].stack.length xs[j].stack.length) ∧ SrsAt wr (w.heap.size + 1) (some ⟨g0, 0, none⟩) xs[j].locals ∧ SrsAt wr (w.heap.size + 1) (some ⟨g1, 0, none⟩) xs[j].stack) ∧ Below w.heap.size w wr) (fun i _ => xs.length - (intOf i).toNat)
  case atStart => exact ⟨0, cur0, by omega, rfl, hblk, hsz, fun j _ h => by omega, hb0⟩
  case round =>
    obtain ⟨k, cur, hk, rfl, hblk, hsz, hdone, hb⟩ := hrel
    by_cases hlt : k < xs.length
    · obtain ⟨b, off, a0, c0, a1, c1, rfl, -, d0, d1, d2, d3, p0, p1⟩ := hm k hlt
      have e0 := cell_later hb d0
      have e1 := cell_later hb d1
      have e2 := cell_later hb d2
      have e3 := cell_later hb d3
      clear d0 d1 d2 d3
      have hgs : w.heap.size < wr.heap.size := lt_block hblk
      have hc0 := (hc xs[k] (List.getElem_mem hlt)).1
      have hc1 := (hc xs[k] (List.getElem_mem hlt)).2
      go_wp2_with fail
      refine (toExFrame_any xs[k] _ _ _ _ _ hc0 (p0.mono hb) hc1 (p1.mono hb)).mono ?_
      rintro e w2 ⟨g0, g1, hg0, hg1, rfl, s0, s1, hb2⟩
      have hblk2 := block_kept hblk hb2
      have hfz := block_free hblk2
      have hcl0 : w2.cell? ⟨w.heap.size, k * 4, none⟩ = some cur[k * 4] := by rw [block_cell hblk2]; simp
      have hcl1 : w2.cell? ⟨w.heap.size, k * 4 + 1, none⟩ = some cur[k * 4 + 1] := by rw [block_cell hblk2]; simp
      have hcl2 : w2.cell? ⟨w.heap.size, k * 4 + 2, none⟩ = some cur[k * 4 + 2] := by rw [block_cell hblk2]; simp
      have hcl3 : w2.cell? ⟨w.heap.size, k * 4 + 3, none⟩ = some cur[k * 4 + 3] := by rw [block_cell hblk2]; simp
      have hb3 : Below w.heap.size w w2 := hb.trans (hb2.mono hb.size)
      go_wp2
      go_roundw
      case rel =>
        have hab : Above (w.heap.size + 1) w2 ((((w2.setCell ⟨w.heap.size, k * 4, none⟩ (.int .i64 xs[k].fn)).setCell ⟨w.heap.size, k * 4 + 1, none⟩ (.int .i64 xs[k].pc)).setCell ⟨w.heap.size, k * 4 + 2, none⟩ (.slice (some ⟨g0, 0, none⟩) xs[k].locals.length xs[k].locals.length)).setCell ⟨w.heap.size, k * 4 + 3, none⟩ (.slice (some ⟨g1, 0, none⟩) xs[k].stack.length xs[k].stack.length)) := (((((Above.refl _ _).setCell (by simp) _).setCell (by simp) _).setCell (by simp) _).setCell (by simp) _)
        refine ⟨k + 1, ((((cur.setIfInBounds (k * 4) (.int .i64 xs[k].fn)).setIfInBounds (k * 4 + 1) (.int .i64 xs[k].pc)).setIfInBounds (k * 4 + 2) (.slice (some ⟨g0, 0, none⟩) xs[k].locals.length xs[k].locals.length)).setIfInBounds (k * 4 + 3) (.slice (some ⟨g1, 0, none⟩) xs[k].stack.length xs[k].stack.length)), by omega, by go_num, (block_set (block_set (block_set (block_set hblk2 _) _) _) _), by simpa using hsz, ?_, ((((hb3.setCell (Nat.le_refl _) _).setCell (Nat.le_refl _) _).setCell (Nat.le_refl _) _).setCell (Nat.le_refl _) _)⟩
        intro j hj hjk
        by_cases e : j = k
        · subst e
          refine ⟨g0, g1, ?_, ?_, ?_, ?_, (s0.low (by omega)).above hab, (s1.low (by omega)).above hab⟩
          · rw [set_else _ (by omega), set_else _ (by omega), set_else _ (by omega)]; exact set_self _ (by first | omega | (simp; omega))
          · rw [set_else _ (by omega), set_else _ (by omega)]; exact set_self _ (by first | omega | (simp; omega))
          · rw [set_else _ (by omega)]; exact set_self _ (by first | omega | (simp; omega))
          · exact set_self _ (by first | omega | (simp; omega))
        · obtain ⟨g0', g1', d0, d1, d2, d3, s0', s1'⟩ := hdone j hj (by omega)
          refine ⟨g0', g1', ?_, ?_, ?_, ?_, (s0'.mono hb2).above hab, (s1'.mono hb2).above hab⟩
          · rw [set_else _ (by omega), set_else _ (by omega), set_else _ (by omega), set_else _ (by omega)]; exact d0
          · rw [set_else _ (by omega), set_else _ (by omega), set_else _ (by omega), set_else _ (by omega)]; exact d1
          · rw [set_else _ (by omega), set_else _ (by omega), set_else _ (by omega), set_else _ (by omega)]; exact d2
          · rw [set_else _ (by omega), set_else _ (by omega), set_else _ (by omega), set_else _ (by omega)]; exact d3
      case measure => simp [intOf]; omega
    · go_wp2
      go_ret
      refine ⟨rfl, fun j hj => ?_, hb⟩
      obtain ⟨g0', g1', d0, d1, d2, d3, s0', s1'⟩ := hdone j hj (by omega)
      exact ⟨w.heap.size, 0, some ⟨g0', 0, none⟩, xs[j].locals.length, some ⟨g1', 0, none⟩, xs[j].stack.length, rfl, Nat.le_refl _, by rw [block_cell hblk, Nat.zero_add]; exact d0, by rw [block_cell hblk, Nat.zero_add]; exact d1, by rw [block_cell hblk, Nat.zero_add]; exact d2, by rw [block_cell hblk, Nat.zero_add]; exact d3, s0'.low (by omega), s1'.low (by omega)⟩

theorem infoTExRec : (Try.prog.info? 165).map (fun i => (i.zero, i.size, i.bytes)) = some (some (.agg #[.slice none 0 0]), 1, 24) := by kernel_rfl
set_option maxRecDepth 100000 in
set_option maxHeartbeats 4000000 in
theorem toExRec_any (x : ER) (a0 : Option Addr) (c0 : Nat) (w : World) (hn0 : LSmall SrSmall x.fields) (p0 : SrsAt w 0 a0 x.fields) :
    Calls Try.prog 92 #[.agg #[.slice a0 x.fields.length c0]] w fun e w' => ∃ g0, w.heap.size ≤ g0 ∧ e = .returned (.agg #[.slice (some ⟨g0, 0, none⟩) x.fields.length x.fields.length]) ∧ SrsAt w' w.heap.size (some ⟨g0, 0, none⟩) x.fields ∧ Below w.heap.size w w' := by
  have hbA : Below w.heap.size w (((w.alloc (.cells #[.slice a0 x.fields.length c0] 181)).alloc (.cells #[.slice none 0 0] 165)).alloc (.cells #[.slice none 0 0] 165)) := (((Below.refl _ _).alloc (Nat.le_refl _) _).alloc (by simp) _).alloc (by simp; omega) _
  have hI0 := block_old (block_old (block_new w #[.slice a0 x.fields.length c0] 181) (.cells #[.slice none 0 0] 165)) (.cells #[.slice none 0 0] 165)
  have hR0 := block_old (block_new (w.alloc (.cells #[.slice a0 x.fields.length c0] 181)) #[.slice none 0 0] 165) (.cells #[.slice none 0 0] 165)
  have hO0 := block_new ((w.alloc (.cells #[.slice a0 x.fields.length c0] 181)).alloc (.cells #[.slice none 0 0] 165)) #[.slice none 0 0] 165
  simp only [World.size_alloc] at hR0 hO0
  go_enter Try.func92, Try.ntmps92
  go_wp2_with fail
  refine (toSrcS_any a0 x.fields c0 _ hn0 (p0.mono hbA)).mono ?_
  rintro e w1 ⟨rfl, hnew, hbn⟩
  have hI1 := block_kept hI0 hbn
  have hR1 := block_kept hR0 hbn
  have hO1 := block_kept hO0 hbn
  have hB1 := hbA.trans (hbn.mono hbA.size)
  simp only [World.size_alloc] at hnew
  have q0 := hnew
  clear hI0 hR0 hO0 hbA hbn hnew
  have i1 := block_cell hI1
  have r1 := block_cell hR1
  have r2 := block_free hR1
  have o1 := block_cell hO1
  have o2 := block_free hO1
  have hzy : w.heap.size + 1 + 1 < w1.heap.size := lt_block hO1
  go_wp2
  refine bodyPost_ret (v := .agg #[.slice (some ⟨w.heap.size + 1 + 1 + 1, 0, none⟩) x.fields.length x.fields.length]) (by simp [results, Try.results92, go_sem, r1]) rfl ⟨_, by omega, rfl, ?_, ?_⟩
  · exact (q0.above (((Above.refl _ _).setCell (by simp) _).setCell (by simp) _)).low (by omega)
  · exact ((hB1.setCell (by simp; first | done | omega) _).setCell (by simp; first | done | omega) _)

set_option maxRecDepth 100000 in
set_option maxHeartbeats 4000000 in
theorem toExRecS_any (a : Option Addr) (xs : List ER) (cap : Nat) (w : World) (hx : LSmall ERSmall xs) (hm : ERsAt w 0 a xs) :
    Calls Try.prog 86 #[.slice a xs.length cap] w fun e w' => e = .returned (.slice (some ⟨w.heap.size, 0, none⟩) xs.length xs.length) ∧ ERsAt w' w.heap.size (some ⟨w.heap.size, 0, none⟩) xs ∧ Below w.heap.size w w' := by
  obtain ⟨hn, hc⟩ := hx
  obtain ⟨i0, hi, hz0, hz1, hz2⟩ := info_parts infoTExRec
  go_enter Try.func86, Try.ntmps86
  go_wp2_with (first | (at_make; refine wpList_make_full _ rfl _ _ 138 rfl w.heap.size 165 i0 (.agg #[.slice none 0 0]) 1 Try.underlying138 hi hz0 hz1 _ _ _ _ xs.length rfl rfl rfl rfl (by rw [hz2]; omega) (by unfold maxLen; omega) (Nat.le_refl _) ?_; intro w1 hown hgrow))
  obtain ⟨cur0, hblk, hsz⟩ := made_block hown
  have hb0 : Below w.heap.size w w1 := (Below.refl _ _).grown hgrow (Nat.le_refl _) (by intro k hk; cases hk)
  clear hown hgrow hi hz0 hz1 hz2
  go_loopw [4] (fun i wr => ∃ (k : Nat) (cur : Array Value), k ≤ xs.length ∧ i = .int .i64 k ∧ wr.heap[w.heap.size]? = some (.cells cur 165 (0, 0)) ∧ cur.size = xs.length * 1 ∧ (∀ j (hj : j < xs.length), j < k → ∃ g0, cur[j]? = some (.slice (some ⟨g0, 0, none⟩) xs[j].fields.length xs[j].fields.length) ∧ SrsAt wr (w.heap.size + 1) (some ⟨g0, 0, none⟩) xs[j].fields) ∧ Below w.heap.size w wr) (fun i _ => xs.length - (intOf i).toNat)
  case atStart => exact ⟨0, cur0, by omega, rfl, hblk, hsz, fun j _ h => by omega, hb0⟩
  case round =>
    obtain ⟨k, cur, hk, rfl, hblk, hsz, hdone, hb⟩ := hrel
    by_cases hlt : k < xs.length
    · obtain ⟨b, off, a0, c0, rfl, -, d0, p0⟩ := hm k hlt
      have e0 := cell_later hb d0
      clear d0
      have hgs : w.heap.size < wr.heap.size := lt_block hblk
      have hc0 := (hc xs[k] (List.getElem_mem hlt))
      go_wp2_with fail
      refine (toExRec_any xs[k] _ _ _ hc0 (p0.mono hb)).mono ?_
      rintro e w2 ⟨g0, hg0, rfl, s0, hb2⟩
      have hblk2 := block_kept hblk hb2
      have hfz := block_free hblk2
      have hcl0 : w2.cell? ⟨w.heap.size, k, none⟩ = some cur[k] := by rw [block_cell hblk2]; simp
      have hb3 : Below w.heap.size w w2 := hb.trans (hb2.mono hb.size)
      go_wp2
      go_roundw
      case rel =>
        have hab : Above (w.heap.size + 1) w2 (w2.setCell ⟨w.heap.size, k, none⟩ (.slice (some ⟨g0, 0, none⟩) xs[k].fields.length xs[k].fields.length)) := ((Above.refl _ _).setCell (by simp) _)
        refine ⟨k + 1, (cur.setIfInBounds (k) (.slice (some ⟨g0, 0, none⟩) xs[k].fields.length xs[k].fields.length)), by omega, by go_num, (block_set hblk2 _), by simpa using hsz, ?_, (hb3.setCell (Nat.le_refl _) _)⟩
        intro j hj hjk
        by_cases e : j = k
        · subst e
          refine ⟨g0, ?_, (s0.low (by omega)).above hab⟩
          · exact set_self _ (by first | omega | (simp; omega))
        · obtain ⟨g0', d0, s0'⟩ := hdone j hj (by omega)
          refine ⟨g0', ?_, (s0'.mono hb2).above hab⟩
          · rw [set_else _ (by omega)]; exact d0
      case measure => simp [intOf]; omega
    · go_wp2
      go_ret
      refine ⟨rfl, fun j hj => ?_, hb⟩
      obtain ⟨g0', d0, s0'⟩ := hdone j hj (by omega)
      exact ⟨w.heap.size, 0, some ⟨g0', 0, none⟩, xs[j].fields.length, rfl, Nat.le_refl _, by rw [block_cell hblk, Nat.zero_add]; exact d0, s0'.low (by omega)⟩

theorem infoTExit : (Try.prog.info? 140).map (fun i => (i.zero, i.size, i.bytes)) = some (some (.agg #[.int .i64 0, .int .i64 0, .int .i64 0, .int .i64 0, .int .i64 0, .slice none 0 0, .slice none 0 0]), 7, 88) := by kernel_rfl
set_option maxRecDepth 100000 in
set_option maxHeartbeats 4000000 in
theorem toExit_any (x : Ex) (a0 : Option Addr) (c0 : Nat) (a1 : Option Addr) (c1 : Nat) (w : World) (hn0 : LSmall EFSmall x.frames) (p0 : EFsAt w 0 a0 x.frames) (hn1 : LSmall ERSmall x.recs) (p1 : ERsAt w 0 a1 x.recs) :
    Calls Try.prog 77 #[.agg #[.int .i64 x.kind, .int .i64 x.spec.f, .int .i64 x.spec.pc, .int .i64 x.spec.seen, .int .i64 x.spec.target, .slice a0 x.frames.length c0, .slice a1 x.recs.length c1]] w fun e w' => ∃ g0 g1, w.heap.size ≤ g0 ∧ w.heap.size ≤ g1 ∧ e = .returned (.agg #[.int .i64 x.kind, .int .i64 x.spec.f, .int .i64 x.spec.pc, .int .i64 x.spec.seen, .int .i64 x.spec.target, .slice (some ⟨g0, 0, none⟩) x.frames.length x.frames.length, .slice (some ⟨g1, 0, none⟩) x.recs.length x.recs.length]) ∧ EFsAt w' w.heap.size (some ⟨g0, 0, none⟩) x.frames ∧ ERsAt w' w.heap.size (some ⟨g1, 0, none⟩) x.recs ∧ Below w.heap.size w w' := by
  have hbA : Below w.heap.size w (((w.alloc (.cells #[.int .i64 x.kind, .int .i64 x.spec.f, .int .i64 x.spec.pc, .int .i64 x.spec.seen, .int .i64 x.spec.target, .slice a0 x.frames.length c0, .slice a1 x.recs.length c1] 152)).alloc (.cells #[.int .i64 0, .int .i64 0, .int .i64 0, .int .i64 0, .int .i64 0, .slice none 0 0, .slice none 0 0] 140)).alloc (.cells #[.int .i64 x.kind, .int .i64 0, .int .i64 0, .int .i64 0, .int .i64 0, .slice none 0 0, .slice none 0 0] 140)) := (((Below.refl _ _).alloc (Nat.le_refl _) _).alloc (by simp) _).alloc (by simp; omega) _
  have hI0 := block_old (block_old (block_new w #[.int .i64 x.kind, .int .i64 x.spec.f, .int .i64 x.spec.pc, .int .i64 x.spec.seen, .int .i64 x.spec.target, .slice a0 x.frames.length c0, .slice a1 x.recs.length c1] 152) (.cells #[.int .i64 0, .int .i64 0, .int .i64 0, .int .i64 0, .int .i64 0, .slice none 0 0, .slice none 0 0] 140)) (.cells #[.int .i64 x.kind, .int .i64 0, .int .i64 0, .int .i64 0, .int .i64 0, .slice none 0 0, .slice none 0 0] 140)
  have hR0 := block_old (block_new (w.alloc (.cells #[.int .i64 x.kind, .int .i64 x.spec.f, .int .i64 x.spec.pc, .int .i64 x.spec.seen, .int .i64 x.spec.target, .slice a0 x.frames.length c0, .slice a1 x.recs.length c1] 152)) #[.int .i64 0, .int .i64 0, .int .i64 0, .int .i64 0, .int .i64 0, .slice none 0 0, .slice none 0 0] 140) (.cells #[.int .i64 x.kind, .int .i64 0, .int .i64 0, .int .i64 0, .int .i64 0, .slice none 0 0, .slice none 0 0] 140)
  have hO0 := block_new ((w.alloc (.cells #[.int .i64 x.kind, .int .i64 x.spec.f, .int .i64 x.spec.pc, .int .i64 x.spec.seen, .int .i64 x.spec.target, .slice a0 x.frames.length c0, .slice a1 x.recs.length c1] 152)).alloc (.cells #[.int .i64 0, .int .i64 0, .int .i64 0, .int .i64 0, .int .i64 0, .slice none 0 0, .slice none 0 0] 140)) #[.int .i64 x.kind, .int .i64 0, .int .i64 0, .int .i64 0, .int .i64 0, .slice none 0 0, .slice none 0 0] 140
  simp only [World.size_alloc] at hR0 hO0
  go_enter Try.func77, Try.ntmps77
  go_wp2_with fail
  refine (toSpec_any _ _ _ _ _).mono ?_
  rintro e w1 ⟨rfl, hbn⟩
  have hI1 := block_kept hI0 hbn
  have hR1 := block_kept hR0 hbn
  have hO1 := block_kept hO0 hbn
  have hB1 := hbA.trans (hbn.mono hbA.size)
  clear hI0 hR0 hO0 hbA hbn
  obtain ⟨x1, hx1⟩ : ∃ x1, x1 = ((((w1.setCell ⟨w.heap.size + 1 + 1, 1, none⟩ (.int .i64 x.spec.f)).setCell ⟨w.heap.size + 1 + 1, 2, none⟩ (.int .i64 x.spec.pc)).setCell ⟨w.heap.size + 1 + 1, 3, none⟩ (.int .i64 x.spec.seen)).setCell ⟨w.heap.size + 1 + 1, 4, none⟩ (.int .i64 x.spec.target)) := ⟨_, rfl⟩
  have hOx : x1.heap[w.heap.size + 1 + 1]? = some (.cells #[.int .i64 x.kind, .int .i64 x.spec.f, .int .i64 x.spec.pc, .int .i64 x.spec.seen, .int .i64 x.spec.target, .slice none 0 0, .slice none 0 0] 140 (0, 0)) := by rw [hx1]; simpa using (block_set (i := 4) (block_set (i := 3) (block_set (i := 2) (block_set (i := 1) hO1 (.int .i64 x.spec.f)) (.int .i64 x.spec.pc)) (.int .i64 x.spec.seen)) (.int .i64 x.spec.target))
  have hRx : x1.heap[w.heap.size + 1]? = some (.cells #[.int .i64 0, .int .i64 0, .int .i64 0, .int .i64 0, .int .i64 0, .slice none 0 0, .slice none 0 0] 140 (0, 0)) := by rw [hx1, Below.heap_setCell _ _ _ _ (by simp), Below.heap_setCell _ _ _ _ (by simp), Below.heap_setCell _ _ _ _ (by simp), Below.heap_setCell _ _ _ _ (by simp)]; exact hR1
  have hIx : x1.heap[w.heap.size]? = some (.cells #[.int .i64 x.kind, .int .i64 x.spec.f, .int .i64 x.spec.pc, .int .i64 x.spec.seen, .int .i64 x.spec.target, .slice a0 x.frames.length c0, .slice a1 x.recs.length c1] 152 (0, 0)) := by rw [hx1, Below.heap_setCell _ _ _ _ (by simp; omega), Below.heap_setCell _ _ _ _ (by simp; omega), Below.heap_setCell _ _ _ _ (by simp; omega), Below.heap_setCell _ _ _ _ (by simp; omega)]; exact hI1
  have hBx : Below w.heap.size w x1 := by rw [hx1]; exact ((((hB1.setCell (by simp; omega) _).setCell (by simp; omega) _).setCell (by simp; omega) _).setCell (by simp; omega) _)
  have hzx : w.heap.size + 1 + 1 + 1 ≤ x1.heap.size := lt_block hOx
  have i1 := block_cell hI1
  have o1 := block_cell hO1
  have o2 := block_free hO1
  go_wp2_with fail
  rw [← hx1]
  clear hx1 i1 o1 o2 hI1 hR1 hO1 hB1
  refine (toExFrameS_any a0 x.frames c0 _ hn0 (p0.mono hBx)).mono ?_
  rintro e w2 ⟨rfl, hnew, hbn⟩
  have hI2 := block_kept hIx hbn
  have hR2 := block_kept hRx hbn
  have hO2 := block_kept hOx hbn
  have hB2 := hBx.trans (hbn.mono hBx.size)
  have q0 := hnew.low hzx
  clear hIx hRx hOx hBx hbn hnew
  obtain ⟨x2, hx2⟩ : ∃ x2, x2 = (w2.setCell ⟨w.heap.size + 1 + 1, 5, none⟩ (.slice (some ⟨x1.heap.size, 0, none⟩) x.frames.length x.frames.length)) := ⟨_, rfl⟩
  have hOx : x2.heap[w.heap.size + 1 + 1]? = some (.cells #[.int .i64 x.kind, .int .i64 x.spec.f, .int .i64 x.spec.pc, .int .i64 x.spec.seen, .int .i64 x.spec.target, .slice (some ⟨x1.heap.size, 0, none⟩) x.frames.length x.frames.length, .slice none 0 0] 140 (0, 0)) := by rw [hx2]; simpa using (block_set (i := 5) hO2 (.slice (some ⟨x1.heap.size, 0, none⟩) x.frames.length x.frames.length))
  have hRx : x2.heap[w.heap.size + 1]? = some (.cells #[.int .i64 0, .int .i64 0, .int .i64 0, .int .i64 0, .int .i64 0, .slice none 0 0, .slice none 0 0] 140 (0, 0)) := by rw [hx2, Below.heap_setCell _ _ _ _ (by simp)]; exact hR2
  have hIx : x2.heap[w.heap.size]? = some (.cells #[.int .i64 x.kind, .int .i64 x.spec.f, .int .i64 x.spec.pc, .int .i64 x.spec.seen, .int .i64 x.spec.target, .slice a0 x.frames.length c0, .slice a1 x.recs.length c1] 152 (0, 0)) := by rw [hx2, Below.heap_setCell _ _ _ _ (by simp; omega)]; exact hI2
  have hBx : Below w.heap.size w x2 := by rw [hx2]; exact (hB2.setCell (by simp; omega) _)
  have hzx : w.heap.size + 1 + 1 + 1 ≤ x2.heap.size := lt_block hOx
  have q0x := q0.above (w' := x2) (by rw [hx2]; exact ((Above.refl _ _).setCell (by simp) _))
  have i1 := block_cell hI2
  have o1 := block_cell hO2
  have o2 := block_free hO2
  go_wp2_with fail
  rw [← hx2]
  clear hx2 i1 o1 o2 hI2 hR2 hO2 hB2 q0
  refine (toExRecS_any a1 x.recs c1 _ hn1 (p1.mono hBx)).mono ?_
  rintro e w3 ⟨rfl, hnew, hbn⟩
  have hI3 := block_kept hIx hbn
  have hR3 := block_kept hRx hbn
  have hO3 := block_kept hOx hbn
  have hB3 := hBx.trans (hbn.mono hBx.size)
  have q0 := q0x.mono hbn
  have q1 := hnew.low hzx
  clear hIx hRx hOx hBx hbn q0x hnew
  have i1 := block_cell hI3
  have r1 := block_cell hR3
  have r2 := block_free hR3
  have o1 := block_cell hO3
  have o2 := block_free hO3
  have hzy : w.heap.size + 1 + 1 < w3.heap.size := lt_block hO3
  go_wp2
  refine bodyPost_ret (v := .agg #[.int .i64 x.kind, .int .i64 x.spec.f, .int .i64 x.spec.pc, .int .i64 x.spec.seen, .int .i64 x.spec.target, .slice (some ⟨x1.heap.size, 0, none⟩) x.frames.length x.frames.length, .slice (some ⟨x2.heap.size, 0, none⟩) x.recs.length x.recs.length]) (by simp [results, Try.results77, go_sem, r1]) rfl ⟨_, _, by omega, by omega, rfl, ?_, ?_, ?_⟩
  · exact (q0.above (((((((((Above.refl _ _).setCell (by simp) _).setCell (by simp) _).setCell (by simp) _).setCell (by simp) _).setCell (by simp) _).setCell (by simp) _).setCell (by simp) _).setCell (by simp) _)).low (by omega)
  · exact (q1.above (((((((((Above.refl _ _).setCell (by simp) _).setCell (by simp) _).setCell (by simp) _).setCell (by simp) _).setCell (by simp) _).setCell (by simp) _).setCell (by simp) _).setCell (by simp) _)).low (by omega)
  · exact ((((((((hB3.setCell (by simp; first | done | omega) _).setCell (by simp; first | done | omega) _).setCell (by simp; first | done | omega) _).setCell (by simp; first | done | omega) _).setCell (by simp; first | done | omega) _).setCell (by simp; first | done | omega) _).setCell (by simp; first | done | omega) _).setCell (by simp; first | done | omega) _)

set_option maxRecDepth 100000 in
set_option maxHeartbeats 4000000 in
theorem toExitS_any (a : Option Addr) (xs : List Ex) (cap : Nat) (w : World) (hx : LSmall ExSmall xs) (hm : ExsAt w 0 a xs) :
    Calls Try.prog 63 #[.slice a xs.length cap] w fun e w' => e = .returned (.slice (some ⟨w.heap.size, 0, none⟩) xs.length xs.length) ∧ ExsAt w' w.heap.size (some ⟨w.heap.size, 0, none⟩) xs ∧ Below w.heap.size w w' := by
  obtain ⟨hn, hc⟩ := hx
  obtain ⟨i0, hi, hz0, hz1, hz2⟩ := info_parts infoTExit
  go_enter Try.func63, Try.ntmps63
  go_wp2_with (first | (at_make; refine wpList_make_full _ rfl _ _ 93 rfl w.heap.size 140 i0 (.agg #[.int .i64 0, .int .i64 0, .int .i64 0, .int .i64 0, .int .i64 0, .slice none 0 0, .slice none 0 0]) 7 Try.underlying93 hi hz0 hz1 _ _ _ _ xs.length rfl rfl rfl rfl (by rw [hz2]; omega) (by unfold maxLen; omega) (Nat.le_refl _) ?_; intro w1 hown hgrow))
  obtain ⟨cur0, hblk, hsz⟩ := made_block hown
  have hb0 : Below w.heap.size w w1 := (Below.refl _ _).grown hgrow (Nat.le_refl _) (by intro k hk; cases hk)
  clear hown hgrow hi hz0 hz1 hz2
  go_loopw [4] (fun i wr => ∃ (k : Nat) (cur : Array Value), k ≤ xs.length ∧ i = .int .i64 k ∧ wr.heap[w.heap.size]? = some (.cells cur 140 (0, 0)) ∧ cur.size = xs.length * 7 ∧ (∀ j (hj : j < xs.length), j < k → ∃ g0 g1, cur[j * 7]? = some (.int .i64 xs[j].kind) ∧ cur[j * 7 + 1]? = some (.int .i64 xs[j].spec.f) ∧ cur[j * 7 + 2]? = some (.int .i64 xs[j].spec.pc) ∧ cur[j * 7 + 3]? = some (.int .i64 xs[j].spec.seen) ∧ cur[j * 7 + 4]? = some (.int .i64 xs[j].spec.target) ∧ cur[j * 7 + 5]? = some (.slice (some ⟨g0, 0, none⟩) xs[j].frames.length xs[j].frames.length) ∧ cur[j * 7 + 6]? = some (.slice (some ⟨g1, 0, none⟩) xs[j].recs.length xs[j].recs.length) ∧ EFsAt wr (w.heap.size + 1) (some ⟨g0, 0, none⟩) xs[j].frames ∧ ERsAt wr (w.heap.size + 1) (some ⟨g1, 0, none⟩) xs[j].recs) ∧ Below w.heap.size w wr) (fun i _ => xs.length - (intOf i).toNat)
  case atStart => exact ⟨0, cur0, by omega, rfl, hblk, hsz, fun j _ h => by omega, hb0⟩
  case round =>
    obtain ⟨k, cur, hk, rfl, hblk, hsz, hdone, hb⟩ := hrel
    by_cases hlt : k < xs.length
    · obtain ⟨b, off, a0, c0, a1, c1, rfl, -, d0, d1, d2, d3, d4, d5, d6, p0, p1⟩ := hm k hlt
      have e0 := cell_later hb d0
      have e1 := cell_later hb d1
      have e2 := cell_later hb d2
      have e3 := cell_later hb d3
      have e4 := cell_later hb d4
      have e5 := cell_later hb d5
      have e6 := cell_later hb d6
      clear d0 d1 d2 d3 d4 d5 d6
      have hgs : w.heap.size < wr.heap.size := lt_block hblk
      have hc0 := (hc xs[k] (List.getElem_mem hlt)).1
      have hc1 := (hc xs[k] (List.getElem_mem hlt)).2
      go_wp2_with fail
      refine (toExit_any xs[k] _ _ _ _ _ hc0 (p0.mono hb) hc1 (p1.mono hb)).mono ?_
      rintro e w2 ⟨g0, g1, hg0, hg1, rfl, s0, s1, hb2⟩
      have hblk2 := block_kept hblk hb2
      have hfz := block_free hblk2
      have hcl0 : w2.cell? ⟨w.heap.size, k * 7, none⟩ = some cur[k * 7] := by rw [block_cell hblk2]; simp
      have hcl1 : w2.cell? ⟨w.heap.size, k * 7 + 1, none⟩ = some cur[k * 7 + 1] := by rw [block_cell hblk2]; simp
      have hcl2 : w2.cell? ⟨w.heap.size, k * 7 + 2, none⟩ = some cur[k * 7 + 2] := by rw [block_cell hblk2]; simp
      have hcl3 : w2.cell? ⟨w.heap.size, k * 7 + 3, none⟩ = some cur[k * 7 + 3] := by rw [block_cell hblk2]; simp
      have hcl4 : w2.cell? ⟨w.heap.size, k * 7 + 4, none⟩ = some cur[k * 7 + 4] := by rw [block_cell hblk2]; simp
      have hcl5 : w2.cell? ⟨w.heap.size, k * 7 + 5, none⟩ = some cur[k * 7 + 5] := by rw [block_cell hblk2]; simp
      have hcl6 : w2.cell? ⟨w.heap.size, k * 7 + 6, none⟩ = some cur[k * 7 + 6] := by rw [block_cell hblk2]; simp
      have hb3 : Below w.heap.size w w2 := hb.trans (hb2.mono hb.size)
      go_wp2
      go_roundw
      case rel =>
        have hab : Above (w.heap.size + 1) w2 (((((((w2.setCell ⟨w.heap.size, k * 7, none⟩ (.int .i64 xs[k].kind)).setCell ⟨w.heap.size, k * 7 + 1, none⟩ (.int .i64 xs[k].spec.f)).setCell ⟨w.heap.size, k * 7 + 2, none⟩ (.int .i64 xs[k].spec.pc)).setCell ⟨w.heap.size, k * 7 + 3, none⟩ (.int .i64 xs[k].spec.seen)).setCell ⟨w.heap.size, k * 7 + 4, none⟩ (.int .i64 xs[k].spec.target)).setCell ⟨w.heap.size, k * 7 + 5, none⟩ (.slice (some ⟨g0, 0, none⟩) xs[k].frames.length xs[k].frames.length)).setCell ⟨w.heap.size, k * 7 + 6, none⟩ (.slice (some ⟨g1, 0, none⟩) xs[k].recs.length xs[k].recs.length)) := ((((((((Above.refl _ _).setCell (by simp) _).setCell (by simp) _).setCell (by simp) _).setCell (by simp) _).setCell (by simp) _).setCell (by simp) _).setCell (by simp) _)
        refine ⟨k + 1, (((((((cur.setIfInBounds (k * 7) (.int .i64 xs[k].kind)).setIfInBounds (k * 7 + 1) (.int .i64 xs[k].spec.f)).setIfInBounds (k * 7 + 2) (.int .i64 xs[k].spec.pc)).setIfInBounds (k * 7 + 3) (.int .i64 xs[k].spec.seen)).setIfInBounds (k * 7 + 4) (.int .i64 xs[k].spec.target)).setIfInBounds (k * 7 + 5) (.slice (some ⟨g0, 0, none⟩) xs[k].frames.length xs[k].frames.length)).setIfInBounds (k * 7 + 6) (.slice (some ⟨g1, 0, none⟩) xs[k].recs.length xs[k].recs.length)), by omega, by go_num, (block_set (block_set (block_set (block_set (block_set (block_set (block_set hblk2 _) _) _) _) _) _) _), by simpa using hsz, ?_, (((((((hb3.setCell (Nat.le_refl _) _).setCell (Nat.le_refl _) _).setCell (Nat.le_refl _) _).setCell (Nat.le_refl _) _).setCell (Nat.le_refl _) _).setCell (Nat.le_refl _) _).setCell (Nat.le_refl _) _)⟩
        intro j hj hjk
        by_cases e : j = k
        · subst e
          refine ⟨g0, g1, ?_, ?_, ?_, ?_, ?_, ?_, ?_, (s0.low (by omega)).above hab, (s1.low (by omega)).above hab⟩
          · rw [set_else _ (by omega), set_else _ (by omega), set_else _ (by omega), set_else _ (by omega), set_else _ (by omega), set_else _ (by omega)]; exact set_self _ (by first | omega | (simp; omega))
          · rw [set_else _ (by omega), set_else _ (by omega), set_else _ (by omega), set_else _ (by omega), set_else _ (by omega)]; exact set_self _ (by first | omega | (simp; omega))
          · rw [set_else _ (by omega), set_else _ (by omega), set_else _ (by omega), set_else _ (by omega)]; exact set_self _ (by first | omega | (simp; omega))
          · rw [set_else _ (by omega), set_else _ (by omega), set_else _ (by omega)]; exact set_self _ (by first | omega | (simp; omega))
          · rw [set_else _ (by omega), set_else _ (by omega)]; exact set_self _ (by first | omega | (simp; omega))
          · rw [set_else _ (by omega)]; exact set_self _ (by first | omega | (simp; omega))
          · exact set_self _ (by first | omega | (simp; omega))
        · obtain ⟨g0', g1', d0, d1, d2, d3, d4, d5, d6, s0', s1'⟩ := hdone j hj (by omega)
          refine ⟨g0', g1', ?_, ?_, ?_, ?_, ?_, ?_, ?_, (s0'.mono hb2).above hab, (s1'.mono hb2).above hab⟩
          · rw [set_else _ (by omega), set_else _ (by omega), set_else _ (by omega), set_else _ (by omega), set_else _ (by omega), set_else _ (by omega), set_else _ (by omega)]; exact d0
          · rw [set_else _ (by omega), set_else _ (by omega), set_else _ (by omega), set_else _ (by omega), set_else _ (by omega), set_else _ (by omega), set_else _ (by omega)]; exact d1
          · rw [set_else _ (by omega), set_else _ (by omega), set_else _ (by omega), set_else _ (by omega), set_else _ (by omega), set_else _ (by omega), set_else _ (by omega)]; exact d2
          · rw [set_else _ (by omega), set_else _ (by omega), set_else _ (by omega), set_else _ (by omega), set_else _ (by omega), set_else _ (by omega), set_else _ (by omega)]; exact d3
          · rw [set_else _ (by omega), set_else _ (by omega), set_else _ (by omega), set_else _ (by omega), set_else _ (by omega), set_else _ (by omega), set_else _ (by omega)]; exact d4
          · rw [set_else _ (by omega), set_else _ (by omega), set_else _ (by omega), set_else _ (by omega), set_else _ (by omega), set_else _ (by omega), set_else _ (by omega)]; exact d5
          · rw [set_else _ (by omega), set_else _ (by omega), set_else _ (by omega), set_else _ (by omega), set_else _ (by omega), set_else _ (by omega), set_else _ (by omega)]; exact d6
      case measure => simp [intOf]; omega
    · go_wp2
      go_ret
      refine ⟨rfl, fun j hj => ?_, hb⟩
      obtain ⟨g0', g1', d0, d1, d2, d3, d4, d5, d6, s0', s1'⟩ := hdone j hj (by omega)
      exact ⟨w.heap.size, 0, some ⟨g0', 0, none⟩, xs[j].frames.length, some ⟨g1', 0, none⟩, xs[j].recs.length, rfl, Nat.le_refl _, by rw [block_cell hblk, Nat.zero_add]; exact d0, by rw [block_cell hblk, Nat.zero_add]; exact d1, by rw [block_cell hblk, Nat.zero_add]; exact d2, by rw [block_cell hblk, Nat.zero_add]; exact d3, by rw [block_cell hblk, Nat.zero_add]; exact d4, by rw [block_cell hblk, Nat.zero_add]; exact d5, by rw [block_cell hblk, Nat.zero_add]; exact d6, s0'.low (by omega), s1'.low (by omega)⟩

theorem infoTFOp : (Try.prog.info? 136).map (fun i => (i.zero, i.size, i.bytes)) = some (some (.agg #[.int .i64 0, .int .i64 0, .int .i64 0, .int .i64 0, .int .i64 0, .int .i64 0, .int .i64 0, .int .i64 0, .int .i64 0, .string ByteArray.empty]), 10, 88) := by kernel_rfl
set_option maxRecDepth 100000 in
set_option maxHeartbeats 4000000 in
theorem toFOp_any (x : Fo) (w : World) :
    Calls Try.prog 76 #[.agg #[.int .i64 x.op, .int .i64 x.d, .int .i64 x.a, .int .i64 x.b, .int .i64 x.x, .int .i64 x.f, .int .i64 x.p, .int .i64 x.v.k, .int .i64 x.v.n, .string x.v.s]] w fun e w' => e = .returned (.agg #[.int .i64 x.op, .int .i64 x.d, .int .i64 x.a, .int .i64 x.b, .int .i64 x.x, .int .i64 x.f, .int .i64 x.p, .int .i64 x.v.k, .int .i64 x.v.n, .string x.v.s]) ∧ Below w.heap.size w w' := by
  have hbA : Below w.heap.size w (((w.alloc (.cells #[.int .i64 x.op, .int .i64 x.d, .int .i64 x.a, .int .i64 x.b, .int .i64 x.x, .int .i64 x.f, .int .i64 x.p, .int .i64 x.v.k, .int .i64 x.v.n, .string x.v.s] 146)).alloc (.cells #[.int .i64 0, .int .i64 0, .int .i64 0, .int .i64 0, .int .i64 0, .int .i64 0, .int .i64 0, .int .i64 0, .int .i64 0, .string ⟨#[]⟩] 136)).alloc (.cells #[.int .i64 x.op, .int .i64 x.d, .int .i64 x.a, .int .i64 x.b, .int .i64 x.x, .int .i64 x.f, .int .i64 x.p, .int .i64 0, .int .i64 0, .string ⟨#[]⟩] 136)) := (((Below.refl _ _).alloc (Nat.le_refl _) _).alloc (by simp) _).alloc (by simp; omega) _
  have hI0 := block_old (block_old (block_new w #[.int .i64 x.op, .int .i64 x.d, .int .i64 x.a, .int .i64 x.b, .int .i64 x.x, .int .i64 x.f, .int .i64 x.p, .int .i64 x.v.k, .int .i64 x.v.n, .string x.v.s] 146) (.cells #[.int .i64 0, .int .i64 0, .int .i64 0, .int .i64 0, .int .i64 0, .int .i64 0, .int .i64 0, .int .i64 0, .int .i64 0, .string ⟨#[]⟩] 136)) (.cells #[.int .i64 x.op, .int .i64 x.d, .int .i64 x.a, .int .i64 x.b, .int .i64 x.x, .int .i64 x.f, .int .i64 x.p, .int .i64 0, .int .i64 0, .string ⟨#[]⟩] 136)
  have hR0 := block_old (block_new (w.alloc (.cells #[.int .i64 x.op, .int .i64 x.d, .int .i64 x.a, .int .i64 x.b, .int .i64 x.x, .int .i64 x.f, .int .i64 x.p, .int .i64 x.v.k, .int .i64 x.v.n, .string x.v.s] 146)) #[.int .i64 0, .int .i64 0, .int .i64 0, .int .i64 0, .int .i64 0, .int .i64 0, .int .i64 0, .int .i64 0, .int .i64 0, .string ⟨#[]⟩] 136) (.cells #[.int .i64 x.op, .int .i64 x.d, .int .i64 x.a, .int .i64 x.b, .int .i64 x.x, .int .i64 x.f, .int .i64 x.p, .int .i64 0, .int .i64 0, .string ⟨#[]⟩] 136)
  have hO0 := block_new ((w.alloc (.cells #[.int .i64 x.op, .int .i64 x.d, .int .i64 x.a, .int .i64 x.b, .int .i64 x.x, .int .i64 x.f, .int .i64 x.p, .int .i64 x.v.k, .int .i64 x.v.n, .string x.v.s] 146)).alloc (.cells #[.int .i64 0, .int .i64 0, .int .i64 0, .int .i64 0, .int .i64 0, .int .i64 0, .int .i64 0, .int .i64 0, .int .i64 0, .string ⟨#[]⟩] 136)) #[.int .i64 x.op, .int .i64 x.d, .int .i64 x.a, .int .i64 x.b, .int .i64 x.x, .int .i64 x.f, .int .i64 x.p, .int .i64 0, .int .i64 0, .string ⟨#[]⟩] 136
  simp only [World.size_alloc] at hR0 hO0
  go_enter Try.func76, Try.ntmps76
  go_wp2_with fail
  refine (toValue_any _ _ _ _).mono ?_
  rintro e w1 ⟨rfl, hbn⟩
  have hI1 := block_kept hI0 hbn
  have hR1 := block_kept hR0 hbn
  have hO1 := block_kept hO0 hbn
  have hB1 := hbA.trans (hbn.mono hbA.size)
  clear hI0 hR0 hO0 hbA hbn
  have i1 := block_cell hI1
  have r1 := block_cell hR1
  have r2 := block_free hR1
  have o1 := block_cell hO1
  have o2 := block_free hO1
  have hzy : w.heap.size + 1 + 1 < w1.heap.size := lt_block hO1
  go_wp2
  refine bodyPost_ret (v := .agg #[.int .i64 x.op, .int .i64 x.d, .int .i64 x.a, .int .i64 x.b, .int .i64 x.x, .int .i64 x.f, .int .i64 x.p, .int .i64 x.v.k, .int .i64 x.v.n, .string x.v.s]) (by simp [results, Try.results76, go_sem, r1]) rfl ⟨rfl, ?_⟩
  · exact (((((((((((((hB1.setCell (by simp; first | done | omega) _).setCell (by simp; first | done | omega) _).setCell (by simp; first | done | omega) _).setCell (by simp; first | done | omega) _).setCell (by simp; first | done | omega) _).setCell (by simp; first | done | omega) _).setCell (by simp; first | done | omega) _).setCell (by simp; first | done | omega) _).setCell (by simp; first | done | omega) _).setCell (by simp; first | done | omega) _).setCell (by simp; first | done | omega) _).setCell (by simp; first | done | omega) _).setCell (by simp; first | done | omega) _)

set_option maxRecDepth 100000 in
set_option maxHeartbeats 4000000 in
theorem toFOpS_any (a : Option Addr) (xs : List Fo) (cap : Nat) (w : World) (hx : LSmall FoSmall xs) (hm : FosAt w 0 a xs) :
    Calls Try.prog 62 #[.slice a xs.length cap] w fun e w' => e = .returned (.slice (some ⟨w.heap.size, 0, none⟩) xs.length xs.length) ∧ FosAt w' w.heap.size (some ⟨w.heap.size, 0, none⟩) xs ∧ Below w.heap.size w w' := by
  obtain ⟨hn, hc⟩ := hx
  obtain ⟨i0, hi, hz0, hz1, hz2⟩ := info_parts infoTFOp
  go_enter Try.func62, Try.ntmps62
  go_wp2_with (first | (at_make; refine wpList_make_full _ rfl _ _ 92 rfl w.heap.size 136 i0 (.agg #[.int .i64 0, .int .i64 0, .int .i64 0, .int .i64 0, .int .i64 0, .int .i64 0, .int .i64 0, .int .i64 0, .int .i64 0, .string ByteArray.empty]) 10 Try.underlying92 hi hz0 hz1 _ _ _ _ xs.length rfl rfl rfl rfl (by rw [hz2]; omega) (by unfold maxLen; omega) (Nat.le_refl _) ?_; intro w1 hown hgrow))
  obtain ⟨cur0, hblk, hsz⟩ := made_block hown
  have hb0 : Below w.heap.size w w1 := (Below.refl _ _).grown hgrow (Nat.le_refl _) (by intro k hk; cases hk)
  clear hown hgrow hi hz0 hz1 hz2
  go_loopw [4] (fun i wr => ∃ (k : Nat) (cur : Array Value), k ≤ xs.length ∧ i = .int .i64 k ∧ wr.heap[w.heap.size]? = some (.cells cur 136 (0, 0)) ∧ cur.size = xs.length * 10 ∧ (∀ j (hj : j < xs.length), j < k → cur[j * 10]? = some (.int .i64 xs[j].op) ∧ cur[j * 10 + 1]? = some (.int .i64 xs[j].d) ∧ cur[j * 10 + 2]? = some (.int .i64 xs[j].a) ∧ cur[j * 10 + 3]? = some (.int .i64 xs[j].b) ∧ cur[j * 10 + 4]? = some (.int .i64 xs[j].x) ∧ cur[j * 10 + 5]? = some (.int .i64 xs[j].f) ∧ cur[j * 10 + 6]? = some (.int .i64 xs[j].p) ∧ cur[j * 10 + 7]? = some (.int .i64 xs[j].v.k) ∧ cur[j * 10 + 8]? = some (.int .i64 xs[j].v.n) ∧ cur[j * 10 + 9]? = some (.string xs[j].v.s)) ∧ Below w.heap.size w wr) (fun i _ => xs.length - (intOf i).toNat)
  case atStart => exact ⟨0, cur0, by omega, rfl, hblk, hsz, fun j _ h => by omega, hb0⟩
  case round =>
    obtain ⟨k, cur, hk, rfl, hblk, hsz, hdone, hb⟩ := hrel
    by_cases hlt : k < xs.length
    · obtain ⟨b, off, rfl, -, d0, d1, d2, d3, d4, d5, d6, d7, d8, d9⟩ := hm k hlt
      have e0 := cell_later hb d0
      have e1 := cell_later hb d1
      have e2 := cell_later hb d2
      have e3 := cell_later hb d3
      have e4 := cell_later hb d4
      have e5 := cell_later hb d5
      have e6 := cell_later hb d6
      have e7 := cell_later hb d7
      have e8 := cell_later hb d8
      have e9 := cell_later hb d9
      clear d0 d1 d2 d3 d4 d5 d6 d7 d8 d9
      have hgs : w.heap.size < wr.heap.size := lt_block hblk
      go_wp2_with fail
      refine (toFOp_any xs[k] _).mono ?_
      rintro e w2 ⟨rfl, hb2⟩
      have hblk2 := block_kept hblk hb2
      have hfz := block_free hblk2
      have hcl0 : w2.cell? ⟨w.heap.size, k * 10, none⟩ = some cur[k * 10] := by rw [block_cell hblk2]; simp
      have hcl1 : w2.cell? ⟨w.heap.size, k * 10 + 1, none⟩ = some cur[k * 10 + 1] := by rw [block_cell hblk2]; simp
      have hcl2 : w2.cell? ⟨w.heap.size, k * 10 + 2, none⟩ = some cur[k * 10 + 2] := by rw [block_cell hblk2]; simp
      have hcl3 : w2.cell? ⟨w.heap.size, k * 10 + 3, none⟩ = some cur[k * 10 + 3] := by rw [block_cell hblk2]; simp
      have hcl4 : w2.cell? ⟨w.heap.size, k * 10 + 4, none⟩ = some cur[k * 10 + 4] := by rw [block_cell hblk2]; simp
      have hcl5 : w2.cell? ⟨w.heap.size, k * 10 + 5, none⟩ = some cur[k * 10 + 5] := by rw [block_cell hblk2]; simp
      have hcl6 : w2.cell? ⟨w.heap.size, k * 10 + 6, none⟩ = some cur[k * 10 + 6] := by rw [block_cell hblk2]; simp
      have hcl7 : w2.cell? ⟨w.heap.size, k * 10 + 7, none⟩ = some cur[k * 10 + 7] := by rw [block_cell hblk2]; simp
      have hcl8 : w2.cell? ⟨w.heap.size, k * 10 + 8, none⟩ = some cur[k * 10 + 8] := by rw [block_cell hblk2]; simp
      have hcl9 : w2.cell? ⟨w.heap.size, k * 10 + 9, none⟩ = some cur[k * 10 + 9] := by rw [block_cell hblk2]; simp
      have hb3 : Below w.heap.size w w2 := hb.trans (hb2.mono hb.size)
      go_wp2
      go_roundw
      case rel =>
        have hab : Above (w.heap.size + 1) w2 ((((((((((w2.setCell ⟨w.heap.size, k * 10, none⟩ (.int .i64 xs[k].op)).setCell ⟨w.heap.size, k * 10 + 1, none⟩ (.int .i64 xs[k].d)).setCell ⟨w.heap.size, k * 10 + 2, none⟩ (.int .i64 xs[k].a)).setCell ⟨w.heap.size, k * 10 + 3, none⟩ (.int .i64 xs[k].b)).setCell ⟨w.heap.size, k * 10 + 4, none⟩ (.int .i64 xs[k].x)).setCell ⟨w.heap.size, k * 10 + 5, none⟩ (.int .i64 xs[k].f)).setCell ⟨w.heap.size, k * 10 + 6, none⟩ (.int .i64 xs[k].p)).setCell ⟨w.heap.size, k * 10 + 7, none⟩ (.int .i64 xs[k].v.k)).setCell ⟨w.heap.size, k * 10 + 8, none⟩ (.int .i64 xs[k].v.n)).setCell ⟨w.heap.size, k * 10 + 9, none⟩ (.string xs[k].v.s)) := (((((((((((Above.refl _ _).setCell (by simp) _).setCell (by simp) _).setCell (by simp) _).setCell (by simp) _).setCell (by simp) _).setCell (by simp) _).setCell (by simp) _).setCell (by simp) _).setCell (by simp) _).setCell (by simp) _)
        refine ⟨k + 1, ((((((((((cur.setIfInBounds (k * 10) (.int .i64 xs[k].op)).setIfInBounds (k * 10 + 1) (.int .i64 xs[k].d)).setIfInBounds (k * 10 + 2) (.int .i64 xs[k].a)).setIfInBounds (k * 10 + 3) (.int .i64 xs[k].b)).setIfInBounds (k * 10 + 4) (.int .i64 xs[k].x)).setIfInBounds (k * 10 + 5) (.int .i64 xs[k].f)).setIfInBounds (k * 10 + 6) (.int .i64 xs[k].p)).setIfInBounds (k * 10 + 7) (.int .i64 xs[k].v.k)).setIfInBounds (k * 10 + 8) (.int .i64 xs[k].v.n)).setIfInBounds (k * 10 + 9) (.string xs[k].v.s)), by omega, by go_num, (block_set (block_set (block_set (block_set (block_set (block_set (block_set (block_set (block_set (block_set hblk2 _) _) _) _) _) _) _) _) _) _), by simpa using hsz, ?_, ((((((((((hb3.setCell (Nat.le_refl _) _).setCell (Nat.le_refl _) _).setCell (Nat.le_refl _) _).setCell (Nat.le_refl _) _).setCell (Nat.le_refl _) _).setCell (Nat.le_refl _) _).setCell (Nat.le_refl _) _).setCell (Nat.le_refl _) _).setCell (Nat.le_refl _) _).setCell (Nat.le_refl _) _)⟩
        intro j hj hjk
        by_cases e : j = k
        · subst e
          refine ⟨?_, ?_, ?_, ?_, ?_, ?_, ?_, ?_, ?_, ?_⟩
          · rw [set_else _ (by omega), set_else _ (by omega), set_else _ (by omega), set_else _ (by omega), set_else _ (by omega), set_else _ (by omega), set_else _ (by omega), set_else _ (by omega), set_else _ (by omega)]; exact set_self _ (by first | omega | (simp; omega))
          · rw [set_else _ (by omega), set_else _ (by omega), set_else _ (by omega), set_else _ (by omega), set_else _ (by omega), set_else _ (by omega), set_else _ (by omega), set_else _ (by omega)]; exact set_self _ (by first | omega | (simp; omega))
          · rw [set_else _ (by omega), set_else _ (by omega), set_else _ (by omega), set_else _ (by omega), set_else _ (by omega), set_else _ (by omega), set_else _ (by omega)]; exact set_self _ (by first | omega | (simp; omega))
          · rw [set_else _ (by omega), set_else _ (by omega), set_else _ (by omega), set_else _ (by omega), set_else _ (by omega), set_else _ (by omega)]; exact set_self _ (by first | omega | (simp; omega))
          · rw [set_else _ (by omega), set_else _ (by omega), set_else _ (by omega), set_else _ (by omega), set_else _ (by omega)]; exact set_self _ (by first | omega | (simp; omega))
          · rw [set_else _ (by omega), set_else _ (by omega), set_else _ (by omega), set_else _ (by omega)]; exact set_self _ (by first | omega | (simp; omega))
          · rw [set_else _ (by omega), set_else _ (by omega), set_else _ (by omega)]; exact set_self _ (by first | omega | (simp; omega))
          · rw [set_else _ (by omega), set_else _ (by omega)]; exact set_self _ (by first | omega | (simp; omega))
          · rw [set_else _ (by omega)]; exact set_self _ (by first | omega | (simp; omega))
          · exact set_self _ (by first | omega | (simp; omega))
        · obtain ⟨d0, d1, d2, d3, d4, d5, d6, d7, d8, d9⟩ := hdone j hj (by omega)
          refine ⟨?_, ?_, ?_, ?_, ?_, ?_, ?_, ?_, ?_, ?_⟩
          · rw [set_else _ (by omega), set_else _ (by omega), set_else _ (by omega), set_else _ (by omega), set_else _ (by omega), set_else _ (by omega), set_else _ (by omega), set_else _ (by omega), set_else _ (by omega), set_else _ (by omega)]; exact d0
          · rw [set_else _ (by omega), set_else _ (by omega), set_else _ (by omega), set_else _ (by omega), set_else _ (by omega), set_else _ (by omega), set_else _ (by omega), set_else _ (by omega), set_else _ (by omega), set_else _ (by omega)]; exact d1
          · rw [set_else _ (by omega), set_else _ (by omega), set_else _ (by omega), set_else _ (by omega), set_else _ (by omega), set_else _ (by omega), set_else _ (by omega), set_else _ (by omega), set_else _ (by omega), set_else _ (by omega)]; exact d2
          · rw [set_else _ (by omega), set_else _ (by omega), set_else _ (by omega), set_else _ (by omega), set_else _ (by omega), set_else _ (by omega), set_else _ (by omega), set_else _ (by omega), set_else _ (by omega), set_else _ (by omega)]; exact d3
          · rw [set_else _ (by omega), set_else _ (by omega), set_else _ (by omega), set_else _ (by omega), set_else _ (by omega), set_else _ (by omega), set_else _ (by omega), set_else _ (by omega), set_else _ (by omega), set_else _ (by omega)]; exact d4
          · rw [set_else _ (by omega), set_else _ (by omega), set_else _ (by omega), set_else _ (by omega), set_else _ (by omega), set_else _ (by omega), set_else _ (by omega), set_else _ (by omega), set_else _ (by omega), set_else _ (by omega)]; exact d5
          · rw [set_else _ (by omega), set_else _ (by omega), set_else _ (by omega), set_else _ (by omega), set_else _ (by omega), set_else _ (by omega), set_else _ (by omega), set_else _ (by omega), set_else _ (by omega), set_else _ (by omega)]; exact d6
          · rw [set_else _ (by omega), set_else _ (by omega), set_else _ (by omega), set_else _ (by omega), set_else _ (by omega), set_else _ (by omega), set_else _ (by omega), set_else _ (by omega), set_else _ (by omega), set_else _ (by omega)]; exact d7
          · rw [set_else _ (by omega), set_else _ (by omega), set_else _ (by omega), set_else _ (by omega), set_else _ (by omega), set_else _ (by omega), set_else _ (by omega), set_else _ (by omega), set_else _ (by omega), set_else _ (by omega)]; exact d8
          · rw [set_else _ (by omega), set_else _ (by omega), set_else _ (by omega), set_else _ (by omega), set_else _ (by omega), set_else _ (by omega), set_else _ (by omega), set_else _ (by omega), set_else _ (by omega), set_else _ (by omega)]; exact d9
      case measure => simp [intOf]; omega
    · go_wp2
      go_ret
      refine ⟨rfl, fun j hj => ?_, hb⟩
      obtain ⟨d0, d1, d2, d3, d4, d5, d6, d7, d8, d9⟩ := hdone j hj (by omega)
      exact ⟨w.heap.size, 0, rfl, Nat.le_refl _, by rw [block_cell hblk, Nat.zero_add]; exact d0, by rw [block_cell hblk, Nat.zero_add]; exact d1, by rw [block_cell hblk, Nat.zero_add]; exact d2, by rw [block_cell hblk, Nat.zero_add]; exact d3, by rw [block_cell hblk, Nat.zero_add]; exact d4, by rw [block_cell hblk, Nat.zero_add]; exact d5, by rw [block_cell hblk, Nat.zero_add]; exact d6, by rw [block_cell hblk, Nat.zero_add]; exact d7, by rw [block_cell hblk, Nat.zero_add]; exact d8, by rw [block_cell hblk, Nat.zero_add]; exact d9⟩

set_option maxRecDepth 100000 in
set_option maxHeartbeats 4000000 in
theorem toFast_any (oa ea : Option Addr) (oc ec : Nat) (d : FastD) (w : World) (hx : FastSmall d) (hm : FastAt w 0 oa ea d) :
    Calls Try.prog 41 #[.agg (fastCells oa ea oc ec d)] w fun e w' => ∃ g g2, e = .returned (.agg (fastCells (some ⟨g, 0, none⟩) (some ⟨g2, 0, none⟩) d.ops.length d.exits.length d)) ∧ FastAt w' w.heap.size (some ⟨g, 0, none⟩) (some ⟨g2, 0, none⟩) d ∧ Below w.heap.size w w' := by
  unfold fastCells
  have hbA : Below w.heap.size w (((w.alloc (.cells #[.int .i64 d.fn, .int .i64 d.entry, .int .i64 d.vals, .int .i64 d.nums, .slice oa d.ops.length oc, .slice ea d.exits.length ec] 83)).alloc (.cells #[.int .i64 0, .int .i64 0, .int .i64 0, .int .i64 0, .slice none 0 0, .slice none 0 0] 95)).alloc (.cells #[.int .i64 d.fn, .int .i64 d.entry, .int .i64 d.vals, .int .i64 d.nums, .slice none 0 0, .slice none 0 0] 95)) := (((Below.refl _ _).alloc (Nat.le_refl _) _).alloc (by simp) _).alloc (by simp; omega) _
  have hI0 := block_old (block_old (block_new w #[.int .i64 d.fn, .int .i64 d.entry, .int .i64 d.vals, .int .i64 d.nums, .slice oa d.ops.length oc, .slice ea d.exits.length ec] 83) (.cells #[.int .i64 0, .int .i64 0, .int .i64 0, .int .i64 0, .slice none 0 0, .slice none 0 0] 95)) (.cells #[.int .i64 d.fn, .int .i64 d.entry, .int .i64 d.vals, .int .i64 d.nums, .slice none 0 0, .slice none 0 0] 95)
  have hR0 := block_old (block_new (w.alloc (.cells #[.int .i64 d.fn, .int .i64 d.entry, .int .i64 d.vals, .int .i64 d.nums, .slice oa d.ops.length oc, .slice ea d.exits.length ec] 83)) #[.int .i64 0, .int .i64 0, .int .i64 0, .int .i64 0, .slice none 0 0, .slice none 0 0] 95) (.cells #[.int .i64 d.fn, .int .i64 d.entry, .int .i64 d.vals, .int .i64 d.nums, .slice none 0 0, .slice none 0 0] 95)
  have hO0 := block_new ((w.alloc (.cells #[.int .i64 d.fn, .int .i64 d.entry, .int .i64 d.vals, .int .i64 d.nums, .slice oa d.ops.length oc, .slice ea d.exits.length ec] 83)).alloc (.cells #[.int .i64 0, .int .i64 0, .int .i64 0, .int .i64 0, .slice none 0 0, .slice none 0 0] 95)) #[.int .i64 d.fn, .int .i64 d.entry, .int .i64 d.vals, .int .i64 d.nums, .slice none 0 0, .slice none 0 0] 95
  simp only [World.size_alloc] at hR0 hO0
  go_enter Try.func41, Try.ntmps41
  go_wp2_with fail
  refine (toFOpS_any oa d.ops oc _ hx.1 (hm.ops.mono hbA)).mono ?_
  rintro e w1 ⟨rfl, hnew, hbn⟩
  have hI1 := block_kept hI0 hbn
  have hR1 := block_kept hR0 hbn
  have hO1 := block_kept hO0 hbn
  have hB1 := hbA.trans (hbn.mono hbA.size)
  simp only [World.size_alloc] at hnew
  have q0 := hnew
  clear hI0 hR0 hO0 hbA hbn hnew
  obtain ⟨x1, hx1⟩ : ∃ x1, x1 = (w1.setCell ⟨w.heap.size + 1 + 1, 4, none⟩ (.slice (some ⟨w.heap.size + 1 + 1 + 1, 0, none⟩) d.ops.length d.ops.length)) := ⟨_, rfl⟩
  have hOx : x1.heap[w.heap.size + 1 + 1]? = some (.cells #[.int .i64 d.fn, .int .i64 d.entry, .int .i64 d.vals, .int .i64 d.nums, .slice (some ⟨w.heap.size + 1 + 1 + 1, 0, none⟩) d.ops.length d.ops.length, .slice none 0 0] 95 (0, 0)) := by rw [hx1]; simpa using (block_set (i := 4) hO1 (.slice (some ⟨w.heap.size + 1 + 1 + 1, 0, none⟩) d.ops.length d.ops.length))
  have hRx : x1.heap[w.heap.size + 1]? = some (.cells #[.int .i64 0, .int .i64 0, .int .i64 0, .int .i64 0, .slice none 0 0, .slice none 0 0] 95 (0, 0)) := by rw [hx1, Below.heap_setCell _ _ _ _ (by simp)]; exact hR1
  have hIx : x1.heap[w.heap.size]? = some (.cells #[.int .i64 d.fn, .int .i64 d.entry, .int .i64 d.vals, .int .i64 d.nums, .slice oa d.ops.length oc, .slice ea d.exits.length ec] 83 (0, 0)) := by rw [hx1, Below.heap_setCell _ _ _ _ (by simp; omega)]; exact hI1
  have hBx : Below w.heap.size w x1 := by rw [hx1]; exact (hB1.setCell (by simp; omega) _)
  have hzx : w.heap.size + 1 + 1 + 1 ≤ x1.heap.size := lt_block hOx
  have q0x := q0.above (w' := x1) (by rw [hx1]; exact ((Above.refl _ _).setCell (by simp) _))
  have i1 := block_cell hI1
  have o1 := block_cell hO1
  have o2 := block_free hO1
  go_wp2_with fail
  rw [← hx1]
  clear hx1 i1 o1 o2 hI1 hR1 hO1 hB1 q0
  refine (toExitS_any ea d.exits ec _ hx.2 (hm.exits.mono hBx)).mono ?_
  rintro e w2 ⟨rfl, hnew, hbn⟩
  have hI2 := block_kept hIx hbn
  have hR2 := block_kept hRx hbn
  have hO2 := block_kept hOx hbn
  have hB2 := hBx.trans (hbn.mono hBx.size)
  have q0 := q0x.mono hbn
  have q1 := hnew.low hzx
  clear hIx hRx hOx hBx hbn hnew q0x
  have i1 := block_cell hI2
  have r1 := block_cell hR2
  have r2 := block_free hR2
  have o1 := block_cell hO2
  have o2 := block_free hO2
  have hzy : w.heap.size + 1 + 1 < w2.heap.size := lt_block hO2
  go_wp2
  refine bodyPost_ret (v := .agg #[.int .i64 d.fn, .int .i64 d.entry, .int .i64 d.vals, .int .i64 d.nums, .slice (some ⟨w.heap.size + 1 + 1 + 1, 0, none⟩) d.ops.length d.ops.length, .slice (some ⟨x1.heap.size, 0, none⟩) d.exits.length d.exits.length]) (by simp [results, Try.results41, go_sem, r1]) rfl ⟨_, _, rfl, ⟨?_, ?_⟩, ?_⟩
  · exact (q0.above ((((((((Above.refl _ _).setCell (by simp) _).setCell (by simp) _).setCell (by simp) _).setCell (by simp) _).setCell (by simp) _).setCell (by simp) _).setCell (by simp) _)).low (by omega)
  · exact (q1.above ((((((((Above.refl _ _).setCell (by simp) _).setCell (by simp) _).setCell (by simp) _).setCell (by simp) _).setCell (by simp) _).setCell (by simp) _).setCell (by simp) _)).low (by omega)
  · exact (((((((hB2.setCell (by simp; first | done | omega) _).setCell (by simp; first | done | omega) _).setCell (by simp; first | done | omega) _).setCell (by simp; first | done | omega) _).setCell (by simp; first | done | omega) _).setCell (by simp; first | done | omega) _).setCell (by simp; first | done | omega) _)
end Go.Proofs.Ytopbdjplpnojmaa
