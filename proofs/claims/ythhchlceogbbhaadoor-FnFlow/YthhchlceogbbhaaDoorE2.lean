/-
  l05DrawGood, l05DrawMany, l08Draw, DrawLeadersOf: a module of the call's own, within sizes, and a number.
-/
import Derived.Test.YthhchlceogbbhaaDoorD18
import Derived.Test.YthhchlceogbbhaaDoorG12
import Derived.Deep.RegionHeld3
namespace Go.Proofs.YthhchlceogbbhaaDoor
open Go.RowKit

theorem small_of {ts : List ByteArray} {fs : List Fn} (h1 : ts.length ≤ 3) (h2 : ∀ s ∈ ts, s.size ≤ 1000) (h3 : fs.length ≤ 14) (h4 : ∀ f ∈ fs, f.code.length ≤ 60000) : Small ts fs :=
  ⟨by omega, fun s h => Nat.le_trans (h2 s h) (by omega), by omega, fun f h => Nat.le_trans (h4 f h) (by omega)⟩

/-- The least module's functions, in two new blocks. -/
theorem least_row (w : World) : RowG ((w.alloc (.cells #[.int .i64 6, .int .i64 0, .int .i64 26, .int .i64 0, .int .i64 4, .int .i64 0, .int .i64 25, .int .i64 0] 39)).alloc (.cells #[.int .i64 0, .int .i64 1, .slice (some ⟨w.heap.size, 0, none⟩) 4 4] 36)) w.heap.size (.slice (some ⟨w.heap.size + 1, 0, none⟩) [HF.mk 0 1 (some ⟨w.heap.size, 0, none⟩) 4 4].length 1) [HF.mk 0 1 (some ⟨w.heap.size, 0, none⟩) 4 4] := by
  refine ⟨⟨rfl, .inr ⟨w.heap.size + 1, 1, #[.int .i64 0, .int .i64 1, .slice (some ⟨w.heap.size, 0, none⟩) 4 4], rfl, by omega, ?_, by simp, by unfold maxLen; omega, rfl, rfl⟩⟩, fun x hx => ?_⟩
  · have := block_new (w.alloc (.cells #[.int .i64 6, .int .i64 0, .int .i64 26, .int .i64 0, .int .i64 4, .int .i64 0, .int .i64 25, .int .i64 0] 39)) #[.int .i64 0, .int .i64 1, .slice (some ⟨w.heap.size, 0, none⟩) 4 4] 36
    rw [World.size_alloc] at this
    exact this
  · obtain rfl : x = HF.mk 0 1 (some ⟨w.heap.size, 0, none⟩) 4 4 := by simpa using hx
    refine ⟨⟨[.int .i64 6, .int .i64 0, .int .i64 26, .int .i64 0, .int .i64 4, .int .i64 0, .int .i64 25, .int .i64 0], ⟨rfl, .inr ⟨w.heap.size, 4, #[.int .i64 6, .int .i64 0, .int .i64 26, .int .i64 0, .int .i64 4, .int .i64 0, .int .i64 25, .int .i64 0], rfl, Nat.le_refl _, block_old (block_new _ _ _) _, by simp, by unfold maxLen; omega, rfl, rfl⟩⟩, fun u hu => ?_⟩, by simp⟩
    simp at hu
    rcases hu with rfl | rfl | rfl | rfl | rfl | rfl | rfl | rfl
    all_goals exact ⟨_, rfl⟩

set_option maxRecDepth 100000 in
set_option maxHeartbeats 2000000 in
theorem drawGood_any (W : World) (C xc M : Nat) (xa : Option Addr) (bs : List Int) (w : World) (hC : CurAt W w C xa bs xc M) (hM : M ≤ 100000) :
    Calls Tryd.prog 48 #[.pointer (some ⟨C, 0, none⟩)] w (SpoilPost W w C xa bs xc (M + 50000)) := by
  obtain ⟨p0, s0, hcb, -⟩ := hC.blk
  have hClt := lt_block hcb
  have hWw := hC.below.size
  clear hcb p0 s0
  obtain ⟨wA, hwA⟩ : ∃ wA, wA = w.alloc (.cells #[.slice none 0 0, .slice none 0 0] 27) := ⟨_, rfl⟩
  have hbA : Below w.heap.size w wA := by rw [hwA]; exact (Below.refl _ _).alloc (Nat.le_refl _) _
  have hRA : wA.heap[w.heap.size]? = some (.cells #[.slice none 0 0, .slice none 0 0] 27 (0, 0)) := by rw [hwA]; exact block_new _ _ _
  have hzA : wA.heap.size = w.heap.size + 1 := by rw [hwA]; simp
  go_enter Tryd.func48, Tryd.ntmps48
  go_wp2_with fail
  rw [← hwA]
  clear hwA
  refine (drawModule_any W C xc M xa bs wA (hC.later hbA) hM).mono ?_
  rintro e w1 ⟨ta, nt, tc, fa, fc, hs, rfl, hT, hn, hF, hh1, hh4, hC1, hFr⟩
  have hR1 : w1.heap[w.heap.size]? = some (.cells #[.slice none 0 0, .slice none 0 0] 27 (0, 0)) := (hFr.block _ (by omega) (by omega) (by omega)).trans hRA
  have hFw1 : Fr C C w.heap.size w w1 := (Fr.below hbA (Nat.le_refl _)).trans (hFr.low (by omega))
  have hz1 := hFr.size
  obtain ⟨wB, hwB⟩ : ∃ wB, wB = w1.alloc (.cells #[.slice ta nt tc, .slice fa hs.length fc] 27) := ⟨_, rfl⟩
  have hbB : Below w1.heap.size w1 wB := by rw [hwB]; exact (Below.refl _ _).alloc (Nat.le_refl _) _
  have hXB : wB.heap[w1.heap.size]? = some (.cells #[.slice ta nt tc, .slice fa hs.length fc] 27 (0, 0)) := by rw [hwB]; exact block_new _ _ _
  have hCB := hC1.later hbB
  have hTB := hT.same (Same.below hbB)
  have hFB := hF.same (Same.below hbB)
  have hRB := block_kept hR1 hbB
  have hFwB : Fr C C w.heap.size w wB := hFw1.trans (Fr.below hbB (by omega))
  have hzB : w1.heap.size ≤ wB.heap.size := hbB.size
  clear hT hF hC1 hFr hR1 hFw1 hbA hRA hC
  obtain ⟨ts, hts, hst, hsz⟩ := strs_of hTB
  obtain ⟨fs, hfl, hfn, hfz⟩ := fns_of hFB.g
  have hsm : Small ts fs := small_of (by omega) hsz (by omega) hfz
  have HG : Calls Tryd.prog 36 #[.agg #[.slice ta nt tc, .slice fa hs.length fc]] wB fun e w' => e = .returned (.bool (pB (Good ts fs))) ∧ Below wB.heap.size wB w' := by
    have := sGood_any ta fa tc fc ts fs wB hsm hst hfn
    rw [hts, hfl] at this
    exact this
  clear hst hfn hsz hfz hsm
  go_wp2_with fail
  rw [← hwB]
  clear hwB
  refine HG.mono ?_
  rintro e w2 ⟨he, hb2⟩
  clear HG
  have hX2 := block_kept hXB hb2
  have hR2 := block_kept hRB hb2
  have hT2 := hTB.same (Same.below hb2)
  have hF2 := hFB.same (Same.below hb2)
  have hC2 := hCB.later hb2
  have hFw2 : Fr C C w.heap.size w w2 := hFwB.trans (Fr.below hb2 (by omega))
  have hz2 := hb2.size
  clear hTB hFB hCB hFwB hXB hRB hb2 hbB
  have x2 := block_cell hX2
  by_cases hgo : Good ts fs
  · rw [pB_yes hgo] at he
    subst he
    have HS : Hid (SpoilPost W w C xa bs xc (M + 50000) (.returned (.agg #[.slice ta nt tc, .slice fa hs.length fc])) _) := post_store (M' := M + 50000) hR2 (Nat.le_refl _) (by omega) hWw hT2 (by omega) hF2.g hh1 (by omega) (by omega) hC2 (by omega) hFw2
    have r2 := block_cell hR2
    have r3 := block_free hR2
    have r4 := block_cell (two_cells (x := .slice ta nt tc) (y := .slice fa hs.length fc) hR2)
    clear hT2 hF2 hC2 hFw2 hgo
    go_wp2
    exact bodyPost_ret (v := .agg #[.slice ta nt tc, .slice fa hs.length fc]) (by simp [results, Tryd.results48, go_sem, r4]) rfl HS.out
  rw [pB_no hgo] at he
  subst he
  clear hT2 hF2 hgo hts hfl
  obtain ⟨w3, hw3⟩ : ∃ w3, w3 = (w2.alloc (.cells #[.int .i64 6, .int .i64 0, .int .i64 26, .int .i64 0, .int .i64 4, .int .i64 0, .int .i64 25, .int .i64 0] 39)).alloc (.cells #[.int .i64 0, .int .i64 1, .slice (some ⟨w2.heap.size, 0, none⟩) 4 4] 36) := ⟨_, rfl⟩
  have hb3 : Below w2.heap.size w2 w3 := by rw [hw3]; exact ((Below.refl _ _).alloc (Nat.le_refl _) _).alloc (by simp) _
  have hG3 := least_row w2
  rw [← hw3] at hG3
  have hX3 := block_kept hX2 hb3
  have hR3 := block_kept hR2 hb3
  have hC3 := hC2.later hb3
  have hFw3 : Fr C C w.heap.size w w3 := hFw2.trans (Fr.below hb3 (by omega))
  have hx1 := block_set (i := 0) hX3 (.slice none 0 0)
  have hsame : Same w3 ((w3.setCell ⟨w1.heap.size, 0, none⟩ (.slice none 0 0)).setCell ⟨w1.heap.size, 1, none⟩ (.slice (some ⟨w2.heap.size + 1, 0, none⟩) 1 1)) := Same.set (Same.set (Same.refl _) hX3 (by omega) _ _) hx1 (by omega) _ _
  have hX4 : ((w3.setCell ⟨w1.heap.size, 0, none⟩ (.slice none 0 0)).setCell ⟨w1.heap.size, 1, none⟩ (.slice (some ⟨w2.heap.size + 1, 0, none⟩) 1 1)).heap[w1.heap.size]? = some (.cells #[.slice none 0 0, .slice (some ⟨w2.heap.size + 1, 0, none⟩) 1 1] 27 (0, 0)) := by
    have := block_set (i := 1) hx1 (.slice (some ⟨w2.heap.size + 1, 0, none⟩) 1 1)
    simpa using this
  have hR4 : ((w3.setCell ⟨w1.heap.size, 0, none⟩ (.slice none 0 0)).setCell ⟨w1.heap.size, 1, none⟩ (.slice (some ⟨w2.heap.size + 1, 0, none⟩) 1 1)).heap[w.heap.size]? = some (.cells #[.slice none 0 0, .slice none 0 0] 27 (0, 0)) := by
    rw [Below.heap_setCell _ _ _ _ (show w.heap.size ≠ w1.heap.size by omega), Below.heap_setCell _ _ _ _ (show w.heap.size ≠ w1.heap.size by omega)]; exact hR3
  have hC4 := (hC3.set (p := ⟨w1.heap.size, 0, none⟩) (by show w1.heap.size ≠ C; omega) (by show W.heap.size ≤ w1.heap.size; omega) (.slice none 0 0)).set (p := ⟨w1.heap.size, 1, none⟩) (by show w1.heap.size ≠ C; omega) (by show W.heap.size ≤ w1.heap.size; omega) (.slice (some ⟨w2.heap.size + 1, 0, none⟩) 1 1)
  have hFw4 := (hFw3.setFar (p := ⟨w1.heap.size, 0, none⟩) (by show w.heap.size ≤ w1.heap.size; omega) (.slice none 0 0)).setFar (p := ⟨w1.heap.size, 1, none⟩) (by show w.heap.size ≤ w1.heap.size; omega) (.slice (some ⟨w2.heap.size + 1, 0, none⟩) 1 1)
  have hG4 := hG3.same hsame
  have x3 := block_cell hX3
  have x3f := block_free hX3
  have HS4 : Hid (∀ wq, wq = ((w3.setCell ⟨w1.heap.size, 0, none⟩ (.slice none 0 0)).setCell ⟨w1.heap.size, 1, none⟩ (.slice (some ⟨w2.heap.size + 1, 0, none⟩) 1 1)) → SpoilPost W w C xa bs xc (M + 50000) (.returned (.agg #[.slice none 0 0, .slice (some ⟨w2.heap.size + 1, 0, none⟩) 1 1])) ((wq.setCell ⟨w.heap.size, 0, none⟩ (.slice none 0 0)).setCell ⟨w.heap.size, 1, none⟩ (.slice (some ⟨w2.heap.size + 1, 0, none⟩) 1 1))) := fun wq e => by
    subst e
    exact post_store (hs := [HF.mk 0 1 (some ⟨w2.heap.size, 0, none⟩) 4 4]) (M' := M + 50000) (B := w2.heap.size) hR4 (Nat.le_refl _) (by omega) hWw ⟨[], World.ownsRow_nil _ _ _ _, by simp⟩ (by omega) hG4 (by simp) (by simp) (by omega) hC4 (by omega) hFw4
  have x4 := block_cell hX4
  have r4a := block_cell hR4
  have r4b := block_free hR4
  have r4c := block_cell (two_cells (x := .slice none 0 0) (y := .slice (some ⟨w2.heap.size + 1, 0, none⟩) 1 1) hR4)
  have HS : Hid (SpoilPost W w C xa bs xc (M + 50000) (.returned (.agg #[.slice none 0 0, .slice (some ⟨w2.heap.size + 1, 0, none⟩) 1 1])) _) := HS4.out _ rfl
  clear hC2 hFw2 hC3 hFw3 hC4 hFw4 hG3 hG4 hsame hx1 hR2 hX2 x2 HS4 hb3 hX3 hR3 hX4 hR4
  subst hw3
  go_wp2
  exact bodyPost_ret (v := .agg #[.slice none 0 0, .slice (some ⟨w2.heap.size + 1, 0, none⟩) 1 1]) (by simp [results, Tryd.results48, go_sem, r4c]) rfl HS.out

set_option maxRecDepth 100000 in
set_option maxHeartbeats 2000000 in
theorem drawMany_any (W : World) (C xc M : Nat) (xa : Option Addr) (bs : List Int) (w : World) (hC : CurAt W w C xa bs xc M) (hM : M ≤ 90000) :
    Calls Tryd.prog 30 #[.pointer (some ⟨C, 0, none⟩)] w (SpoilPost W w C xa bs xc (M + 60000)) := by
  obtain ⟨p0, s0, hcb, -⟩ := hC.blk
  have hClt := lt_block hcb
  have hWw := hC.below.size
  clear hcb p0 s0
  obtain ⟨wA, hwA⟩ : ∃ wA, wA = w.alloc (.cells #[.slice none 0 0, .slice none 0 0] 27) := ⟨_, rfl⟩
  have hbA : Below w.heap.size w wA := by rw [hwA]; exact (Below.refl _ _).alloc (Nat.le_refl _) _
  have hRA : wA.heap[w.heap.size]? = some (.cells #[.slice none 0 0, .slice none 0 0] 27 (0, 0)) := by rw [hwA]; exact block_new _ _ _
  have hzA : wA.heap.size = w.heap.size + 1 := by rw [hwA]; simp
  have hCA := hC.later hbA
  have hFA : Fr C C w.heap.size w wA := Fr.below hbA (Nat.le_refl _)
  go_enter Tryd.func30, Tryd.ntmps30
  go_wp2_with fail
  rw [← hwA]
  clear hwA
  refine (once_any W C xc _ xa bs 25 wA hCA (by omega) (by omega) (by omega)).mono ?_
  rintro e w2 ⟨r, rfl, hC2, hP2⟩
  have hR2 : w2.heap[w.heap.size]? = some (.cells #[.slice none 0 0, .slice none 0 0] 27 (0, 0)) := (hP2.block _ (by omega)).trans hRA
  have hFw2 : Fr C C w.heap.size w w2 := hFA.trans (Fr.px hP2)
  have hz2 : wA.heap.size = w2.heap.size := hP2.size.symm
  clear hCA hFA hbA hRA hP2 hC
  cases r
  · go_wp2_with fail
    refine (drawGood_any W C xc _ xa bs w2 hC2 (by omega)).mono ?_
    rintro e w3 ⟨ta', nt', tc', fa', fc', hs', rfl, hT3, hn3, hG3, hh13, hh14, hC3, hFr3⟩
    have hR3 : w3.heap[w.heap.size]? = some (.cells #[.slice none 0 0, .slice none 0 0] 27 (0, 0)) := (hFr3.block _ (by omega) (by omega) (by omega)).trans hR2
    have hFw3 : Fr C C w.heap.size w w3 := hFw2.trans (hFr3.low (by omega))
    have HS : Hid (SpoilPost W w C xa bs xc (M + 60000) (.returned (.agg #[.slice ta' nt' tc', .slice fa' hs'.length fc'])) _) := post_store (M' := M + 60000) hR3 (Nat.le_refl _) (by omega) hWw hT3 hn3 hG3 hh13 hh14 (by omega) hC3 (by omega) hFw3
    have r2 := block_cell hR3
    have r3 := block_free hR3
    have r4 := block_cell (two_cells (x := .slice ta' nt' tc') (y := .slice fa' hs'.length fc') hR3)
    clear hT3 hG3 hC3 hFw3 hC2 hFw2
    go_wp2
    exact bodyPost_ret (v := .agg #[.slice ta' nt' tc', .slice fa' hs'.length fc']) (by simp [results, Tryd.results30, go_sem, r4]) rfl HS.out
  · go_wp2_with fail
    refine (drawAny_any W C xc _ xa bs 2 w2 hC2 (by omega) (by omega) (by omega)).mono ?_
    rintro e w3 ⟨ta', nt', tc', fa', fc', hs', rfl, hT3, hn3, hG3, hh13, hh14, hC3, hFr3⟩
    have hR3 : w3.heap[w.heap.size]? = some (.cells #[.slice none 0 0, .slice none 0 0] 27 (0, 0)) := (hFr3.block _ (by omega) (by omega) (by omega)).trans hR2
    have hFw3 : Fr C C w.heap.size w w3 := hFw2.trans (hFr3.low (by omega))
    have HS : Hid (SpoilPost W w C xa bs xc (M + 60000) (.returned (.agg #[.slice ta' nt' tc', .slice fa' hs'.length fc'])) _) := post_store (M' := M + 60000) hR3 (Nat.le_refl _) (by omega) hWw hT3 hn3 hG3 hh13 hh14 (by omega) hC3 (by omega) hFw3
    have r2 := block_cell hR3
    have r3 := block_free hR3
    have r4 := block_cell (two_cells (x := .slice ta' nt' tc') (y := .slice fa' hs'.length fc') hR3)
    clear hT3 hG3 hC3 hFw3 hC2 hFw2
    go_wp2
    exact bodyPost_ret (v := .agg #[.slice ta' nt' tc', .slice fa' hs'.length fc']) (by simp [results, Tryd.results30, go_sem, r4]) rfl HS.out

/-- What l08Draw is to answer: such a module, and a number. -/
def Draw8Post (W w : World) (C : Nat) (xa : Option Addr) (bs : List Int) (xc M : Nat) (e : Ending) (w' : World) : Prop :=
  ∃ v z, e = .returned (.tuple #[v, .int .i64 z]) ∧ SpoilPost W w C xa bs xc M (.returned v) w'

set_option maxRecDepth 100000 in
set_option maxHeartbeats 2000000 in
theorem draw8_any (W : World) (C xc M : Nat) (xa : Option Addr) (bs : List Int) (w : World) (hC : CurAt W w C xa bs xc M) (hM : M ≤ 80000) :
    Calls Tryd.prog 18 #[.pointer (some ⟨C, 0, none⟩)] w (Draw8Post W w C xa bs xc (M + 70000)) := by
  obtain ⟨p0, s0, hcb, -⟩ := hC.blk
  have hClt := lt_block hcb
  have hWw := hC.below.size
  clear hcb p0 s0
  obtain ⟨wA, hwA⟩ : ∃ wA, wA = w.alloc (.cells #[.slice none 0 0, .slice none 0 0] 27) := ⟨_, rfl⟩
  have hbA : Below w.heap.size w wA := by rw [hwA]; exact (Below.refl _ _).alloc (Nat.le_refl _) _
  have hRA : wA.heap[w.heap.size]? = some (.cells #[.slice none 0 0, .slice none 0 0] 27 (0, 0)) := by rw [hwA]; exact block_new _ _ _
  have hzA : wA.heap.size = w.heap.size + 1 := by rw [hwA]; simp
  go_enter Tryd.func18, Tryd.ntmps18
  go_wp2_with fail
  rw [← hwA]
  clear hwA
  refine (drawMany_any W C xc M xa bs wA (hC.later hbA) (by omega)).mono ?_
  rintro e w1 ⟨ta, nt, tc, fa, fc, hs, rfl, hT, hn, hG, hh1, hh4, hC1, hFr⟩
  have hR1 : w1.heap[w.heap.size]? = some (.cells #[.slice none 0 0, .slice none 0 0] 27 (0, 0)) := (hFr.block _ (by omega) (by omega) (by omega)).trans hRA
  have hFw1 : Fr C C w.heap.size w w1 := (Fr.below hbA (Nat.le_refl _)).trans (hFr.low (by omega))
  have hz1 := hFr.size
  obtain ⟨wB, hwB⟩ : ∃ wB, wB = w1.alloc (.cells #[.slice ta nt tc, .slice fa hs.length fc] 27) := ⟨_, rfl⟩
  have hbB : Below w1.heap.size w1 wB := by rw [hwB]; exact (Below.refl _ _).alloc (Nat.le_refl _) _
  have hXB : wB.heap[w1.heap.size]? = some (.cells #[.slice ta nt tc, .slice fa hs.length fc] 27 (0, 0)) := by rw [hwB]; exact block_new _ _ _
  have hCB := hC1.later hbB
  have hTB := hT.same (Same.below hbB)
  have hGB := hG.same (Same.below hbB)
  have hRB := block_kept hR1 hbB
  have hFwB : Fr C C w.heap.size w wB := hFw1.trans (Fr.below hbB (by omega))
  have hzB : w1.heap.size ≤ wB.heap.size := hbB.size
  clear hT hG hC1 hFr hR1 hFw1 hbA hRA hC hbB
  have hCD : CurAt W wB.drew C xa bs xc (M + 60000) := hCB.later (Below.refl _ _).drew
  have HS : Hid (∀ w' : World, Px C wB.drew w' → (∀ i, w'.cell? ⟨w1.heap.size, i, none⟩ = #[Value.slice ta nt tc, .slice fa hs.length fc][i]?)) := fun w' hp => block_cell ((hp.block _ (by omega)).trans hXB)
  have HS2 : Hid (∀ (w' : World) (x y : Value), Px C wB.drew w' → (∀ i, ((w'.setCell ⟨w.heap.size, 0, none⟩ x).setCell ⟨w.heap.size, 1, none⟩ y).cell? ⟨w1.heap.size, i, none⟩ = #[Value.slice ta nt tc, .slice fa hs.length fc][i]?)) := fun w' x y hp => block_cell (by
    rw [Below.heap_setCell _ _ _ _ (show w1.heap.size ≠ w.heap.size by omega), Below.heap_setCell _ _ _ _ (show w1.heap.size ≠ w.heap.size by omega)]
    exact (hp.block _ (by omega)).trans hXB)
  have j0 := block_cell hXB
  have HRD : Hid (∀ w' : World, Px C wB.drew w' → w'.heap[w.heap.size]? = some (.cells #[.slice none 0 0, .slice none 0 0] 27 (0, 0))) := fun w' hp => (hp.block _ (by omega)).trans hRB
  have hp0 := Px.refl C wB.drew
  go_wp2
  rw [← hwB]
  clear hwB
  go_region_held3 (fun w' => (∀ i, w'.cell? ⟨w1.heap.size, i, none⟩ = #[Value.slice ta nt tc, .slice fa hs.length fc][i]?))
    (first | exact j0 | exact HS.out _ hp0 | exact HS2.out _ _ _ hp0)
    (first
      | (go_at_call 31; refine (pick_any W C xc _ xa bs _ _ hCD (by omega)).mono ?_; rintro e w7 ⟨r7, rfl, r70, r71, hC7, hp0⟩; have hR7 := HRD.out _ hp0; have r7a := block_cell hR7; have r7b := block_free hR7))
  have hsm : Same wB w7 := (Same.below (Below.refl wB.heap.size wB).drew).trans (hCD.same hp0)
  have HF : Hid (Draw8Post W w C xa bs xc (M + 70000) (.returned (.tuple #[.agg #[.slice ta nt tc, .slice fa hs.length fc], .int .i64 (IntKind.i64.wrap (r7 - 1))])) ((w7.setCell ⟨w.heap.size, 0, none⟩ (.slice ta nt tc)).setCell ⟨w.heap.size, 1, none⟩ (.slice fa hs.length fc))) :=
    ⟨_, _, rfl, post_store (M' := M + 70000) hR7 (Nat.le_refl _) (by omega) hWw (hTB.same hsm) (by omega) (hGB.same hsm) hh1 (by omega) (by omega) hC7 (by omega) ((hFwB.trans (Fr.below (Below.refl wB.heap.size wB).drew (by omega))).trans (Fr.px hp0))⟩
  have r4 := block_cell (two_cells (x := .slice ta nt tc) (y := .slice fa hs.length fc) hR7)
  clear hsm hTB hGB hFwB hCB hCD HS HS2 HRD hRB hXB hC7 r7a r7b hp0
  go_wp2
  exact bodyPost_ret (v := .tuple #[.agg #[.slice ta nt tc, .slice fa hs.length fc], .int .i64 (IntKind.i64.wrap (r7 - 1))]) (by simp [results, Tryd.results18, go_sem, r4]) rfl HF.out

/-- What DrawLeadersOf is to answer: a module in memory of the call's own, and a number. -/
def Lead8Post (w : World) (e : Ending) (w' : World) : Prop :=
  ∃ ta nt tc fa fc hs z, e = .returned (.tuple #[.agg #[.slice ta nt tc, .slice fa (List.length hs) fc], .int .i64 z]) ∧ RowT w' w.heap.size (.slice ta nt tc) nt ∧ nt ≤ 3 ∧ RowG w' w.heap.size (.slice fa hs.length fc) hs ∧ 1 ≤ hs.length ∧ hs.length ≤ 14 ∧ Below w.heap.size w w'

set_option maxRecDepth 100000 in
set_option maxHeartbeats 2000000 in
theorem drawLead_any (xa : Option Addr) (bs : List Int) (xc : Nat) (w : World) (hn : bs.length ≤ 1048576) (hB : BytesAt w 0 xa bs) (hv : ∀ x ∈ bs, 0 ≤ x ∧ x ≤ 255) :
    Calls Tryd.prog 5 #[.slice xa bs.length xc] w (Lead8Post w) := by
  obtain ⟨wA, hwA⟩ : ∃ wA, wA = w.alloc (.cells #[.slice none 0 0, .slice none 0 0] 27) := ⟨_, rfl⟩
  have hbA : Below w.heap.size w wA := by rw [hwA]; exact (Below.refl _ _).alloc (Nat.le_refl _) _
  have hRA : wA.heap[w.heap.size]? = some (.cells #[.slice none 0 0, .slice none 0 0] 27 (0, 0)) := by rw [hwA]; exact block_new _ _ _
  have hzA : wA.heap.size = w.heap.size + 1 := by rw [hwA]; simp
  have hBA : BytesAt wA 0 xa bs := hB.mono hbA
  go_enter Tryd.func5, Tryd.ntmps5
  go_wp2_with fail
  rw [← hwA]
  clear hwA
  refine (open_any xa bs xc wA hn hBA hv).mono ?_
  rintro e w1 ⟨rfl, hC⟩
  have hR1 := block_kept hRA hC.below
  obtain ⟨p0, s0, hcb, -⟩ := hC.blk
  have hClt := lt_block hcb
  have hb1 := hC.below
  clear hcb p0 s0 hRA hBA
  go_wp2_with fail
  rw [hzA] at hC
  refine (draw8_any wA (w.heap.size + 1) xc 0 xa bs w1 hC (by omega)).mono ?_
  rintro e w3 ⟨v, z, rfl, ta, nt, tc, fa, fc, hs, he, hT, hn3, hG, hh1, hh14, hC3, hFr⟩
  cases he
  have hR3 : w3.heap[w.heap.size]? = some (.cells #[.slice none 0 0, .slice none 0 0] 27 (0, 0)) := (hFr.block _ (by omega) (by omega) (by omega)).trans hR1
  have hB3 : Below w.heap.size w w3 := hbA.trans (hC3.below.mono (by omega))
  have hr1 := block_set (i := 0) hR3 (.slice ta nt tc)
  have hsame : Same w3 ((w3.setCell ⟨w.heap.size, 0, none⟩ (.slice ta nt tc)).setCell ⟨w.heap.size, 1, none⟩ (.slice fa hs.length fc)) := Same.set (Same.set (Same.refl _) hR3 (by omega) _ _) hr1 (by omega) _ _
  obtain ⟨vs, a1, a2⟩ := hT.same hsame
  have HS : Hid (Lead8Post w (.returned (.tuple #[.agg #[.slice ta nt tc, .slice fa hs.length fc], .int .i64 z])) ((w3.setCell ⟨w.heap.size, 0, none⟩ (.slice ta nt tc)).setCell ⟨w.heap.size, 1, none⟩ (.slice fa hs.length fc))) :=
    ⟨ta, nt, tc, fa, fc, hs, z, rfl, ⟨vs, own_low a1 (by omega), a2⟩, hn3, (hG.same hsame).low (by omega), hh1, hh14, (hB3.setCell (p := ⟨w.heap.size, 0, none⟩) (Nat.le_refl _) _).setCell (p := ⟨w.heap.size, 1, none⟩) (Nat.le_refl _) _⟩
  have r2 := block_cell hR3
  have r3 := block_free hR3
  have r4 := block_cell (two_cells (x := .slice ta nt tc) (y := .slice fa hs.length fc) hR3)
  clear hT hG hC3 hFr hr1 hsame a1 a2 hC hR1
  go_wp2
  exact bodyPost_ret (v := .tuple #[.agg #[.slice ta nt tc, .slice fa hs.length fc], .int .i64 z]) (by simp [results, Tryd.results5, go_sem, r4]) rfl HS.out
end Go.Proofs.YthhchlceogbbhaaDoor
