/-
  What toVm returns: a copy in new memory.
-/
import Derived.Test.YtfjjpkebkdlahaaGreatM3
namespace Go.Proofs.YtfjjpkebkdlahaaGreat
open Go.RowKit

/-- The cells of a state. -/
def vmCells (fa ha oa : Option Addr) (fc hcp oc : Nat) (d : VmD) : Array Value := #[.slice fa d.frames.length fc, .slice ha d.heap.length hcp, .int .i64 d.made, .slice oa d.out.length oc, .int .i64 d.status, .int .i64 d.trap, .int .i64 d.value.k, .int .i64 d.value.n, .string d.value.s, .int .i64 d.steps]

structure VmAt (w : World) (lo : Nat) (fa ha oa : Option Addr) (d : VmD) : Prop where
  frs : FrsAt w lo fa d.frames
  recs : RecsAt w lo ha d.heap
  out : StrsAt w lo oa d.out
theorem VmAt.mono {w w' : World} {lo : Nat} {fa ha oa : Option Addr} {d : VmD} (h : VmAt w lo fa ha oa d) (hb : Below w.heap.size w w') : VmAt w' lo fa ha oa d := ⟨h.frs.mono hb, h.recs.mono hb, h.out.mono hb⟩
theorem VmAt.low {w : World} {lo lo' : Nat} {fa ha oa : Option Addr} {d : VmD} (h : VmAt w lo fa ha oa d) (hl : lo' ≤ lo) : VmAt w lo' fa ha oa d := ⟨h.frs.low hl, h.recs.low hl, h.out.low hl⟩
theorem VmAt.above {w w' : World} {lo : Nat} {fa ha oa : Option Addr} {d : VmD} (h : VmAt w lo fa ha oa d) (hb : Above lo w w') : VmAt w' lo fa ha oa d := ⟨h.frs.above hb, h.recs.above hb, h.out.above hb⟩

set_option maxRecDepth 100000 in
set_option maxHeartbeats 4000000 in
theorem toVm_any (fa ha oa : Option Addr) (fc hcp oc : Nat) (d : VmD) (w : World) (hx : VmSmall d) (hm : VmAt w 0 fa ha oa d) :
    Calls Tryz.prog 20 #[.agg (vmCells fa ha oa fc hcp oc d)] w fun e w' => ∃ g g2 g3, e = .returned (.agg (vmCells (some ⟨g, 0, none⟩) (some ⟨g2, 0, none⟩) (some ⟨g3, 0, none⟩) d.frames.length d.heap.length d.out.length d)) ∧ VmAt w' w.heap.size (some ⟨g, 0, none⟩) (some ⟨g2, 0, none⟩) (some ⟨g3, 0, none⟩) d ∧ Below w.heap.size w w' := by
  unfold vmCells
  have hbA : Below w.heap.size w (((w.alloc (.cells #[.slice fa d.frames.length fc, .slice ha d.heap.length hcp, .int .i64 d.made, .slice oa d.out.length oc, .int .i64 d.status, .int .i64 d.trap, .int .i64 d.value.k, .int .i64 d.value.n, .string d.value.s, .int .i64 d.steps] 54)).alloc (.cells #[.slice none 0 0, .slice none 0 0, .int .i64 0, .slice none 0 0, .int .i64 0, .int .i64 0, .int .i64 0, .int .i64 0, .string ⟨#[]⟩, .int .i64 0] 34)).alloc (.cells #[.slice none 0 0, .slice none 0 0, .int .i64 0, .slice none 0 0, .int .i64 0, .int .i64 0, .int .i64 0, .int .i64 0, .string ⟨#[]⟩, .int .i64 0] 34)) := (((Below.refl _ _).alloc (Nat.le_refl _) _).alloc (by simp) _).alloc (by simp; omega) _
  have hI0 := block_old (block_old (block_new w #[.slice fa d.frames.length fc, .slice ha d.heap.length hcp, .int .i64 d.made, .slice oa d.out.length oc, .int .i64 d.status, .int .i64 d.trap, .int .i64 d.value.k, .int .i64 d.value.n, .string d.value.s, .int .i64 d.steps] 54) (.cells #[.slice none 0 0, .slice none 0 0, .int .i64 0, .slice none 0 0, .int .i64 0, .int .i64 0, .int .i64 0, .int .i64 0, .string ⟨#[]⟩, .int .i64 0] 34)) (.cells #[.slice none 0 0, .slice none 0 0, .int .i64 0, .slice none 0 0, .int .i64 0, .int .i64 0, .int .i64 0, .int .i64 0, .string ⟨#[]⟩, .int .i64 0] 34)
  have hR0 := block_old (block_new (w.alloc (.cells #[.slice fa d.frames.length fc, .slice ha d.heap.length hcp, .int .i64 d.made, .slice oa d.out.length oc, .int .i64 d.status, .int .i64 d.trap, .int .i64 d.value.k, .int .i64 d.value.n, .string d.value.s, .int .i64 d.steps] 54)) #[.slice none 0 0, .slice none 0 0, .int .i64 0, .slice none 0 0, .int .i64 0, .int .i64 0, .int .i64 0, .int .i64 0, .string ⟨#[]⟩, .int .i64 0] 34) (.cells #[.slice none 0 0, .slice none 0 0, .int .i64 0, .slice none 0 0, .int .i64 0, .int .i64 0, .int .i64 0, .int .i64 0, .string ⟨#[]⟩, .int .i64 0] 34)
  have hO0 := block_new ((w.alloc (.cells #[.slice fa d.frames.length fc, .slice ha d.heap.length hcp, .int .i64 d.made, .slice oa d.out.length oc, .int .i64 d.status, .int .i64 d.trap, .int .i64 d.value.k, .int .i64 d.value.n, .string d.value.s, .int .i64 d.steps] 54)).alloc (.cells #[.slice none 0 0, .slice none 0 0, .int .i64 0, .slice none 0 0, .int .i64 0, .int .i64 0, .int .i64 0, .int .i64 0, .string ⟨#[]⟩, .int .i64 0] 34)) #[.slice none 0 0, .slice none 0 0, .int .i64 0, .slice none 0 0, .int .i64 0, .int .i64 0, .int .i64 0, .int .i64 0, .string ⟨#[]⟩, .int .i64 0] 34
  simp only [World.size_alloc] at hR0 hO0
  go_enter Tryz.func20, Tryz.ntmps20
  go_wp2_with fail
  refine (toFrameS_any fa d.frames fc _ hx.frames hx.locals hx.stack (hm.frs.mono hbA)).mono ?_
  rintro e w1 ⟨rfl, hfr, hb1⟩
  have hI1 := block_kept hI0 hb1
  have hR1 := block_kept hR0 hb1
  have hO1 := block_kept hO0 hb1
  have hB1 := hbA.trans (hb1.mono hbA.size)
  simp only [World.size_alloc] at hfr
  clear hI0 hR0 hO0 hbA hb1
  obtain ⟨x1, hx1⟩ : ∃ x1, x1 = (w1.setCell ⟨w.heap.size + 1 + 1, 0, none⟩ (.slice (some ⟨w.heap.size + 1 + 1 + 1, 0, none⟩) d.frames.length d.frames.length)) := ⟨_, rfl⟩
  have hOx : x1.heap[w.heap.size + 1 + 1]? = some (.cells #[.slice (some ⟨w.heap.size + 1 + 1 + 1, 0, none⟩) d.frames.length d.frames.length, .slice none 0 0, .int .i64 0, .slice none 0 0, .int .i64 0, .int .i64 0, .int .i64 0, .int .i64 0, .string ⟨#[]⟩, .int .i64 0] 34 (0, 0)) := by rw [hx1]; simpa using (block_set (i := 0) hO1 (.slice (some ⟨w.heap.size + 1 + 1 + 1, 0, none⟩) d.frames.length d.frames.length))
  have hRx : x1.heap[w.heap.size + 1]? = some (.cells #[.slice none 0 0, .slice none 0 0, .int .i64 0, .slice none 0 0, .int .i64 0, .int .i64 0, .int .i64 0, .int .i64 0, .string ⟨#[]⟩, .int .i64 0] 34 (0, 0)) := by rw [hx1, Below.heap_setCell _ _ _ _ (by simp)]; exact hR1
  have hIx : x1.heap[w.heap.size]? = some (.cells #[.slice fa d.frames.length fc, .slice ha d.heap.length hcp, .int .i64 d.made, .slice oa d.out.length oc, .int .i64 d.status, .int .i64 d.trap, .int .i64 d.value.k, .int .i64 d.value.n, .string d.value.s, .int .i64 d.steps] 54 (0, 0)) := by rw [hx1, Below.heap_setCell _ _ _ _ (by simp; omega)]; exact hI1
  have hBx : Below w.heap.size w x1 := by rw [hx1]; exact (hB1).setCell (by simp; omega) _
  have hzx : w.heap.size + 1 + 1 + 1 ≤ x1.heap.size := lt_block hOx
  have hfrx := hfr.above (w' := x1) (by rw [hx1]; exact ((Above.refl _ _).setCell (by simp) _))
  have i1 := block_cell hI1
  have o1 := block_cell hO1
  have o2 := block_free hO1
  go_wp2_with fail
  rw [← hx1]
  clear hx1 i1 o1 o2 hI1 hR1 hO1 hB1 hfr
  refine (toRecS_any ha d.heap hcp _ hx.heap hx.fields (hm.recs.mono hBx)).mono ?_
  rintro e w2 ⟨rfl, hnew, hbn⟩
  have hI2 := block_kept hIx hbn
  have hR2 := block_kept hRx hbn
  have hO2 := block_kept hOx hbn
  have hB2 := hBx.trans (hbn.mono hBx.size)
  have hfr := hfrx.mono hbn
  have hrc := hnew.low hzx
  clear hIx hRx hOx hBx hbn hnew hfrx hzx
  obtain ⟨x2, hx2⟩ : ∃ x2, x2 = ((w2.setCell ⟨w.heap.size + 1 + 1, 1, none⟩ (.slice (some ⟨x1.heap.size, 0, none⟩) d.heap.length d.heap.length)).setCell ⟨w.heap.size + 1 + 1, 2, none⟩ (.int .i64 d.made)) := ⟨_, rfl⟩
  have hOx : x2.heap[w.heap.size + 1 + 1]? = some (.cells #[.slice (some ⟨w.heap.size + 1 + 1 + 1, 0, none⟩) d.frames.length d.frames.length, .slice (some ⟨x1.heap.size, 0, none⟩) d.heap.length d.heap.length, .int .i64 d.made, .slice none 0 0, .int .i64 0, .int .i64 0, .int .i64 0, .int .i64 0, .string ⟨#[]⟩, .int .i64 0] 34 (0, 0)) := by rw [hx2]; simpa using (block_set (i := 2) (block_set (i := 1) hO2 (.slice (some ⟨x1.heap.size, 0, none⟩) d.heap.length d.heap.length)) (.int .i64 d.made))
  have hRx : x2.heap[w.heap.size + 1]? = some (.cells #[.slice none 0 0, .slice none 0 0, .int .i64 0, .slice none 0 0, .int .i64 0, .int .i64 0, .int .i64 0, .int .i64 0, .string ⟨#[]⟩, .int .i64 0] 34 (0, 0)) := by rw [hx2, Below.heap_setCell _ _ _ _ (by simp), Below.heap_setCell _ _ _ _ (by simp)]; exact hR2
  have hIx : x2.heap[w.heap.size]? = some (.cells #[.slice fa d.frames.length fc, .slice ha d.heap.length hcp, .int .i64 d.made, .slice oa d.out.length oc, .int .i64 d.status, .int .i64 d.trap, .int .i64 d.value.k, .int .i64 d.value.n, .string d.value.s, .int .i64 d.steps] 54 (0, 0)) := by rw [hx2, Below.heap_setCell _ _ _ _ (by simp; omega), Below.heap_setCell _ _ _ _ (by simp; omega)]; exact hI2
  have hBx : Below w.heap.size w x2 := by rw [hx2]; exact ((hB2).setCell (by simp; omega) _).setCell (by simp; omega) _
  have hzx : w.heap.size + 1 + 1 + 1 ≤ x2.heap.size := lt_block hOx
  have hfrx := hfr.above (w' := x2) (by rw [hx2]; exact (((Above.refl _ _).setCell (by simp) _).setCell (by simp) _))
  have hrcx := hrc.above (w' := x2) (by rw [hx2]; exact (((Above.refl _ _).setCell (by simp) _).setCell (by simp) _))
  have i1 := block_cell hI2
  have o1 := block_cell hO2
  have o2 := block_free hO2
  go_wp2_with fail
  rw [← hx2]
  clear hx2 i1 o1 o2 hI2 hR2 hO2 hB2 hfr hrc
  refine (toStringS_any oa d.out oc _ hx.out (hm.out.mono hBx)).mono ?_
  rintro e w3 ⟨rfl, hnew, hbn⟩
  have hI3 := block_kept hIx hbn
  have hR3 := block_kept hRx hbn
  have hO3 := block_kept hOx hbn
  have hB3 := hBx.trans (hbn.mono hBx.size)
  have hfr := hfrx.mono hbn
  have hrc := hrcx.mono hbn
  have hot := hnew.low hzx
  clear hIx hRx hOx hBx hbn hnew hfrx hrcx hzx
  obtain ⟨x3, hx3⟩ : ∃ x3, x3 = (((w3.setCell ⟨w.heap.size + 1 + 1, 3, none⟩ (.slice (some ⟨x2.heap.size, 0, none⟩) d.out.length d.out.length)).setCell ⟨w.heap.size + 1 + 1, 4, none⟩ (.int .i64 d.status)).setCell ⟨w.heap.size + 1 + 1, 5, none⟩ (.int .i64 d.trap)) := ⟨_, rfl⟩
  have hOx : x3.heap[w.heap.size + 1 + 1]? = some (.cells #[.slice (some ⟨w.heap.size + 1 + 1 + 1, 0, none⟩) d.frames.length d.frames.length, .slice (some ⟨x1.heap.size, 0, none⟩) d.heap.length d.heap.length, .int .i64 d.made, .slice (some ⟨x2.heap.size, 0, none⟩) d.out.length d.out.length, .int .i64 d.status, .int .i64 d.trap, .int .i64 0, .int .i64 0, .string ⟨#[]⟩, .int .i64 0] 34 (0, 0)) := by rw [hx3]; simpa using (block_set (i := 5) (block_set (i := 4) (block_set (i := 3) hO3 (.slice (some ⟨x2.heap.size, 0, none⟩) d.out.length d.out.length)) (.int .i64 d.status)) (.int .i64 d.trap))
  have hRx : x3.heap[w.heap.size + 1]? = some (.cells #[.slice none 0 0, .slice none 0 0, .int .i64 0, .slice none 0 0, .int .i64 0, .int .i64 0, .int .i64 0, .int .i64 0, .string ⟨#[]⟩, .int .i64 0] 34 (0, 0)) := by rw [hx3, Below.heap_setCell _ _ _ _ (by simp), Below.heap_setCell _ _ _ _ (by simp), Below.heap_setCell _ _ _ _ (by simp)]; exact hR3
  have hIx : x3.heap[w.heap.size]? = some (.cells #[.slice fa d.frames.length fc, .slice ha d.heap.length hcp, .int .i64 d.made, .slice oa d.out.length oc, .int .i64 d.status, .int .i64 d.trap, .int .i64 d.value.k, .int .i64 d.value.n, .string d.value.s, .int .i64 d.steps] 54 (0, 0)) := by rw [hx3, Below.heap_setCell _ _ _ _ (by simp; omega), Below.heap_setCell _ _ _ _ (by simp; omega), Below.heap_setCell _ _ _ _ (by simp; omega)]; exact hI3
  have hBx : Below w.heap.size w x3 := by rw [hx3]; exact (((hB3).setCell (by simp; omega) _).setCell (by simp; omega) _).setCell (by simp; omega) _
  have hzx : w.heap.size + 1 + 1 + 1 ≤ x3.heap.size := lt_block hOx
  have hfrx := hfr.above (w' := x3) (by rw [hx3]; exact ((((Above.refl _ _).setCell (by simp) _).setCell (by simp) _).setCell (by simp) _))
  have hrcx := hrc.above (w' := x3) (by rw [hx3]; exact ((((Above.refl _ _).setCell (by simp) _).setCell (by simp) _).setCell (by simp) _))
  have hotx := hot.above (w' := x3) (by rw [hx3]; exact ((((Above.refl _ _).setCell (by simp) _).setCell (by simp) _).setCell (by simp) _))
  have i1 := block_cell hI3
  have o1 := block_cell hO3
  have o2 := block_free hO3
  go_wp2_with fail
  rw [← hx3]
  clear hx3 i1 o1 o2 hI3 hR3 hO3 hB3 hfr hrc hot
  refine (toValue_any _ _ _ _).mono ?_
  rintro e w4 ⟨rfl, hbn⟩
  have hI4 := block_kept hIx hbn
  have hR4 := block_kept hRx hbn
  have hO4 := block_kept hOx hbn
  have hB4 := hBx.trans (hbn.mono hBx.size)
  have hfr := hfrx.mono hbn
  have hrc := hrcx.mono hbn
  have hot := hotx.mono hbn
  clear hIx hRx hOx hBx hbn  hfrx hrcx hotx hzx
  have i1 := block_cell hI4
  have o1 := block_cell hO4
  have o2 := block_free hO4
  have r1 := block_cell hR4
  have r2 := block_free hR4
  go_wp2
  refine bodyPost_ret (v := .agg #[.slice (some ⟨w.heap.size + 1 + 1 + 1, 0, none⟩) d.frames.length d.frames.length, .slice (some ⟨x1.heap.size, 0, none⟩) d.heap.length d.heap.length, .int .i64 d.made, .slice (some ⟨x2.heap.size, 0, none⟩) d.out.length d.out.length, .int .i64 d.status, .int .i64 d.trap, .int .i64 d.value.k, .int .i64 d.value.n, .string d.value.s, .int .i64 d.steps]) (by simp [results, Tryz.results20, go_sem, r1]) rfl ⟨w.heap.size + 1 + 1 + 1, x1.heap.size, x2.heap.size, rfl, ?_, ?_⟩
  · exact ((VmAt.mk hfr hrc hot).above (((((((((((((((Above.refl _ _).setCell (by simp) _).setCell (by simp) _).setCell (by simp) _).setCell (by simp) _).setCell (by simp) _).setCell (by simp) _).setCell (by simp) _).setCell (by simp) _).setCell (by simp) _).setCell (by simp) _).setCell (by simp) _).setCell (by simp) _).setCell (by simp) _).setCell (by simp) _)).low (by omega)
  · exact ((((((((((((((hB4.setCell (by simp; try omega) _).setCell (by simp; try omega) _).setCell (by simp; try omega) _).setCell (by simp; try omega) _).setCell (by simp; try omega) _).setCell (by simp; try omega) _).setCell (by simp; try omega) _).setCell (by simp; try omega) _).setCell (by simp; try omega) _).setCell (by simp; try omega) _).setCell (by simp; try omega) _).setCell (by simp; try omega) _).setCell (by simp; try omega) _).setCell (by simp; try omega) _)
end Go.Proofs.YtfjjpkebkdlahaaGreat
