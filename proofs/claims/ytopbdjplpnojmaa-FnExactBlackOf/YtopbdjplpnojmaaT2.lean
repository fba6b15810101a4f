/-
  A copy of a tier.
-/
import Derived.Test.YtopbdjplpnojmaaT1
import Derived.Test.YtopbdjplpnojmaaKH
namespace Go.Proofs.Ytopbdjplpnojmaa
open Go.RowKit

set_option maxRecDepth 100000 in
set_option maxHeartbeats 8000000 in
theorem toTier_b (fa ha oa : Option Addr) (fc hc oc : Nat) (sa : Option Addr) (sc : Nat) (ca : Option Addr) (cc : Nat) (la : Option Addr) (lc : Nat) (D : TrD) (w : World) (hx : TrSmall D) (hm : TrAt w 0 fa ha oa sa ca la D) :
    Calls Try.prog 6 #[.agg (trCells fa ha oa fc hc oc sa sc ca cc la lc D)] w fun e w' => ∃ g g2 g3 g4 g5 g6, e = .returned (.agg (trCells (some ⟨g, 0, none⟩) (some ⟨g2, 0, none⟩) (some ⟨g3, 0, none⟩) D.vm.frames.length D.vm.heap.length D.vm.out.length (some ⟨g4, 0, none⟩) D.sites.length (some ⟨g5, 0, none⟩) D.codes.length (some ⟨g6, 0, none⟩) D.fails.length D)) ∧ TrB w' w.heap.size g g2 g3 g4 g5 g6 D ∧ Below w.heap.size w w' := by
  unfold trCells
  have hbA : Below w.heap.size w (((w.alloc (.cells #[.slice fa D.vm.frames.length fc, .slice ha D.vm.heap.length hc, .int .i64 D.vm.made, .slice oa D.vm.out.length oc, .int .i64 D.vm.status, .int .i64 D.vm.trap, .int .i64 D.vm.value.k, .int .i64 D.vm.value.n, .string D.vm.value.s, .int .i64 D.vm.steps, .slice sa D.sites.length sc, .slice ca D.codes.length cc, .slice la D.fails.length lc, .int .i64 D.guards, .int .i64 D.entered] 33)).alloc (.cells #[.slice none 0 0, .slice none 0 0, .int .i64 0, .slice none 0 0, .int .i64 0, .int .i64 0, .int .i64 0, .int .i64 0, .string ⟨#[]⟩, .int .i64 0, .slice none 0 0, .slice none 0 0, .slice none 0 0, .int .i64 0, .int .i64 0] 46)).alloc (.cells #[.slice none 0 0, .slice none 0 0, .int .i64 0, .slice none 0 0, .int .i64 0, .int .i64 0, .int .i64 0, .int .i64 0, .string ⟨#[]⟩, .int .i64 0, .slice none 0 0, .slice none 0 0, .slice none 0 0, .int .i64 0, .int .i64 0] 46)) := (((Below.refl _ _).alloc (Nat.le_refl _) _).alloc (by simp) _).alloc (by simp; omega) _
  have hI0 := block_old (block_old (block_new w #[.slice fa D.vm.frames.length fc, .slice ha D.vm.heap.length hc, .int .i64 D.vm.made, .slice oa D.vm.out.length oc, .int .i64 D.vm.status, .int .i64 D.vm.trap, .int .i64 D.vm.value.k, .int .i64 D.vm.value.n, .string D.vm.value.s, .int .i64 D.vm.steps, .slice sa D.sites.length sc, .slice ca D.codes.length cc, .slice la D.fails.length lc, .int .i64 D.guards, .int .i64 D.entered] 33) (.cells #[.slice none 0 0, .slice none 0 0, .int .i64 0, .slice none 0 0, .int .i64 0, .int .i64 0, .int .i64 0, .int .i64 0, .string ⟨#[]⟩, .int .i64 0, .slice none 0 0, .slice none 0 0, .slice none 0 0, .int .i64 0, .int .i64 0] 46)) (.cells #[.slice none 0 0, .slice none 0 0, .int .i64 0, .slice none 0 0, .int .i64 0, .int .i64 0, .int .i64 0, .int .i64 0, .string ⟨#[]⟩, .int .i64 0, .slice none 0 0, .slice none 0 0, .slice none 0 0, .int .i64 0, .int .i64 0] 46)
  have hR0 := block_old (block_new (w.alloc (.cells #[.slice fa D.vm.frames.length fc, .slice ha D.vm.heap.length hc, .int .i64 D.vm.made, .slice oa D.vm.out.length oc, .int .i64 D.vm.status, .int .i64 D.vm.trap, .int .i64 D.vm.value.k, .int .i64 D.vm.value.n, .string D.vm.value.s, .int .i64 D.vm.steps, .slice sa D.sites.length sc, .slice ca D.codes.length cc, .slice la D.fails.length lc, .int .i64 D.guards, .int .i64 D.entered] 33)) #[.slice none 0 0, .slice none 0 0, .int .i64 0, .slice none 0 0, .int .i64 0, .int .i64 0, .int .i64 0, .int .i64 0, .string ⟨#[]⟩, .int .i64 0, .slice none 0 0, .slice none 0 0, .slice none 0 0, .int .i64 0, .int .i64 0] 46) (.cells #[.slice none 0 0, .slice none 0 0, .int .i64 0, .slice none 0 0, .int .i64 0, .int .i64 0, .int .i64 0, .int .i64 0, .string ⟨#[]⟩, .int .i64 0, .slice none 0 0, .slice none 0 0, .slice none 0 0, .int .i64 0, .int .i64 0] 46)
  have hO0 := block_new ((w.alloc (.cells #[.slice fa D.vm.frames.length fc, .slice ha D.vm.heap.length hc, .int .i64 D.vm.made, .slice oa D.vm.out.length oc, .int .i64 D.vm.status, .int .i64 D.vm.trap, .int .i64 D.vm.value.k, .int .i64 D.vm.value.n, .string D.vm.value.s, .int .i64 D.vm.steps, .slice sa D.sites.length sc, .slice ca D.codes.length cc, .slice la D.fails.length lc, .int .i64 D.guards, .int .i64 D.entered] 33)).alloc (.cells #[.slice none 0 0, .slice none 0 0, .int .i64 0, .slice none 0 0, .int .i64 0, .int .i64 0, .int .i64 0, .int .i64 0, .string ⟨#[]⟩, .int .i64 0, .slice none 0 0, .slice none 0 0, .slice none 0 0, .int .i64 0, .int .i64 0] 46)) #[.slice none 0 0, .slice none 0 0, .int .i64 0, .slice none 0 0, .int .i64 0, .int .i64 0, .int .i64 0, .int .i64 0, .string ⟨#[]⟩, .int .i64 0, .slice none 0 0, .slice none 0 0, .slice none 0 0, .int .i64 0, .int .i64 0] 46
  simp only [World.size_alloc] at hR0 hO0
  have hcall := toVm_b fa ha oa fc hc oc D.vm (((w.alloc (.cells #[.slice fa D.vm.frames.length fc, .slice ha D.vm.heap.length hc, .int .i64 D.vm.made, .slice oa D.vm.out.length oc, .int .i64 D.vm.status, .int .i64 D.vm.trap, .int .i64 D.vm.value.k, .int .i64 D.vm.value.n, .string D.vm.value.s, .int .i64 D.vm.steps, .slice sa D.sites.length sc, .slice ca D.codes.length cc, .slice la D.fails.length lc, .int .i64 D.guards, .int .i64 D.entered] 33)).alloc (.cells #[.slice none 0 0, .slice none 0 0, .int .i64 0, .slice none 0 0, .int .i64 0, .int .i64 0, .int .i64 0, .int .i64 0, .string ⟨#[]⟩, .int .i64 0, .slice none 0 0, .slice none 0 0, .slice none 0 0, .int .i64 0, .int .i64 0] 46)).alloc (.cells #[.slice none 0 0, .slice none 0 0, .int .i64 0, .slice none 0 0, .int .i64 0, .int .i64 0, .int .i64 0, .int .i64 0, .string ⟨#[]⟩, .int .i64 0, .slice none 0 0, .slice none 0 0, .slice none 0 0, .int .i64 0, .int .i64 0] 46)) hx.vm (hm.vm.mono hbA)
  unfold vmCells at hcall
  go_enter Try.func6, Try.ntmps6
  go_wp2_with fail
  refine (hcall).mono ?_
  rintro e w1 ⟨g, g2, g3, rfl, hnew, hbn⟩
  simp only [World.size_alloc] at hnew
  have hI1 := block_kept hI0 hbn
  have hR1 := block_kept hR0 hbn
  have hO1 := block_kept hO0 hbn
  have hB1 := hbA.trans (hbn.mono hbA.size)
  have qv := hnew
  clear hI0 hR0 hO0 hbA hcall hbn hnew
  obtain ⟨x1, hx1⟩ : ∃ x1, x1 = ((((((((((w1.setCell ⟨w.heap.size + 1 + 1, 0, none⟩ (.slice (some ⟨g, 0, none⟩) D.vm.frames.length D.vm.frames.length)).setCell ⟨w.heap.size + 1 + 1, 1, none⟩ (.slice (some ⟨g2, 0, none⟩) D.vm.heap.length D.vm.heap.length)).setCell ⟨w.heap.size + 1 + 1, 2, none⟩ (.int .i64 D.vm.made)).setCell ⟨w.heap.size + 1 + 1, 3, none⟩ (.slice (some ⟨g3, 0, none⟩) D.vm.out.length D.vm.out.length)).setCell ⟨w.heap.size + 1 + 1, 4, none⟩ (.int .i64 D.vm.status)).setCell ⟨w.heap.size + 1 + 1, 5, none⟩ (.int .i64 D.vm.trap)).setCell ⟨w.heap.size + 1 + 1, 6, none⟩ (.int .i64 D.vm.value.k)).setCell ⟨w.heap.size + 1 + 1, 7, none⟩ (.int .i64 D.vm.value.n)).setCell ⟨w.heap.size + 1 + 1, 8, none⟩ (.string D.vm.value.s)).setCell ⟨w.heap.size + 1 + 1, 9, none⟩ (.int .i64 D.vm.steps)) := ⟨_, rfl⟩
  have hOx : x1.heap[w.heap.size + 1 + 1]? = some (.cells #[.slice (some ⟨g, 0, none⟩) D.vm.frames.length D.vm.frames.length, .slice (some ⟨g2, 0, none⟩) D.vm.heap.length D.vm.heap.length, .int .i64 D.vm.made, .slice (some ⟨g3, 0, none⟩) D.vm.out.length D.vm.out.length, .int .i64 D.vm.status, .int .i64 D.vm.trap, .int .i64 D.vm.value.k, .int .i64 D.vm.value.n, .string D.vm.value.s, .int .i64 D.vm.steps, .slice none 0 0, .slice none 0 0, .slice none 0 0, .int .i64 0, .int .i64 0] 46 (0, 0)) := by rw [hx1]; simpa using (block_set (i := 9) (block_set (i := 8) (block_set (i := 7) (block_set (i := 6) (block_set (i := 5) (block_set (i := 4) (block_set (i := 3) (block_set (i := 2) (block_set (i := 1) (block_set (i := 0) hO1 (.slice (some ⟨g, 0, none⟩) D.vm.frames.length D.vm.frames.length)) (.slice (some ⟨g2, 0, none⟩) D.vm.heap.length D.vm.heap.length)) (.int .i64 D.vm.made)) (.slice (some ⟨g3, 0, none⟩) D.vm.out.length D.vm.out.length)) (.int .i64 D.vm.status)) (.int .i64 D.vm.trap)) (.int .i64 D.vm.value.k)) (.int .i64 D.vm.value.n)) (.string D.vm.value.s)) (.int .i64 D.vm.steps))
  have hRx : x1.heap[w.heap.size + 1]? = some (.cells #[.slice none 0 0, .slice none 0 0, .int .i64 0, .slice none 0 0, .int .i64 0, .int .i64 0, .int .i64 0, .int .i64 0, .string ⟨#[]⟩, .int .i64 0, .slice none 0 0, .slice none 0 0, .slice none 0 0, .int .i64 0, .int .i64 0] 46 (0, 0)) := by rw [hx1, Below.heap_setCell _ _ _ _ (by simp), Below.heap_setCell _ _ _ _ (by simp), Below.heap_setCell _ _ _ _ (by simp), Below.heap_setCell _ _ _ _ (by simp), Below.heap_setCell _ _ _ _ (by simp), Below.heap_setCell _ _ _ _ (by simp), Below.heap_setCell _ _ _ _ (by simp), Below.heap_setCell _ _ _ _ (by simp), Below.heap_setCell _ _ _ _ (by simp), Below.heap_setCell _ _ _ _ (by simp)]; exact hR1
  have hIx : x1.heap[w.heap.size]? = some (.cells #[.slice fa D.vm.frames.length fc, .slice ha D.vm.heap.length hc, .int .i64 D.vm.made, .slice oa D.vm.out.length oc, .int .i64 D.vm.status, .int .i64 D.vm.trap, .int .i64 D.vm.value.k, .int .i64 D.vm.value.n, .string D.vm.value.s, .int .i64 D.vm.steps, .slice sa D.sites.length sc, .slice ca D.codes.length cc, .slice la D.fails.length lc, .int .i64 D.guards, .int .i64 D.entered] 33 (0, 0)) := by rw [hx1, Below.heap_setCell _ _ _ _ (by simp; omega), Below.heap_setCell _ _ _ _ (by simp; omega), Below.heap_setCell _ _ _ _ (by simp; omega), Below.heap_setCell _ _ _ _ (by simp; omega), Below.heap_setCell _ _ _ _ (by simp; omega), Below.heap_setCell _ _ _ _ (by simp; omega), Below.heap_setCell _ _ _ _ (by simp; omega), Below.heap_setCell _ _ _ _ (by simp; omega), Below.heap_setCell _ _ _ _ (by simp; omega), Below.heap_setCell _ _ _ _ (by simp; omega)]; exact hI1
  have hBx : Below w.heap.size w x1 := by rw [hx1]; exact ((((((((((hB1.setCell (by simp; omega) _).setCell (by simp; omega) _).setCell (by simp; omega) _).setCell (by simp; omega) _).setCell (by simp; omega) _).setCell (by simp; omega) _).setCell (by simp; omega) _).setCell (by simp; omega) _).setCell (by simp; omega) _).setCell (by simp; omega) _)
  have hzx : w.heap.size + 1 + 1 + 1 ≤ x1.heap.size := lt_block hOx
  have qvx := qv.above (w' := x1) (by rw [hx1]; exact (((((((((((Above.refl _ _).setCell (by simp) _).setCell (by simp) _).setCell (by simp) _).setCell (by simp) _).setCell (by simp) _).setCell (by simp) _).setCell (by simp) _).setCell (by simp) _).setCell (by simp) _).setCell (by simp) _))
  have i1 := block_cell hI1
  have o1 := block_cell hO1
  have o2 := block_free hO1
  go_wp2_with fail
  rw [← hx1]
  clear hx1 i1 o1 o2 hI1 hR1 hO1 hB1 qv
  refine (toSiteS_made sa D.sites sc _ hx.sites (hm.sites.mono hBx)).mono ?_
  rintro e w2 ⟨rfl, hn1, hbn, cu, hcu, hcs⟩
  have hn2 : QB w2 x1.heap.size x1.heap.size 89 D.sites.length := ⟨Nat.le_refl _, cu, hcu, hcs⟩
  clear hcu hcs cu
  have hI2 := block_kept hIx hbn
  have hR2 := block_kept hRx hbn
  have hO2 := block_kept hOx hbn
  have hB2 := hBx.trans (hbn.mono hBx.size)
  have qv := qvx.mono hbn
  have qs := hn1.low hzx
  have qb := hn2.low hzx
  clear hIx hRx hOx hBx hbn qvx hn1 hn2
  clear hzx
  obtain ⟨x2, hx2⟩ : ∃ x2, x2 = (w2.setCell ⟨w.heap.size + 1 + 1, 10, none⟩ (.slice (some ⟨x1.heap.size, 0, none⟩) D.sites.length D.sites.length)) := ⟨_, rfl⟩
  have hOx : x2.heap[w.heap.size + 1 + 1]? = some (.cells #[.slice (some ⟨g, 0, none⟩) D.vm.frames.length D.vm.frames.length, .slice (some ⟨g2, 0, none⟩) D.vm.heap.length D.vm.heap.length, .int .i64 D.vm.made, .slice (some ⟨g3, 0, none⟩) D.vm.out.length D.vm.out.length, .int .i64 D.vm.status, .int .i64 D.vm.trap, .int .i64 D.vm.value.k, .int .i64 D.vm.value.n, .string D.vm.value.s, .int .i64 D.vm.steps, .slice (some ⟨x1.heap.size, 0, none⟩) D.sites.length D.sites.length, .slice none 0 0, .slice none 0 0, .int .i64 0, .int .i64 0] 46 (0, 0)) := by rw [hx2]; simpa using (block_set (i := 10) hO2 (.slice (some ⟨x1.heap.size, 0, none⟩) D.sites.length D.sites.length))
  have hRx : x2.heap[w.heap.size + 1]? = some (.cells #[.slice none 0 0, .slice none 0 0, .int .i64 0, .slice none 0 0, .int .i64 0, .int .i64 0, .int .i64 0, .int .i64 0, .string ⟨#[]⟩, .int .i64 0, .slice none 0 0, .slice none 0 0, .slice none 0 0, .int .i64 0, .int .i64 0] 46 (0, 0)) := by rw [hx2, Below.heap_setCell _ _ _ _ (by simp)]; exact hR2
  have hIx : x2.heap[w.heap.size]? = some (.cells #[.slice fa D.vm.frames.length fc, .slice ha D.vm.heap.length hc, .int .i64 D.vm.made, .slice oa D.vm.out.length oc, .int .i64 D.vm.status, .int .i64 D.vm.trap, .int .i64 D.vm.value.k, .int .i64 D.vm.value.n, .string D.vm.value.s, .int .i64 D.vm.steps, .slice sa D.sites.length sc, .slice ca D.codes.length cc, .slice la D.fails.length lc, .int .i64 D.guards, .int .i64 D.entered] 33 (0, 0)) := by rw [hx2, Below.heap_setCell _ _ _ _ (by simp; omega)]; exact hI2
  have hBx : Below w.heap.size w x2 := by rw [hx2]; exact (hB2.setCell (by simp; omega) _)
  have hzx : w.heap.size + 1 + 1 + 1 ≤ x2.heap.size := lt_block hOx
  have qvx := qv.above (w' := x2) (by rw [hx2]; exact ((Above.refl _ _).setCell (by simp) _))
  have qsx := qs.above (w' := x2) (by rw [hx2]; exact ((Above.refl _ _).setCell (by simp) _))
  have qbx := qb.above (w' := x2) (by rw [hx2]; exact ((Above.refl _ _).setCell (by simp) _))
  have i1 := block_cell hI2
  have o1 := block_cell hO2
  have o2 := block_free hO2
  go_wp2_with fail
  rw [← hx2]
  clear hx2 i1 o1 o2 hI2 hR2 hO2 hB2 qv qs qb
  refine (toFastS_b ca D.codes cc _ hx.codes (hm.codes.mono hBx)).mono ?_
  rintro e w3 ⟨rfl, hnew, hbn⟩
  have hI3 := block_kept hIx hbn
  have hR3 := block_kept hRx hbn
  have hO3 := block_kept hOx hbn
  have hB3 := hBx.trans (hbn.mono hBx.size)
  have qv := qvx.mono hbn
  have qs := qsx.mono hbn
  have qb := qbx.mono hbn
  have qc := hnew.low hzx
  clear hIx hRx hOx hBx hbn qvx qsx qbx hnew
  clear hzx
  obtain ⟨x3, hx3⟩ : ∃ x3, x3 = (w3.setCell ⟨w.heap.size + 1 + 1, 11, none⟩ (.slice (some ⟨x2.heap.size, 0, none⟩) D.codes.length D.codes.length)) := ⟨_, rfl⟩
  have hOx : x3.heap[w.heap.size + 1 + 1]? = some (.cells #[.slice (some ⟨g, 0, none⟩) D.vm.frames.length D.vm.frames.length, .slice (some ⟨g2, 0, none⟩) D.vm.heap.length D.vm.heap.length, .int .i64 D.vm.made, .slice (some ⟨g3, 0, none⟩) D.vm.out.length D.vm.out.length, .int .i64 D.vm.status, .int .i64 D.vm.trap, .int .i64 D.vm.value.k, .int .i64 D.vm.value.n, .string D.vm.value.s, .int .i64 D.vm.steps, .slice (some ⟨x1.heap.size, 0, none⟩) D.sites.length D.sites.length, .slice (some ⟨x2.heap.size, 0, none⟩) D.codes.length D.codes.length, .slice none 0 0, .int .i64 0, .int .i64 0] 46 (0, 0)) := by rw [hx3]; simpa using (block_set (i := 11) hO3 (.slice (some ⟨x2.heap.size, 0, none⟩) D.codes.length D.codes.length))
  have hRx : x3.heap[w.heap.size + 1]? = some (.cells #[.slice none 0 0, .slice none 0 0, .int .i64 0, .slice none 0 0, .int .i64 0, .int .i64 0, .int .i64 0, .int .i64 0, .string ⟨#[]⟩, .int .i64 0, .slice none 0 0, .slice none 0 0, .slice none 0 0, .int .i64 0, .int .i64 0] 46 (0, 0)) := by rw [hx3, Below.heap_setCell _ _ _ _ (by simp)]; exact hR3
  have hIx : x3.heap[w.heap.size]? = some (.cells #[.slice fa D.vm.frames.length fc, .slice ha D.vm.heap.length hc, .int .i64 D.vm.made, .slice oa D.vm.out.length oc, .int .i64 D.vm.status, .int .i64 D.vm.trap, .int .i64 D.vm.value.k, .int .i64 D.vm.value.n, .string D.vm.value.s, .int .i64 D.vm.steps, .slice sa D.sites.length sc, .slice ca D.codes.length cc, .slice la D.fails.length lc, .int .i64 D.guards, .int .i64 D.entered] 33 (0, 0)) := by rw [hx3, Below.heap_setCell _ _ _ _ (by simp; omega)]; exact hI3
  have hBx : Below w.heap.size w x3 := by rw [hx3]; exact (hB3.setCell (by simp; omega) _)
  have hzx : w.heap.size + 1 + 1 + 1 ≤ x3.heap.size := lt_block hOx
  have qvx := qv.above (w' := x3) (by rw [hx3]; exact ((Above.refl _ _).setCell (by simp) _))
  have qsx := qs.above (w' := x3) (by rw [hx3]; exact ((Above.refl _ _).setCell (by simp) _))
  have qbx := qb.above (w' := x3) (by rw [hx3]; exact ((Above.refl _ _).setCell (by simp) _))
  have qcx := qc.above (w' := x3) (by rw [hx3]; exact ((Above.refl _ _).setCell (by simp) _))
  have i1 := block_cell hI3
  have o1 := block_cell hO3
  have o2 := block_free hO3
  go_wp2_with fail
  rw [← hx3]
  clear hx3 i1 o1 o2 hI3 hR3 hO3 hB3 qv qs qb qc
  refine (toFailS_made la D.fails lc _ hx.fails (hm.fails.mono hBx)).mono ?_
  rintro e w4 ⟨rfl, hn1, hbn, cu, hcu, hcs⟩
  have hn2 : QB w4 x3.heap.size x3.heap.size 58 D.fails.length := ⟨Nat.le_refl _, cu, hcu, hcs⟩
  clear hcu hcs cu
  have hI4 := block_kept hIx hbn
  have hR4 := block_kept hRx hbn
  have hO4 := block_kept hOx hbn
  have hB4 := hBx.trans (hbn.mono hBx.size)
  have qv := qvx.mono hbn
  have qs := qsx.mono hbn
  have qb := qbx.mono hbn
  have qc := qcx.mono hbn
  have qf := hn1.low hzx
  have qd := hn2.low hzx
  clear hIx hRx hOx hBx hbn qvx qsx qbx qcx hn1 hn2
  clear hzx
  have i1 := block_cell hI4
  have r1 := block_cell hR4
  have r2 := block_free hR4
  have o1 := block_cell hO4
  have o2 := block_free hO4
  have hzy : w.heap.size + 1 + 1 < w4.heap.size := lt_block hO4
  go_wp2
  refine bodyPost_ret (v := .agg #[.slice (some ⟨g, 0, none⟩) D.vm.frames.length D.vm.frames.length, .slice (some ⟨g2, 0, none⟩) D.vm.heap.length D.vm.heap.length, .int .i64 D.vm.made, .slice (some ⟨g3, 0, none⟩) D.vm.out.length D.vm.out.length, .int .i64 D.vm.status, .int .i64 D.vm.trap, .int .i64 D.vm.value.k, .int .i64 D.vm.value.n, .string D.vm.value.s, .int .i64 D.vm.steps, .slice (some ⟨x1.heap.size, 0, none⟩) D.sites.length D.sites.length, .slice (some ⟨x2.heap.size, 0, none⟩) D.codes.length D.codes.length, .slice (some ⟨x3.heap.size, 0, none⟩) D.fails.length D.fails.length, .int .i64 D.guards, .int .i64 D.entered]) (by simp [results, Try.results6, go_sem, r1]) rfl ⟨_, _, _, _, _, _, rfl, ⟨?_, ?_, ?_, ?_, ?_, ?_⟩, ?_⟩
  · exact (qv.above (((((((((((((((((((Above.refl _ _).setCell (by simp) _).setCell (by simp) _).setCell (by simp) _).setCell (by simp) _).setCell (by simp) _).setCell (by simp) _).setCell (by simp) _).setCell (by simp) _).setCell (by simp) _).setCell (by simp) _).setCell (by simp) _).setCell (by simp) _).setCell (by simp) _).setCell (by simp) _).setCell (by simp) _).setCell (by simp) _).setCell (by simp) _).setCell (by simp) _)).low (by omega)
  · exact (qs.above (((((((((((((((((((Above.refl _ _).setCell (by simp) _).setCell (by simp) _).setCell (by simp) _).setCell (by simp) _).setCell (by simp) _).setCell (by simp) _).setCell (by simp) _).setCell (by simp) _).setCell (by simp) _).setCell (by simp) _).setCell (by simp) _).setCell (by simp) _).setCell (by simp) _).setCell (by simp) _).setCell (by simp) _).setCell (by simp) _).setCell (by simp) _).setCell (by simp) _)).low (by omega)
  · exact (qb.above (((((((((((((((((((Above.refl _ _).setCell (by simp) _).setCell (by simp) _).setCell (by simp) _).setCell (by simp) _).setCell (by simp) _).setCell (by simp) _).setCell (by simp) _).setCell (by simp) _).setCell (by simp) _).setCell (by simp) _).setCell (by simp) _).setCell (by simp) _).setCell (by simp) _).setCell (by simp) _).setCell (by simp) _).setCell (by simp) _).setCell (by simp) _).setCell (by simp) _)).low (by omega)
  · exact (qc.above (((((((((((((((((((Above.refl _ _).setCell (by simp) _).setCell (by simp) _).setCell (by simp) _).setCell (by simp) _).setCell (by simp) _).setCell (by simp) _).setCell (by simp) _).setCell (by simp) _).setCell (by simp) _).setCell (by simp) _).setCell (by simp) _).setCell (by simp) _).setCell (by simp) _).setCell (by simp) _).setCell (by simp) _).setCell (by simp) _).setCell (by simp) _).setCell (by simp) _)).low (by omega)
  · exact (qf.above (((((((((((((((((((Above.refl _ _).setCell (by simp) _).setCell (by simp) _).setCell (by simp) _).setCell (by simp) _).setCell (by simp) _).setCell (by simp) _).setCell (by simp) _).setCell (by simp) _).setCell (by simp) _).setCell (by simp) _).setCell (by simp) _).setCell (by simp) _).setCell (by simp) _).setCell (by simp) _).setCell (by simp) _).setCell (by simp) _).setCell (by simp) _).setCell (by simp) _)).low (by omega)
  · exact (qd.above (((((((((((((((((((Above.refl _ _).setCell (by simp) _).setCell (by simp) _).setCell (by simp) _).setCell (by simp) _).setCell (by simp) _).setCell (by simp) _).setCell (by simp) _).setCell (by simp) _).setCell (by simp) _).setCell (by simp) _).setCell (by simp) _).setCell (by simp) _).setCell (by simp) _).setCell (by simp) _).setCell (by simp) _).setCell (by simp) _).setCell (by simp) _).setCell (by simp) _)).low (by omega)
  · exact ((((((((((((((((((hB4.setCell (by simp; first | done | omega) _).setCell (by simp; first | done | omega) _).setCell (by simp; first | done | omega) _).setCell (by simp; first | done | omega) _).setCell (by simp; first | done | omega) _).setCell (by simp; first | done | omega) _).setCell (by simp; first | done | omega) _).setCell (by simp; first | done | omega) _).setCell (by simp; first | done | omega) _).setCell (by simp; first | done | omega) _).setCell (by simp; first | done | omega) _).setCell (by simp; first | done | omega) _).setCell (by simp; first | done | omega) _).setCell (by simp; first | done | omega) _).setCell (by simp; first | done | omega) _).setCell (by simp; first | done | omega) _).setCell (by simp; first | done | omega) _).setCell (by simp; first | done | omega) _)
end Go.Proofs.Ytopbdjplpnojmaa
