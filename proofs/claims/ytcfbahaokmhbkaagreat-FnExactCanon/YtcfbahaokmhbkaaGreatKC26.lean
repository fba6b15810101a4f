/-
  impl's ownVm, walked: a copy of a state, every part in a block of its own.
  What canonOf gives, and what meeting the values of frames one by one leaves.
-/
import Derived.Test.YtcfbahaokmhbkaaGreatKC25
import Derived.Test.YtcfbahaokmhbkaaGreatKC8
import Derived.Test.YtcfbahaokmhbkaaGreatKC15
namespace Go.Proofs.YtcfbahaokmhbkaaGreat
open Go.RowKit

/-- A state in blocks of its own, from B on. -/
structure OwnIs (w : World) (B F Hb O : Nat) (la sa rb : Nat → Nat) (d : VmD) : Prop where
  fc : ∃ cur, w.heap[F]? = some (.cells cur 90 (0, 0)) ∧ FrCells cur la sa d.frames d.frames.length
  fv : FrVals w B la sa d.frames d.frames.length
  hc : ∃ cur, w.heap[Hb]? = some (.cells cur 94 (0, 0)) ∧ ReCells cur rb d.heap d.heap.length
  hv : ReVals w B rb d.heap d.heap.length
  oc : ∃ cur, w.heap[O]? = some (.cells cur 9 (0, 0)) ∧ OuCells cur d.out d.out.length
  bf : B ≤ F
  bh : B ≤ Hb
  bo : B ≤ O
  fr : ∀ i j, i < d.frames.length → j < d.heap.length → la i ≠ rb j ∧ sa i ≠ rb j

theorem OwnIs.kept {w w' : World} {B F Hb O : Nat} {la sa rb : Nat → Nat} {d : VmD} (h : OwnIs w B F Hb O la sa rb d) (hk : ∀ k o, B ≤ k → w.heap[k]? = some o → w'.heap[k]? = some o) : OwnIs w' B F Hb O la sa rb d := by
  obtain ⟨c1, a1, b1⟩ := h.fc
  obtain ⟨c2, a2, b2⟩ := h.hc
  obtain ⟨c3, a3, b3⟩ := h.oc
  exact ⟨⟨c1, hk _ _ h.bf a1, b1⟩, h.fv.kept fun b vs hb hv => hk _ _ hb hv, ⟨c2, hk _ _ h.bh a2, b2⟩, h.hv.kept fun b vs hb hv => hk _ _ hb hv, ⟨c3, hk _ _ h.bo a3, b3⟩, h.bf, h.bh, h.bo, h.fr⟩
theorem FrVals.low {w : World} {B B' k : Nat} {la sa : Nat → Nat} {fr : List Fr} (h : FrVals w B la sa fr k) (hB : B' ≤ B) : FrVals w B' la sa fr k :=
  ⟨h.loc, h.stk, fun i hi => Nat.le_trans hB (h.lob i hi), fun i hi => Nat.le_trans hB (h.sob i hi), h.li, h.si, h.ls⟩
theorem ReVals.low {w : World} {B B' k : Nat} {rb : Nat → Nat} {hp : List (List Vl)} (h : ReVals w B rb hp k) (hB : B' ≤ B) : ReVals w B' rb hp k :=
  ⟨h.fld, fun i hi => Nat.le_trans hB (h.rob i hi), h.ri⟩
theorem OwnIs.low {w : World} {B B' F Hb O : Nat} {la sa rb : Nat → Nat} {d : VmD} (h : OwnIs w B F Hb O la sa rb d) (hB : B' ≤ B) : OwnIs w B' F Hb O la sa rb d :=
  ⟨h.fc, h.fv.low hB, h.hc, h.hv.low hB, h.oc, Nat.le_trans hB h.bf, Nat.le_trans hB h.bh, Nat.le_trans hB h.bo, h.fr⟩

theorem Just.setNew {g p i : Nat} {a b : World} (h : Just g a b) (hp : a.heap.size ≤ p) (v : Value) : Just g a (b.setCell ⟨p, i, none⟩ v) :=
  ⟨fun B h1 h2 => (h.below B h1 h2).setCell (by show B ≤ p; omega) _, by have := h.size; simpa using this, fun k hk hg => by rw [Below.heap_setCell _ _ _ _ (by show k ≠ p; omega)]; exact h.block k hk hg⟩
theorem valsIs_just {g b : Nat} {w w' : World} {vs : List Vl} (h : Just g w w') (hv : ValsIs w b vs) (hne : b ≠ g) : ValsIs w' b vs := h.kept hv hne

set_option maxRecDepth 100000 in
set_option maxHeartbeats 8000000 in
theorem ownVm_any (fa ha oa : Option Addr) (fc hcp oc : Nat) (d : VmD) (w : World) (hx : VmSmall d) (hm : VmAt w 0 fa ha oa d) :
    Calls Tryz.prog 61 #[.agg (vmCells fa ha oa fc hcp oc d)] w fun e w' => ∃ F Hb O la sa rb, e = .returned (.agg (vmCells (some ⟨F, 0, none⟩) (some ⟨Hb, 0, none⟩) (some ⟨O, 0, none⟩) d.frames.length d.heap.length d.out.length d)) ∧ OwnIs w' w.heap.size F Hb O la sa rb d ∧ Below w.heap.size w w' := by
  unfold vmCells
  obtain ⟨w0, hw0⟩ : ∃ w0, w0 = ((w.alloc (.cells #[.slice fa d.frames.length fc, .slice ha d.heap.length hcp, .int .i64 d.made, .slice oa d.out.length oc, .int .i64 d.status, .int .i64 d.trap, .int .i64 d.value.k, .int .i64 d.value.n, .string d.value.s, .int .i64 d.steps] 38)).alloc (.cells #[.slice none 0 0, .slice none 0 0, .int .i64 0, .slice none 0 0, .int .i64 0, .int .i64 0, .int .i64 0, .int .i64 0, .string ⟨#[]⟩, .int .i64 0] 38)).alloc (.cells #[.slice fa d.frames.length fc, .slice ha d.heap.length hcp, .int .i64 d.made, .slice oa d.out.length oc, .int .i64 d.status, .int .i64 d.trap, .int .i64 d.value.k, .int .i64 d.value.n, .string d.value.s, .int .i64 d.steps] 38) := ⟨_, rfl⟩
  have hA : Below w.heap.size w w0 := by rw [hw0]; exact (((Below.refl _ _).alloc (Nat.le_refl _) _).alloc (by simp) _).alloc (by simp; omega) _
  have hI0 : w0.heap[w.heap.size]? = some (.cells #[.slice fa d.frames.length fc, .slice ha d.heap.length hcp, .int .i64 d.made, .slice oa d.out.length oc, .int .i64 d.status, .int .i64 d.trap, .int .i64 d.value.k, .int .i64 d.value.n, .string d.value.s, .int .i64 d.steps] 38 (0, 0)) := by rw [hw0]; exact block_old (block_old (block_new _ _ _) _) _
  have hR0 : w0.heap[w.heap.size + 1]? = some (.cells #[.slice none 0 0, .slice none 0 0, .int .i64 0, .slice none 0 0, .int .i64 0, .int .i64 0, .int .i64 0, .int .i64 0, .string ⟨#[]⟩, .int .i64 0] 38 (0, 0)) := by rw [hw0]; exact block_old (block_new_at _ _ _ _ (by simp)) _
  have hV0 : w0.heap[w.heap.size + 2]? = some (.cells #[.slice fa d.frames.length fc, .slice ha d.heap.length hcp, .int .i64 d.made, .slice oa d.out.length oc, .int .i64 d.status, .int .i64 d.trap, .int .i64 d.value.k, .int .i64 d.value.n, .string d.value.s, .int .i64 d.steps] 38 (0, 0)) := by rw [hw0]; exact block_new_at _ _ _ _ (by simp)
  have hs0 : w0.heap.size = w.heap.size + 3 := by rw [hw0]; simp
  have hFr := hm.frs.mono hA
  have hfl := hx.frames
  have hhl := hx.heap
  have hol := hx.out
  go_enter Tryz.func61, Tryz.ntmps61
  go_wp2_with fail
  rw [← hw0]
  clear hw0
  refine (eachF_is fa d.frames fc w0 hfl hx.locals hx.stack hFr).mono ?_
  rintro e w1 ⟨cur, la, sa, rfl, hF1, hC1, hW1, hb1⟩
  rw [hs0] at hF1 hW1 ⊢
  have hI1 := block_kept hI0 hb1
  have hR1 := block_kept hR0 hb1
  have hV1 := block_kept hV0 hb1
  have hB1 : Below w.heap.size w w1 := hA.trans (hb1.mono hA.size)
  have v1 := block_cell hV1
  have v2 := block_free hV1
  have ii := block_cell hI1
  obtain ⟨wl, hwl⟩ : ∃ wl, wl = w1.setCell ⟨w.heap.size + 2, 0, none⟩ (.slice (some ⟨w.heap.size + 3, 0, none⟩) d.frames.length d.frames.length) := ⟨_, rfl⟩
  have hVl : wl.heap[w.heap.size + 2]? = some (.cells #[.slice (some ⟨w.heap.size + 3, 0, none⟩) d.frames.length d.frames.length, .slice ha d.heap.length hcp, .int .i64 d.made, .slice oa d.out.length oc, .int .i64 d.status, .int .i64 d.trap, .int .i64 d.value.k, .int .i64 d.value.n, .string d.value.s, .int .i64 d.steps] 38 (0, 0)) := by rw [hwl]; simpa using block_set (i := 0) hV1 (.slice (some ⟨w.heap.size + 3, 0, none⟩) d.frames.length d.frames.length)
  have hIl : wl.heap[w.heap.size]? = some (.cells #[.slice fa d.frames.length fc, .slice ha d.heap.length hcp, .int .i64 d.made, .slice oa d.out.length oc, .int .i64 d.status, .int .i64 d.trap, .int .i64 d.value.k, .int .i64 d.value.n, .string d.value.s, .int .i64 d.steps] 38 (0, 0)) := by rw [hwl, Below.heap_setCell _ _ _ _ (by simp)]; exact hI1
  have hRl : wl.heap[w.heap.size + 1]? = some (.cells #[.slice none 0 0, .slice none 0 0, .int .i64 0, .slice none 0 0, .int .i64 0, .int .i64 0, .int .i64 0, .int .i64 0, .string ⟨#[]⟩, .int .i64 0] 38 (0, 0)) := by rw [hwl, Below.heap_setCell _ _ _ _ (by simp)]; exact hR1
  have hFl : wl.heap[w.heap.size + 3]? = some (.cells cur 90 (0, 0)) := by rw [hwl, Below.heap_setCell _ _ _ _ (by simp)]; exact hF1
  have hWl : FrVals wl (w.heap.size + 3 + 1) la sa d.frames d.frames.length := hW1.kept (fun b vs hb h => by rw [hwl]; exact h.other (by omega) _)
  have hBl : Below w.heap.size w wl := by rw [hwl]; exact hB1.setCell (by simp) _
  have HC1 := hid hC1
  clear hI0 hR0 hV0 hb1 hFr hA hI1 hR1 hV1 hB1 hF1 hW1 hC1
  go_upto_region 3 with fail
  rw [← hwl]
  clear hwl v1 v2 ii
  have ii := block_cell hIl
  go_wp2_with fail
  refine (ownHeap_is ha d.heap hcp wl hhl hx.fields (hm.recs.mono hBl)).mono ?_
  rintro e w2 ⟨cur2, rb, rfl, hH2, hC2, hX2, hb2⟩
  obtain ⟨Hb, hHb⟩ : ∃ Hb, Hb = wl.heap.size := ⟨_, rfl⟩
  have hHz : w.heap.size + 3 < Hb := by rw [hHb]; exact lt_block hFl
  have HLA : Hid (∀ i, i < d.frames.length → la i < Hb ∧ sa i < Hb) := fun i hi => by rw [hHb]; exact ⟨lt_block (hWl.loc i hi hi), lt_block (hWl.stk i hi hi)⟩
  rw [← hHb] at hH2 hX2 hb2 ⊢
  have hI2 := block_kept hIl (by rw [← hHb]; exact hb2)
  have hR2 := block_kept hRl (by rw [← hHb]; exact hb2)
  have hV2 := block_kept hVl (by rw [← hHb]; exact hb2)
  have hF2 := block_kept hFl (by rw [← hHb]; exact hb2)
  have hW2 := hWl.kept (fun b vs _ h => h.mono (by rw [← hHb]; exact hb2))
  have hB2 : Below w.heap.size w w2 := hBl.trans (by rw [hHb] at hb2; exact hb2.mono hBl.size)
  have v1 := block_cell hV2
  have v2 := block_free hV2
  obtain ⟨wm, hwm⟩ : ∃ wm, wm = w2.setCell ⟨w.heap.size + 2, 1, none⟩ (.slice (some ⟨Hb, 0, none⟩) d.heap.length d.heap.length) := ⟨_, rfl⟩
  have hVm : wm.heap[w.heap.size + 2]? = some (.cells #[.slice (some ⟨w.heap.size + 3, 0, none⟩) d.frames.length d.frames.length, .slice (some ⟨Hb, 0, none⟩) d.heap.length d.heap.length, .int .i64 d.made, .slice oa d.out.length oc, .int .i64 d.status, .int .i64 d.trap, .int .i64 d.value.k, .int .i64 d.value.n, .string d.value.s, .int .i64 d.steps] 38 (0, 0)) := by rw [hwm]; simpa using block_set (i := 1) hV2 (.slice (some ⟨Hb, 0, none⟩) d.heap.length d.heap.length)
  have hIm : wm.heap[w.heap.size]? = some (.cells #[.slice fa d.frames.length fc, .slice ha d.heap.length hcp, .int .i64 d.made, .slice oa d.out.length oc, .int .i64 d.status, .int .i64 d.trap, .int .i64 d.value.k, .int .i64 d.value.n, .string d.value.s, .int .i64 d.steps] 38 (0, 0)) := by rw [hwm, Below.heap_setCell _ _ _ _ (by simp)]; exact hI2
  have hRm : wm.heap[w.heap.size + 1]? = some (.cells #[.slice none 0 0, .slice none 0 0, .int .i64 0, .slice none 0 0, .int .i64 0, .int .i64 0, .int .i64 0, .int .i64 0, .string ⟨#[]⟩, .int .i64 0] 38 (0, 0)) := by rw [hwm, Below.heap_setCell _ _ _ _ (by simp)]; exact hR2
  have hFm : wm.heap[w.heap.size + 3]? = some (.cells cur 90 (0, 0)) := by rw [hwm, Below.heap_setCell _ _ _ _ (by simp)]; exact hF2
  have hHm : wm.heap[Hb]? = some (.cells cur2 94 (0, 0)) := by rw [hwm, Below.heap_setCell _ _ _ _ (by simp; omega)]; exact hH2
  have hWm : FrVals wm (w.heap.size + 3 + 1) la sa d.frames d.frames.length := hW2.kept (fun b vs hb h => by rw [hwm]; exact h.other (by omega) _)
  have hXm : ReVals wm (Hb + 1) rb d.heap d.heap.length := hX2.kept (fun b vs hb h => by rw [hwm]; exact h.other (by omega) _)
  have hBm : Below w.heap.size w wm := by rw [hwm]; exact hB2.setCell (by simp) _
  have HC2 := hid hC2
  clear hI2 hR2 hV2 hB2 hF2 hW2 hC2 hH2 hX2 hb2 hIl hRl hVl hFl hWl hBl hHb ii
  go_upto_region 4 with fail
  rw [← hwm]
  clear hwm v1 v2
  have ii := block_cell hIm
  go_wp2_with fail
  refine (eachS_is oa d.out oc wm hol hx.text (hm.out.mono hBm)).mono ?_
  rintro e w3 ⟨cur3, rfl, hO3, hC3, hb3⟩
  obtain ⟨Ob, hOb⟩ : ∃ Ob, Ob = wm.heap.size := ⟨_, rfl⟩
  have hOz : Hb < Ob := by rw [hOb]; exact lt_block hHm
  rw [← hOb] at hO3 hb3 ⊢
  have hb3' : Below wm.heap.size wm w3 := by rw [← hOb]; exact hb3
  have hI3 := block_kept hIm hb3'
  have hR3 := block_kept hRm hb3'
  have hV3 := block_kept hVm hb3'
  have hF3 := block_kept hFm hb3'
  have hH3 := block_kept hHm hb3'
  have hW3 := hWm.kept (fun b vs _ h => h.mono hb3')
  have hX3 := hXm.kept (fun b vs _ h => h.mono hb3')
  have hB3 : Below w.heap.size w w3 := hBm.trans (hb3'.mono hBm.size)
  have v1 := block_cell hV3
  have v2 := block_free hV3
  obtain ⟨wn, hwn⟩ : ∃ wn, wn = w3.setCell ⟨w.heap.size + 2, 3, none⟩ (.slice (some ⟨Ob, 0, none⟩) d.out.length d.out.length) := ⟨_, rfl⟩
  have hVn : wn.heap[w.heap.size + 2]? = some (.cells #[.slice (some ⟨w.heap.size + 3, 0, none⟩) d.frames.length d.frames.length, .slice (some ⟨Hb, 0, none⟩) d.heap.length d.heap.length, .int .i64 d.made, .slice (some ⟨Ob, 0, none⟩) d.out.length d.out.length, .int .i64 d.status, .int .i64 d.trap, .int .i64 d.value.k, .int .i64 d.value.n, .string d.value.s, .int .i64 d.steps] 38 (0, 0)) := by rw [hwn]; simpa using block_set (i := 3) hV3 (.slice (some ⟨Ob, 0, none⟩) d.out.length d.out.length)
  have hIn : wn.heap[w.heap.size]? = some (.cells #[.slice fa d.frames.length fc, .slice ha d.heap.length hcp, .int .i64 d.made, .slice oa d.out.length oc, .int .i64 d.status, .int .i64 d.trap, .int .i64 d.value.k, .int .i64 d.value.n, .string d.value.s, .int .i64 d.steps] 38 (0, 0)) := by rw [hwn, Below.heap_setCell _ _ _ _ (by simp)]; exact hI3
  have hRn : wn.heap[w.heap.size + 1]? = some (.cells #[.slice none 0 0, .slice none 0 0, .int .i64 0, .slice none 0 0, .int .i64 0, .int .i64 0, .int .i64 0, .int .i64 0, .string ⟨#[]⟩, .int .i64 0] 38 (0, 0)) := by rw [hwn, Below.heap_setCell _ _ _ _ (by simp)]; exact hR3
  have HOW : Hid (OwnIs wn (w.heap.size + 3) (w.heap.size + 3) Hb Ob la sa rb d) := by
    refine ⟨⟨cur, by rw [hwn, Below.heap_setCell _ _ _ _ (by simp)]; exact hF3, HC1.out⟩, (hW3.kept (fun b vs hb h => by rw [hwn]; exact h.other (by omega) _)).low (by omega), ⟨cur2, by rw [hwn, Below.heap_setCell _ _ _ _ (by simp; omega)]; exact hH3, HC2.out⟩, (hX3.kept (fun b vs hb h => by rw [hwn]; exact h.other (by omega) _)).low (by omega), ⟨cur3, by rw [hwn, Below.heap_setCell _ _ _ _ (by simp; omega)]; exact hO3, hC3⟩, by omega, by omega, by omega, fun i j hi hj => ?_⟩
    have l1 := HLA.out i hi
    have l3 := hX3.rob j hj
    omega
  have hBn : Below w.heap.size w wn := by rw [hwn]; exact hB3.setCell (by simp) _
  clear hI3 hR3 hV3 hF3 hH3 hW3 hX3 hB3 hO3 hC3 hb3 hb3' hIm hRm hVm hFm hHm hWm hXm hBm hOb ii
  go_upto_region 5 with fail
  rw [← hwn]
  clear hwn v1 v2
  have ii := block_cell hIn
  have hvl := hx.value
  go_wp2_with fail
  refine (ownValue_any _ _ _ _ hvl).mono ?_
  rintro e w4 ⟨rfl, hb4⟩
  have hV4 := block_kept hVn hb4
  have hR4 := block_kept hRn hb4
  have v1 := block_cell hV4
  have v2 := block_free hV4
  have r1 := block_cell hR4
  have r2 := block_free hR4
  have HB4 := hid (hBn.trans (hb4.mono hBn.size))
  have HO4 := hid (HOW.out.kept fun kk o _ ho => block_kept ho hb4)
  clear hVn hRn hIn hBn hb4 ii HOW hm
  go_wp2
  refine bodyPost_ret (v := .agg #[.slice (some ⟨w.heap.size + 3, 0, none⟩) d.frames.length d.frames.length, .slice (some ⟨Hb, 0, none⟩) d.heap.length d.heap.length, .int .i64 d.made, .slice (some ⟨Ob, 0, none⟩) d.out.length d.out.length, .int .i64 d.status, .int .i64 d.trap, .int .i64 d.value.k, .int .i64 d.value.n, .string d.value.s, .int .i64 d.steps]) (by simp [results, Tryz.results61, go_sem, r1]) rfl ?_
  refine ⟨w.heap.size + 3, Hb, Ob, la, sa, rb, rfl, ?_, ?_⟩
  · refine (HO4.out.kept fun kk o hkk ho => ?_).low (by omega)
    have h1 : kk ≠ w.heap.size + 2 := by omega
    have h2 : kk ≠ w.heap.size + 1 := by omega
    repeat (first | rw [Below.heap_setCell _ _ _ _ h1] | rw [Below.heap_setCell _ _ _ _ h2])
    exact ho
  · iterate 10 (refine Below.setCell ?_ (by show w.heap.size ≤ w.heap.size + 1; omega) _)
    iterate 3 (refine Below.setCell ?_ (by show w.heap.size ≤ w.heap.size + 2; omega) _)
    exact HB4.out
end Go.Proofs.YtcfbahaokmhbkaaGreat

namespace Go.Proofs.YtcfbahaokmhbkaaGreat
open Go.RowKit

/-- A state in blocks of its own, from B on; its records in a row that may have room. -/
structure CanIs (w : World) (B F : Nat) (ha : Option Addr) (hcp O : Nat) (la sa rb : Nat → Nat) (d : VmD) : Prop where
  fc : ∃ cur, w.heap[F]? = some (.cells cur 90 (0, 0)) ∧ FrCells cur la sa d.frames d.frames.length
  fv : FrVals w B la sa d.frames d.frames.length
  hc : ∃ xs, w.ownsRow B 94 1 (.slice ha d.heap.length hcp) d.heap.length xs ∧ ∀ j (h : j < d.heap.length), xs[j]? = some (.slice (some ⟨rb j, 0, none⟩) d.heap[j].length d.heap[j].length)
  hv : ReVals w B rb d.heap d.heap.length
  oc : ∃ cur, w.heap[O]? = some (.cells cur 9 (0, 0)) ∧ OuCells cur d.out d.out.length
  bf : B ≤ F
  bo : B ≤ O
  fr : ∀ i j, i < d.frames.length → j < d.heap.length → la i ≠ rb j ∧ sa i ≠ rb j

theorem CanIs.at {w : World} {B F O hcp : Nat} {ha : Option Addr} {la sa rb : Nat → Nat} {d : VmD} (h : CanIs w B F ha hcp O la sa rb d) : VmAt w B (some ⟨F, 0, none⟩) ha (some ⟨O, 0, none⟩) d := by
  refine ⟨fun i hi => ?_, fun i hi => ?_, fun i hi => ?_⟩
  · obtain ⟨cur, hc, hs, hd⟩ := h.fc
    obtain ⟨d1, d2, d3, d4⟩ := hd i hi hi
    exact ⟨F, 0, _, _, _, _, rfl, h.bf, by rw [block_cell hc, Nat.zero_add]; exact d1, by rw [block_cell hc, Nat.zero_add]; exact d2, by rw [block_cell hc, Nat.zero_add]; exact d3, by rw [block_cell hc, Nat.zero_add]; exact d4, (h.fv.loc i hi hi).at (h.fv.lob i hi), (h.fv.stk i hi hi).at (h.fv.sob i hi)⟩
  · obtain ⟨xs, ho, hd⟩ := h.hc
    obtain ⟨g, cap, e, hb, -⟩ := ho.form (by omega)
    cases e
    refine ⟨g, 0, _, d.heap[i].length, rfl, hb, ?_, (h.hv.fld i hi hi).at (h.hv.rob i hi)⟩
    rw [Nat.zero_add, ho.cellAt i (by omega)]
    exact hd i hi
  · obtain ⟨cur, hc, hs, hd⟩ := h.oc
    exact ⟨O, 0, rfl, h.bo, by rw [block_cell hc, Nat.zero_add]; exact hd i hi hi⟩

/-- The values of frames of which the first k were met whole. -/
structure FrMet (w : World) (la sa : Nat → Nat) (fr : List Fr) (k : Nat) : Prop where
  doneL : ∀ i (h : i < fr.length), i < k → ValsIs w (la i) (lV (fS [] (fr.take i)) fr[i].locals)
  doneS : ∀ i (h : i < fr.length), i < k → ValsIs w (sa i) (lV (lS (fS [] (fr.take i)) fr[i].locals) fr[i].stack)
  todoL : ∀ i (h : i < fr.length), k ≤ i → ValsIs w (la i) fr[i].locals
  todoS : ∀ i (h : i < fr.length), k ≤ i → ValsIs w (sa i) fr[i].stack

/-- Which blocks of a state are whose (nothing of memory). -/
structure Apart (lo nf : Nat) (la sa rb : Nat → Nat) (nh : Nat) : Prop where
  llo : ∀ i, i < nf → la i < lo
  slo : ∀ i, i < nf → sa i < lo
  li : ∀ i j, i < nf → j < nf → la i = la j → i = j
  si : ∀ i j, i < nf → j < nf → sa i = sa j → i = j
  ls : ∀ i j, i < nf → j < nf → la i ≠ sa j
  fr : ∀ i j, i < nf → j < nh → la i ≠ rb j ∧ sa i ≠ rb j

theorem FrMet.kept {w w' : World} {la sa : Nat → Nat} {fr : List Fr} {k : Nat} (h : FrMet w la sa fr k) (hb : ∀ b vs, (∃ i, i < fr.length ∧ (b = la i ∨ b = sa i)) → ValsIs w b vs → ValsIs w' b vs) : FrMet w' la sa fr k :=
  ⟨fun i hi hk => hb _ _ ⟨i, hi, .inl rfl⟩ (h.doneL i hi hk), fun i hi hk => hb _ _ ⟨i, hi, .inr rfl⟩ (h.doneS i hi hk), fun i hi hk => hb _ _ ⟨i, hi, .inl rfl⟩ (h.todoL i hi hk), fun i hi hk => hb _ _ ⟨i, hi, .inr rfl⟩ (h.todoS i hi hk)⟩

theorem FrMet.step {w w1 w2 : World} {lo nh : Nat} {la sa rb : Nat → Nat} {fr : List Fr} {k : Nat} (h : FrMet w la sa fr k) (hA : Apart lo fr.length la sa rb nh) (hk : k < fr.length) (h1 : Kp lo (la k) w w1) (hv1 : ValsIs w1 (la k) (lV (fS [] (fr.take k)) fr[k].locals))
    (h2 : Kp lo (sa k) w1 w2) (hv2 : ValsIs w2 (sa k) (lV (lS (fS [] (fr.take k)) fr[k].locals) fr[k].stack)) : FrMet w2 la sa fr (k + 1) := by
  have L : ∀ i vs, i < fr.length → i ≠ k → ValsIs w (la i) vs → ValsIs w2 (la i) vs := fun i vs hi hne hv => h2.low (h1.low hv (fun e => hne (hA.li i k hi hk e)) (hA.llo i hi)) (hA.ls i k hi hk) (hA.llo i hi)
  have S : ∀ i vs, i < fr.length → i ≠ k → ValsIs w (sa i) vs → ValsIs w2 (sa i) vs := fun i vs hi hne hv => h2.low (h1.low hv (fun e => hA.ls k i hk hi e.symm) (hA.slo i hi)) (fun e => hne (hA.si i k hi hk e)) (hA.slo i hi)
  refine ⟨fun i hi hik => ?_, fun i hi hik => ?_, fun i hi hik => L i _ hi (by omega) (h.todoL i hi (by omega)), fun i hi hik => S i _ hi (by omega) (h.todoS i hi (by omega))⟩
  · by_cases e : i = k
    · subst e
      exact h2.low hv1 (hA.ls i i hk hk) (hA.llo i hi)
    · exact L i _ hi e (h.doneL i hi (by omega))
  · by_cases e : i = k
    · subst e
      exact hv2
    · exact S i _ hi e (h.doneS i hi (by omega))

theorem OwnIs.apart {w : World} {B F Hb O : Nat} {la sa rb : Nat → Nat} {d : VmD} (h : OwnIs w B F Hb O la sa rb d) : Apart w.heap.size d.frames.length la sa rb d.heap.length :=
  ⟨fun i hi => lt_block (h.fv.loc i hi hi), fun i hi => lt_block (h.fv.stk i hi hi), fun i j hi hj e => h.fv.li i j hi hj e, fun i j hi hj e => h.fv.si i j hi hj e, fun i j hi hj => h.fv.ls i j hi hj, h.fr⟩
theorem OwnIs.met0 {w : World} {B F Hb O : Nat} {la sa rb : Nat → Nat} {d : VmD} (h : OwnIs w B F Hb O la sa rb d) : FrMet w la sa d.frames 0 :=
  ⟨fun _ _ h => absurd h (Nat.not_lt_zero _), fun _ _ h => absurd h (Nat.not_lt_zero _), fun i hi _ => h.fv.loc i hi hi, fun i hi _ => h.fv.stk i hi hi⟩
theorem OwnIs.recRow {w w' : World} {B F Hb O : Nat} {la sa rb : Nat → Nat} {d : VmD} (h : OwnIs w B F Hb O la sa rb d) (hk : ∀ o, w.heap[Hb]? = some o → w'.heap[Hb]? = some o) : RecRow w' w.heap.size Hb rb d.heap := by
  obtain ⟨cur, hc, hs, hd⟩ := h.hc
  refine ⟨⟨cur, hk _ hc, fun j hj => hd j hj hj⟩, lt_block hc, fun j hj => lt_block (h.hv.fld j hj hj), fun i j hi hj e => h.hv.ri i j hi hj e, fun j hj e => ?_⟩
  have := h.hv.fld j hj hj
  unfold ValsIs at this
  rw [e, hc] at this
  cases this

/-- The canon's frames. -/
theorem FrCells.canon {cur : Array Value} {la sa : Nat → Nat} {fr : List Fr} (h : FrCells cur la sa fr fr.length) : FrCells cur la sa (fV [] fr) (fV [] fr).length := by
  refine ⟨by rw [fV_len]; exact h.1, fun i hi _ => ?_⟩
  have hi' : i < fr.length := by rw [fV_len] at hi; exact hi
  obtain ⟨d1, d2, d3, d4⟩ := h.2 i hi' hi'
  rw [fV_at hi' hi]
  refine ⟨d1, d2, ?_, ?_⟩
  · show _ = some (Value.slice _ (lV _ _).length (lV _ _).length)
    rw [lV_len]; exact d3
  · show _ = some (Value.slice _ (lV _ _).length (lV _ _).length)
    rw [lV_len]; exact d4
theorem FrMet.canon {w : World} {B : Nat} {la sa : Nat → Nat} {fr : List Fr} (h : FrMet w la sa fr fr.length) {w0 : World} (h0 : FrVals w0 B la sa fr fr.length) : FrVals w B la sa (fV [] fr) (fV [] fr).length := by
  have hl := fV_len [] fr
  refine ⟨fun i hi _ => ?_, fun i hi _ => ?_, fun i hi => h0.lob i (by omega), fun i hi => h0.sob i (by omega), fun i j hi hj => h0.li i j (by omega) (by omega), fun i j hi hj => h0.si i j (by omega) (by omega), fun i j hi hj => h0.ls i j (by omega) (by omega)⟩
  · rw [fV_at (by omega) hi]
    exact h.doneL i (by omega) (by omega)
  · rw [fV_at (by omega) hi]
    exact h.doneS i (by omega) (by omega)
end Go.Proofs.YtcfbahaokmhbkaaGreat
