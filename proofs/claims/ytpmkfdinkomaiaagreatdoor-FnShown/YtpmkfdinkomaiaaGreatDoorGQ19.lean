/-
  The drawing functions of the document's model: an odd module.
  l01DrawAny, l03DrawAny, DrawVerify: a module of the call's own, within sizes.
  What was drawn, as lists of texts and functions; what a good module's heights are; two troubles compared.
  spec.DrawShowModule: a module in memory of the call's own.
-/
import Derived.Test.YtpmkfdinkomaiaaGreatDoorD12
import Derived.Deep.CutRange
import Derived.Test.YtpmkfdinkomaiaaGreatDoorD16
import Derived.Laws.StructEq
namespace Go.Proofs.YtpmkfdinkomaiaaGreatDoor
open Go.RowKit

end Go.Proofs.YtpmkfdinkomaiaaGreatDoor

namespace Go.Proofs.YtpmkfdinkomaiaaGreatDoor
open Go.RowKit

theorem two_cells {wq : World} {R : Nat} {x y : Value} (h : wq.heap[R]? = some (.cells #[.slice none 0 0, .slice none 0 0] 27 (0, 0))) : ((wq.setCell ⟨R, 0, none⟩ x).setCell ⟨R, 1, none⟩ y).heap[R]? = some (.cells #[x, y] 27 (0, 0)) := by
  have := block_set (i := 1) (block_set (i := 0) h x) y
  simpa using this

/-- What was drawn is laid into the answer's block. -/
theorem post_store {W w wq : World} {C R xc M M' B : Nat} {xa : Option Addr} {bs : List Int} {ta : Option Addr} {nt tc : Nat} {fa : Option Addr} {fc : Nat} {hs : List HF} (hR : wq.heap[R]? = some (.cells #[.slice none 0 0, .slice none 0 0] 27 (0, 0))) (hRw : w.heap.size ≤ R) (hRC : R ≠ C) (hWw : W.heap.size ≤ w.heap.size)
    (hT : RowT wq B (.slice ta nt tc) nt) (h1 : nt ≤ 3) (hG : RowG wq B (.slice fa hs.length fc) hs) (h2 : 1 ≤ hs.length) (h3 : hs.length ≤ 14) (hB : w.heap.size ≤ B) (hC : CurAt W wq C xa bs xc M) (hM : M ≤ M') (hF : Fr C C w.heap.size w wq) :
    SpoilPost W w C xa bs xc M' (.returned (.agg #[.slice ta nt tc, .slice fa hs.length fc])) ((wq.setCell ⟨R, 0, none⟩ (.slice ta nt tc)).setCell ⟨R, 1, none⟩ (.slice fa hs.length fc)) := by
  have hr1 := block_set (i := 0) hR (.slice ta nt tc)
  have hsame : Same wq ((wq.setCell ⟨R, 0, none⟩ (.slice ta nt tc)).setCell ⟨R, 1, none⟩ (.slice fa hs.length fc)) := Same.set (Same.set (Same.refl _) hR (by omega) _ _) hr1 (by omega) _ _
  obtain ⟨vs, a1, a2⟩ := hT.same hsame
  exact ⟨ta, nt, tc, fa, fc, hs, rfl, ⟨vs, own_low a1 hB, a2⟩, h1, (hG.same hsame).low hB, h2, h3, ((hC.set (by simpa using hRC) (by simp; omega) _).set (by simpa using hRC) (by simp; omega) _).grow hM, (hF.setFar (by simpa using hRw) _).setFar (by simpa using hRw) _⟩

set_option maxRecDepth 100000 in
set_option maxHeartbeats 2000000 in
theorem drawAny_any (W : World) (C xc M : Nat) (xa : Option Addr) (bs : List Int) (n : Int) (w : World) (hC : CurAt W w C xa bs xc M) (hM : M ≤ 100000) (h0 : 0 ≤ n) (h1 : n ≤ 1000000) :
    Calls Tryz.prog 14 #[.pointer (some ⟨C, 0, none⟩), .int .i64 n] w (SpoilPost W w C xa bs xc (M + 50000)) := by
  obtain ⟨p0, s0, hcb, -⟩ := hC.blk
  have hClt := lt_block hcb
  have hWw := hC.below.size
  clear hcb p0 s0
  obtain ⟨wA, hwA⟩ : ∃ wA, wA = w.alloc (.cells #[.slice none 0 0, .slice none 0 0] 27) := ⟨_, rfl⟩
  have hbA : Below w.heap.size w wA := by rw [hwA]; exact (Below.refl _ _).alloc (Nat.le_refl _) _
  have hRA : wA.heap[w.heap.size]? = some (.cells #[.slice none 0 0, .slice none 0 0] 27 (0, 0)) := by rw [hwA]; exact block_new _ _ _
  have hzA : wA.heap.size = w.heap.size + 1 := by rw [hwA]; simp
  go_enter Tryz.func14, Tryz.ntmps14
  go_wp2_with fail
  rw [← hwA]
  clear hwA
  refine (drawModule_any W C xc M xa bs wA (hC.later hbA) hM).mono ?_
  rintro e w1 ⟨ta, nt, tc, fa, fc, hs, rfl, hT, hn, hF, hh1, hh4, hC1, hFr⟩
  have hR1 : w1.heap[w.heap.size]? = some (.cells #[.slice none 0 0, .slice none 0 0] 27 (0, 0)) := (hFr.block _ (by omega) (by omega) (by omega)).trans hRA
  have hFw1 : Fr C C w.heap.size w w1 := (Fr.below hbA (Nat.le_refl _)).trans (hFr.low (by omega))
  have hz1 := hFr.size
  obtain ⟨wB, hwB⟩ : ∃ wB, wB = w1.alloc (.cells #[.slice ta nt tc, .slice fa hs.length fc] 27) := ⟨_, rfl⟩
  have hbB : Below w1.heap.size w1 wB := by rw [hwB]; exact (Below.refl _ _).alloc (Nat.le_refl _) _
  have hXB : wB.heap[w1.heap.size]? = some (.cells #[.slice ta nt tc, .slice fa hs.length fc] 27 (0, 0)) := by rw [hwB]; exact block_new _ _ _
  have hCB := hC1.later hbB
  have hTB := hT.same (Same.below hbB)
  have hFB := hF.same (Same.below hbB)
  have hRB := block_kept hR1 hbB
  have hFwB : Fr C C w.heap.size w wB := hFw1.trans (Fr.below hbB (by omega))
  clear hT hF hC1 hFr hR1 hFw1 hbA hRA hC
  go_wp2_with fail
  rw [← hwB]
  clear hwB
  refine (once_any W C xc _ xa bs n wB hCB (by omega) h0 h1).mono ?_
  rintro e w2 ⟨r, rfl, hC2, hP2⟩
  have hX2 : w2.heap[w1.heap.size]? = some (.cells #[.slice ta nt tc, .slice fa hs.length fc] 27 (0, 0)) := (hP2.block _ (by omega)).trans hXB
  have hR2 : w2.heap[w.heap.size]? = some (.cells #[.slice none 0 0, .slice none 0 0] 27 (0, 0)) := (hP2.block _ (by omega)).trans hRB
  have hSm := hCB.same hP2
  have hT2 := hTB.same hSm
  have hF2 := hFB.same hSm
  have hFw2 : Fr C C w.heap.size w w2 := hFwB.trans (Fr.px hP2)
  have hzB : w1.heap.size ≤ wB.heap.size := hbB.size
  have hz2 : wB.heap.size = w2.heap.size := hP2.size.symm
  clear hTB hFB hRB hXB hSm hP2 hFwB hCB hbB
  have x2 := block_cell hX2
  cases r
  · have hS := post_store (M' := M + 50000) hR2 (Nat.le_refl _) (by omega) hWw hT2 (by omega) hF2.g hh1 (by omega) (by omega) hC2 (by omega) hFw2
    have HS : Hid (SpoilPost W w C xa bs xc (M + 50000) (.returned (.agg #[.slice ta nt tc, .slice fa hs.length fc])) _) := hS
    have r2 := block_cell hR2
    have r3 := block_free hR2
    have r4 := block_cell (two_cells (x := .slice ta nt tc) (y := .slice fa hs.length fc) hR2)
    clear hS hT2 hF2 hC2 hFw2
    go_wp2
    exact bodyPost_ret (v := .agg #[.slice ta nt tc, .slice fa hs.length fc]) (by simp [results, Tryz.results14, go_sem, r4]) rfl HS.out
  · go_wp2_with fail
    refine (spoil_any W C xc _ _ xa bs ta fa nt tc fc hs w2 hC2 (by omega) hT2 hn hF2 hh1 hh4).mono ?_
    rintro e w3 ⟨ta', nt', tc', fa', fc', hs', rfl, hT3, hn3, hG3, hh13, hh14, hC3, hFr3⟩
    have hR3 : w3.heap[w.heap.size]? = some (.cells #[.slice none 0 0, .slice none 0 0] 27 (0, 0)) := (hFr3.block _ (by omega) (by omega) (by omega)).trans hR2
    have hFw3 : Fr C C w.heap.size w w3 := hFw2.trans (hFr3.low (by omega))
    have HS : Hid (SpoilPost W w C xa bs xc (M + 50000) (.returned (.agg #[.slice ta' nt' tc', .slice fa' hs'.length fc'])) _) := post_store (M' := M + 50000) hR3 (Nat.le_refl _) (by omega) hWw hT3 hn3 hG3 hh13 hh14 (by omega) hC3 (by omega) hFw3
    have r2 := block_cell hR3
    have r3 := block_free hR3
    have r4 := block_cell (two_cells (x := .slice ta' nt' tc') (y := .slice fa' hs'.length fc') hR3)
    clear hT3 hG3 hC3 hFw3 hT2 hF2 hC2 hFw2 x2
    go_wp2
    exact bodyPost_ret (v := .agg #[.slice ta' nt' tc', .slice fa' hs'.length fc']) (by simp [results, Tryz.results14, go_sem, r4]) rfl HS.out

/-- What DrawVerify is to answer: a module in memory of the call's own. -/
def DrawnPost (w : World) (e : Ending) (w' : World) : Prop :=
  ∃ ta nt tc fa fc hs, e = .returned (.agg #[.slice ta nt tc, .slice fa (List.length hs) fc]) ∧ RowT w' w.heap.size (.slice ta nt tc) nt ∧ nt ≤ 3 ∧ RowG w' w.heap.size (.slice fa hs.length fc) hs ∧ 1 ≤ hs.length ∧ hs.length ≤ 14 ∧ Below w.heap.size w w'

end Go.Proofs.YtpmkfdinkomaiaaGreatDoor

namespace Go.Proofs.YtpmkfdinkomaiaaGreatDoor
open Go.RowKit

theorem strs_of {w : World} {B n tc : Nat} {ta : Option Addr} (h : RowT w B (.slice ta n tc) n) : ∃ ts : List ByteArray, ts.length = n ∧ StrsAt w 0 ta ts ∧ ∀ s ∈ ts, s.size ≤ 1000 := by
  obtain ⟨vs, ho, hv⟩ := h
  have hl : vs.length = n := by have := ho.1; omega
  obtain ⟨ts, hts, hsz⟩ : ∃ ts : List ByteArray, vs = ts.map Value.string ∧ ∀ s ∈ ts, s.size ≤ 1000 := by
    clear ho hl
    induction vs with
    | nil => exact ⟨[], rfl, by simp⟩
    | cons v vs ih =>
      obtain ⟨ts, h1, h2⟩ := ih (fun u hu => hv u (List.mem_cons_of_mem _ hu))
      obtain ⟨s, rfl, hs⟩ := hv v (List.mem_cons_self ..)
      exact ⟨s :: ts, by rw [h1]; rfl, fun x hx => by
        rcases List.mem_cons.1 hx with rfl | hx
        · exact hs
        · exact h2 x hx⟩
  subst hts
  have hlen : ts.length = n := by simpa using hl
  refine ⟨ts, hlen, fun i hi => ?_, hsz⟩
  obtain ⟨g, rfl, -, -, -, hc⟩ := own_cells ho (by omega)
  exact ⟨g, 0, rfl, Nat.zero_le _, by rw [Nat.zero_add]; exact hc i _ (by simp [hi])⟩

theorem code_of {w : World} {B n cc : Nat} {ca : Option Addr} (h : RowI w B (.slice ca n cc) n) : ∃ xs : List (Int × Int), xs.length = n ∧ CodeAt w 0 ca xs := by
  obtain ⟨vs, ho, hv⟩ := h
  have hl : vs.length = n * 2 := ho.1
  have hz : ∀ i (hi : i < vs.length), ∃ z : Int, vs[i] = .int .i64 z := fun i hi => hv _ (List.getElem_mem hi)
  have num : ∀ i, ∃ z : Int, i < vs.length → vs[i]? = some (.int .i64 z) := fun i => by
    by_cases hi : i < vs.length
    · obtain ⟨z, e⟩ := hz i hi
      exact ⟨z, fun _ => by rw [List.getElem?_eq_getElem hi, e]⟩
    · exact ⟨0, fun h => absurd h hi⟩
  obtain ⟨z, hzz⟩ : ∃ z : Nat → Int, ∀ i, i < vs.length → vs[i]? = some (.int .i64 (z i)) := ⟨fun i => Classical.choose (num i), fun i hi => Classical.choose_spec (num i) hi⟩
  refine ⟨(List.range n).map fun i => (z (i * 2), z (i * 2 + 1)), by simp, fun i hi => ?_⟩
  have hi' : i < n := by simpa using hi
  obtain ⟨g, rfl, -, -, -, hc⟩ := own_cells ho (by omega)
  refine ⟨g, 0, rfl, Nat.zero_le _, ?_, ?_⟩
  · rw [Nat.zero_add]
    simpa using hc (i * 2) _ (hzz _ (by omega))
  · rw [Nat.zero_add]
    simpa using hc (i * 2 + 1) _ (hzz _ (by omega))

theorem fns_of {w : World} {B fc : Nat} {fa : Option Addr} {hs : List HF} (h : RowG w B (.slice fa hs.length fc) hs) : ∃ fs : List Fn, fs.length = hs.length ∧ FnsAt w 0 fa fs ∧ ∀ f ∈ fs, f.code.length ≤ 60000 := by
  have cd : ∀ i, ∃ xs : List (Int × Int), ∀ (hi : i < hs.length), xs.length = hs[i].n ∧ CodeAt w 0 hs[i].ca xs := fun i => by
    by_cases hi : i < hs.length
    · obtain ⟨xs, h1, h2⟩ := code_of (h.code hs[i] (List.getElem_mem hi)).1
      exact ⟨xs, fun _ => ⟨h1, h2⟩⟩
    · exact ⟨[], fun h => absurd h hi⟩
  obtain ⟨c, hc⟩ : ∃ c : Nat → List (Int × Int), ∀ i (hi : i < hs.length), (c i).length = hs[i].n ∧ CodeAt w 0 hs[i].ca (c i) := ⟨fun i => Classical.choose (cd i), fun i hi => Classical.choose_spec (cd i) hi⟩
  refine ⟨(List.range hs.length).map fun i => ⟨(hs.getD i ⟨0, 0, none, 0, 0⟩).p, (hs.getD i ⟨0, 0, none, 0, 0⟩).l, c i⟩, by simp, fun i hi => ?_, fun f hf => ?_⟩
  · have hi' : i < hs.length := by simpa using hi
    obtain ⟨g, rfl, -, -, -, hcl⟩ := own_cells h.own (by omega)
    obtain ⟨e1, e2, e3⟩ := flatF_at hs i hi'
    have k1 := hcl _ _ e1
    have k2 := hcl _ _ e2
    have k3 := hcl _ _ e3
    have hci := hc i hi'
    refine ⟨g, 0, hs[i].ca, hs[i].cc, rfl, Nat.zero_le _, ?_, ?_, ?_, ?_⟩
    · rw [Nat.zero_add]; simpa [List.getElem?_eq_getElem hi'] using k1
    · rw [Nat.zero_add]; simpa [List.getElem?_eq_getElem hi'] using k2
    · rw [Nat.zero_add]; simpa [hci.1] using k3
    · simpa using hci.2
  · obtain ⟨i, hi, rfl⟩ := List.mem_map.1 hf
    have hi' : i < hs.length := by simpa using hi
    have := (h.code hs[i] (List.getElem_mem hi')).2
    show (c i).length ≤ 60000
    rw [(hc i hi').1]
    exact this
end Go.Proofs.YtpmkfdinkomaiaaGreatDoor

namespace Go.Proofs.YtpmkfdinkomaiaaGreatDoor
open Go.RowKit

set_option maxRecDepth 100000 in
set_option maxHeartbeats 2000000 in
theorem drawShow_any (xa : Option Addr) (bs : List Int) (xc : Nat) (w : World) (hn : bs.length ≤ 1048576) (hB : BytesAt w 0 xa bs) (hv : ∀ x ∈ bs, 0 ≤ x ∧ x ≤ 255) :
    Calls Tryz.prog 5 #[.slice xa bs.length xc] w (DrawnPost w) := by
  obtain ⟨wA, hwA⟩ : ∃ wA, wA = w.alloc (.cells #[.slice none 0 0, .slice none 0 0] 27) := ⟨_, rfl⟩
  have hbA : Below w.heap.size w wA := by rw [hwA]; exact (Below.refl _ _).alloc (Nat.le_refl _) _
  have hRA : wA.heap[w.heap.size]? = some (.cells #[.slice none 0 0, .slice none 0 0] 27 (0, 0)) := by rw [hwA]; exact block_new _ _ _
  have hzA : wA.heap.size = w.heap.size + 1 := by rw [hwA]; simp
  have hBA : BytesAt wA 0 xa bs := hB.mono hbA
  go_enter Tryz.func5, Tryz.ntmps5
  go_wp2_with fail
  rw [← hwA]
  clear hwA
  refine (open_any xa bs xc wA hn hBA hv).mono ?_
  rintro e w1 ⟨rfl, hC⟩
  have hR1 := block_kept hRA hC.below
  obtain ⟨p0, s0, hcb, -⟩ := hC.blk
  have hClt := lt_block hcb
  have hb1 := hC.below
  clear hcb p0 s0 hRA hBA
  go_wp2_with fail
  rw [hzA] at hC
  refine (drawAny_any wA (w.heap.size + 1) xc 0 xa bs 5 w1 hC (by omega) (by omega) (by omega)).mono ?_
  rintro e w3 ⟨ta, nt, tc, fa, fc, hs, rfl, hT, hn3, hG, hh1, hh14, hC3, hFr⟩
  have hR3 : w3.heap[w.heap.size]? = some (.cells #[.slice none 0 0, .slice none 0 0] 27 (0, 0)) := (hFr.block _ (by omega) (by omega) (by omega)).trans hR1
  have hB3 : Below w.heap.size w w3 := hbA.trans (hC3.below.mono (by omega))
  have hr1 := block_set (i := 0) hR3 (.slice ta nt tc)
  have hsame : Same w3 ((w3.setCell ⟨w.heap.size, 0, none⟩ (.slice ta nt tc)).setCell ⟨w.heap.size, 1, none⟩ (.slice fa hs.length fc)) := Same.set (Same.set (Same.refl _) hR3 (by omega) _ _) hr1 (by omega) _ _
  obtain ⟨vs, a1, a2⟩ := hT.same hsame
  have HS : Hid (DrawnPost w (.returned (.agg #[.slice ta nt tc, .slice fa hs.length fc])) ((w3.setCell ⟨w.heap.size, 0, none⟩ (.slice ta nt tc)).setCell ⟨w.heap.size, 1, none⟩ (.slice fa hs.length fc))) :=
    ⟨ta, nt, tc, fa, fc, hs, rfl, ⟨vs, own_low a1 (by omega), a2⟩, hn3, (hG.same hsame).low (by omega), hh1, hh14, (hB3.setCell (p := ⟨w.heap.size, 0, none⟩) (Nat.le_refl _) _).setCell (p := ⟨w.heap.size, 1, none⟩) (Nat.le_refl _) _⟩
  have r2 := block_cell hR3
  have r3 := block_free hR3
  have r4 := block_cell (two_cells (x := .slice ta nt tc) (y := .slice fa hs.length fc) hR3)
  clear hT hG hC3 hFr hr1 hsame a1 a2 hC hR1
  go_wp2
  exact bodyPost_ret (v := .agg #[.slice ta nt tc, .slice fa hs.length fc]) (by simp [results, Tryz.results5, go_sem, r4]) rfl HS.out
end Go.Proofs.YtpmkfdinkomaiaaGreatDoor
