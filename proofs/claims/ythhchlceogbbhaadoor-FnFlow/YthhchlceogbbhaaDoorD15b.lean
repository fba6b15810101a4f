/-
  A copy that is being spoilt: an instruction more in a function's own row.
-/
import Derived.Test.YthhchlceogbbhaaDoorG6
namespace Go.Proofs.YthhchlceogbbhaaDoor
open Go.RowKit

/-- A row of another block is kept. -/
theorem RowI.apart {w w' : World} {B n gd : Nat} {ca : Option Addr} {cc : Nat} (h : RowI w B (.slice ca n cc) n) (hne : ca ≠ some ⟨gd, 0, none⟩) (hbl : ∀ k, k < w.heap.size → k ≠ gd → w'.heap[k]? = w.heap[k]?) : RowI w' B (.slice ca n cc) n := by
  obtain ⟨vs, ho, hv⟩ := h
  rcases ho.2 with h | ⟨g, cap, cur, e, hB, hh, rest⟩
  · exact ⟨vs, ⟨ho.1, .inl h⟩, hv⟩
  · have e1 : ca = some ⟨g, 0, none⟩ := by injection e
    have hg : g ≠ gd := fun x => hne (by rw [e1, x])
    exact ⟨vs, ⟨ho.1, .inr ⟨g, cap, cur, e, hB, by rw [hbl g (lt_block hh) hg]; exact hh, rest⟩⟩, hv⟩
/-- A row's block is in memory. -/
theorem RowI.inside {w : World} {B n g : Nat} {ca : Option Addr} {cc : Nat} (h : RowI w B (.slice ca n cc) n) (e : ca = some ⟨g, 0, none⟩) : g < w.heap.size := by
  obtain ⟨vs, ho, hv⟩ := h
  rcases ho.2 with ⟨h, -⟩ | ⟨g', cap, cur, e', hB, hh, rest⟩
  · rw [e] at h; cases h
  · rw [e] at e'; cases e'; exact lt_block hh

section
variable {W w wr w' : World} {C : Nat} {xa : Option Addr} {bs : List Int} {xc M V : Nat} {ta : Option Addr} {nt tc : Nat} {gF fc : Nat} {hs : List HF}
/-- An instruction more in a function's own row. -/
theorem SP.append (h : SP W w wr C xa bs xc M V ta nt tc (some ⟨gF, 0, none⟩) fc hs) {f gd j : Nat} {u : Value} (hf : f < hs.length) (hap : ∀ (i : Nat) (hi : i < hs.length), i ≠ f → hs[i].ca ≠ some ⟨gd, 0, none⟩) (hk : Keeps (w.heap.size + 2) [39] wr w') (hbl : ∀ k, k < wr.heap.size → k ≠ gd → w'.heap[k]? = wr.heap[k]?)
    (h' : HF) (he : flatF (hs.set f h') = (flatF hs).set j u) (hc : RowI w' (w.heap.size + 2) (.slice h'.ca h'.n h'.cc) h'.n) (hn : h'.n ≤ 60000) :
    SP W w (w'.setCell ⟨gF, j, none⟩ u) C xa bs xc M V ta nt tc (some ⟨gF, 0, none⟩) fc (hs.set f h') := by
  have hsz := h.size
  have h1 := h.lt
  have h2 := h.low
  have hfar := h.far
  have hown := own_same (w' := w') h.funcs.own fun k cs fr _ hb => hk.cell hb (by simp)
  obtain ⟨g', e, hB, -, ⟨cur, hcur⟩, -⟩ := own_cells hown (by omega)
  cases e
  have hout := hk.cell h.out (by simp)
  refine ⟨by rw [Below.heap_setCell _ _ _ _ (by simp; omega)]; exact hk.cell h.res (by simp), ?_, h.far, ?_, ⟨by rw [List.length_set, he]; exact own_write hown (by omega) j u, fun y hy => ?_⟩, (h.cur.keeps hk (by simp) (by omega) (by omega)).set (by simp; omega) (by simp; omega) _, (h.fr.trans (Fr.keeps hk (by omega) (by omega))).setFar (by simp; omega) _, h.lt, h.low⟩
  · rw [Below.heap_setCell _ _ _ _ (fun e => by rw [e, hcur] at hout; cases hout), List.length_set]; exact hout
  · obtain ⟨vs, a1, a2⟩ := h.texts
    exact ⟨vs, own_same a1 fun k cs fr _ hb => by
      have hb' := hk.cell hb (by simp)
      rw [Below.heap_setCell _ _ _ _ (fun e => by rw [e, hcur] at hb'; cases hb')]; exact hb', a2⟩
  · obtain ⟨i, hi, rfl⟩ := List.getElem_of_mem hy
    have hi' : i < hs.length := by simpa using hi
    by_cases hif : i = f
    · subst hif
      rw [List.getElem_set_self]
      exact ⟨hc.far hcur u, hn⟩
    · rw [List.getElem_set_ne (fun e => hif e.symm)]
      have hy' := h.funcs.code hs[i] (List.getElem_mem hi')
      exact ⟨(hy'.1.apart (hap i hi' hif) hbl).far hcur u, hy'.2⟩
end
end Go.Proofs.YthhchlceogbbhaaDoor
