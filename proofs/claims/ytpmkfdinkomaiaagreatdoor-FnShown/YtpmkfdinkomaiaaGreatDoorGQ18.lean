/-
  The drawing functions of the document's model: a copy that is being spoilt.
  The drawing functions of the document's model: what is written into a copy that is being spoilt.
  A copy that is being spoilt: an instruction more in a function's own row.
-/
import Derived.Test.YtpmkfdinkomaiaaGreatDoorD10
import Derived.Test.YtpmkfdinkomaiaaGreatDoorD12
namespace Go.Proofs.YtpmkfdinkomaiaaGreatDoor
open Go.RowKit

/-- A number written into a row of instructions: every row of instructions is one still. -/
theorem RowI.write {w : World} {B n g i : Nat} {v : Value} {cur : Array Value} (h : RowI w B v n) (hg : w.heap[g]? = some (.cells cur 51 (0, 0))) (z : Int) : RowI (w.setCell ⟨g, i, none⟩ (.int .i64 z)) B v n := by
  obtain ⟨vs, ho, hv⟩ := h
  rcases ho.2 with ⟨e, hz⟩ | ⟨b, cap, cu, e, hb, hh, h2, h3, h4, h5⟩
  · exact ⟨vs, ⟨ho.1, .inl ⟨e, hz⟩⟩, hv⟩
  · by_cases hbg : b = g
    · subst hbg
      rw [hg] at hh
      cases hh
      refine ⟨vs.set i (.int .i64 z), ⟨by rw [List.length_set]; exact ho.1, .inr ⟨b, cap, _, e, hb, block_set hg _, h2, h3, by simpa using h4, ?_⟩⟩, ?_⟩
      · rw [Array.toList_setIfInBounds, ← h5, List.take_set]
      · intro u hu
        rcases List.mem_or_eq_of_mem_set hu with hu | rfl
        · exact hv u hu
        · exact ⟨z, rfl⟩
    · exact ⟨vs, ⟨ho.1, .inr ⟨b, cap, cu, e, hb, by rw [Below.heap_setCell _ _ _ _ hbg]; exact hh, h2, h3, h4, h5⟩⟩, hv⟩

/-- A row of functions; one of them may have no instructions. -/
structure RowG (w : World) (B : Nat) (v : Value) (hs : List HF) : Prop where
  own : w.ownsRow B 48 3 v hs.length (flatF hs)
  code : ∀ h ∈ hs, RowI w B (.slice h.ca h.n h.cc) h.n ∧ h.n ≤ 60000
theorem RowF.g {w : World} {B : Nat} {v : Value} {hs : List HF} (h : RowF w B v hs) : RowG w B v hs := ⟨h.own, fun x hx => ⟨(h.code x hx).1, (h.code x hx).2.2⟩⟩
theorem RowG.same {w w' : World} {B : Nat} {v : Value} {hs : List HF} (h : RowG w B v hs) (hx : Same w w') : RowG w' B v hs :=
  ⟨own_same h.own fun k cs fr _ hb => hx k cs 48 fr (by omega) hb, fun y hy => ⟨(h.code y hy).1.same hx, (h.code y hy).2⟩⟩
theorem RowG.low {w : World} {B B' : Nat} {v : Value} {hs : List HF} (h : RowG w B v hs) (hB : B' ≤ B) : RowG w B' v hs :=
  ⟨own_low h.own hB, fun y hy => ⟨(h.code y hy).1.low hB, (h.code y hy).2⟩⟩
theorem RowG.write {w : World} {B g i : Nat} {v : Value} {hs : List HF} {cur : Array Value} (h : RowG w B v hs) (hg : w.heap[g]? = some (.cells cur 51 (0, 0))) (z : Int) : RowG (w.setCell ⟨g, i, none⟩ (.int .i64 z)) B v hs := by
  refine ⟨own_same h.own fun k cs fr _ hb => ?_, fun y hy => ⟨(h.code y hy).1.write hg z, (h.code y hy).2⟩⟩
  rw [Below.heap_setCell _ _ _ _ (fun e => by rw [e, hg] at hb; cases hb)]
  exact hb

theorem flatF_set (hs : List HF) (f : Nat) (h' : HF) (hf : f < hs.length) : flatF (hs.set f h') = (((flatF hs).set (f * 3) (.int .i64 h'.p)).set (f * 3 + 1) (.int .i64 h'.l)).set (f * 3 + 2) (.slice h'.ca h'.n h'.cc) := by
  induction hs generalizing f with
  | nil => simp at hf
  | cons x xs ih =>
    cases f with
    | zero => simp [flatF]
    | succ f =>
      have := ih f (by simpa using hf)
      have e : ∀ (h : HF) (l : List HF), flatF (h :: l) = .int .i64 h.p :: .int .i64 h.l :: .slice h.ca h.n h.cc :: flatF l := fun h l => by simp [flatF]
      rw [List.set_cons_succ, e, e, this, show (f + 1) * 3 = f * 3 + 1 + 1 + 1 by omega]
      simp only [List.set_cons_succ, show f * 3 + 1 + 1 + 1 + 1 = f * 3 + 1 + 1 + 1 + 1 from rfl, show f * 3 + 1 + 1 + 1 + 2 = f * 3 + 2 + 1 + 1 + 1 by omega]
end Go.Proofs.YtpmkfdinkomaiaaGreatDoor

namespace Go.Proofs.YtpmkfdinkomaiaaGreatDoor
open Go.RowKit

theorem set_same {xs : List Value} {j : Nat} {u : Value} (h : xs[j]? = some u) : xs.set j u = xs := by
  apply List.ext_getElem?
  intro i
  rw [List.getElem?_set]
  split
  · rename_i e
    subst e
    split
    · exact h.symm
    · rename_i hl
      rw [List.getElem?_eq_none (by omega)]
  · rfl
/-- A cell of an owned row written. -/
theorem own_write {w : World} {B e size n g cc : Nat} {xs : List Value} (h : w.ownsRow B e size (.slice (some ⟨g, 0, none⟩) n cc) n xs) (hn : 0 < n) (j : Nat) (u : Value) : (w.setCell ⟨g, j, none⟩ u).ownsRow B e size (.slice (some ⟨g, 0, none⟩) n cc) n (xs.set j u) := by
  rcases h.2 with ⟨-, hz⟩ | ⟨b, cap, cu, ev, hb, hh, h2, h3, h4, h5⟩
  · omega
  · cases ev
    refine ⟨by rw [List.length_set]; exact h.1, .inr ⟨g, cc, _, rfl, hb, block_set hh _, h2, h3, by simpa using h4, ?_⟩⟩
    rw [Array.toList_setIfInBounds, ← h5, List.take_set]

section
variable {w : World} {B : Nat} {hs : List HF} {f g fc : Nat}
theorem flat_p (hf : f < hs.length) (z : Int) : flatF (hs.set f ⟨z, hs[f].l, hs[f].ca, hs[f].n, hs[f].cc⟩) = (flatF hs).set (f * 3) (.int .i64 z) := by
  obtain ⟨a1, a2, a3⟩ := flatF_at hs f hf
  rw [flatF_set hs f _ hf]
  have e2 : ((flatF hs).set (f * 3) (.int .i64 z))[f * 3 + 1]? = some (.int .i64 hs[f].l) := by rw [List.getElem?_set_ne (by omega)]; exact a2
  rw [set_same e2]
  exact set_same (by rw [List.getElem?_set_ne (by omega)]; exact a3)
theorem flat_l (hf : f < hs.length) (z : Int) : flatF (hs.set f ⟨hs[f].p, z, hs[f].ca, hs[f].n, hs[f].cc⟩) = (flatF hs).set (f * 3 + 1) (.int .i64 z) := by
  obtain ⟨a1, a2, a3⟩ := flatF_at hs f hf
  rw [flatF_set hs f _ hf, set_same a1]
  exact set_same (by rw [List.getElem?_set_ne (by omega)]; exact a3)
theorem flat_c (hf : f < hs.length) (ca : Option Addr) (n cc : Nat) : flatF (hs.set f ⟨hs[f].p, hs[f].l, ca, n, cc⟩) = (flatF hs).set (f * 3 + 2) (.slice ca n cc) := by
  obtain ⟨a1, a2, a3⟩ := flatF_at hs f hf
  rw [flatF_set hs f _ hf, set_same a1, set_same a2]
/-- A cell of the functions' row written: of rows of instructions nothing changes. -/
theorem RowI.far {N n i : Nat} {v : Value} {cur : Array Value} (h : RowI w N v n) (hg : w.heap[g]? = some (.cells cur 48 (0, 0))) (u : Value) : RowI (w.setCell ⟨g, i, none⟩ u) N v n := by
  obtain ⟨vs, h1, h2⟩ := h
  refine ⟨vs, own_same h1 fun k cs fr _ hb => ?_, h2⟩
  rw [Below.heap_setCell _ _ _ _ (fun e => by rw [e, hg] at hb; cases hb)]
  exact hb
/-- One of the three cells of a function written. -/
theorem RowG.put (h : RowG w B (.slice (some ⟨g, 0, none⟩) hs.length fc) hs) (hf : f < hs.length) (h' : HF) {j : Nat} {u : Value} (he : flatF (hs.set f h') = (flatF hs).set j u) (hc : RowI w B (.slice h'.ca h'.n h'.cc) h'.n) (hn : h'.n ≤ 60000) :
    RowG (w.setCell ⟨g, j, none⟩ u) B (.slice (some ⟨g, 0, none⟩) (hs.set f h').length fc) (hs.set f h') := by
  obtain ⟨g', e, -, -, ⟨cur, hcur⟩, -⟩ := own_cells h.own (by omega)
  cases e
  refine ⟨by rw [List.length_set, he]; exact own_write h.own (by omega) j u, fun y hy => ?_⟩
  rcases List.mem_or_eq_of_mem_set hy with hy | rfl
  · exact ⟨(h.code y hy).1.far hcur u, (h.code y hy).2⟩
  · exact ⟨hc.far hcur u, hn⟩
end

/-- A copy that is being spoilt: the answer's block, the copy's, its rows. -/
structure SP (W w wr : World) (C : Nat) (xa : Option Addr) (bs : List Int) (xc M V : Nat) (ta : Option Addr) (nt tc : Nat) (fa : Option Addr) (fc : Nat) (hs : List HF) : Prop where
  res : wr.heap[w.heap.size + 1]? = some (.cells #[.slice none 0 0, .slice none 0 0] 27 (0, 0))
  out : wr.heap[V]? = some (.cells #[.slice ta nt tc, .slice fa hs.length fc] 27 (0, 0))
  far : w.heap.size + 2 ≤ V
  texts : RowT wr (w.heap.size + 2) (.slice ta nt tc) nt
  funcs : RowG wr (w.heap.size + 2) (.slice fa hs.length fc) hs
  cur : CurAt W wr C xa bs xc M
  fr : Fr C C w.heap.size w wr
  lt : C < w.heap.size
  low : W.heap.size ≤ w.heap.size

section
variable {W w wr w' : World} {C : Nat} {xa : Option Addr} {bs : List Int} {xc M V : Nat} {ta : Option Addr} {nt tc : Nat} {fa : Option Addr} {fc : Nat} {hs : List HF}
theorem SP.size (h : SP W w wr C xa bs xc M V ta nt tc fa fc hs) : w.heap.size + 2 < wr.heap.size := by have := lt_block h.out; have := h.far; omega
theorem SP.px (h : SP W w wr C xa bs xc M V ta nt tc fa fc hs) {M' : Nat} (hC : CurAt W w' C xa bs xc M') (hP : Px C wr w') : SP W w w' C xa bs xc M' V ta nt tc fa fc hs := by
  have h1 := h.lt
  have h2 := h.far
  exact ⟨by rw [hP.block _ (by omega)]; exact h.res, by rw [hP.block _ (by omega)]; exact h.out, h.far, h.texts.same (h.cur.same hP), h.funcs.same (h.cur.same hP), hC, h.fr.trans (Fr.px hP), h.lt, h.low⟩
theorem SP.fr' (h : SP W w wr C xa bs xc M V ta nt tc fa fc hs) {M' N : Nat} (hC : CurAt W w' C xa bs xc M') (hP : Fr C C N wr w') (hN : wr.heap.size ≤ N) : SP W w w' C xa bs xc M' V ta nt tc fa fc hs := by
  have h1 := h.lt
  have h2 := h.far
  have h3 := h.size
  have h4 := lt_block h.out
  exact ⟨by rw [hP.block _ (by omega) (by omega) (by omega)]; exact h.res, by rw [hP.block _ (by omega) (by omega) (by omega)]; exact h.out, h.far, h.texts.same (h.cur.sameC hP hN), h.funcs.same (h.cur.sameC hP hN), hC, h.fr.trans (hP.low (by omega)), h.lt, h.low⟩
theorem SP.later (h : SP W w wr C xa bs xc M V ta nt tc fa fc hs) (hb : Below wr.heap.size wr w') : SP W w w' C xa bs xc M V ta nt tc fa fc hs :=
  ⟨block_kept h.res hb, block_kept h.out hb, h.far, h.texts.same (Same.below hb), h.funcs.same (Same.below hb), h.cur.later hb, h.fr.trans (Fr.below hb h.fr.size), h.lt, h.low⟩
theorem SP.grow (h : SP W w wr C xa bs xc M V ta nt tc fa fc hs) {M' : Nat} (hM : M ≤ M') : SP W w wr C xa bs xc M' V ta nt tc fa fc hs := { h with cur := h.cur.grow hM }
/-- A number written into a row of instructions. -/
theorem SP.code (h : SP W w wr C xa bs xc M V ta nt tc fa fc hs) {g i : Nat} {cur : Array Value} (hg : wr.heap[g]? = some (.cells cur 51 (0, 0))) (hB : w.heap.size + 2 ≤ g) (z : Int) : SP W w (wr.setCell ⟨g, i, none⟩ (.int .i64 z)) C xa bs xc M V ta nt tc fa fc hs := by
  have h1 := h.lt
  have h2 := h.low
  refine ⟨by rw [Below.heap_setCell _ _ _ _ (by simp; omega)]; exact h.res, by rw [Below.heap_setCell _ _ _ _ (fun e => by have := h.out; rw [e, hg] at this; cases this)]; exact h.out, h.far, ?_, h.funcs.write hg z, h.cur.set (by simp; omega) (by simp; omega) _, h.fr.setFar (by simp; omega) _, h.lt, h.low⟩
  obtain ⟨vs, a1, a2⟩ := h.texts
  exact ⟨vs, own_same a1 fun k cs fr _ hb => by rw [Below.heap_setCell _ _ _ _ (fun e => by rw [e, hg] at hb; cases hb)]; exact hb, a2⟩
/-- One of a function's cells written. -/
theorem SP.func (h : SP W w wr C xa bs xc M V ta nt tc fa fc hs) {f g j : Nat} {u : Value} (hfa : fa = some ⟨g, 0, none⟩) (hf : f < hs.length) (h' : HF) (he : flatF (hs.set f h') = (flatF hs).set j u) (hc : RowI wr (w.heap.size + 2) (.slice h'.ca h'.n h'.cc) h'.n) (hn : h'.n ≤ 60000) :
    SP W w (wr.setCell ⟨g, j, none⟩ u) C xa bs xc M V ta nt tc fa fc (hs.set f h') := by
  subst hfa
  have h1 := h.lt
  have h2 := h.low
  obtain ⟨g', e, hB, -, ⟨cur, hcur⟩, -⟩ := own_cells h.funcs.own (by omega)
  cases e
  refine ⟨by rw [Below.heap_setCell _ _ _ _ (by simp; omega)]; exact h.res, ?_, h.far, ?_, h.funcs.put hf h' he hc hn, h.cur.set (by simp; omega) (by simp; omega) _, h.fr.setFar (by simp; omega) _, h.lt, h.low⟩
  · rw [Below.heap_setCell _ _ _ _ (fun e => by have := h.out; rw [e, hcur] at this; cases this), List.length_set]; exact h.out
  · obtain ⟨vs, a1, a2⟩ := h.texts
    exact ⟨vs, own_same a1 fun k cs fr _ hb => by rw [Below.heap_setCell _ _ _ _ (fun e => by rw [e, hcur] at hb; cases hb)]; exact hb, a2⟩
end
end Go.Proofs.YtpmkfdinkomaiaaGreatDoor

namespace Go.Proofs.YtpmkfdinkomaiaaGreatDoor
open Go.RowKit

/-- A row of another block is kept. -/
theorem RowI.apart {w w' : World} {B n gd : Nat} {ca : Option Addr} {cc : Nat} (h : RowI w B (.slice ca n cc) n) (hne : ca ≠ some ⟨gd, 0, none⟩) (hbl : ∀ k, k < w.heap.size → k ≠ gd → w'.heap[k]? = w.heap[k]?) : RowI w' B (.slice ca n cc) n := by
  obtain ⟨vs, ho, hv⟩ := h
  rcases ho.2 with h | ⟨g, cap, cur, e, hB, hh, rest⟩
  · exact ⟨vs, ⟨ho.1, .inl h⟩, hv⟩
  · have e1 : ca = some ⟨g, 0, none⟩ := by injection e
    have hg : g ≠ gd := fun x => hne (by rw [e1, x])
    exact ⟨vs, ⟨ho.1, .inr ⟨g, cap, cur, e, hB, by rw [hbl g (lt_block hh) hg]; exact hh, rest⟩⟩, hv⟩
/-- A row's block is in memory. -/
theorem RowI.inside {w : World} {B n g : Nat} {ca : Option Addr} {cc : Nat} (h : RowI w B (.slice ca n cc) n) (e : ca = some ⟨g, 0, none⟩) : g < w.heap.size := by
  obtain ⟨vs, ho, hv⟩ := h
  rcases ho.2 with ⟨h, -⟩ | ⟨g', cap, cur, e', hB, hh, rest⟩
  · rw [e] at h; cases h
  · rw [e] at e'; cases e'; exact lt_block hh

section
variable {W w wr w' : World} {C : Nat} {xa : Option Addr} {bs : List Int} {xc M V : Nat} {ta : Option Addr} {nt tc : Nat} {gF fc : Nat} {hs : List HF}
/-- An instruction more in a function's own row. -/
theorem SP.append (h : SP W w wr C xa bs xc M V ta nt tc (some ⟨gF, 0, none⟩) fc hs) {f gd j : Nat} {u : Value} (hf : f < hs.length) (hap : ∀ (i : Nat) (hi : i < hs.length), i ≠ f → hs[i].ca ≠ some ⟨gd, 0, none⟩) (hk : Keeps (w.heap.size + 2) [51] wr w') (hbl : ∀ k, k < wr.heap.size → k ≠ gd → w'.heap[k]? = wr.heap[k]?)
    (h' : HF) (he : flatF (hs.set f h') = (flatF hs).set j u) (hc : RowI w' (w.heap.size + 2) (.slice h'.ca h'.n h'.cc) h'.n) (hn : h'.n ≤ 60000) :
    SP W w (w'.setCell ⟨gF, j, none⟩ u) C xa bs xc M V ta nt tc (some ⟨gF, 0, none⟩) fc (hs.set f h') := by
  have hsz := h.size
  have h1 := h.lt
  have h2 := h.low
  have hfar := h.far
  have hown := own_same (w' := w') h.funcs.own fun k cs fr _ hb => hk.cell hb (by simp)
  obtain ⟨g', e, hB, -, ⟨cur, hcur⟩, -⟩ := own_cells hown (by omega)
  cases e
  have hout := hk.cell h.out (by simp)
  refine ⟨by rw [Below.heap_setCell _ _ _ _ (by simp; omega)]; exact hk.cell h.res (by simp), ?_, h.far, ?_, ⟨by rw [List.length_set, he]; exact own_write hown (by omega) j u, fun y hy => ?_⟩, (h.cur.keeps hk (by simp) (by omega) (by omega)).set (by simp; omega) (by simp; omega) _, (h.fr.trans (Fr.keeps hk (by omega) (by omega))).setFar (by simp; omega) _, h.lt, h.low⟩
  · rw [Below.heap_setCell _ _ _ _ (fun e => by rw [e, hcur] at hout; cases hout), List.length_set]; exact hout
  · obtain ⟨vs, a1, a2⟩ := h.texts
    exact ⟨vs, own_same a1 fun k cs fr _ hb => by
      have hb' := hk.cell hb (by simp)
      rw [Below.heap_setCell _ _ _ _ (fun e => by rw [e, hcur] at hb'; cases hb')]; exact hb', a2⟩
  · obtain ⟨i, hi, rfl⟩ := List.getElem_of_mem hy
    have hi' : i < hs.length := by simpa using hi
    by_cases hif : i = f
    · subst hif
      rw [List.getElem_set_self]
      exact ⟨hc.far hcur u, hn⟩
    · rw [List.getElem_set_ne (fun e => hif e.symm)]
      have hy' := h.funcs.code hs[i] (List.getElem_mem hi')
      exact ⟨(hy'.1.apart (hap i hi' hif) hbl).far hcur u, hy'.2⟩
end
end Go.Proofs.YtpmkfdinkomaiaaGreatDoor
