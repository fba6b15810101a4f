/-
  The drawing functions of the document's model: a function that is being put together in a box, and the module around it.
-/
import Derived.Test.YtpmkfdinkomaiaaGreatDoorD9
import Derived.Test.YtpmkfdinkomaiaaGreatDoorGQ7
import Derived.Deep.CutRange
namespace Go.Proofs.YtpmkfdinkomaiaaGreatDoor
open Go.RowKit

/-- A function that is being put together, in the box X; all that lay ahead of X at v is as it was, but the cursor. -/
structure XI (W v wr : World) (C : Nat) (xa : Option Addr) (bs : List Int) (xc M X : Nat) (p : Int) (ca : Option Addr) (n cc : Nat) : Prop where
  box : wr.heap[X]? = some (.cells #[.int .i64 p, .int .i64 2, .slice ca n cc] 48 (0, 0))
  code : RowI wr (X + 1) (.slice ca n cc) n
  cur : CurAt W wr C xa bs xc M
  fr : Fr C C X v wr
  lt : C < X
  low : W.heap.size ≤ X

section
variable {W v wr w' : World} {C : Nat} {xa : Option Addr} {bs : List Int} {xc M X : Nat} {p : Int} {ca : Option Addr} {n cc : Nat}
theorem XI.size (h : XI W v wr C xa bs xc M X p ca n cc) : X < wr.heap.size := lt_block h.box
theorem XI.px (h : XI W v wr C xa bs xc M X p ca n cc) {M' : Nat} (hC : CurAt W w' C xa bs xc M') (hP : Px C wr w') : XI W v w' C xa bs xc M' X p ca n cc := by
  have := h.lt
  exact ⟨by rw [hP.block _ (by omega)]; exact h.box, h.code.same (h.cur.same hP), hC, h.fr.trans (Fr.px hP), h.lt, h.low⟩
theorem XI.later (h : XI W v wr C xa bs xc M X p ca n cc) (hb : Below wr.heap.size wr w') : XI W v w' C xa bs xc M X p ca n cc :=
  ⟨block_kept h.box hb, h.code.same (Same.below hb), h.cur.later hb, h.fr.trans (Fr.below hb (Nat.le_of_lt h.size)), h.lt, h.low⟩
theorem XI.grow (h : XI W v wr C xa bs xc M X p ca n cc) {M' : Nat} (hM : M ≤ M') : XI W v wr C xa bs xc M' X p ca n cc := { h with cur := h.cur.grow hM }
/-- One instruction more. -/
theorem XI.app (h : XI W v wr C xa bs xc M X p ca n cc) {vs : List Value} (hvs : ∀ u ∈ vs, ∃ z : Int, u = .int .i64 z) (hk : Keeps (X + 1) [51] wr w') {g cp : Nat} {op x : Int}
    (hown : w'.ownsRow (X + 1) 51 2 (.slice (some ⟨g, 0, none⟩) (n + 1) cp) (n + 1) (vs ++ [.int .i64 op, .int .i64 x])) : XI W v (w'.setCell ⟨X, 2, none⟩ (.slice (some ⟨g, 0, none⟩) (n + 1) cp)) C xa bs xc M X p (some ⟨g, 0, none⟩) (n + 1) cp := by
  have hsz := h.size
  have hlt := h.lt
  have hlow := h.low
  have hb1 := hk.cell h.box (by simp)
  refine ⟨by simpa using block_set (i := 2) hb1 (.slice (some ⟨g, 0, none⟩) (n + 1) cp), ?_, (h.cur.keeps hk (by simp) (by omega) (by omega)).set (by simp; omega) (by simpa using hlow) _, (h.fr.trans (Fr.keeps hk (by omega) (by omega))).setFar (by simp) _, h.lt, h.low⟩
  refine RowI.keep (w := w') ⟨_, hown, ?_⟩ (fun k hk _ => Below.heap_setCell _ _ _ _ (by simp; omega))
  intro u hu
  rcases List.mem_append.1 hu with hu | hu
  · exact hvs u hu
  · simp at hu
    rcases hu with rfl | rfl
    · exact ⟨_, rfl⟩
    · exact ⟨_, rfl⟩
/-- An instruction's number written. -/
theorem XI.fix (h : XI W v wr C xa bs xc M X p ca n cc) {i : Nat} (hi : i < n) : ∃ g o a, ca = some ⟨g, 0, none⟩ ∧ X < g ∧ wr.cell? ⟨g, i * 2, none⟩ = some (.int .i64 o) ∧ wr.cell? ⟨g, i * 2 + 1, none⟩ = some (.int .i64 a) ∧ wr.frozen? ⟨g, i * 2 + 1, none⟩ = false ∧
    ∀ z : Int, XI W v (wr.setCell ⟨g, i * 2 + 1, none⟩ (.int .i64 z)) C xa bs xc M X p ca n cc := by
  have hlt := h.lt
  have hlow := h.low
  obtain ⟨vs, ho, hv⟩ := h.code
  rcases ho.2 with ⟨-, hz⟩ | ⟨g, cap, cur, e, hg, hh, h2, h3, h4, h5⟩
  · omega
  · cases e
    have hl := ho.1
    have hlt2 : i * 2 + 1 < cur.size := by omega
    have get : ∀ j, j < n * 2 → ∃ z : Int, cur[j]? = some (.int .i64 z) := fun j hj => by
      have hjv : j < vs.length := by omega
      obtain ⟨z, hz⟩ := hv vs[j] (List.getElem_mem hjv)
      refine ⟨z, ?_⟩
      have h6 : vs[j]? = some (.int .i64 z) := by rw [List.getElem?_eq_getElem hjv, hz]
      rw [← h5, List.getElem?_take_of_lt hj] at h6
      simpa using h6
    obtain ⟨o, ho1⟩ := get (i * 2) (by omega)
    obtain ⟨a, ha1⟩ := get (i * 2 + 1) (by omega)
    refine ⟨g, o, a, rfl, hg, by rw [block_cell hh]; exact ho1, by rw [block_cell hh]; exact ha1, block_free hh _, fun z => ?_⟩
    refine ⟨by rw [Below.heap_setCell _ _ _ _ (by simp; omega)]; exact h.box, ⟨vs.set (i * 2 + 1) (.int .i64 z), ⟨by rw [List.length_set]; exact ho.1, .inr ⟨g, cc, _, rfl, hg, block_set hh _, h2, h3, by simpa using h4, ?_⟩⟩, ?_⟩, h.cur.set (by simp; omega) (by simp; omega) _, h.fr.setFar (by simp; omega) _, h.lt, h.low⟩
    · rw [Array.toList_setIfInBounds, ← h5, List.take_set]
    · intro u hu
      rcases List.mem_or_eq_of_mem_set hu with hu | rfl
      · exact hv u hu
      · exact ⟨z, rfl⟩
end

/-- The odd module that is being drawn: the answer's block, its one text, the module's block, its functions. -/
structure OD (W w wr : World) (C : Nat) (xa : Option Addr) (bs : List Int) (xc M : Nat) (fa : Option Addr) (fc : Nat) (hs : List HF) : Prop where
  res : wr.heap[w.heap.size]? = some (.cells #[.slice none 0 0, .slice none 0 0] 27 (0, 0))
  txt : wr.heap[w.heap.size + 1]? = some (.cells #[.string ⟨#[97]⟩] 9 (0, 0))
  out : wr.heap[w.heap.size + 2]? = some (.cells #[.slice (some ⟨w.heap.size + 1, 0, none⟩) 1 1, .slice fa hs.length fc] 27 (0, 0))
  funcs : RowF wr (w.heap.size + 3) (.slice fa hs.length fc) hs
  cur : CurAt W wr C xa bs xc M
  fr : Fr C C w.heap.size w wr
  lt : C < w.heap.size
  low : W.heap.size ≤ w.heap.size

section
variable {W w wr w' : World} {C : Nat} {xa : Option Addr} {bs : List Int} {xc M : Nat} {fa : Option Addr} {fc : Nat} {hs : List HF}
theorem OD.size (h : OD W w wr C xa bs xc M fa fc hs) : w.heap.size + 2 < wr.heap.size := lt_block h.out
theorem OD.px (h : OD W w wr C xa bs xc M fa fc hs) {M' : Nat} (hC : CurAt W w' C xa bs xc M') (hP : Px C wr w') : OD W w w' C xa bs xc M' fa fc hs := by
  have := h.lt
  exact ⟨by rw [hP.block _ (by omega)]; exact h.res, by rw [hP.block _ (by omega)]; exact h.txt, by rw [hP.block _ (by omega)]; exact h.out, h.funcs.same (h.cur.same hP), hC, h.fr.trans (Fr.px hP), h.lt, h.low⟩
theorem OD.later (h : OD W w wr C xa bs xc M fa fc hs) (hb : Below wr.heap.size wr w') : OD W w w' C xa bs xc M fa fc hs :=
  ⟨block_kept h.res hb, block_kept h.txt hb, block_kept h.out hb, h.funcs.same (Same.below hb), h.cur.later hb, h.fr.trans (Fr.below hb h.fr.size), h.lt, h.low⟩
theorem OD.grow (h : OD W w wr C xa bs xc M fa fc hs) {M' : Nat} (hM : M ≤ M') : OD W w wr C xa bs xc M' fa fc hs := { h with cur := h.cur.grow hM }
/-- A box is laid for a function. -/
theorem OD.box (h : OD W w wr C xa bs xc M fa fc hs) (p : Int) : XI W wr (wr.alloc (.cells #[.int .i64 p, .int .i64 2, .slice none 0 0] 48)) C xa bs xc M wr.heap.size p none 0 0 := by
  have hb : Below wr.heap.size wr (wr.alloc (.cells #[.int .i64 p, .int .i64 2, .slice none 0 0] 48)) := (Below.refl _ _).alloc (Nat.le_refl _) _
  have h1 := h.size
  have h2 := h.lt
  have h3 := h.low
  exact ⟨block_new _ _ _, ⟨[], ⟨rfl, .inl ⟨rfl, rfl⟩⟩, by simp⟩, h.cur.later hb, Fr.below hb (Nat.le_refl _), by omega, by omega⟩
/-- Behind the function's putting together the module is as it was. -/
theorem OD.back (h : OD W w wr C xa bs xc M fa fc hs) {M' X : Nat} {p : Int} {ca : Option Addr} {n cc : Nat} (hx : XI W wr w' C xa bs xc M' X p ca n cc) (hX : X = wr.heap.size) : OD W w w' C xa bs xc M' fa fc hs := by
  have h1 := h.size
  have h2 := h.lt
  have hk : ∀ k, k < wr.heap.size → k ≠ C → w'.heap[k]? = wr.heap[k]? := fun k hk hC => hx.fr.block k (by omega) hC hC
  exact ⟨by rw [hk _ (by omega) (by omega)]; exact h.res, by rw [hk _ (by omega) (by omega)]; exact h.txt, by rw [hk _ (by omega) (by omega)]; exact h.out, h.funcs.same (h.cur.sameC hx.fr (by omega)), hx.cur, h.fr.trans (hx.fr.low (by omega)), h.lt, h.low⟩
/-- One function more. -/
theorem OD.add (h : OD W w wr C xa bs xc M fa fc hs) (f : HF) (hf : RowI wr (w.heap.size + 3) (.slice f.ca f.n f.cc) f.n) (h1 : 1 ≤ f.n) (h2 : f.n ≤ 60000) (hk : Keeps (w.heap.size + 3) [48] wr w') {g c : Nat}
    (hown : w'.ownsRow (w.heap.size + 3) 48 3 (.slice (some ⟨g, 0, none⟩) (hs.length + 1) c) (hs.length + 1) (flatF hs ++ [.int .i64 f.p, .int .i64 f.l, .slice f.ca f.n f.cc])) :
    OD W w (w'.setCell ⟨w.heap.size + 2, 1, none⟩ (.slice (some ⟨g, 0, none⟩) (hs.length + 1) c)) C xa bs xc M (some ⟨g, 0, none⟩) c (hs ++ [f]) := by
  have hsz := h.size
  have hlt := h.lt
  have hlow := h.low
  have ho := hk.cell h.out (by simp)
  have hle : (hs ++ [f]).length = hs.length + 1 := by simp
  have hs' : Same w' (w'.setCell ⟨w.heap.size + 2, 1, none⟩ (.slice (some ⟨g, 0, none⟩) (hs.length + 1) c)) := Same.set (Same.refl _) ho (by omega) _ _
  refine ⟨?_, ?_, ?_, ?_, (h.cur.keeps hk (by simp) (by omega) (by omega)).set (by simp; omega) (by simp; omega) _, (h.fr.trans (Fr.keeps hk (by omega) (by omega))).setFar (by simp) _, h.lt, h.low⟩
  · rw [Below.heap_setCell _ _ _ _ (by simp)]; exact hk.cell h.res (by simp)
  · rw [Below.heap_setCell _ _ _ _ (by simp)]; exact hk.cell h.txt (by simp)
  · rw [hle]; simpa using block_set (i := 1) ho (.slice (some ⟨g, 0, none⟩) (hs.length + 1) c)
  · rw [hle]; exact (h.funcs.add f hf h1 h2 hk hown).same hs'
end
end Go.Proofs.YtpmkfdinkomaiaaGreatDoor
