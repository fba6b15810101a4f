/-
  How the document's canon grows by a frame, by a record, and gets its value.
-/
import Derived.Test.YtcebgbcgkkfedaaGreatG3
namespace Go.Proofs.YtcebgbcgkkfedaaGreat
open Go.RowKit

theorem own_down {w : World} {B B' e size n : Nat} {v : Value} {xs : List Value} (h : w.ownsRow B e size v n xs) (hB : B' ≤ B) : w.ownsRow B' e size v n xs := by
  refine ⟨h.1, ?_⟩
  rcases h.2 with ⟨e, hn⟩ | ⟨b, cap, cur, e, hb, r⟩
  · exact .inl ⟨e, hn⟩
  · exact .inr ⟨b, cap, cur, e, Nat.le_trans hB hb, r⟩

theorem WalkAt.keep {w w' : World} {Wb B0 B H B1 : Nat} {ts : List Nat} {hv nv lv : Value} {ms : List Nat} (h : WalkAt w Wb B0 B hv H nv lv ms) (hk : Keeps B1 ts w w') (h87 : 87 ∉ ts) (h3 : 3 ∉ ts) : WalkAt w' Wb B0 B hv H nv lv ms :=
  ⟨hk.cell h.blk h87, own_keep h.news hk h3, own_keep h.list hk h3, h.low, h.wb, h.bb⟩

section
variable {w wr w' : World} {B V : Nat} {d : VmD} {hv fv rv ov fv' rv' : Value} {fr : List Fr} {LF : List Value} {rs : List (List Vl)} {LR : List Value} {vl : Vl} {ms : List Nat} {IA RA : Array Value}

/-- A cell of the state that is made is written: all else is as it was. -/
theorem SInv.vset {i : Nat} {u : Value} (h : SInv w wr B V d hv fv rv ov fr LF rs LR vl ms IA RA) (hk : Keeps w.heap.size [38] wr (wr.setCell ⟨V, i, none⟩ u)) :
    (∃ nv lv, WalkAt (wr.setCell ⟨V, i, none⟩ u) (w.heap.size + 1 + 1) w.heap.size B hv d.heap.length nv lv ms) ∧ FrsOwn (wr.setCell ⟨V, i, none⟩ u) w.heap.size fv fr LF ∧ RecsOwn (wr.setCell ⟨V, i, none⟩ u) w.heap.size rv rs LR ∧ (wr.setCell ⟨V, i, none⟩ u).ownsRow w.heap.size 9 1 ov d.out.length (d.out.map Value.string) ∧ (wr.setCell ⟨V, i, none⟩ u).heap[w.heap.size]? = some (.cells IA 38 (0, 0)) ∧ (wr.setCell ⟨V, i, none⟩ u).heap[w.heap.size + 1]? = some (.cells RA 38 (0, 0)) ∧ Below w.heap.size w (wr.setCell ⟨V, i, none⟩ u) ∧ B ≤ (wr.setCell ⟨V, i, none⟩ u).heap.size := by
  obtain ⟨nv, lv, hw⟩ := h.walk
  have hvb := h.vb
  refine ⟨⟨nv, lv, hw.keep hk (by decide) (by decide)⟩, h.frs.keep hk (by decide) (by decide), h.recs.keep hk (by decide) (by decide), own_keep h.strs hk (by decide), ?_, ?_, h.below.setCell (by show w.heap.size ≤ V; omega) _, by have := h.bs; simpa using this⟩
  · rw [Below.heap_setCell _ _ _ _ (by show w.heap.size ≠ V; omega)]; exact h.inb
  · rw [Below.heap_setCell _ _ _ _ (by show w.heap.size + 1 ≠ V; omega)]; exact h.res
theorem SInv.kv (h : SInv w wr B V d hv fv rv ov fr LF rs LR vl ms IA RA) (i : Nat) (u : Value) : Keeps w.heap.size [38] wr (wr.setCell ⟨V, i, none⟩ u) :=
  (Keeps.refl _ _ _).set h.out (by simp) (by have := h.vb; omega) _ _

theorem SInv.addF (h : SInv w wr B V d hv fv rv ov fr LF rs LR vl ms IA RA) (hk : Keeps w.heap.size [90] wr w') {fr' : List Fr} {LF' : List Value} (hF : FrsOwn w' w.heap.size fv' fr' LF') : SInv w (w'.setCell ⟨V, 0, none⟩ fv') B V d hv fv' rv ov fr' LF' rs LR vl ms IA RA := by
  obtain ⟨nv, lv, hw⟩ := h.walk
  have hvb := h.vb
  have hV := hk.cell h.out (by decide)
  have hk2 : Keeps w.heap.size [38] w' (w'.setCell ⟨V, 0, none⟩ fv') := (Keeps.refl _ _ _).set hV (by simp) (by omega) _ _
  refine ⟨⟨nv, lv, (hw.keep hk (by decide) (by decide)).keep hk2 (by decide) (by decide)⟩, by simpa using block_set (i := 0) hV fv', hF.keep hk2 (by decide) (by decide), (h.recs.keep hk (by decide) (by decide)).keep hk2 (by decide) (by decide), own_keep (own_keep h.strs hk (by decide)) hk2 (by decide), ?_, ?_, (h.below.trans (hk.toBelow h.below.size)).setCell (by show w.heap.size ≤ V; omega) _, by have h1 := h.bs; have h2 := hk.size; have h3 := hk2.size; omega, hvb, h.met⟩
  · rw [Below.heap_setCell _ _ _ _ (by show w.heap.size ≠ V; omega)]; exact hk.cell h.inb (by decide)
  · rw [Below.heap_setCell _ _ _ _ (by show w.heap.size + 1 ≠ V; omega)]; exact hk.cell h.res (by decide)
theorem SInv.addR (h : SInv w wr B V d hv fv rv ov fr LF rs LR vl ms IA RA) (hk : Keeps w.heap.size [94] wr w') {rs' : List (List Vl)} {LR' : List Value} (hR : RecsOwn w' w.heap.size rv' rs' LR') : SInv w (w'.setCell ⟨V, 1, none⟩ rv') B V d hv fv rv' ov fr LF rs' LR' vl ms IA RA := by
  obtain ⟨nv, lv, hw⟩ := h.walk
  have hvb := h.vb
  have hV := hk.cell h.out (by decide)
  have hk2 : Keeps w.heap.size [38] w' (w'.setCell ⟨V, 1, none⟩ rv') := (Keeps.refl _ _ _).set hV (by simp) (by omega) _ _
  refine ⟨⟨nv, lv, (hw.keep hk (by decide) (by decide)).keep hk2 (by decide) (by decide)⟩, by simpa using block_set (i := 1) hV rv', (h.frs.keep hk (by decide) (by decide)).keep hk2 (by decide) (by decide), hR.keep hk2 (by decide) (by decide), own_keep (own_keep h.strs hk (by decide)) hk2 (by decide), ?_, ?_, (h.below.trans (hk.toBelow h.below.size)).setCell (by show w.heap.size ≤ V; omega) _, by have h1 := h.bs; have h2 := hk.size; have h3 := hk2.size; omega, hvb, h.met⟩
  · rw [Below.heap_setCell _ _ _ _ (by show w.heap.size ≠ V; omega)]; exact hk.cell h.inb (by decide)
  · rw [Below.heap_setCell _ _ _ _ (by show w.heap.size + 1 ≠ V; omega)]; exact hk.cell h.res (by decide)
theorem SInv.setVal (h : SInv w wr B V d hv fv rv ov fr LF rs LR vl ms IA RA) (u : Vl) : SInv w (((wr.setCell ⟨V, 6, none⟩ (.int .i64 u.k)).setCell ⟨V, 7, none⟩ (.int .i64 u.n)).setCell ⟨V, 8, none⟩ (.string u.s)) B V d hv fv rv ov fr LF rs LR u ms IA RA := by
  have a : SInv w (wr.setCell ⟨V, 6, none⟩ (.int .i64 u.k)) B V d hv fv rv ov fr LF rs LR ⟨u.k, vl.n, vl.s⟩ ms IA RA := by
    obtain ⟨h1, h2, h3, h4, h5, h6, h7, h8⟩ := h.vset (h.kv 6 (.int .i64 u.k))
    exact ⟨h1, by simpa using block_set (i := 6) h.out (.int .i64 u.k), h2, h3, h4, h5, h6, h7, h8, h.vb, h.met⟩
  have b : SInv w ((wr.setCell ⟨V, 6, none⟩ (.int .i64 u.k)).setCell ⟨V, 7, none⟩ (.int .i64 u.n)) B V d hv fv rv ov fr LF rs LR ⟨u.k, u.n, vl.s⟩ ms IA RA := by
    obtain ⟨h1, h2, h3, h4, h5, h6, h7, h8⟩ := a.vset (a.kv 7 (.int .i64 u.n))
    exact ⟨h1, by simpa using block_set (i := 7) a.out (.int .i64 u.n), h2, h3, h4, h5, h6, h7, h8, h.vb, h.met⟩
  obtain ⟨h1, h2, h3, h4, h5, h6, h7, h8⟩ := b.vset (b.kv 8 (.string u.s))
  exact ⟨h1, by simpa using block_set (i := 8) b.out (.string u.s), h2, h3, h4, h5, h6, h7, h8, h.vb, h.met⟩

end
end Go.Proofs.YtcebgbcgkkfedaaGreat
