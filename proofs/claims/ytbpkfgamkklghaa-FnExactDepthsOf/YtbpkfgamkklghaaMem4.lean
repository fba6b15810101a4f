/-
  Which blocks of memory hold the texts, the functions and the instructions of a module that was copied, so that they may be written.
-/
import Derived.Test.YtbpkfgamkklghaaMem3
namespace Go.Proofs.Ytbpkfgamkklghaa
open Go.RowKit

def TextBlk (w : World) (g n : Nat) : Prop := ∃ cur : Array Value, w.heap[g]? = some (Obj.cells cur 9 (0, 0)) ∧ cur.size = n
def CodeBlk (w : World) (g n : Nat) : Prop := ∃ cur : Array Value, w.heap[g]? = some (Obj.cells cur 40 (0, 0)) ∧ cur.size = n * 2
def FnsBlk (w : World) (lo g : Nat) (fs : List Fn) : Prop := ∃ cur : Array Value, w.heap[g]? = some (Obj.cells cur 36 (0, 0)) ∧ cur.size = fs.length * 3 ∧
  ∀ j (hj : j < fs.length), ∃ gc, cur[j * 3 + 2]? = some (.slice (some ⟨gc, 0, none⟩) fs[j].code.length fs[j].code.length) ∧ lo ≤ gc ∧ CodeBlk w gc fs[j].code.length

theorem block_above {lo g : Nat} {w w' : World} {o : Obj} (h : Above lo w w') (hg : lo ≤ g) (hb : w.heap[g]? = some o) : w'.heap[g]? = some o := by
  have hlt : g < w.heap.size := by
    rcases Nat.lt_or_ge g w.heap.size with h' | h'
    · exact h'
    · rw [Array.getElem?_eq_none h'] at hb; cases hb
  rw [h g hg hlt]; exact hb
theorem TextBlk.mono {w w' : World} {g n : Nat} (h : TextBlk w g n) (hb : Below w.heap.size w w') : TextBlk w' g n := by
  obtain ⟨c, h1, h2⟩ := h
  exact ⟨c, block_kept h1 hb, h2⟩
theorem CodeBlk.mono {w w' : World} {g n : Nat} (h : CodeBlk w g n) (hb : Below w.heap.size w w') : CodeBlk w' g n := by
  obtain ⟨c, h1, h2⟩ := h
  exact ⟨c, block_kept h1 hb, h2⟩
theorem FnsBlk.mono {w w' : World} {lo g : Nat} {fs : List Fn} (h : FnsBlk w lo g fs) (hb : Below w.heap.size w w') : FnsBlk w' lo g fs := by
  obtain ⟨c, h1, h2, h3⟩ := h
  refine ⟨c, block_kept h1 hb, h2, fun j hj => ?_⟩
  obtain ⟨gc, a, b, d⟩ := h3 j hj
  exact ⟨gc, a, b, d.mono hb⟩
theorem TextBlk.above {w w' : World} {lo g n : Nat} (h : TextBlk w g n) (hb : Above lo w w') (hg : lo ≤ g) : TextBlk w' g n := by
  obtain ⟨c, h1, h2⟩ := h
  exact ⟨c, block_above hb hg h1, h2⟩
theorem CodeBlk.above {w w' : World} {lo g n : Nat} (h : CodeBlk w g n) (hb : Above lo w w') (hg : lo ≤ g) : CodeBlk w' g n := by
  obtain ⟨c, h1, h2⟩ := h
  exact ⟨c, block_above hb hg h1, h2⟩
theorem FnsBlk.above {w w' : World} {lo lo' g : Nat} {fs : List Fn} (h : FnsBlk w lo g fs) (hb : Above lo' w w') (hg : lo' ≤ g) (hl : lo' ≤ lo) : FnsBlk w' lo g fs := by
  obtain ⟨c, h1, h2, h3⟩ := h
  refine ⟨c, block_above hb hg h1, h2, fun j hj => ?_⟩
  obtain ⟨gc, a, b, d⟩ := h3 j hj
  exact ⟨gc, a, b, d.above hb (by omega)⟩
theorem FnsBlk.low {w : World} {lo lo' g : Nat} {fs : List Fn} (h : FnsBlk w lo g fs) (hl : lo' ≤ lo) : FnsBlk w lo' g fs := by
  obtain ⟨c, h1, h2, h3⟩ := h
  refine ⟨c, h1, h2, fun j hj => ?_⟩
  obtain ⟨gc, a, b, d⟩ := h3 j hj
  exact ⟨gc, a, by omega, d⟩
theorem TextBlk.shape {w w' : World} {g n : Nat} (h : TextBlk w g n) (hs : SameShape w w') : TextBlk w' g n := by
  obtain ⟨c, h1, h2⟩ := h
  obtain ⟨c', h3, h4⟩ := hs g c 9 h1
  exact ⟨c', h3, h4.trans h2⟩
theorem CodeBlk.shape {w w' : World} {g n : Nat} (h : CodeBlk w g n) (hs : SameShape w w') : CodeBlk w' g n := by
  obtain ⟨c, h1, h2⟩ := h
  obtain ⟨c', h3, h4⟩ := hs g c 40 h1
  exact ⟨c', h3, h4.trans h2⟩
end Go.Proofs.Ytbpkfgamkklghaa
