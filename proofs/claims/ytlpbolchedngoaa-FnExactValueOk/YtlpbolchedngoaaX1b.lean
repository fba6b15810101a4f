/-
  Values: two facts on memory and on the empty text.
-/
import Derived.Test.YtlpbolchedngoaaX1
namespace Go.Proofs.Ytlpbolchedngoaa
open Go.RowKit

theorem block_new_at (w : World) (C : Array Value) (t : TypeId) (g : Nat) (h : w.heap.size = g) : (w.alloc (.cells C t)).heap[g]? = some (.cells C t (0, 0)) := by
  subst h
  exact block_new w C t
theorem not_empty {s : ByteArray} (h : s ≠ ⟨#[]⟩) : (([] : List UInt8) == s.toList) = false ∧ (s.toList == ([] : List UInt8)) = false := by
  have h' : s.toList ≠ [] := by
    intro e
    apply h
    apply ByteArray.ext
    have : s.data.toList = [] := by simpa [ByteArray.toList_eq] using e
    simpa using this
  constructor
  · rw [beq_eq_false_iff_ne]; exact Ne.symm h'
  · rw [beq_eq_false_iff_ne]; exact h'

end Go.Proofs.Ytlpbolchedngoaa
