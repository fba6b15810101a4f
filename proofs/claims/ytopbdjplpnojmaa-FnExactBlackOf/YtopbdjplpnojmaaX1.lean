/-
  Values: a value as the program's own kind of thing, what is named by its kind, and whether that is as the document's table says.
  Values: two facts on memory and on the empty text.
-/
import Derived.Test.YtopbdjplpnojmaaW7
import Derived.Test.YtopbdjplpnojmaaW8
import Derived.Laws.StructEq
namespace Go.Proofs.Ytopbdjplpnojmaa
open Go.RowKit

/-- A number of the machine. -/
def num (n : Int) : Bool := decide (-1000000000 ≤ n) && decide (n ≤ 1000000000)

set_option maxHeartbeats 400000 in
theorem toValue_any (k n : Int) (s : ByteArray) (w : World) :
    Calls Try.prog 39 #[.agg #[.int .i64 k, .int .i64 n, .string s]] w fun e w' => e = .returned (.agg #[.int .i64 k, .int .i64 n, .string s]) ∧ Below w.heap.size w w' := by
  go_enter Try.func39, Try.ntmps39
  go_wp2
  refine bodyPost_ret (v := .agg #[.int .i64 k, .int .i64 n, .string s]) (by simp [results, Try.results39, go_sem]) rfl ⟨rfl, ?_⟩
  repeat (first | exact Below.refl _ _ | refine Below.alloc ?_ (by first | exact Nat.le_refl _ | (simp <;> omega)) _ | refine Below.setCell ?_ (by first | exact Nat.le_refl _ | (simp <;> omega)) _)

set_option maxHeartbeats 400000 in
theorem szVal_any (k n l : Int) (s : ByteArray) (w : World) (h0 : 0 ≤ l) (h1 : l ≤ 1048576) (hs : s.size ≤ maxLen) :
    Calls Try.prog 34 #[.agg #[.int .i64 k, .int .i64 n, .string s], .int .i64 l] w fun e w' => e = .returned (.int .i64 (if l < (s.size : Int) then -1 else l - (s.size : Int))) ∧ Below w.heap.size w w' := by
  unfold maxLen at hs
  by_cases h : l < (s.size : Int)
  · rw [if_pos h]
    go_enter Try.func34, Try.ntmps34
    go_wp2
    go_ret
    exact ⟨rfl, (Below.refl _ _).alloc (Nat.le_refl _) _⟩
  · rw [if_neg h]
    go_enter Try.func34, Try.ntmps34
    go_wp2
    go_ret
    exact ⟨rfl, (Below.refl _ _).alloc (Nat.le_refl _) _⟩

end Go.Proofs.Ytopbdjplpnojmaa
namespace Go.Proofs.Ytopbdjplpnojmaa
open Go.RowKit

theorem block_new_at (w : World) (C : Array Value) (t : TypeId) (g : Nat) (h : w.heap.size = g) : (w.alloc (.cells C t)).heap[g]? = some (.cells C t (0, 0)) := by
  subst h
  exact block_new w C t
theorem not_empty {s : ByteArray} (h : s ≠ ⟨#[]⟩) : (([] : List UInt8) == s.toList) = false ∧ (s.toList == ([] : List UInt8)) = false := by
  have h' : s.toList ≠ [] := by
    intro e
    apply h
    apply ByteArray.ext
    have : s.data.toList = [] := by simpa [ByteArray.toList_eq] using e
    simpa using this
  constructor
  · rw [beq_eq_false_iff_ne]; exact Ne.symm h'
  · rw [beq_eq_false_iff_ne]; exact h'

end Go.Proofs.Ytopbdjplpnojmaa
