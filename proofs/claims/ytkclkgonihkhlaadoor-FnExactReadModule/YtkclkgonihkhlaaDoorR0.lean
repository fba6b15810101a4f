/-
  A text cut at each of a byte, on plain data.
-/
import Derived.Test.YtkclkgonihkhlaaDoorT1
namespace Go.Proofs.YtkclkgonihkhlaaDoor
open Go.RowKit

/-- Bytes put ahead of the first piece. -/
def glue (p : List UInt8) : List (List UInt8) → List (List UInt8)
  | [] => [p]
  | h :: t => (p ++ h) :: t
/-- The pieces between the bytes that are 'y'; there is always one. -/
def cuts (y : UInt8) : List UInt8 → List (List UInt8)
  | [] => [[]]
  | c :: l => if c = y then [] :: cuts y l else glue [c] (cuts y l)

theorem glue_glue (p q : List UInt8) (L : List (List UInt8)) : glue p (glue q L) = glue (p ++ q) L := by cases L <;> simp [glue]
theorem cuts_ne (y : UInt8) (l : List UInt8) : cuts y l ≠ [] := by
  cases l with
  | nil => simp [cuts]
  | cons c l =>
    rw [cuts]
    split
    · simp
    · cases cuts y l <;> simp [glue]
theorem glue_nil {L : List (List UInt8)} (h : L ≠ []) : glue [] L = L := by cases L <;> simp_all [glue]
theorem cuts_hit {y : UInt8} {p l : List UInt8} : glue p (cuts y (y :: l)) = p :: glue [] (cuts y l) := by
  rw [cuts, if_pos rfl, glue_nil (cuts_ne y l)]
  simp [glue]
theorem cuts_miss {y c : UInt8} {p l : List UInt8} (h : c ≠ y) : glue p (cuts y (c :: l)) = glue (p ++ [c]) (cuts y l) := by rw [cuts, if_neg h, glue_glue]
theorem cuts_end {y : UInt8} {p : List UInt8} : glue p (cuts y []) = [p] := by simp [cuts, glue]

/-- A run of bytes without 'y' in it, then 'y', then the rest. -/
theorem cuts_app (y : UInt8) : ∀ (p l : List UInt8), y ∉ p → cuts y (p ++ y :: l) = p :: cuts y l := by
  intro p
  induction p with
  | nil => intro l _; simp [cuts]
  | cons c p ih =>
    intro l h
    rw [List.cons_append, cuts, if_neg (by intro e; subst e; simp at h), ih l (by intro hm; exact h (List.mem_cons_of_mem _ hm))]
    simp [glue]
theorem cuts_none (y : UInt8) : ∀ (p : List UInt8), y ∉ p → cuts y p = [p] := by
  intro p
  induction p with
  | nil => intro _; rfl
  | cons c p ih =>
    intro h
    rw [cuts, if_neg (by intro e; subst e; simp at h), ih (by intro hm; exact h (List.mem_cons_of_mem _ hm))]
    simp [glue]
theorem cuts_len (y : UInt8) : ∀ (l : List UInt8), (cuts y l).length ≤ l.length + 1 := by
  intro l
  induction l with
  | nil => simp [cuts]
  | cons c l ih =>
    rw [cuts]
    split
    · simp; omega
    · have : (glue [c] (cuts y l)).length = (cuts y l).length := by
        have := cuts_ne y l
        cases hc : cuts y l <;> simp_all [glue]
      rw [this]
      simp
      omega

/-- The same of a text. -/
def cutsB (y : UInt8) (s : ByteArray) : List ByteArray := (cuts y s.data.toList).map fun l => ⟨l.toArray⟩
theorem cutsB_len (y : UInt8) (s : ByteArray) : (cutsB y s).length ≤ s.size + 1 := by
  have := cuts_len y s.data.toList
  rw [Array.length_toList] at this
  simp only [cutsB, List.length_map]
  exact this
end Go.Proofs.YtkclkgonihkhlaaDoor
