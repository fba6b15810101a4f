/-
  What strings.Builder's String gives.
-/
import Derived.Test.YtedjabgkdogkfaaDoorU4
import Derived.Test.YtedjabgkdogkfaaDoorShelf
import Derived.Deep.CutRange
namespace Go.Proofs.YtedjabgkdogkfaaDoor
open Go.RowKit

theorem string_is (B b : Nat) (s : ByteArray) (w : World) (h : Bld w B b s) (hBw : B ≤ w.heap.size) : Calls Tryd.prog 28 #[.pointer (some ⟨b, 0, none⟩)] w fun e w' => e = .returned (.string s) ∧ Below B w w' := by
  obtain ⟨hB, p, v, hb, hp, ht⟩ := h
  have hown : w.ownsRow B 5 1 v (Lib.strCells s).length (Lib.strCells s) := by rw [Lib.strCells_length]; exact ht
  have hne := Lib.ownBlock_ne hown hb (by decide)
  have hat : Lib.IsBuilderF 59 5 B b (Lib.byteCells s.data.toList) w := by
    refine Lib.IsBuilderF.of ?_
    rcases hp with rfl | rfl
    · exact Or.inl ⟨hB, v, hb, hown, hne⟩
    · exact Or.inr ⟨hB, v, hb, hown, hne⟩
  refine (Tryd.Builder_String_any_k B b s.data.toList w hat hBw).mono ?_
  rintro e w' ⟨rfl, -, hbe, -⟩
  exact ⟨by simp, hbe⟩

end Go.Proofs.YtedjabgkdogkfaaDoor
