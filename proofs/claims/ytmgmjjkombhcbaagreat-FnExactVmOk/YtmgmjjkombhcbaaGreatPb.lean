/-
  What is so, as a bool.
-/
import Derived.Test.YtmgmjjkombhcbaaGreatQ2
namespace Go.Proofs.YtmgmjjkombhcbaaGreat
open Go.RowKit

open Classical in
noncomputable def pB (P : Prop) : Bool := decide P
theorem Says.eq {P : Prop} {e : Ending} (h : Says P e) : e = .returned (.bool (pB P)) := by
  obtain ⟨b, rfl, hb⟩ := h
  rw [show b = pB P by rw [Bool.eq_iff_iff, hb]; simp [pB]]
theorem pB_yes {P : Prop} (h : P) : pB P = true := by simpa [pB] using h
theorem pB_no {P : Prop} (h : ¬ P) : pB P = false := by simpa [pB] using h
theorem ret_pB {b : Bool} {P : Prop} (h : b = true ↔ P) : Ending.returned (.bool b) = .returned (.bool (pB P)) := by
  by_cases hp : P
  · rw [pB_yes hp, h.2 hp]
  · rw [pB_no hp]
    cases b
    · rfl
    · exact absurd (h.1 rfl) hp
end Go.Proofs.YtmgmjjkombhcbaaGreat
