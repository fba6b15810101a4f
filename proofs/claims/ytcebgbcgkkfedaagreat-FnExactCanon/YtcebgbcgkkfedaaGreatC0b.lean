/-
  The values of a state that is ok name records that are there.
-/
import Derived.Test.YtcebgbcgkkfedaaGreatQ2
import Derived.Test.YtcebgbcgkkfedaaGreatC0
namespace Go.Proofs.YtcebgbcgkkfedaaGreat
open Go.RowKit

theorem named_of {nf H : Nat} {v : Vl} (h : okB nf H v = true) : Named H v := by
  intro e
  unfold okB valB at h
  rw [e] at h
  simp at h
  omega
theorem AllNamed.of {nf : Nat} {d : VmD} (h : Vals nf d) : AllNamed d := by
  obtain ⟨h1, h2, h3⟩ := h
  rw [List.all_eq_true] at h1 h2
  refine ⟨fun f hf => ?_, fun r hr v hv => ?_, named_of h3⟩
  · have := h1 f hf
    simp only [frVals, valsB, Bool.and_eq_true, List.all_eq_true] at this
    exact ⟨fun v hv => named_of (this.1 v hv), fun v hv => named_of (this.2 v hv)⟩
  · have := h2 r hr
    simp only [reVals, valsB, List.all_eq_true] at this
    exact named_of (this v hv)
end Go.Proofs.YtcebgbcgkkfedaaGreat
