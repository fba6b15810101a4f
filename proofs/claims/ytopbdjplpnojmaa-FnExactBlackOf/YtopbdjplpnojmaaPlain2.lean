/-
  More that is known of the functions of the text Plain.
-/
import Derived.Test.YtopbdjplpnojmaaPlain
namespace Go.Proofs.Ytopbdjplpnojmaa

theorem lt_block {w : World} {g : Nat} {o : Obj} (h : w.heap[g]? = some o) : g < w.heap.size := by
  rcases Nat.lt_or_ge g w.heap.size with h' | h'
  · exact h'
  · rw [Array.getElem?_eq_none h'] at h; cases h

theorem fnB_no {nt nf : Int} {f : Fn} (h : ¬ (0 ≤ f.params ∧ f.params ≤ 6 ∧ f.params ≤ f.locals ∧ f.locals ≤ 12 ∧ 1 ≤ f.code.length ∧ f.code.length ≤ 120)) : fnB nt nf f = false := by
  rw [Bool.eq_false_iff]
  intro hc
  apply h
  unfold fnB at hc
  simp only [Bool.and_eq_true, decide_eq_true_eq] at hc
  omega
theorem fnB_all {nt nf : Int} {f : Fn} (h : 0 ≤ f.params ∧ f.params ≤ 6 ∧ f.params ≤ f.locals ∧ f.locals ≤ 12 ∧ 1 ≤ f.code.length ∧ f.code.length ≤ 120) : fnB nt nf f = f.code.all fun x => insB nt nf f.locals f.code.length x.1 x.2 := by
  obtain ⟨h1, h2, h3, h4, h5, h6⟩ := h
  unfold fnB
  rw [decide_eq_true h1, decide_eq_true h2, decide_eq_true h3, decide_eq_true h4, decide_eq_true h5, decide_eq_true h6]
  rfl
theorem modB_no {ts : List ByteArray} {fs : List Fn} (h : ¬ (1 ≤ fs.length ∧ fs.length ≤ 12 ∧ ts.length ≤ 20)) : modB ts fs = false := by
  rw [Bool.eq_false_iff]
  intro hc
  apply h
  unfold modB at hc
  simp only [Bool.and_eq_true, decide_eq_true_eq] at hc
  omega
theorem modB_all {ts : List ByteArray} {fs : List Fn} (h : 1 ≤ fs.length ∧ fs.length ≤ 12 ∧ ts.length ≤ 20) : modB ts fs = (ts.all textB && fs.all fun f => fnB ts.length fs.length f) := by
  obtain ⟨h1, h2, h3⟩ := h
  unfold modB
  rw [decide_eq_true h1, decide_eq_true h2, decide_eq_true h3]
  rfl
end Go.Proofs.Ytopbdjplpnojmaa
