/-
  When a text, an instruction, a function and a module are ok, as functions on plain data, and what is known of them.
  More that is known of the functions of the text Plain.
-/
import Derived.Test.YtmmcockkbhnopaaGreatOV1
namespace Go.Proofs.YtmmcockkbhnopaaGreat

def byteB (c : UInt8) : Bool := decide (32 ≤ c.toNat) && decide (c.toNat ≤ 126) && decide (c.toNat ≠ 34)
/-- A text that may stand in a module. -/
def textB (s : ByteArray) : Bool := decide (s.size ≤ 60) && s.data.toList.all byteB

theorem textB_no {s : ByteArray} {k : Nat} (hk : k < s.size) (h : byteB s[k] = false) : textB s = false := by
  unfold textB
  rw [Bool.and_eq_false_iff]
  right
  rw [List.all_eq_false]
  exact ⟨s[k], by simp [ByteArray.getElem_eq_getElem_data], by simp [h]⟩

theorem textB_yes {s : ByteArray} (h60 : s.size ≤ 60) (h : ∀ j (hj : j < s.size), byteB s[j] = true) : textB s = true := by
  unfold textB
  rw [Bool.and_eq_true]
  refine ⟨by simpa using h60, ?_⟩
  rw [List.all_eq_true]
  intro x hx
  obtain ⟨i, hi, rfl⟩ := List.getElem_of_mem hx
  exact h i (by simpa using hi)

/-- What an instruction may be, in a function of 'nc' instructions and 'loc' locals of a module of 'nt' texts and 'nf' functions. -/
def insB (nt nf loc nc op a : Int) : Bool :=
  if op = 1 then decide (-1000000000 ≤ a) && decide (a ≤ 1000000000)
  else if op = 2 then decide (0 ≤ a) && decide (a ≤ 1)
  else if op = 3 then decide (0 ≤ a) && decide (a < nt)
  else if op = 5 ∨ op = 24 then decide (0 ≤ a) && decide (a < nf)
  else if op = 6 ∨ op = 7 then decide (0 ≤ a) && decide (a < loc)
  else if op = 17 ∨ op = 18 ∨ op = 19 then decide (0 ≤ a) && decide (a < nc)
  else if op = 20 then decide (0 ≤ a) && decide (a ≤ 6)
  else if op = 21 ∨ op = 22 then decide (0 ≤ a) && decide (a ≤ 5)
  else if op = 23 then decide (0 ≤ a) && decide (a ≤ 6)
  else decide (1 ≤ op) && decide (op ≤ 26) && decide (a = 0)

/-- The least A of an Op, and the number behind the greatest. -/
def boundsB (nt nf loc nc op : Int) : Int × Int :=
  if op = 1 then (-1000000000, 1000000001)
  else if op = 2 then (0, 2)
  else if op = 3 then (0, nt)
  else if op = 5 ∨ op = 24 then (0, nf)
  else if op = 6 ∨ op = 7 then (0, loc)
  else if op = 17 ∨ op = 18 ∨ op = 19 then (0, nc)
  else if op = 20 then (0, 7)
  else if op = 21 ∨ op = 22 then (0, 6)
  else if op = 23 then (0, 7)
  else if 1 ≤ op ∧ op ≤ 26 then (0, 1)
  else (0, 0)

theorem ops_cases (op : Int) : op = 1 ∨ op = 2 ∨ op = 3 ∨ op = 4 ∨ op = 5 ∨ op = 6 ∨ op = 7 ∨ op = 8 ∨ op = 9 ∨ op = 10 ∨ op = 11 ∨ op = 12 ∨ op = 13 ∨ op = 14 ∨ op = 15 ∨ op = 16 ∨ op = 17 ∨ op = 18 ∨ op = 19 ∨ op = 20 ∨ op = 21 ∨ op = 22 ∨ op = 23 ∨ op = 24 ∨ op = 25 ∨ op = 26 ∨ op < 1 ∨ 26 < op := by omega

theorem boundsB_out {nt nf loc nc op : Int} (h : op < 1 ∨ 26 < op) : boundsB nt nf loc nc op = (0, 0) := by
  unfold boundsB
  repeat' split
  all_goals first | rfl | omega

theorem insB_out {nt nf loc nc op a : Int} (h : op < 1 ∨ 26 < op) : insB nt nf loc nc op a = false := by
  rw [Bool.eq_false_iff]
  unfold insB
  repeat' split
  all_goals simp
  all_goals omega

theorem insB_bounds (nt nf loc nc op a : Int) : (decide ((boundsB nt nf loc nc op).1 ≤ a) && decide (a < (boundsB nt nf loc nc op).2)) = insB nt nf loc nc op a := by
  rw [Bool.eq_iff_iff]
  unfold boundsB insB
  repeat' split
  all_goals simp
  all_goals omega

def fnB (nt nf : Int) (f : Fn) : Bool :=
  decide (0 ≤ f.params) && decide (f.params ≤ 6) && decide (f.params ≤ f.locals) && decide (f.locals ≤ 12) && decide (1 ≤ f.code.length) && decide (f.code.length ≤ 120) &&
    f.code.all fun x => insB nt nf f.locals f.code.length x.1 x.2

def modB (ts : List ByteArray) (fs : List Fn) : Bool :=
  decide (1 ≤ fs.length) && decide (fs.length ≤ 12) && decide (ts.length ≤ 20) && ts.all textB && fs.all fun f => fnB ts.length fs.length f

theorem all_take {α : Type} {l : List α} {p : α → Bool} {k : Nat} (h : k < l.length) (h1 : (l.take k).all p = true) (h2 : p l[k] = true) : (l.take (k + 1)).all p = true := by
  rw [List.take_succ_eq_append_getElem h, List.all_append, h1, List.all_cons, h2]
  rfl
theorem all_no {α : Type} {l : List α} {p : α → Bool} {k : Nat} (h : k < l.length) (h2 : p l[k] = false) : l.all p = false := by
  rw [List.all_eq_false]
  exact ⟨l[k], List.getElem_mem h, by simp [h2]⟩
theorem all_end {α : Type} {l : List α} {p : α → Bool} {k : Nat} (h : l.length ≤ k) (h1 : (l.take k).all p = true) : l.all p = true := by
  rwa [List.take_of_length_le h] at h1
end Go.Proofs.YtmmcockkbhnopaaGreat

namespace Go.Proofs.YtmmcockkbhnopaaGreat

theorem lt_block {w : World} {g : Nat} {o : Obj} (h : w.heap[g]? = some o) : g < w.heap.size := by
  rcases Nat.lt_or_ge g w.heap.size with h' | h'
  · exact h'
  · rw [Array.getElem?_eq_none h'] at h; cases h

theorem fnB_no {nt nf : Int} {f : Fn} (h : ¬ (0 ≤ f.params ∧ f.params ≤ 6 ∧ f.params ≤ f.locals ∧ f.locals ≤ 12 ∧ 1 ≤ f.code.length ∧ f.code.length ≤ 120)) : fnB nt nf f = false := by
  rw [Bool.eq_false_iff]
  intro hc
  apply h
  unfold fnB at hc
  simp only [Bool.and_eq_true, decide_eq_true_eq] at hc
  omega
theorem fnB_all {nt nf : Int} {f : Fn} (h : 0 ≤ f.params ∧ f.params ≤ 6 ∧ f.params ≤ f.locals ∧ f.locals ≤ 12 ∧ 1 ≤ f.code.length ∧ f.code.length ≤ 120) : fnB nt nf f = f.code.all fun x => insB nt nf f.locals f.code.length x.1 x.2 := by
  obtain ⟨h1, h2, h3, h4, h5, h6⟩ := h
  unfold fnB
  rw [decide_eq_true h1, decide_eq_true h2, decide_eq_true h3, decide_eq_true h4, decide_eq_true h5, decide_eq_true h6]
  rfl
theorem modB_no {ts : List ByteArray} {fs : List Fn} (h : ¬ (1 ≤ fs.length ∧ fs.length ≤ 12 ∧ ts.length ≤ 20)) : modB ts fs = false := by
  rw [Bool.eq_false_iff]
  intro hc
  apply h
  unfold modB at hc
  simp only [Bool.and_eq_true, decide_eq_true_eq] at hc
  omega
theorem modB_all {ts : List ByteArray} {fs : List Fn} (h : 1 ≤ fs.length ∧ fs.length ≤ 12 ∧ ts.length ≤ 20) : modB ts fs = (ts.all textB && fs.all fun f => fnB ts.length fs.length f) := by
  obtain ⟨h1, h2, h3⟩ := h
  unfold modB
  rw [decide_eq_true h1, decide_eq_true h2, decide_eq_true h3]
  rfl
end Go.Proofs.YtmmcockkbhnopaaGreat
