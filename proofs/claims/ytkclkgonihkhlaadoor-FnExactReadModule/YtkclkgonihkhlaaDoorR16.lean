/-
  How far the reading of a text has come, if it is the text of an ok module.
-/
import Derived.Test.YtkclkgonihkhlaaDoorR15
namespace Go.Proofs.YtkclkgonihkhlaaDoor
open Go.RowKit

theorem ap_some (st : List ByteArray × List Fn) (x : It) (h : st.2 ≠ []) : (ap st x).2 ≠ [] := by
  cases x with
  | t s => exact h
  | f p l => simp [ap]
  | i o a =>
    obtain ⟨ts, fs⟩ := st
    obtain ⟨fs0, f, rfl⟩ : ∃ fs0 f, fs = fs0 ++ [f] := ⟨fs.dropLast, fs.getLast h, (List.dropLast_concat_getLast h).symm⟩
    obtain ⟨p, l, c⟩ := f
    rw [ap_ins]
    simp
theorem fold_some (l : List It) : ∀ st : List ByteArray × List Fn, (st.2 ≠ [] ∨ ∃ p q, It.f p q ∈ l) → (l.foldl ap st).2 ≠ [] := by
  induction l with
  | nil =>
    intro st h
    rcases h with h | ⟨p, q, h⟩
    · exact h
    · simp at h
  | cons x l ih =>
    intro st h
    rw [List.foldl_cons]
    refine ih _ ?_
    rcases h with h | ⟨p, q, h⟩
    · exact .inl (ap_some st x h)
    · rcases List.mem_cons.1 h with rfl | h
      · exact .inl (by simp [ap])
      · exact .inr ⟨p, q, h⟩
theorem first_f (F : List Fn) (o a : Int) (l2 : List It) : ∀ (T : List ByteArray) (l : List It), items T F = l ++ .i o a :: l2 → ∃ p q, It.f p q ∈ l := by
  intro T
  induction T with
  | nil =>
    intro l h
    cases F with
    | nil => simp [items] at h
    | cons f F =>
      have e : items [] (f :: F) = .f f.params f.locals :: ((f.code.map fun x => It.i x.1 x.2) ++ F.flatMap fItems) := rfl
      rw [e] at h
      cases l with
      | nil => rw [List.nil_append] at h; injection h with h _; cases h
      | cons y l =>
        rw [List.cons_append] at h
        injection h with h _
        exact ⟨_, _, by rw [← h]; exact List.mem_cons_self ..⟩
  | cons t T ih =>
    intro l h
    have e : items (t :: T) F = .t t :: items T F := rfl
    rw [e] at h
    cases l with
    | nil => rw [List.nil_append] at h; injection h with h _; cases h
    | cons y l =>
      rw [List.cons_append] at h
      injection h with _ h
      obtain ⟨p, q, hm⟩ := ih l h
      exact ⟨p, q, List.mem_cons_of_mem _ hm⟩

/-- If the text is an ok module's, this much of it was read, and this is left. -/
def Come (text : ByteArray) (ts : List ByteArray) (fs : List Fn) (r : ByteArray) : Prop :=
  ∀ T F, modB T F = true → text = showB T F → ∃ l0 l1, items T F = l0 ++ l1 ∧ (ts, fs) = l0.foldl ap ([], []) ∧ r.data.toList = bytesOf l1
theorem Come.start (text : ByteArray) : Come text [] [] text := fun T F _ e => ⟨[], items T F, rfl, rfl, by rw [e]; exact showB_bytes T F⟩
theorem bytes_some (x : It) (l : List It) : bytesOf (x :: l) ≠ [] := by rw [bytes_cons, line_body]; simp
theorem Come.done {text : ByteArray} {ts : List ByteArray} {fs : List Fn} {r : ByteArray} (h : Come text ts fs r) (hr : r.data.toList = []) : ∀ T F, modB T F = true → text = showB T F → ts = T ∧ fs = F := by
  intro T F hT e
  obtain ⟨l0, l1, q1, q2, q3⟩ := h T F hT e
  cases l1 with
  | nil =>
    rw [List.append_nil] at q1
    rw [← q1, ap_all] at q2
    exact ⟨congrArg Prod.fst q2, congrArg Prod.snd q2⟩
  | cons x l1 => exact absurd (q3.symm.trans hr) (bytes_some x l1)
/-- The next line, if the text is an ok module's. -/
theorem Come.next {text : ByteArray} {ts : List ByteArray} {fs : List Fn} {r : ByteArray} (h : Come text ts fs r) (hr : r.data.toList ≠ []) : ∀ T F, modB T F = true → text = showB T F →
    ∃ x : It, x.ok ∧ (∀ o a, x = .i o a → fs ≠ []) ∧ (Lib.cut r.data.toList [10]).1 = x.body.data.toList ∧ (Lib.cut r.data.toList [10]).2.2 = true ∧ ∃ l0 l1, items T F = l0 ++ l1 ∧ ap (ts, fs) x = l0.foldl ap ([], []) ∧ (Lib.cut r.data.toList [10]).2.1 = bytesOf l1 := by
  intro T F hT e
  obtain ⟨l0, l1, q1, q2, q3⟩ := h T F hT e
  cases l1 with
  | nil => exact absurd q3 hr
  | cons x l1 =>
    have hx : x.ok := items_ok hT x (by rw [q1]; simp)
    rw [q3, cut_line hx]
    refine ⟨x, hx, fun o a hi => ?_, rfl, rfl, l0 ++ [x], l1, by rw [q1]; simp, ?_, rfl⟩
    · subst hi
      obtain ⟨p, q, hm⟩ := first_f F o a l1 T l0 q1
      have := fold_some l0 ([], []) (.inr ⟨p, q, hm⟩)
      rw [← q2] at this
      exact this
    · rw [List.foldl_append, ← q2]
      rfl
end Go.Proofs.YtkclkgonihkhlaaDoor
