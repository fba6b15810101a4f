/-
  The lines of an ok module's text, and their words, as spec.ReadModule cuts them.
  What a line of an ok module's text says, as spec.ReadModule takes it: case by case.
-/
import Derived.Test.YtpmkfdinkomaiaaGreatDoorGQ14
import Derived.Test.YtpmkfdinkomaiaaGreatDoorR17
namespace Go.Proofs.YtpmkfdinkomaiaaGreatDoor
open Go.RowKit

/-- The pieces of the text are the lines, and one empty piece behind the last. -/
theorem cuts_items : ∀ its : List It, (∀ x ∈ its, x.ok) → cuts 10 (bytesOf its) = (its.map fun x => x.body.data.toList) ++ [[]] := by
  intro its
  induction its with
  | nil => intro _; rfl
  | cons x its ih =>
    intro h
    rw [bytes_cons, line_body, List.append_assoc, List.singleton_append, cuts_app 10 _ _ (seen_no_end (body_seen (h x (List.mem_cons_self ..)))), ih (fun y hy => h y (List.mem_cons_of_mem _ hy))]
    rfl
theorem cutsB_show {ts : List ByteArray} {fs : List Fn} (h : modB ts fs = true) : cutsB 10 (showB ts fs) = ((items ts fs).map It.body) ++ [⟨#[]⟩] := by
  unfold cutsB
  rw [showB_bytes, cuts_items _ (items_ok h), List.map_append, List.map_map]
  have e : ((fun l : List UInt8 => (⟨l.toArray⟩ : ByteArray)) ∘ fun x : It => x.body.data.toList) = It.body := by
    funext x
    simp
  rw [e]
  rfl
/-- The words of a function's line. -/
theorem words_f (p l : Int) : cutsB 32 (It.body (.f p l)) = [funcT, numText p, numText l] := words_three func_solid (num_solid p) (num_solid l)
/-- The words of an instruction's line: two empty ones, for its two blanks, then those of the instruction. -/
theorem words_i (o a : Int) : cutsB 32 (It.body (.i o a)) = [⟨#[]⟩, ⟨#[]⟩] ++ cutsB 32 (insText o a) := by
  unfold cutsB
  rw [i_body]
  rw [cuts, if_pos rfl, cuts, if_pos rfl]
  rfl
theorem words_of_ins {o a : Int} (h1 : 1 ≤ o) (h2 : o ≤ 26) : cutsB 32 (insText o a) = if bareB o = true then [words.getD o.toNat ⟨#[]⟩] else [words.getD o.toNat ⟨#[]⟩, numText a] := by
  unfold insText
  rw [if_neg (by omega)]
  split
  · exact words_single (word_solid _)
  · exact words_two (word_solid _) (num_solid a)
end Go.Proofs.YtpmkfdinkomaiaaGreatDoor

namespace Go.Proofs.YtpmkfdinkomaiaaGreatDoor
open Go.RowKit

theorem cuts_size (y : UInt8) : ∀ (l p : List UInt8), p ∈ cuts y l → p.length ≤ l.length := by
  have key : ∀ (l : List UInt8) (q p : List UInt8), p ∈ glue q (cuts y l) → p.length ≤ q.length + l.length := by
    intro l
    induction l with
    | nil => intro q p h; rw [cuts_end] at h; simp at h; subst h; simp
    | cons c l ih =>
      intro q p h
      by_cases hc : c = y
      · subst hc
        rw [cuts_hit] at h
        rcases List.mem_cons.1 h with rfl | h
        · simp
        · have := ih [] p h
          simp at this ⊢
          omega
      · rw [cuts_miss hc] at h
        have := ih (q ++ [c]) p h
        simp at this ⊢
        omega
  intro l p h
  have := key l [] p (by rw [glue_nil (cuts_ne _ _)]; exact h)
  simpa using this
theorem cutsB_size {y : UInt8} {s p : ByteArray} (h : p ∈ cutsB y s) : p.size ≤ s.size := by
  unfold cutsB at h
  obtain ⟨l, hl, rfl⟩ := List.mem_map.1 h
  have := cuts_size y _ _ hl
  show l.toArray.size ≤ s.data.size
  rw [List.size_toArray, ← Array.length_toList]
  exact this
theorem cutsB_some (y : UInt8) (s : ByteArray) : 0 < (cutsB y s).length := by
  unfold cutsB
  rw [List.length_map]
  exact List.length_pos_iff.2 (cuts_ne _ _)

/-- Line i of an ok module's text is what item i says. -/
theorem line_at {text s : ByteArray} {T ts : List ByteArray} {F fs : List Fn} {i : Nat} (hm : modB T F = true) (e : text = showB T F) (hi : i + 1 < (cutsB 10 text).length) (hs : (cutsB 10 text)[i]? = some s)
    (h : (ts, fs) = ((items T F).take i).foldl ap ([], [])) : ∃ x : It, x.ok ∧ s = x.body ∧ (∀ o a, x = .i o a → fs ≠ []) ∧ ((items T F).take (i + 1)).foldl ap ([], []) = ap (ts, fs) x := by
  subst e
  rw [cutsB_show hm] at hi hs
  simp only [List.length_append, List.length_map, List.length_singleton] at hi
  have hl : i < (items T F).length := by omega
  rw [List.getElem?_append_left (by simpa using hl), List.getElem?_map, List.getElem?_eq_getElem hl] at hs
  simp only [Option.map_some, Option.some.injEq] at hs
  refine ⟨(items T F)[i], items_ok hm _ (List.getElem_mem hl), hs.symm, fun o a hx => ?_, ?_⟩
  · have hsplit : items T F = (items T F).take i ++ It.i o a :: (items T F).drop (i + 1) := by
      rw [← hx, List.getElem_cons_drop, List.take_append_drop]
    obtain ⟨p, q, hpq⟩ := first_f F o a _ T _ hsplit
    have := fold_some ((items T F).take i) ([], []) (.inr ⟨p, q, hpq⟩)
    rw [← h] at this
    exact this
  · rw [List.take_succ_eq_append_getElem hl, List.foldl_append, ← h]
    rfl

/-- What a line makes of what was read, if it is a line of an ok module. -/
def Step (s : ByteArray) (ts : List ByteArray) (fs : List Fn) (ts' : List ByteArray) (fs' : List Fn) : Prop := ∀ x : It, x.ok → s = x.body → (∀ o a, x = .i o a → fs ≠ []) → (ts', fs') = ap (ts, fs) x
theorem Step.next {text s : ByteArray} {ts ts' : List ByteArray} {fs fs' : List Fn} {i : Nat} (hS : Step s ts fs ts' fs') (hi : i + 1 < (cutsB 10 text).length) (hs : (cutsB 10 text)[i]? = some s)
    (h : ∀ T F, modB T F = true → text = showB T F → (ts, fs) = ((items T F).take i).foldl ap ([], [])) : ∀ T F, modB T F = true → text = showB T F → (ts', fs') = ((items T F).take (i + 1)).foldl ap ([], []) := by
  intro T F hm e
  obtain ⟨x, h1, h2, h3, h4⟩ := line_at hm e hi hs (h T F hm e)
  rw [h4]
  exact hS x h1 h2 h3

/-- A line that opens as a text's. -/
def Opens (s : ByteArray) : Prop := 6 < s.size ∧ s.data.toList.take 6 = [116, 101, 120, 116, 32, 34]
theorem t_bytes (t : ByteArray) : (It.body (.t t)).data.toList = [116, 101, 120, 116, 32, 34] ++ t.data.toList ++ [34] := by
  show (startT ++ t ++ ⟨#[34]⟩).data.toList = _
  rw [data_app, data_app]
  rfl
theorem size_list (s : ByteArray) : s.size = s.data.toList.length := by rw [Array.length_toList]; rfl
theorem opens_t (t : ByteArray) : Opens (It.body (.t t)) := by
  refine ⟨?_, ?_⟩
  · rw [size_list, t_bytes]; simp
  · rw [t_bytes]; rfl
theorem opens_not_f (p l : Int) : ¬ Opens (It.body (.f p l)) := fun h => by
  have := h.2
  rw [f_body] at this
  simp at this
theorem opens_not_i (o a : Int) : ¬ Opens (It.body (.i o a)) := fun h => by
  have := h.2
  rw [i_body] at this
  simp at this
theorem step_text {s u : ByteArray} {ts : List ByteArray} {fs : List Fn} (h : Opens s) (hu : u.data.toList = (s.data.toList.take (s.size - 1)).drop 6) : Step s ts fs (ts ++ [u]) fs := by
  intro x hx hs hf
  subst hs
  cases x with
  | t t =>
    show (ts ++ [u], fs) = (ts ++ [t], fs)
    have : u = t := by
      apply ByteArray.ext
      rw [← Array.toList_inj, hu, size_list, t_bytes]
      simp only [List.length_append, List.length_cons, List.length_nil]
      rw [show 0 + 1 + 1 + 1 + 1 + 1 + 1 + t.data.toList.length + (0 + 1) - 1 = ([116, 101, 120, 116, 32, 34] ++ t.data.toList : List UInt8).length by simp; omega, List.take_left']
      · rfl
      · rfl
    rw [this]
  | f p l => exact absurd h (opens_not_f p l)
  | i o a => exact absurd h (opens_not_i o a)
theorem step_func {s x1 x2 : ByteArray} {ts : List ByteArray} {fs : List Fn} {p l : Int} (hA : ¬ Opens s) (hw : cutsB 32 s = [funcT, x1, x2]) (h1 : NumOf x1 p) (h2 : NumOf x2 l) : Step s ts fs ts (fs ++ [⟨p, l, []⟩]) := by
  intro x hx hs hf
  subst hs
  cases x with
  | t t => exact absurd (opens_t t) hA
  | f P L =>
    rw [words_f] at hw
    injection hw with _ hw
    injection hw with e1 hw
    injection hw with e2 _
    have q1 := h1.2 P hx.1 e1.symm
    have q2 := h2.2 L hx.2 e2.symm
    subst q1 q2
    rfl
  | i o a =>
    rw [words_i] at hw
    injection hw with e1 _
    exact absurd (congrArg (fun b : ByteArray => b.data.toList) e1) (by decide)
theorem step_ins {s : ByteArray} {ts : List ByteArray} {fs : List Fn} {f : Fn} {ws : List ByteArray} {w2 : ByteArray} {op av : Int} (hA : ¬ Opens s) (hB : ∀ x1 x2, cutsB 32 s ≠ [funcT, x1, x2]) (hw : cutsB 32 s = ws) (h2 : ws[2]? = some w2)
    (hop : ∀ k : Nat, 1 ≤ k → words[k]? = some w2 → op = k) (hav : ∀ w3, ws[3]? = some w3 → NumOf w3 av) (hav0 : ws[3]? = none → av = 0) : Step s ts (fs ++ [f]) ts (fs ++ [⟨f.params, f.locals, f.code ++ [(op, av)]⟩]) := by
  intro x hx hs hf
  subst hs
  cases x with
  | t t => exact absurd (opens_t t) hA
  | f P L => exact absurd (words_f P L) (hB _ _)
  | i o a =>
    obtain ⟨o1, o2, oF, ob⟩ := hx
    rw [words_i, words_of_ins o1 o2] at hw
    obtain ⟨w, hw1, hw2, -⟩ := words_at o.toNat (by omega)
    have hopo : op = o := by
      have e : w2 = w := by
        rw [← hw] at h2
        split at h2
        · simp at h2; rw [← h2, ← List.getD_eq_getElem?_getD]; exact hw2
        · simp at h2; rw [← h2, ← List.getD_eq_getElem?_getD]; exact hw2
      have := hop o.toNat (by omega) (by rw [e]; exact hw1)
      omega
    have hava : av = a := by
      cases hb : bareB o with
      | true =>
        rw [hb] at hw
        have := hav0 (by rw [← hw]; simp)
        rw [this, ob hb]
      | false =>
        rw [hb] at hw
        have := hav (numText a) (by rw [← hw]; simp)
        exact this.2 a oF rfl
    subst hopo hava
    rw [ap_ins ts fs f.params f.locals]
theorem step_none {s : ByteArray} {ts : List ByteArray} {fs : List Fn} (hA : ¬ Opens s) (hB : ∀ x1 x2, cutsB 32 s ≠ [funcT, x1, x2]) (hC : fs = [] ∨ (cutsB 32 s).length ≤ 2) : Step s ts fs ts fs := by
  intro x hx hs hf
  subst hs
  cases x with
  | t t => exact absurd (opens_t t) hA
  | f P L => exact absurd (words_f P L) (hB _ _)
  | i o a =>
    exfalso
    rcases hC with h | h
    · exact hf o a rfl h
    · rw [words_i, words_of_ins hx.1 hx.2.1] at h
      split at h <;> simp at h

/-- No less was read. -/
def NoLess (a b : List ByteArray × List Fn) : Prop := a.1.length ≤ b.1.length ∧ a.2.length ≤ b.2.length ∧ ∀ j (h : j < a.2.length) (h' : j < b.2.length), a.2[j].code.length ≤ b.2[j].code.length
theorem NoLess.refl (a : List ByteArray × List Fn) : NoLess a a := ⟨Nat.le_refl _, Nat.le_refl _, fun _ _ _ => Nat.le_refl _⟩
theorem NoLess.trans {a b c : List ByteArray × List Fn} (h : NoLess a b) (k : NoLess b c) : NoLess a c :=
  ⟨Nat.le_trans h.1 k.1, Nat.le_trans h.2.1 k.2.1, fun j h1 h2 => Nat.le_trans (h.2.2 j h1 (Nat.lt_of_lt_of_le h1 h.2.1)) (k.2.2 j _ h2)⟩
theorem noless_ap (st : List ByteArray × List Fn) (x : It) : NoLess st (ap st x) := by
  obtain ⟨ts, fs⟩ := st
  cases x with
  | t s => exact ⟨by simp [ap], Nat.le_refl _, fun _ _ _ => Nat.le_refl _⟩
  | f p l =>
    refine ⟨Nat.le_refl _, by simp [ap], fun j h1 h2 => ?_⟩
    simp only [ap]
    rw [List.getElem_append_left h1]
    exact Nat.le_refl _
  | i o a =>
    rcases List.eq_nil_or_concat fs with rfl | ⟨f0, g, rfl⟩
    · exact ⟨Nat.le_refl _, by simp [ap], fun j h => by simp at h⟩
    · obtain ⟨p, l, c⟩ := g
      rw [List.concat_eq_append, ap_ins]
      refine ⟨Nat.le_refl _, by simp, fun j h1 h2 => ?_⟩
      simp only at h1 h2 ⊢
      by_cases hj : j < f0.length
      · rw [List.getElem_append_left hj, List.getElem_append_left hj]; exact Nat.le_refl _
      · have : j = f0.length := by simp at h1; omega
        subst this
        simp
theorem noless_fold (l : List It) : ∀ st, NoLess st (l.foldl ap st) := by
  induction l with
  | nil => exact fun st => NoLess.refl st
  | cons x l ih => exact fun st => (noless_ap st x).trans (ih _)
theorem fold_bounds {T ts : List ByteArray} {F fs : List Fn} {j : Nat} (hm : modB T F = true) (h : (ts, fs) = ((items T F).take j).foldl ap ([], [])) : ts.length ≤ 20 ∧ fs.length ≤ 12 ∧ ∀ i (hi : i < fs.length), fs[i].code.length ≤ 120 := by
  have hb : 1 ≤ F.length ∧ F.length ≤ 12 ∧ T.length ≤ 20 := Classical.byContradiction (fun e => by rw [modB_no e] at hm; cases hm)
  rw [modB_all hb] at hm
  simp only [Bool.and_eq_true] at hm
  have hle : NoLess (ts, fs) (T, F) := by
    have := noless_fold ((items T F).drop j) (ts, fs)
    rw [h, ← List.foldl_append, List.take_append_drop, ap_all] at this
    rw [h]
    exact this
  refine ⟨Nat.le_trans hle.1 hb.2.2, Nat.le_trans hle.2.1 hb.2.1, fun i hi => ?_⟩
  have hi2 : i < F.length := Nat.lt_of_lt_of_le hi hle.2.1
  refine Nat.le_trans (hle.2.2 i hi hi2) ?_
  have hf := List.all_eq_true.1 hm.2 F[i] (List.getElem_mem hi2)
  unfold fnB at hf
  simp only [Bool.and_eq_true, decide_eq_true_eq] at hf
  show F[i].code.length ≤ 120
  omega
end Go.Proofs.YtpmkfdinkomaiaaGreatDoor
