/-
  The lines of an ok module's text, and their words, as spec.ReadModule cuts them.
-/
import Derived.Test.YtkclkgonihkhlaaDoorR16b
namespace Go.Proofs.YtkclkgonihkhlaaDoor
open Go.RowKit

/-- The pieces of the text are the lines, and one empty piece behind the last. -/
theorem cuts_items : ∀ its : List It, (∀ x ∈ its, x.ok) → cuts 10 (bytesOf its) = (its.map fun x => x.body.data.toList) ++ [[]] := by
  intro its
  induction its with
  | nil => intro _; rfl
  | cons x its ih =>
    intro h
    rw [bytes_cons, line_body, List.append_assoc, List.singleton_append, cuts_app 10 _ _ (seen_no_end (body_seen (h x (List.mem_cons_self ..)))), ih (fun y hy => h y (List.mem_cons_of_mem _ hy))]
    rfl
theorem cutsB_show {ts : List ByteArray} {fs : List Fn} (h : modB ts fs = true) : cutsB 10 (showB ts fs) = ((items ts fs).map It.body) ++ [⟨#[]⟩] := by
  unfold cutsB
  rw [showB_bytes, cuts_items _ (items_ok h), List.map_append, List.map_map]
  have e : ((fun l : List UInt8 => (⟨l.toArray⟩ : ByteArray)) ∘ fun x : It => x.body.data.toList) = It.body := by
    funext x
    simp
  rw [e]
  rfl
/-- The words of a function's line. -/
theorem words_f (p l : Int) : cutsB 32 (It.body (.f p l)) = [funcT, numText p, numText l] := words_three func_solid (num_solid p) (num_solid l)
/-- The words of an instruction's line: two empty ones, for its two blanks, then those of the instruction. -/
theorem words_i (o a : Int) : cutsB 32 (It.body (.i o a)) = [⟨#[]⟩, ⟨#[]⟩] ++ cutsB 32 (insText o a) := by
  unfold cutsB
  rw [i_body]
  rw [cuts, if_pos rfl, cuts, if_pos rfl]
  rfl
theorem words_of_ins {o a : Int} (h1 : 1 ≤ o) (h2 : o ≤ 26) : cutsB 32 (insText o a) = if bareB o = true then [words.getD o.toNat ⟨#[]⟩] else [words.getD o.toNat ⟨#[]⟩, numText a] := by
  unfold insText
  rw [if_neg (by omega)]
  split
  · exact words_single (word_solid _)
  · exact words_two (word_solid _) (num_solid a)
end Go.Proofs.YtkclkgonihkhlaaDoor
