/-
  The lines of a module that is ok: what bytes they hold, and what cutting them gives.
-/
import Derived.Test.YtkclkgonihkhlaaDoorR11
import Derived.Test.YtkclkgonihkhlaaDoorR12
namespace Go.Proofs.YtkclkgonihkhlaaDoor
open Go.RowKit

/-- A line without its end. -/
def It.body : It → ByteArray
  | .t s => startT ++ s ++ ⟨#[34]⟩
  | .f p l => funcT ++ ⟨#[32]⟩ ++ numText p ++ ⟨#[32]⟩ ++ numText l
  | .i o a => indentT ++ insText o a
theorem line_body (x : It) : x.line.data.toList = x.body.data.toList ++ [10] := by
  cases x with
  | t s => simp only [It.line, It.body, lineT, startT, data_app, List.append_assoc]; rfl
  | f p l => simp only [It.line, It.body, lineF, funcT, data_app, List.append_assoc]; rfl
  | i o a => simp only [It.line, It.body, lineI, indentT, data_app, List.append_assoc]
def It.ok : It → Prop
  | .t s => textB s = true
  | .f p l => Fits p ∧ Fits l
  | .i o a => 1 ≤ o ∧ o ≤ 26 ∧ Fits a ∧ (bareB o = true → a = 0)
/-- A byte that can be seen, or a blank. -/
def Seen (l : List UInt8) : Prop := ∀ b ∈ l, 32 ≤ b.toNat ∧ b.toNat ≤ 126
theorem Seen.app {a b : List UInt8} (h : Seen a) (k : Seen b) : Seen (a ++ b) := fun x hx => by
  rcases List.mem_append.1 hx with hx | hx
  · exact h x hx
  · exact k x hx
/-- .. and no blank. -/
def Solid (l : List UInt8) : Prop := ∀ b ∈ l, 33 ≤ b.toNat ∧ b.toNat ≤ 126
theorem Solid.seen {l : List UInt8} (h : Solid l) : Seen l := fun b hb => ⟨by have := (h b hb).1; omega, (h b hb).2⟩
theorem num_solid (n : Int) : Solid (numText n).data.toList := by
  intro b hb
  rcases Int.lt_or_le n 0 with h | h
  · obtain ⟨u, rfl⟩ : ∃ u : Nat, n = -(u : Int) := ⟨n.natAbs, by omega⟩
    rw [numText_neg u (by omega)] at hb
    simp only [List.mem_cons] at hb
    rcases hb with rfl | hb
    · decide
    · have := dec_digs u b hb; omega
  · obtain ⟨u, rfl⟩ : ∃ u : Nat, n = (u : Int) := ⟨n.toNat, by omega⟩
    rw [numText_pos u] at hb
    have := dec_digs u b (by simpa using hb)
    omega
theorem word_solid (k : Nat) : Solid (words.getD k ⟨#[]⟩).data.toList := by
  have hall : ∀ s ∈ words, ∀ b ∈ s.data.toList, 33 ≤ b.toNat ∧ b.toNat ≤ 126 := by decide
  by_cases h : k < words.length
  · have e : words.getD k ⟨#[]⟩ = words[k] := by rw [List.getD_eq_getElem?_getD, List.getElem?_eq_getElem h]; rfl
    rw [e]
    exact hall _ (List.getElem_mem h)
  · rw [List.getD_eq_getElem?_getD, List.getElem?_eq_none (by omega)]
    intro b hb
    simp at hb
theorem ins_seen (o a : Int) : Seen (insText o a).data.toList := by
  unfold insText
  split
  · intro b hb; simp at hb
  · split
    · exact (word_solid _).seen
    · rw [data_app, data_app]
      exact ((word_solid _).seen.app (fun b hb => by obtain rfl : b = 32 := by simpa using hb
                                                     decide)).app (num_solid a).seen
theorem text_seen {s : ByteArray} (h : textB s = true) : Seen s.data.toList := by
  unfold textB at h
  simp only [Bool.and_eq_true, decide_eq_true_eq, List.all_eq_true] at h
  intro b hb
  have := h.2 b hb
  unfold byteB at this
  simp only [Bool.and_eq_true, decide_eq_true_eq] at this
  exact this.1
theorem start_seen : Seen startT.data.toList := by unfold Seen; decide
theorem func_solid : Solid funcT.data.toList := by unfold Solid; decide
theorem indent_seen : Seen indentT.data.toList := by unfold Seen; decide
theorem blank_seen : Seen (⟨#[32]⟩ : ByteArray).data.toList := by unfold Seen; decide
theorem quote_seen : Seen (⟨#[34]⟩ : ByteArray).data.toList := by unfold Seen; decide
theorem seen_app {a b : ByteArray} (h : Seen a.data.toList) (k : Seen b.data.toList) : Seen (a ++ b).data.toList := by rw [data_app]; exact h.app k
theorem body_seen {x : It} (h : x.ok) : Seen x.body.data.toList := by
  cases x with
  | t s => exact seen_app (seen_app start_seen (text_seen h)) quote_seen
  | f p l => exact seen_app (seen_app (seen_app (seen_app func_solid.seen blank_seen) (num_solid p).seen) blank_seen) (num_solid l).seen
  | i o a => exact seen_app indent_seen (ins_seen o a)

theorem insB_bare {nt nf loc nc op a : Int} (h : insB nt nf loc nc op a = true) (hb : bareB op = true) : a = 0 := by
  unfold bareB at hb
  simp only [Bool.or_eq_true, Bool.and_eq_true, decide_eq_true_eq] at hb
  unfold insB at h
  repeat' split at h
  all_goals first
    | omega
    | (simp at h; omega)
theorem items_ok {ts : List ByteArray} {fs : List Fn} (h : modB ts fs = true) : ∀ x ∈ items ts fs, x.ok := by
  have hO := okMod h
  unfold modB at h
  simp only [Bool.and_eq_true, decide_eq_true_eq, List.all_eq_true] at h
  intro x hx
  rcases List.mem_append.1 hx with hx | hx
  · obtain ⟨s, hs, rfl⟩ := List.mem_map.1 hx
    exact h.1.2 s hs
  · obtain ⟨f, hf, hx⟩ := List.mem_flatMap.1 hx
    rcases List.mem_cons.1 hx with rfl | hx
    · exact ⟨hO.params f hf, hO.locals f hf⟩
    · obtain ⟨y, hy, rfl⟩ := List.mem_map.1 hx
      have hfn := h.2 f hf
      unfold fnB at hfn
      simp only [Bool.and_eq_true, decide_eq_true_eq, List.all_eq_true] at hfn
      have hins := hfn.2 y hy
      have hr : ¬ (y.1 < 1 ∨ 26 < y.1) := fun q => by rw [insB_out q] at hins; cases hins
      exact ⟨by omega, by omega, (hO.code f hf y hy).2, insB_bare hins⟩
end Go.Proofs.YtkclkgonihkhlaaDoor
