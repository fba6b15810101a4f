/-
  The guesses of a profile on plain data, and rows of guesses that a call makes.
-/
import Derived.Test.YtmjkkpmfneabjaaJ12
import Derived.Deep.AppendLies
namespace Go.Proofs.Ytmjkkpmfneabjaa
open Go.RowKit

theorem hid {p : Prop} (h : p) : Hid p := h
/-- The one guess that an instruction allows. -/
noncomputable def guessF (fs : List Fn) (f p t : Int) : Option Si := Classical.choose (guessD_ex fs f p t)
theorem guessF_spec (fs : List Fn) (f p t : Int) : guessD fs f p t (guessF fs f p t) := Classical.choose_spec (guessD_ex fs f p t)
theorem guessF_at {fs : List Fn} {f p t : Int} {u : Si} (h : guessD fs f p t (some u)) : u.f = f ∧ u.pc = p := by
  unfold guessD at h
  rcases h with ⟨-, -, h⟩ | ⟨-, -, h⟩ | ⟨-, -, h⟩
  · cases h; exact ⟨rfl, rfl⟩
  · cases h; exact ⟨rfl, rfl⟩
  · cases h
/-- A guess is black. -/
def Black (bs : List Si) (u : Si) : Prop := ∃ t ∈ bs, t.f = u.f ∧ t.pc = u.pc ∧ t.seen = u.seen
theorem black_bare (bs : List Si) (u : Si) : Black bs (bare u) ↔ Black bs u := Iff.rfl
section
open Classical
/-- What is guessed of one site. -/
noncomputable def one (fs : List Fn) (bs : List Si) (s : Si) : List Si :=
  if s.seen = 1 then (match guessF fs s.f s.pc s.target with | some u => if Black bs u then [] else [u] | none => []) else []
/-- What is guessed of all sites. -/
noncomputable def planD (fs : List Fn) (bs ss : List Si) : List Si := ss.flatMap (one fs bs)
theorem one_seen {fs : List Fn} {bs : List Si} {s : Si} (h : s.seen ≠ 1) : one fs bs s = [] := by unfold one; rw [if_neg h]
theorem one_none {fs : List Fn} {bs : List Si} {s : Si} (h : guessD fs s.f s.pc s.target none) : one fs bs s = [] := by
  unfold one
  rw [guessD_one (guessF_spec _ _ _ _) h]
  split <;> rfl
theorem one_black {fs : List Fn} {bs : List Si} {s u : Si} (h : guessD fs s.f s.pc s.target (some u)) (hb : Black bs u) : one fs bs s = [] := by
  unfold one
  rw [guessD_one (guessF_spec _ _ _ _) h]
  split
  · simp [hb]
  · rfl
theorem one_some {fs : List Fn} {bs : List Si} {s u : Si} (h1 : s.seen = 1) (h : guessD fs s.f s.pc s.target (some u)) (hb : ¬ Black bs u) : one fs bs s = [u] := by
  unfold one
  rw [guessD_one (guessF_spec _ _ _ _) h, if_pos h1]
  simp [hb]
theorem one_len (fs : List Fn) (bs : List Si) (s : Si) : (one fs bs s).length ≤ 1 := by
  unfold one
  split
  · split
    · split <;> simp
    · simp
  · simp
end
theorem planD_more {fs : List Fn} {bs ss : List Si} {k : Nat} (h : k < ss.length) : planD fs bs (ss.take (k + 1)) = planD fs bs (ss.take k) ++ one fs bs ss[k] := by
  unfold planD
  rw [List.take_succ_eq_append_getElem h, List.flatMap_append]
  simp
theorem planD_len (fs : List Fn) (bs : List Si) : ∀ ss : List Si, (planD fs bs ss).length ≤ ss.length
  | [] => by simp [planD]
  | s :: ss => by
    have h1 := planD_len fs bs ss
    have h2 := one_len fs bs s
    unfold planD at h1 ⊢
    rw [List.flatMap_cons, List.length_append, List.length_cons]
    omega
/-- The cells of a row of guesses. -/
def flat4 (ss : List Si) : List Value := ss.flatMap (fun s => s.cells.toList)
theorem flat4_app (a b : List Si) : flat4 (a ++ b) = flat4 a ++ flat4 b := by unfold flat4; rw [List.flatMap_append]
theorem flat4_one (s : Si) : flat4 [s] = [.int .i64 s.f, .int .i64 s.pc, .int .i64 s.seen, .int .i64 s.target] := by simp [flat4, Si.cells]
theorem flat4_len : ∀ ss : List Si, (flat4 ss).length = ss.length * 4
  | [] => rfl
  | s :: ss => by
    have := flat4_len ss
    unfold flat4 at this ⊢
    rw [List.flatMap_cons, List.length_append, List.length_cons, this]
    simp [Si.cells]
    omega
theorem flat4_at : ∀ (ss : List Si) (i : Nat) (h : i < ss.length), (flat4 ss)[i * 4]? = some (.int .i64 ss[i].f) ∧ (flat4 ss)[i * 4 + 1]? = some (.int .i64 ss[i].pc) ∧ (flat4 ss)[i * 4 + 2]? = some (.int .i64 ss[i].seen) ∧ (flat4 ss)[i * 4 + 3]? = some (.int .i64 ss[i].target)
  | [], i, h => by simp at h
  | s :: ss, 0, _ => by simp [flat4, Si.cells]
  | s :: ss, i + 1, h => by
    have := flat4_at ss i (by simpa using h)
    have e : flat4 (s :: ss) = [.int .i64 s.f, .int .i64 s.pc, .int .i64 s.seen, .int .i64 s.target] ++ flat4 ss := by simp [flat4, Si.cells]
    rw [e, show (i + 1) * 4 = i * 4 + 4 by omega]
    simp only [List.getElem_cons_succ]
    refine ⟨?_, ?_, ?_, ?_⟩
    · rw [List.getElem?_append_right (by simp)]; simpa using this.1
    · rw [List.getElem?_append_right (by simp)]; simpa using this.2.1
    · rw [List.getElem?_append_right (by simp)]; simpa using this.2.2.1
    · rw [List.getElem?_append_right (by simp)]; simpa using this.2.2.2

theorem grown_kept {w w' : World} {base e size n k : Nat} {v : Value} {xs : List Value} {o : Obj} (hown : w.ownsRow base e size v n xs) (hk : k < base) (ho : w.heap[k]? = some o) (hg : w.grownBy w' v.ownBlock) : w'.heap[k]? = some o := by
  rw [hg.block k (Array.getElem?_eq_some_iff.1 ho).1 (fun e => by have := (hown.lt k e.symm).1; omega)]
  exact ho
theorem own_but {w w' : World} {base e size n g : Nat} {v : Value} {xs : List Value} (h : w.ownsRow base e size v n xs) (hb : But g w w') (hg : g < base) : w'.ownsRow base e size v n xs := by
  refine ⟨h.1, ?_⟩
  rcases h.2 with ⟨e, hn⟩ | ⟨b, cap, cur, e, hb', hh, r⟩
  · exact .inl ⟨e, hn⟩
  · exact .inr ⟨b, cap, cur, e, hb', hb.kept (by omega) hh, r⟩
theorem own_later {w w' : World} {base e size n : Nat} {v : Value} {xs : List Value} (h : w.ownsRow base e size v n xs) (hb : Below w.heap.size w w') : w'.ownsRow base e size v n xs := by
  refine ⟨h.1, ?_⟩
  rcases h.2 with ⟨e, hn⟩ | ⟨b, cap, cur, e, hb', hh, r⟩
  · exact .inl ⟨e, hn⟩
  · exact .inr ⟨b, cap, cur, e, hb', block_kept hh hb, r⟩
theorem own_form {w : World} {base e size n : Nat} {v : Value} {xs : List Value} (h : w.ownsRow base e size v n xs) : ∃ xa xc, v = Value.slice xa n xc := by
  rcases h.2 with ⟨e, h0⟩ | ⟨b, cp, cu, e, -⟩
  · exact ⟨none, 0, by rw [e, h0]⟩
  · exact ⟨_, cp, e⟩
/-- A row of guesses that a call owns, read as guesses. -/
theorem own_sites {w : World} {base n : Nat} {a : Option Addr} {c : Nat} {ss : List Si} (h : w.ownsRow base 44 4 (.slice a n c) n (flat4 ss)) (hn : n = ss.length) : SitesAt w base a ss := by
  intro i hi
  rcases h.2 with ⟨e, h0⟩ | ⟨b, cp, cur, e, hb, hh, h1, h2, h3, h4⟩
  · omega
  · cases e
    obtain ⟨f1, f2, f3, f4⟩ := flat4_at ss i hi
    have hc : ∀ j v, (flat4 ss)[j]? = some v → w.cell? ⟨b, j, none⟩ = some v := fun j v hj => by
      rw [block_cell hh, ← Array.getElem?_toList]
      rw [← h4] at hj
      rw [List.getElem?_take] at hj
      split at hj
      · exact hj
      · cases hj
    refine ⟨b, 0, rfl, hb, ?_, ?_, ?_, ?_⟩ <;> rw [Nat.zero_add]
    · exact hc _ _ f1
    · exact hc _ _ f2
    · exact hc _ _ f3
    · exact hc _ _ f4
end Go.Proofs.Ytmjkkpmfneabjaa
