/-
  Folding, on plain data: the first place, one step, all steps.
  Heights ask for the functions' parameters alone.
-/
import Derived.Test.YtjdoljaailokmaaGreatDoorZFQ3
import Derived.Test.YtjdoljaailokmaaGreatDoorZE6
import Derived.Test.YtjdoljaailokmaaGreatDoorZFQ11
namespace Go.Proofs.YtjdoljaailokmaaGreatDoor
open Go.RowKit

/-- A block begins there. -/
def Ldr (code : List (Int × Int)) (d : List Int) (j : Nat) : Prop := j = 0 ∨ ∃ k, k < code.length ∧ 0 ≤ d.getD k (-1) ∧ Jop (code.getD k (0, 0)).1 ∧ ((code.getD k (0, 0)).2 = (j : Int) ∨ ((code.getD k (0, 0)).1 ≠ 17 ∧ j = k + 1))
/-- A sum, a difference or a product. -/
def arith (op a b : Int) : Int := if op = 11 then a + b else if op = 12 then a - b else a * b
/-- Three instructions that can be one. -/
structure FAt (code : List (Int × Int)) (d : List Int) (i : Nat) (v : Int) : Prop where
  hi : i + 2 < code.length
  h0 : 0 ≤ d.getD i (-1)
  o1 : (code.getD i (0, 0)).1 = 1
  o2 : (code.getD (i + 1) (0, 0)).1 = 1
  o3 : (code.getD (i + 2) (0, 0)).1 = 11 ∨ (code.getD (i + 2) (0, 0)).1 = 12 ∨ (code.getD (i + 2) (0, 0)).1 = 13
  l1 : ¬ Ldr code d (i + 1)
  l2 : ¬ Ldr code d (i + 2)
  val : v = wrap64 (arith (code.getD (i + 2) (0, 0)).1 (code.getD i (0, 0)).2 (code.getD (i + 1) (0, 0)).2)
  ok : rT (code.getD i (0, 0)).2 (code.getD (i + 1) (0, 0)).2 v = 0
/-- The first ones. -/
def First (code : List (Int × Int)) (d : List Int) (i : Nat) (v : Int) : Prop := FAt code d i v ∧ ∀ j, j < i → ∀ u, ¬ FAt code d j u
theorem First.one {code : List (Int × Int)} {d : List Int} {i j : Nat} {u v : Int} (h : First code d i v) (h' : First code d j u) : i = j ∧ v = u := by
  obtain rfl : i = j := by
    rcases Nat.lt_trichotomy i j with a | a | a
    · exact absurd h.1 (h'.2 i a v)
    · exact a
    · exact absurd h'.1 (h.2 j a u)
  exact ⟨rfl, h.1.val.trans h'.1.val.symm⟩
open Classical in
/-- One step. -/
noncomputable def foldNext (fs : List Fn) (code : List (Int × Int)) : List (Int × Int) :=
  if h : ∃ x : Nat × Int, First code (dOf fs code) x.1 x.2 then foldTo (Classical.choose h).1 (Classical.choose h).2 code else code
theorem foldNext_yes {fs : List Fn} {code : List (Int × Int)} {d : List Int} (hd : Done fs code d) {i : Nat} {v : Int} (h : First code d i v) : foldNext fs code = foldTo i v code := by
  have hx : ∃ x : Nat × Int, First code (dOf fs code) x.1 x.2 := ⟨(i, v), by rw [dOf_eq hd]; exact h⟩
  unfold foldNext
  rw [dif_pos hx]
  have hs := Classical.choose_spec hx
  have h2 : First code (dOf fs code) i v := by rw [dOf_eq hd]; exact h
  obtain ⟨e1, e2⟩ := hs.one h2
  rw [e1, e2]
theorem foldNext_no {fs : List Fn} {code : List (Int × Int)} {d : List Int} (hd : Done fs code d) (h : ∀ i v, ¬ FAt code d i v) : foldNext fs code = code := by
  unfold foldNext
  rw [dif_neg]
  rintro ⟨x, hx⟩
  rw [dOf_eq hd] at hx
  exact h _ _ hx.1
noncomputable def foldN (fs : List Fn) (code : List (Int × Int)) : Nat → List (Int × Int)
  | 0 => code
  | k + 1 => foldNext fs (foldN fs code k)
noncomputable def foldOf (fs : List Fn) (code : List (Int × Int)) : List (Int × Int) := foldN fs code code.length
theorem foldN_stay {fs : List Fn} {code : List (Int × Int)} {k : Nat} (h : foldNext fs (foldN fs code k) = foldN fs code k) : ∀ j, foldN fs code (k + j) = foldN fs code k := by
  intro j
  induction j with
  | zero => rfl
  | succ j ih => show foldNext fs (foldN fs code (k + j)) = _; rw [ih, h]
theorem foldOf_end {fs : List Fn} {code : List (Int × Int)} {k : Nat} (hk : k ≤ code.length) (h : foldNext fs (foldN fs code k) = foldN fs code k) : foldOf fs code = foldN fs code k := by
  have := foldN_stay h (code.length - k)
  rwa [show k + (code.length - k) = code.length by omega] at this
/-- Code that is good, with its heights. -/
structure FOk (fs : List Fn) (code : List (Int × Int)) (d : List Int) : Prop where
  fine : Fine fs code
  lab : Lab fs code d
  done : Done fs code d
theorem FAt.nl {fs : List Fn} {code : List (Int × Int)} {d : List Int} (F : Fine fs code) {i : Nat} {v : Int} (h : FAt code d i v) : ∀ k, k < code.length → 0 ≤ d.getD k (-1) → Jop (code.getD k (0, 0)).1 → (code.getD k (0, 0)).2.toNat ≠ i + 1 ∧ (code.getD k (0, 0)).2.toNat ≠ i + 2 := by
  intro k hk hz hj
  have ha := F.jump k hk (by rw [← getD_code hk]; exact hj)
  rw [← getD_code hk] at ha
  exact ⟨fun e => h.l1 (.inr ⟨k, hk, hz, hj, .inl (by omega)⟩), fun e => h.l2 (.inr ⟨k, hk, hz, hj, .inl (by omega)⟩)⟩
theorem FAt.lab {fs : List Fn} {code : List (Int × Int)} {d : List Int} (F : Fine fs code) (L : Lab fs code d) {i : Nat} {v : Int} (h : FAt code d i v) : Lab fs (foldTo i v code) (keptD (goneF i) d code.length) ∧ Fine fs (foldTo i v code) :=
  fold_lab F L h.hi h.h0 h.o1 h.o2 h.o3 (h.nl F)
/-- A folded function's code is shorter by two at each step. -/
theorem foldTo_short {code : List (Int × Int)} {d : List Int} {i : Nat} {v : Int} (h : FAt code d i v) : (foldTo i v code).length + 2 = code.length := foldTo_len h.hi
/-- What the program tells is a block's beginning is one. -/
theorem lp_k {code : List (Int × Int)} {d : List Int} (k j : Nat) : LP code d k j ↔ j = 0 ∨ ∃ i, i < k ∧ isJ code d i ∧ ((j : Int) = (code.getD i (0, 0)).2 ∨ ((code.getD i (0, 0)).1 ≠ 17 ∧ j = i + 1)) := by
  induction k with
  | zero =>
    constructor
    · exact fun h => .inl h
    · rintro (h | ⟨i, hi, -⟩)
      · exact h
      · omega
  | succ k ih =>
    show LP code d k j ∨ (isJ code d k ∧ ((j : Int) = (code.getD k (0, 0)).2 ∨ ((code.getD k (0, 0)).1 ≠ 17 ∧ j = k + 1))) ↔ _
    rw [ih]
    constructor
    · rintro ((h | ⟨i, h1, h2⟩) | h)
      · exact .inl h
      · exact .inr ⟨i, by omega, h2⟩
      · exact .inr ⟨k, by omega, h⟩
    · rintro (h | ⟨i, h1, h2⟩)
      · exact .inl (.inl h)
      · by_cases e : i = k
        · subst e; exact .inr h2
        · exact .inl (.inr ⟨i, by omega, h2⟩)
theorem lp_ldr {code : List (Int × Int)} {d : List Int} (low : ∀ i, -1 ≤ d.getD i (-1)) (j : Nat) : LP code d code.length j ↔ Ldr code d j := by
  rw [lp_k]
  unfold Ldr isJ Jop
  constructor
  · rintro (h | ⟨i, h1, ⟨h2, h3⟩, h4⟩)
    · exact .inl h
    · have := low i
      exact .inr ⟨i, h1, by omega, h3, h4.imp Eq.symm id⟩
  · rintro (h | ⟨i, h1, h2, h3, h4⟩)
    · exact .inl h
    · exact .inr ⟨i, h1, ⟨by omega, h3⟩, h4.imp Eq.symm id⟩
theorem lab_gj {fs : List Fn} {code : List (Int × Int)} {d : List Int} (F : Fine fs code) (L : Lab fs code d) : GJ code d ∧ JOk code := by
  refine ⟨⟨F.one, F.most, fun k hk hj => ?_⟩, F.most, fun k hk hj => ?_⟩
  · have h2 := hj.2
    have h0 : 0 ≤ d.getD k (-1) := by have := L.low k; have := hj.1; omega
    have ha := F.jump k hk (by rw [← getD_code hk]; exact h2)
    rw [← getD_code hk] at ha
    refine ⟨ha.1, ha.2, fun h17 => ?_⟩
    have := (L.step k hk h0).2.2 ((k : Int) + 1) (by unfold nextB; rw [if_neg (by omega), if_neg h17, if_pos (by omega)]; simp)
    omega
  · have ha := F.jump k hk (by rw [← getD_code hk]; exact hj)
    rw [← getD_code hk] at ha
    have := F.most
    omega
theorem foldN_len {fs : List Fn} {code : List (Int × Int)} (h : ∀ c, (foldNext fs c).length ≤ c.length) (k : Nat) : (foldN fs code k).length ≤ code.length := by
  induction k with
  | zero => exact Nat.le_refl _
  | succ k ih => exact Nat.le_trans (h _) ih
theorem foldTo_le (i : Nat) (v : Int) (c : List (Int × Int)) : (foldTo i v c).length ≤ c.length := by
  unfold foldTo
  rw [takeOut_len]
  have := news_le (goneF i) (c.set i (1, v)).length
  rw [List.length_set] at this ⊢
  exact this
theorem foldNext_len (fs : List Fn) (c : List (Int × Int)) : (foldNext fs c).length ≤ c.length := by
  unfold foldNext
  split
  · exact foldTo_le _ _ _
  · exact Nat.le_refl _
theorem foldOf_len (fs : List Fn) (code : List (Int × Int)) : (foldOf fs code).length ≤ code.length := foldN_len (foldNext_len fs) _
end Go.Proofs.YtjdoljaailokmaaGreatDoor

namespace Go.Proofs.YtjdoljaailokmaaGreatDoor

/-- The same parameters. -/
def SameP (fs fs' : List Fn) : Prop := fs'.length = fs.length ∧ ∀ k (h : k < fs.length) (h' : k < fs'.length), fs'[k].params = fs[k].params
theorem SameP.uses {fs fs' : List Fn} (h : SameP fs fs') (op a : Int) : usesB fs' op a = usesB fs op a := by
  unfold usesB
  by_cases h24 : op = 24
  · subst h24
    simp only [show ¬ ((24 : Int) = 1 ∨ (24 : Int) = 2 ∨ (24 : Int) = 3 ∨ (24 : Int) = 4 ∨ (24 : Int) = 5 ∨ (24 : Int) = 6 ∨ (24 : Int) = 20) by omega, show ¬ ((24 : Int) = 7 ∨ (24 : Int) = 9 ∨ (24 : Int) = 18 ∨ (24 : Int) = 19 ∨ (24 : Int) = 25 ∨ (24 : Int) = 26) by omega, show ¬ ((24 : Int) = 8) by omega, show ¬ ((24 : Int) = 10) by omega, show ¬ ((24 : Int) = 11 ∨ (24 : Int) = 12 ∨ (24 : Int) = 13 ∨ (24 : Int) = 14 ∨ (24 : Int) = 15) by omega, show ¬ ((24 : Int) = 16 ∨ (24 : Int) = 21) by omega, show ¬ ((24 : Int) = 22) by omega, show ¬ ((24 : Int) = 23) by omega, if_false, if_true]
    by_cases ha : 0 ≤ a ∧ a < fs.length
    · have ha' : 0 ≤ a ∧ a < fs'.length := by rw [h.1]; exact ha
      rw [dif_pos ha, dif_pos ha', h.2 a.toNat (by omega) (by omega)]
    · rw [dif_neg ha, dif_neg (by rw [h.1]; exact ha)]
  · simp only [h24, if_false]
theorem SameP.step {fs fs' : List Fn} (h : SameP fs fs') (x : Int × Int) (pc : Nat) (l : List Int) : stepB fs' x pc l = stepB fs x pc l := by
  unfold stepB
  rw [h.uses]
theorem SameP.part {fs fs' : List Fn} (h : SameP fs fs') (code : List (Int × Int)) (k : Nat) (l : List Int) : partB fs' code k l = partB fs code k l := by
  induction k with
  | zero => rfl
  | succ k ih => show stepB fs' _ k (partB fs' code k l) = stepB fs _ k (partB fs code k l); rw [ih, h.step]
theorem SameP.iter {fs fs' : List Fn} (h : SameP fs fs') (code : List (Int × Int)) (k : Nat) : iterB fs' code k = iterB fs code k := by
  induction k with
  | zero => rfl
  | succ k ih => show partB fs' code code.length (iterB fs' code k) = partB fs code code.length (iterB fs code k); rw [ih, h.part]
theorem SameP.done {fs fs' : List Fn} (h : SameP fs fs') {code : List (Int × Int)} {d : List Int} (hd : Done fs' code d) : Done fs code d := by
  obtain ⟨⟨k, hk⟩, hr⟩ := hd
  refine ⟨⟨k, by rw [hk, h.iter]⟩, ?_⟩
  have e : roundB fs' code d = roundB fs code d := h.part code code.length d
  rw [← e]
  exact hr
theorem SameP.fine {fs fs' : List Fn} (h : SameP fs fs') {code : List (Int × Int)} (F : Fine fs code) : Fine fs' code := by
  refine ⟨fun f hf => ?_, F.one, F.most, F.jump⟩
  obtain ⟨k, hk, rfl⟩ := List.getElem_of_mem hf
  have hk' : k < fs.length := by rw [← h.1]; exact hk
  rw [h.2 k hk' hk]
  exact F.params _ (List.getElem_mem hk')
theorem SameP.lab {fs fs' : List Fn} (h : SameP fs fs') {code : List (Int × Int)} {d : List Int} (L : Lab fs code d) : Lab fs' code d := by
  refine ⟨L.len, L.low, L.zero, fun i hi h0 => ?_, L.reach⟩
  have := L.step i hi h0
  unfold leftOf at this ⊢
  rw [h.uses]
  exact this
theorem SameP.refl (fs : List Fn) : SameP fs fs := ⟨rfl, fun _ _ _ => rfl⟩
theorem SameP.set {fs fs' : List Fn} (h : SameP fs fs') (i : Nat) (hi : i < fs.length) (l : Int) (ys : List (Int × Int)) : SameP fs (fs'.set i ⟨fs[i].params, l, ys⟩) := by
  refine ⟨by rw [List.length_set]; exact h.1, fun k hk hk' => ?_⟩
  rw [List.getElem_set]
  split
  · rename_i e; subst e; rfl
  · exact h.2 k hk (by simpa using hk')
/-- What a step of folding leaves is good, with heights of its own. -/
theorem FOk.next {fs : List Fn} {code : List (Int × Int)} {d : List Int} (h : FOk fs code d) {i : Nat} {v : Int} (hf : First code d i v) (hex : ∃ e, Done fs (foldTo i v code) e) : foldNext fs code = foldTo i v code ∧ FOk fs (foldTo i v code) (keptD (goneF i) d code.length) := by
  obtain ⟨L, F⟩ := hf.1.lab h.fine h.lab
  obtain ⟨e, he⟩ := hex
  have e2 := L.done F he
  exact ⟨foldNext_yes h.done hf, F, L, by rw [← e2]; exact he⟩
end Go.Proofs.YtjdoljaailokmaaGreatDoor
