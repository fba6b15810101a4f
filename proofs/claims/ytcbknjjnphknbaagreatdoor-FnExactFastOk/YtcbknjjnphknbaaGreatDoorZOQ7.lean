/-
  More that is known of the functions of the text Plain.
  How many values an instruction takes and lays, how high the stack is ahead of each instruction of a function, and the first trouble of a module, as functions and predicates on plain data.
  A frame for calls that write to blocks of some element types alone, and what a byte slice of the call's own holds.
  Which blocks of memory hold the texts, the functions and the instructions of a module that was copied, so that they may be written.
  What spec.l03Next returns: the places that may follow, in memory of the call's own.
-/
import Derived.Test.YtcbknjjnphknbaaGreatDoorZOQ4
import Derived.Test.YtcbknjjnphknbaaGreatDoorZOQ1
import Derived.Deep.AppendLies
import Derived.Test.YtcbknjjnphknbaaGreatDoorZOQ2
namespace Go.Proofs.YtcbknjjnphknbaaGreatDoor

theorem lt_block {w : World} {g : Nat} {o : Obj} (h : w.heap[g]? = some o) : g < w.heap.size := by
  rcases Nat.lt_or_ge g w.heap.size with h' | h'
  · exact h'
  · rw [Array.getElem?_eq_none h'] at h; cases h

theorem fnB_no {nt nf : Int} {f : Fn} (h : ¬ (0 ≤ f.params ∧ f.params ≤ 6 ∧ f.params ≤ f.locals ∧ f.locals ≤ 12 ∧ 1 ≤ f.code.length ∧ f.code.length ≤ 120)) : fnB nt nf f = false := by
  rw [Bool.eq_false_iff]
  intro hc
  apply h
  unfold fnB at hc
  simp only [Bool.and_eq_true, decide_eq_true_eq] at hc
  omega
theorem fnB_all {nt nf : Int} {f : Fn} (h : 0 ≤ f.params ∧ f.params ≤ 6 ∧ f.params ≤ f.locals ∧ f.locals ≤ 12 ∧ 1 ≤ f.code.length ∧ f.code.length ≤ 120) : fnB nt nf f = f.code.all fun x => insB nt nf f.locals f.code.length x.1 x.2 := by
  obtain ⟨h1, h2, h3, h4, h5, h6⟩ := h
  unfold fnB
  rw [decide_eq_true h1, decide_eq_true h2, decide_eq_true h3, decide_eq_true h4, decide_eq_true h5, decide_eq_true h6]
  rfl
theorem modB_no {ts : List ByteArray} {fs : List Fn} (h : ¬ (1 ≤ fs.length ∧ fs.length ≤ 12 ∧ ts.length ≤ 20)) : modB ts fs = false := by
  rw [Bool.eq_false_iff]
  intro hc
  apply h
  unfold modB at hc
  simp only [Bool.and_eq_true, decide_eq_true_eq] at hc
  omega
theorem modB_all {ts : List ByteArray} {fs : List Fn} (h : 1 ≤ fs.length ∧ fs.length ≤ 12 ∧ ts.length ≤ 20) : modB ts fs = (ts.all textB && fs.all fun f => fnB ts.length fs.length f) := by
  obtain ⟨h1, h2, h3⟩ := h
  unfold modB
  rw [decide_eq_true h1, decide_eq_true h2, decide_eq_true h3]
  rfl
end Go.Proofs.YtcbknjjnphknbaaGreatDoor

namespace Go.Proofs.YtcbknjjnphknbaaGreatDoor

/-- How many values an instruction takes off the stack, and how many it lays there. -/
def usesB (fs : List Fn) (op a : Int) : Int × Int :=
  if op = 1 ∨ op = 2 ∨ op = 3 ∨ op = 4 ∨ op = 5 ∨ op = 6 ∨ op = 20 then (0, 1)
  else if op = 7 ∨ op = 9 ∨ op = 18 ∨ op = 19 ∨ op = 25 ∨ op = 26 then (1, 0)
  else if op = 8 then (1, 2)
  else if op = 10 then (2, 2)
  else if op = 11 ∨ op = 12 ∨ op = 13 ∨ op = 14 ∨ op = 15 then (2, 1)
  else if op = 16 ∨ op = 21 then (1, 1)
  else if op = 22 then (2, 0)
  else if op = 23 then (if 0 ≤ a ∧ a ≤ 6 then (a + 1, 1) else (0, 0))
  else if op = 24 then (if h : 0 ≤ a ∧ a < fs.length then ((fs[a.toNat]'(by omega)).params, 1) else (0, 0))
  else (0, 0)

theorem usesB_out {fs : List Fn} {op a : Int} (h : op < 1 ∨ 26 < op) : usesB fs op a = (0, 0) := by
  unfold usesB
  repeat' split
  all_goals first | rfl | omega

/-- In a module that is ok an instruction takes and lays no fewer than none, and not many. -/
theorem usesB_ok {fs : List Fn} (h : ∀ f ∈ fs, 0 ≤ f.params ∧ f.params ≤ 6) (op a : Int) : 0 ≤ (usesB fs op a).1 ∧ (usesB fs op a).1 ≤ 7 ∧ 0 ≤ (usesB fs op a).2 ∧ (usesB fs op a).2 ≤ 2 := by
  unfold usesB
  repeat' split
  all_goals first | (refine ⟨?_, ?_, ?_, ?_⟩ <;> simp <;> omega) | skip
  rename_i hx
  have := h (fs[a.toNat]'(by omega)) (List.getElem_mem _)
  refine ⟨?_, ?_, ?_, ?_⟩ <;> simp <;> omega

/-- The places that may follow an instruction. -/
def nextB (op a : Int) (pc : Nat) : List Int := if op = 25 then [] else if op = 17 then [a] else if op = 18 ∨ op = 19 then [(pc : Int) + 1, a] else [(pc : Int) + 1]

/-- A height is laid where there is none yet. -/
def layB (left : Int) (h : List Int) (nx : Int) : List Int := if nx < h.length ∧ h.getD nx.toNat (-1) < 0 then h.set nx.toNat left else h

/-- One instruction, as it is gone through. -/
def stepB (fs : List Fn) (x : Int × Int) (pc : Nat) (h : List Int) : List Int :=
  if h.getD pc (-1) < (usesB fs x.1 x.2).1 ∨ 16 < h.getD pc (-1) - (usesB fs x.1 x.2).1 + (usesB fs x.1 x.2).2 then h
  else (nextB x.1 x.2 pc).foldl (layB (h.getD pc (-1) - (usesB fs x.1 x.2).1 + (usesB fs x.1 x.2).2)) h

/-- The first instructions of a round. -/
def partB (fs : List Fn) (code : List (Int × Int)) : Nat → List Int → List Int
  | 0, h => h
  | k + 1, h => stepB fs (code.getD k (0, 0)) k (partB fs code k h)

def roundB (fs : List Fn) (code : List (Int × Int)) (h : List Int) : List Int := partB fs code code.length h

def initB (n : Nat) : List Int := (List.replicate n (-1)).set 0 0

def iterB (fs : List Fn) (code : List (Int × Int)) : Nat → List Int
  | 0 => initB code.length
  | k + 1 => roundB fs code (iterB fs code k)

/-- The heights that are told: come to by rounds, and one more changes nothing. -/
def Done (fs : List Fn) (code : List (Int × Int)) (d : List Int) : Prop := (∃ k, d = iterB fs code k) ∧ roundB fs code d = d

theorem iter_more {fs : List Fn} {code : List (Int × Int)} {k : Nat} (h : roundB fs code (iterB fs code k) = iterB fs code k) (j : Nat) : iterB fs code (k + j) = iterB fs code k := by
  induction j with
  | zero => rfl
  | succ j ih => show roundB fs code (iterB fs code (k + j)) = _; rw [ih, h]

theorem Done.one {fs : List Fn} {code : List (Int × Int)} {d e : List Int} (hd : Done fs code d) (he : Done fs code e) : d = e := by
  obtain ⟨⟨k, rfl⟩, h1⟩ := hd
  obtain ⟨⟨j, rfl⟩, h2⟩ := he
  rcases Nat.le_total k j with h | h
  · have := iter_more h1 (j - k)
    rw [show k + (j - k) = j by omega] at this
    exact this.symm
  · have := iter_more h2 (k - j)
    rw [show j + (k - j) = k by omega] at this
    exact this

/-- How many have no height yet. -/
def negs (h : List Int) : Nat := h.countP fun x => decide (x < 0)

/-- What heights are throughout. -/
structure Hts (n : Nat) (h : List Int) : Prop where
  len : h.length = n
  low : ∀ i (hi : i < h.length), -1 ≤ h[i]
  high : ∀ i (hi : i < h.length), h[i] ≤ 16

theorem Hts.get {n : Nat} {h : List Int} (H : Hts n h) {i : Nat} (hi : i < n) : h.getD i (-1) = h[i]'(by rw [H.len]; exact hi) := by
  rw [List.getD_eq_getElem?_getD, List.getElem?_eq_getElem (by rw [H.len]; exact hi)]; rfl

theorem layB_hts {n : Nat} {h : List Int} {left nx : Int} (H : Hts n h) (h0 : 0 ≤ left) (h1 : left ≤ 16) : Hts n (layB left h nx) := by
  unfold layB
  split
  · refine ⟨by rw [List.length_set]; exact H.len, ?_, ?_⟩
    · intro i hi
      rw [List.getElem_set]
      split
      · omega
      · exact H.low i (by simpa using hi)
    · intro i hi
      rw [List.getElem_set]
      split
      · omega
      · exact H.high i (by simpa using hi)
  · exact H

theorem layB_less {h : List Int} {left nx : Int} (h0 : 0 ≤ left) (h1 : 0 ≤ nx) : (layB left h nx = h ∧ ¬ (nx < h.length ∧ h.getD nx.toNat (-1) < 0)) ∨ (nx < h.length ∧ h.getD nx.toNat (-1) < 0 ∧ layB left h nx = h.set nx.toNat left ∧ negs (layB left h nx) + 1 = negs h) := by
  unfold layB
  by_cases hc : nx < h.length ∧ h.getD nx.toNat (-1) < 0
  · right
    rw [if_pos hc]
    refine ⟨hc.1, hc.2, rfl, ?_⟩
    have hlt : nx.toNat < h.length := by omega
    have hneg : h[nx.toNat] < 0 := by
      have := hc.2
      rwa [List.getD_eq_getElem?_getD, List.getElem?_eq_getElem hlt, Option.getD_some] at this
    unfold negs
    rw [List.countP_set hlt]
    have hpos : 0 < List.countP (fun x => decide (x < 0)) h := List.countP_pos_iff.2 ⟨h[nx.toNat], List.getElem_mem _, by simpa using hneg⟩
    rw [if_pos (by simpa using hneg), if_neg (by simp; omega)]
    omega
  · left
    rw [if_neg hc]
    exact ⟨rfl, hc⟩

/-- The same, or fewer without a height. -/
def Less (h h' : List Int) : Prop := h' = h ∨ negs h' < negs h
theorem Less.trans {a b c : List Int} (h1 : Less a b) (h2 : Less b c) : Less a c := by
  rcases h1 with rfl | h1
  · exact h2
  · rcases h2 with rfl | h2
    · exact Or.inr h1
    · exact Or.inr (by omega)

theorem layB_Less {h : List Int} {left nx : Int} (h0 : 0 ≤ left) (h1 : 0 ≤ nx) : Less h (layB left h nx) := by
  rcases layB_less (h := h) h0 h1 with h | h
  · exact Or.inl h.1
  · exact Or.inr (by omega)

theorem nextB_nonneg {op a : Int} {pc : Nat} (h : op = 17 ∨ op = 18 ∨ op = 19 → 0 ≤ a) : ∀ nx ∈ nextB op a pc, 0 ≤ nx := by
  intro nx hnx
  unfold nextB at hnx
  split at hnx
  · simp at hnx
  · split at hnx
    · simp at hnx; omega
    · split at hnx
      · simp at hnx; omega
      · simp at hnx; omega

theorem fold_lay {n : Nat} {left : Int} (h0 : 0 ≤ left) (h1 : left ≤ 16) (l : List Int) (hl : ∀ nx ∈ l, 0 ≤ nx) : ∀ h, Hts n h → Hts n (l.foldl (layB left) h) ∧ Less h (l.foldl (layB left) h) := by
  induction l with
  | nil => exact fun h H => ⟨H, Or.inl rfl⟩
  | cons x l ih =>
    intro h H
    rw [List.foldl_cons]
    have := ih (fun nx hnx => hl nx (List.mem_cons_of_mem _ hnx)) (layB left h x) (layB_hts H h0 h1)
    exact ⟨this.1, (layB_Less h0 (hl x (List.mem_cons_self ..))).trans this.2⟩

/-- A module's functions as far as heights ask for them. -/
structure Fine (fs : List Fn) (code : List (Int × Int)) : Prop where
  params : ∀ f ∈ fs, 0 ≤ f.params ∧ f.params ≤ 6
  one : 1 ≤ code.length
  most : code.length ≤ 120
  jump : ∀ i (hi : i < code.length), code[i].1 = 17 ∨ code[i].1 = 18 ∨ code[i].1 = 19 → 0 ≤ code[i].2 ∧ code[i].2 < code.length

theorem step_ok {fs : List Fn} {n : Nat} {x : Int × Int} {pc : Nat} {h : List Int} (hp : ∀ f ∈ fs, 0 ≤ f.params ∧ f.params ≤ 6) (hj : x.1 = 17 ∨ x.1 = 18 ∨ x.1 = 19 → 0 ≤ x.2) (H : Hts n h) :
    Hts n (stepB fs x pc h) ∧ Less h (stepB fs x pc h) := by
  unfold stepB
  split
  · exact ⟨H, Or.inl rfl⟩
  · rename_i hc
    have hu := usesB_ok hp x.1 x.2
    exact fold_lay (by omega) (by omega) _ (nextB_nonneg hj) _ H

theorem getD_code {code : List (Int × Int)} {k : Nat} (hk : k < code.length) : code.getD k (0, 0) = code[k] := by
  rw [List.getD_eq_getElem?_getD, List.getElem?_eq_getElem hk]; rfl

theorem part_ok {fs : List Fn} {code : List (Int × Int)} (F : Fine fs code) {h : List Int} (H : Hts code.length h) (k : Nat) (hk : k ≤ code.length) : Hts code.length (partB fs code k h) ∧ Less h (partB fs code k h) := by
  induction k with
  | zero => exact ⟨H, Or.inl rfl⟩
  | succ k ih =>
    have := ih (by omega)
    have h2 := step_ok (fs := fs) (x := code.getD k (0, 0)) (pc := k) F.params (by rw [getD_code (by omega)]; exact fun hx => (F.jump k (by omega) hx).1) this.1
    exact ⟨h2.1, this.2.trans h2.2⟩

theorem init_hts {n : Nat} : Hts n (initB n) := by
  unfold initB
  refine ⟨by simp, ?_, ?_⟩
  · intro i hi
    rw [List.getElem_set]
    split
    · omega
    · simp
  · intro i hi
    rw [List.getElem_set]
    split
    · omega
    · simp

theorem init_negs {n : Nat} (h : 1 ≤ n) : negs (initB n) = n - 1 := by
  unfold initB negs
  rw [List.countP_set (by simp; omega)]
  simp [List.countP_replicate]

theorem iter_hts {fs : List Fn} {code : List (Int × Int)} (F : Fine fs code) (k : Nat) : Hts code.length (iterB fs code k) := by
  induction k with
  | zero => exact init_hts
  | succ k ih => exact (part_ok F ih _ (Nat.le_refl _)).1

/-- Where each has a height, nothing changes any more. -/
theorem step_full {fs : List Fn} {n : Nat} {x : Int × Int} {pc : Nat} {h : List Int} (hp : ∀ f ∈ fs, 0 ≤ f.params ∧ f.params ≤ 6) (hj : x.1 = 17 ∨ x.1 = 18 ∨ x.1 = 19 → 0 ≤ x.2) (H : Hts n h) (h0 : negs h = 0) : stepB fs x pc h = h := by
  rcases (step_ok hp hj H).2 with h | h
  · exact h
  · omega

theorem part_full {fs : List Fn} {code : List (Int × Int)} (F : Fine fs code) {h : List Int} (H : Hts code.length h) (h0 : negs h = 0) (k : Nat) (hk : k ≤ code.length) : partB fs code k h = h := by
  rcases (part_ok F H k hk).2 with h | h
  · exact h
  · omega

/-- The rest of a round, where each has a height. -/
theorem part_rest {fs : List Fn} {code : List (Int × Int)} (F : Fine fs code) {h : List Int} (H : Hts code.length h) {k : Nat} (hk : k ≤ code.length) (h0 : negs (partB fs code k h) = 0) (j : Nat) (hj : k + j ≤ code.length) : partB fs code (k + j) h = partB fs code k h := by
  induction j with
  | zero => rfl
  | succ j ih =>
    have e := ih (by omega)
    show stepB fs (code.getD (k + j) (0, 0)) (k + j) (partB fs code (k + j) h) = _
    rw [e]
    exact step_full F.params (by rw [getD_code (by omega)]; exact fun hx => (F.jump _ (by omega) hx).1) (part_ok F H k hk).1 h0

theorem done_full {fs : List Fn} {code : List (Int × Int)} (F : Fine fs code) {j k : Nat} (hk : k ≤ code.length) (h0 : negs (partB fs code k (iterB fs code j)) = 0) : Done fs code (partB fs code k (iterB fs code j)) := by
  have H := iter_hts F j
  have e : roundB fs code (iterB fs code j) = partB fs code k (iterB fs code j) := by
    have := part_rest F H hk h0 (code.length - k) (by omega)
    rw [show k + (code.length - k) = code.length by omega] at this
    exact this
  refine ⟨⟨j + 1, e.symm⟩, ?_⟩
  exact part_full F (part_ok F H k hk).1 h0 _ (Nat.le_refl _)

theorem done_same {fs : List Fn} {code : List (Int × Int)} (F : Fine fs code) {j : Nat} (h0 : negs (iterB fs code j) ≤ negs (partB fs code code.length (iterB fs code j))) : Done fs code (partB fs code code.length (iterB fs code j)) := by
  have e : partB fs code code.length (iterB fs code j) = iterB fs code j := by
    rcases (part_ok F (iter_hts F j) code.length (Nat.le_refl _)).2 with h | h
    · exact h
    · omega
  refine ⟨⟨j + 1, rfl⟩, ?_⟩
  show roundB fs code (roundB fs code (iterB fs code j)) = roundB fs code (iterB fs code j)
  have e2 : roundB fs code (iterB fs code j) = iterB fs code j := e
  rw [e2, e2]

theorem Done.hts {fs : List Fn} {code : List (Int × Int)} (F : Fine fs code) {d : List Int} (h : Done fs code d) : Hts code.length d := by
  obtain ⟨⟨k, rfl⟩, -⟩ := h
  exact iter_hts F k

/-- The trouble at an instruction, heights being known. -/
def troubleB (fs : List Fn) (code : List (Int × Int)) (d : List Int) (pc : Nat) : Int :=
  let x := code.getD pc (0, 0)
  let left := d.getD pc (-1) - (usesB fs x.1 x.2).1 + (usesB fs x.1 x.2).2
  if d.getD pc (-1) < 0 then 0
  else if d.getD pc (-1) < (usesB fs x.1 x.2).1 ∨ 16 < left then 2
  else if (nextB x.1 x.2 pc).any (fun nx => decide ((code.length : Int) ≤ nx)) then 3
  else if (nextB x.1 x.2 pc).any (fun nx => decide (d.getD nx.toNat (-1) ≠ left)) then 4
  else 0

/-- No trouble in a function ahead of instruction 'k'. -/
def Clear (fs : List Fn) (code : List (Int × Int)) (k : Nat) : Prop := ∀ d, Done fs code d → ∀ j, j < k → troubleB fs code d j = 0

/-- What a module that is ok is told: nothing, or its first trouble. -/
def Told (fs : List Fn) (c f at' : Int) : Prop :=
  (c = 0 ∧ f = 0 ∧ at' = 0 ∧ ∀ g (hg : g < fs.length), Clear fs fs[g].code fs[g].code.length) ∨
  (∃ (g : Nat) (hg : g < fs.length) (k : Nat) (d : List Int), f = g ∧ at' = k ∧ k < fs[g].code.length ∧ Done fs fs[g].code d ∧ troubleB fs fs[g].code d k = c ∧ c ≠ 0 ∧ Clear fs fs[g].code k ∧ ∀ g' (hg' : g' < fs.length), g' < g → Clear fs fs[g'].code fs[g'].code.length)

theorem Told.one {fs : List Fn} {c f a c' f' a' : Int} (h : Told fs c f a) (h' : Told fs c' f' a') : c = c' ∧ f = f' ∧ a = a' := by
  rcases h with ⟨rfl, rfl, rfl, hA⟩ | ⟨g, hg, k, d, rfl, rfl, hk, hd, ht, hc, hB, hA⟩
  · rcases h' with ⟨rfl, rfl, rfl, -⟩ | ⟨g', hg', k', d', rfl, rfl, hk', hd', ht', hc', -, -⟩
    · exact ⟨rfl, rfl, rfl⟩
    · exact absurd (ht'.symm.trans (hA g' hg' d' hd' k' hk')) hc'
  · rcases h' with ⟨rfl, rfl, rfl, hA'⟩ | ⟨g', hg', k', d', rfl, rfl, hk', hd', ht', hc', hB', hA'⟩
    · exact absurd (ht.symm.trans (hA' g hg d hd k hk)) hc
    · obtain rfl : g = g' := by
        rcases Nat.lt_trichotomy g g' with h | h | h
        · exact absurd (ht.symm.trans (hA' g hg h d hd k hk)) hc
        · exact h
        · exact absurd (ht'.symm.trans (hA g' hg' h d' hd' k' hk')) hc'
      obtain rfl : k = k' := by
        rcases Nat.lt_trichotomy k k' with h | h | h
        · exact absurd (ht.symm.trans (hB' d hd k h)) hc
        · exact h
        · exact absurd (ht'.symm.trans (hB d' hd' k' h)) hc'
      obtain rfl := hd.one hd'
      exact ⟨ht.symm.trans ht', rfl, rfl⟩
end Go.Proofs.YtcbknjjnphknbaaGreatDoor

namespace Go.Proofs.YtcbknjjnphknbaaGreatDoor
open Go.RowKit

/-- The object is a row of cells of one of these types. -/
def ofTypes (ts : List Nat) : Obj → Prop
  | .cells _ t _ => t ∈ ts
  | _ => False

/-- Blocks below B, and blocks of other types than 'ts', are as they were. -/
structure Keeps (B : Nat) (ts : List Nat) (w w' : World) : Prop where
  os : w'.os = w.os
  tape : w'.tape = w.tape
  output : w'.output = w.output
  size : w.heap.size ≤ w'.heap.size
  block : ∀ k o, w.heap[k]? = some o → (k < B ∨ ¬ ofTypes ts o) → w'.heap[k]? = some o

theorem Keeps.refl (B : Nat) (ts : List Nat) (w : World) : Keeps B ts w w := ⟨rfl, rfl, rfl, Nat.le_refl _, fun _ _ h _ => h⟩
theorem Keeps.trans {B : Nat} {ts : List Nat} {a b c : World} (h : Keeps B ts a b) (k : Keeps B ts b c) : Keeps B ts a c :=
  ⟨k.os.trans h.os, k.tape.trans h.tape, k.output.trans h.output, Nat.le_trans h.size k.size, fun i o hi ho => k.block i o (h.block i o hi ho) ho⟩
theorem Keeps.below {B : Nat} {ts : List Nat} {w w' : World} (h : Below w.heap.size w w') : Keeps B ts w w' :=
  ⟨h.os, h.tape, h.output, h.size, fun _ _ hi _ => block_kept hi h⟩
theorem Keeps.alloc {B : Nat} {ts : List Nat} {a w : World} (h : Keeps B ts a w) (o : Obj) : Keeps B ts a (w.alloc o) := h.trans (Keeps.below ((Below.refl _ _).alloc (Nat.le_refl _) o))
theorem Keeps.drew {B : Nat} {ts : List Nat} {a w : World} (h : Keeps B ts a w) : Keeps B ts a w.drew := ⟨h.os, h.tape, h.output, h.size, h.block⟩
theorem Keeps.mono {B B' : Nat} {ts ts' : List Nat} {w w' : World} (h : Keeps B ts w w') (hB : B' ≤ B) (ht : ∀ t ∈ ts, t ∈ ts') : Keeps B' ts' w w' :=
  ⟨h.os, h.tape, h.output, h.size, fun k o hk ho => h.block k o hk (by
    rcases ho with ho | ho
    · exact .inl (by omega)
    · refine .inr fun hx => ho ?_
      cases o <;> first | exact ht _ hx | exact hx)⟩
theorem Keeps.toBelow {B : Nat} {ts : List Nat} {w w' : World} (h : Keeps B ts w w') (hB : B ≤ w.heap.size) : Below B w w' :=
  ⟨h.os, h.tape, h.output, h.size, fun k hk => by
    have : k < w.heap.size := by omega
    rw [Array.getElem?_eq_getElem this]
    exact h.block k _ (Array.getElem?_eq_getElem this) (.inl hk)⟩
/-- Behind an append to a slice of the call's own. -/
theorem Keeps.grown {B e size n : Nat} {ts : List Nat} {v : Value} {xs : List Value} {w w' : World} (hown : w.ownsRow B e size v n xs) (hg : w.grownBy w' v.ownBlock) (he : e ∈ ts) : Keeps B ts w w' := by
  refine ⟨hg.os, hg.tape, hg.output, hg.size, fun k o hk ho => ?_⟩
  have hlt : k < w.heap.size := by
    rcases Nat.lt_or_ge k w.heap.size with h' | h'
    · exact h'
    · rw [Array.getElem?_eq_none h'] at hk; cases hk
  rw [hg.block k hlt ?_]
  · exact hk
  · intro hkv
    rcases hown.2 with ⟨rfl, -⟩ | ⟨g, cap, cur, rfl, hb, hh, -⟩
    · simp [Value.ownBlock] at hkv
    · simp [Value.ownBlock] at hkv
      subst hkv
      rw [hh] at hk
      cases hk
      rcases ho with ho | ho
      · omega
      · exact ho he
theorem Keeps.cell {B : Nat} {ts : List Nat} {w w' : World} (h : Keeps B ts w w') {b : Nat} {cs : Array Value} {t : TypeId} {fr : Nat × Nat} (hb : w.heap[b]? = some (.cells cs t fr)) (ht : t ∉ ts) : w'.heap[b]? = some (.cells cs t fr) :=
  h.block b _ hb (.inr ht)

/-- Behind a store into a block of one of the types. -/
theorem Keeps.set {B g : Nat} {ts : List Nat} {a w : World} {c : Array Value} {t : TypeId} {fr : Nat × Nat} (h : Keeps B ts a w) (hg : w.heap[g]? = some (.cells c t fr)) (ht : t ∈ ts) (hB : B ≤ g) (i : Nat) (v : Value) : Keeps B ts a (w.setCell ⟨g, i, none⟩ v) := by
  refine ⟨h.os, h.tape, h.output, by simpa using h.size, fun k o hk ho => ?_⟩
  by_cases e : k = g
  · subst e
    have := h.block k o hk ho
    rw [hg] at this
    cases this
    rcases ho with ho | ho
    · omega
    · exact absurd ht ho
  · rw [Below.heap_setCell _ _ _ _ e]
    exact h.block k o hk ho

/-- The rows of cells have the sizes that they had. -/
def SameShape (w w' : World) : Prop := ∀ (b : Nat) (c : Array Value) (t : TypeId), w.heap[b]? = some (Obj.cells c t (0, 0)) → ∃ c' : Array Value, w'.heap[b]? = some (Obj.cells c' t (0, 0)) ∧ c'.size = c.size
theorem SameShape.refl (w : World) : SameShape w w := fun _ c _ h => ⟨c, h, rfl⟩
theorem SameShape.trans {a b c : World} (h : SameShape a b) (k : SameShape b c) : SameShape a c := fun i x t hi => by
  obtain ⟨y, hy, e1⟩ := h i x t hi
  obtain ⟨z, hz, e2⟩ := k i y t hy
  exact ⟨z, hz, e2.trans e1⟩
theorem SameShape.below {w w' : World} (h : Below w.heap.size w w') : SameShape w w' := fun _ c _ hb => ⟨c, block_kept hb h, rfl⟩
theorem SameShape.set {a w : World} {g : Nat} {c : Array Value} {t : TypeId} (h : SameShape a w) (hg : w.heap[g]? = some (.cells c t (0, 0))) (i : Nat) (v : Value) : SameShape a (w.setCell ⟨g, i, none⟩ v) := fun b x u hb => by
  obtain ⟨y, hy, e1⟩ := h b x u hb
  by_cases e : b = g
  · subst e
    rw [hg] at hy
    cases hy
    exact ⟨_, block_set hg v, by simpa using e1⟩
  · exact ⟨y, by rw [Below.heap_setCell _ _ _ _ e]; exact hy, e1⟩

/-- A byte slice of the call's own, in a block from B on. -/
def Buf (w : World) (B : Nat) (v : Value) (bs : List Int) : Prop := w.ownsRow B 5 1 v bs.length (bs.map (Value.int .u8))

theorem Buf.of {w : World} {B n m cap : Nat} {a : Option Addr} {vs : List Value} {xs : List Int} (h : w.ownsRow B 5 1 (.slice a n cap) n vs) (hv : vs = xs.map (Value.int .u8)) (hn : n = xs.length) (hm : m = n) : Buf w B (.slice a m cap) xs := by
  subst hm
  subst hn
  subst hv
  exact h
theorem ret_slice {a : Option Addr} {n m c : Nat} (h : n = m) : Ending.returned (.slice a n c) = .returned (.slice a m c) := by rw [h]

/-- The cells of a byte slice. -/
def BytesAt (w : World) (lo : Nat) (a : Option Addr) (bs : List Int) : Prop :=
  ∀ i (h : i < bs.length), ∃ b off, a = some ⟨b, off, none⟩ ∧ lo ≤ b ∧ w.cell? ⟨b, off + i, none⟩ = some (.int .u8 bs[i])

theorem BytesAt.mono {w w' : World} {lo : Nat} {a : Option Addr} {bs : List Int} (h : BytesAt w lo a bs) (hb : Below w.heap.size w w') : BytesAt w' lo a bs := by
  intro i hi
  obtain ⟨b, off, h1, h2, h3⟩ := h i hi
  exact ⟨b, off, h1, h2, cell_later hb h3⟩

theorem Buf.form {w : World} {B : Nat} {v : Value} {bs : List Int} (h : Buf w B v bs) : ∃ a cap, v = .slice a bs.length cap ∧ BytesAt w B a bs := by
  rcases h.2 with ⟨rfl, hn⟩ | ⟨g, cap, cur, rfl, hb, hh, hn, -, hs, htake⟩
  · exact ⟨none, 0, by rw [hn], fun i hi => by omega⟩
  · refine ⟨_, cap, rfl, fun i hi => ⟨g, 0, rfl, hb, ?_⟩⟩
    rw [block_cell hh, Nat.zero_add]
    have h1 : (cur.toList.take (bs.length * 1))[i]? = (bs.map (Value.int .u8))[i]? := by rw [htake]
    rw [List.getElem?_take_of_lt (by omega)] at h1
    simpa [hi] using h1
end Go.Proofs.YtcbknjjnphknbaaGreatDoor
namespace Go.Proofs.YtcbknjjnphknbaaGreatDoor
open Go.RowKit

def TextBlk (w : World) (g n : Nat) : Prop := ∃ cur : Array Value, w.heap[g]? = some (Obj.cells cur 9 (0, 0)) ∧ cur.size = n
def CodeBlk (w : World) (g n : Nat) : Prop := ∃ cur : Array Value, w.heap[g]? = some (Obj.cells cur 135 (0, 0)) ∧ cur.size = n * 2
def FnsBlk (w : World) (lo g : Nat) (fs : List Fn) : Prop := ∃ cur : Array Value, w.heap[g]? = some (Obj.cells cur 91 (0, 0)) ∧ cur.size = fs.length * 3 ∧
  ∀ j (hj : j < fs.length), ∃ gc, cur[j * 3 + 2]? = some (.slice (some ⟨gc, 0, none⟩) fs[j].code.length fs[j].code.length) ∧ lo ≤ gc ∧ CodeBlk w gc fs[j].code.length

theorem block_above {lo g : Nat} {w w' : World} {o : Obj} (h : Above lo w w') (hg : lo ≤ g) (hb : w.heap[g]? = some o) : w'.heap[g]? = some o := by
  have hlt : g < w.heap.size := by
    rcases Nat.lt_or_ge g w.heap.size with h' | h'
    · exact h'
    · rw [Array.getElem?_eq_none h'] at hb; cases hb
  rw [h g hg hlt]; exact hb
theorem TextBlk.mono {w w' : World} {g n : Nat} (h : TextBlk w g n) (hb : Below w.heap.size w w') : TextBlk w' g n := by
  obtain ⟨c, h1, h2⟩ := h
  exact ⟨c, block_kept h1 hb, h2⟩
theorem CodeBlk.mono {w w' : World} {g n : Nat} (h : CodeBlk w g n) (hb : Below w.heap.size w w') : CodeBlk w' g n := by
  obtain ⟨c, h1, h2⟩ := h
  exact ⟨c, block_kept h1 hb, h2⟩
theorem FnsBlk.mono {w w' : World} {lo g : Nat} {fs : List Fn} (h : FnsBlk w lo g fs) (hb : Below w.heap.size w w') : FnsBlk w' lo g fs := by
  obtain ⟨c, h1, h2, h3⟩ := h
  refine ⟨c, block_kept h1 hb, h2, fun j hj => ?_⟩
  obtain ⟨gc, a, b, d⟩ := h3 j hj
  exact ⟨gc, a, b, d.mono hb⟩
theorem TextBlk.above {w w' : World} {lo g n : Nat} (h : TextBlk w g n) (hb : Above lo w w') (hg : lo ≤ g) : TextBlk w' g n := by
  obtain ⟨c, h1, h2⟩ := h
  exact ⟨c, block_above hb hg h1, h2⟩
theorem CodeBlk.above {w w' : World} {lo g n : Nat} (h : CodeBlk w g n) (hb : Above lo w w') (hg : lo ≤ g) : CodeBlk w' g n := by
  obtain ⟨c, h1, h2⟩ := h
  exact ⟨c, block_above hb hg h1, h2⟩
theorem FnsBlk.above {w w' : World} {lo lo' g : Nat} {fs : List Fn} (h : FnsBlk w lo g fs) (hb : Above lo' w w') (hg : lo' ≤ g) (hl : lo' ≤ lo) : FnsBlk w' lo g fs := by
  obtain ⟨c, h1, h2, h3⟩ := h
  refine ⟨c, block_above hb hg h1, h2, fun j hj => ?_⟩
  obtain ⟨gc, a, b, d⟩ := h3 j hj
  exact ⟨gc, a, b, d.above hb (by omega)⟩
theorem FnsBlk.low {w : World} {lo lo' g : Nat} {fs : List Fn} (h : FnsBlk w lo g fs) (hl : lo' ≤ lo) : FnsBlk w lo' g fs := by
  obtain ⟨c, h1, h2, h3⟩ := h
  refine ⟨c, h1, h2, fun j hj => ?_⟩
  obtain ⟨gc, a, b, d⟩ := h3 j hj
  exact ⟨gc, a, by omega, d⟩
theorem TextBlk.shape {w w' : World} {g n : Nat} (h : TextBlk w g n) (hs : SameShape w w') : TextBlk w' g n := by
  obtain ⟨c, h1, h2⟩ := h
  obtain ⟨c', h3, h4⟩ := hs g c 9 h1
  exact ⟨c', h3, h4.trans h2⟩
theorem CodeBlk.shape {w w' : World} {g n : Nat} (h : CodeBlk w g n) (hs : SameShape w w') : CodeBlk w' g n := by
  obtain ⟨c, h1, h2⟩ := h
  obtain ⟨c', h3, h4⟩ := hs g c 135 h1
  exact ⟨c', h3, h4.trans h2⟩
end Go.Proofs.YtcbknjjnphknbaaGreatDoor

namespace Go.Proofs.YtcbknjjnphknbaaGreatDoor
open Go.RowKit

theorem info3 : (Tryz.prog.info? 3).map (fun i => (i.zero, i.size, i.bytes)) = some (some (.int .i64 0), 1, 8) := by kernel_rfl

/-- The cells of a slice of numbers. -/
def IntsAt (w : World) (lo : Nat) (a : Option Addr) (xs : List Int) : Prop :=
  ∀ i (h : i < xs.length), ∃ b off, a = some ⟨b, off, none⟩ ∧ lo ≤ b ∧ w.cell? ⟨b, off + i, none⟩ = some (.int .i64 xs[i])

theorem IntsAt.mono {w w' : World} {lo : Nat} {a : Option Addr} {xs : List Int} (h : IntsAt w lo a xs) (hb : Below w.heap.size w w') : IntsAt w' lo a xs := by
  intro i hi
  obtain ⟨b, off, h1, h2, h3⟩ := h i hi
  exact ⟨b, off, h1, h2, cell_later hb h3⟩
theorem IntsAt.low {w : World} {lo lo' : Nat} {a : Option Addr} {xs : List Int} (h : IntsAt w lo a xs) (hl : lo' ≤ lo) : IntsAt w lo' a xs := fun i hi => by
  obtain ⟨b, off, h1, h2, h3⟩ := h i hi
  exact ⟨b, off, h1, by omega, h3⟩
theorem IntsAt.above {w w' : World} {lo : Nat} {a : Option Addr} {xs : List Int} (h : IntsAt w lo a xs) (hb : Above lo w w') : IntsAt w' lo a xs := by
  intro i hi
  obtain ⟨b, off, h1, h2, h3⟩ := h i hi
  exact ⟨b, off, h1, h2, hb.cell h2 h3⟩

theorem IntsAt.own {w : World} {B n cap : Nat} {a : Option Addr} {xs : List Int} {vs : List Value} (h : w.ownsRow B 3 1 (.slice a n cap) n vs) (hv : vs = xs.map (Value.int .i64)) (hn : n = xs.length) : IntsAt w B a xs := by
  subst hv
  subst hn
  rcases h.2 with ⟨-, hn⟩ | ⟨g, cap, cur, hv, hb, hh, hn, -, hs, htake⟩
  · exact fun i hi => by omega
  · cases hv
    refine fun i hi => ⟨g, 0, rfl, hb, ?_⟩
    rw [block_cell hh, Nat.zero_add]
    have h1 : (cur.toList.take (xs.length * 1))[i]? = (xs.map (Value.int .i64))[i]? := by rw [htake]
    rw [List.getElem?_take_of_lt (by omega)] at h1
    simpa [hi] using h1

theorem next25 (a : Int) (pc : Nat) : nextB 25 a pc = [] := rfl
theorem next17 (a : Int) (pc : Nat) : nextB 17 a pc = [a] := rfl
theorem next18 (a : Int) (pc : Nat) : nextB 18 a pc = [(pc : Int) + 1, a] := rfl
theorem next19 (a : Int) (pc : Nat) : nextB 19 a pc = [(pc : Int) + 1, a] := rfl
theorem next_else {op : Int} (a : Int) (pc : Nat) (h1 : op ≠ 25) (h2 : op ≠ 17) (h3 : op ≠ 18) (h4 : op ≠ 19) : nextB op a pc = [(pc : Int) + 1] := by
  unfold nextB
  rw [if_neg h1, if_neg h2, if_neg (by omega)]

theorem one_new (W : World) (n : Nat) (hn : W.heap.size = n) (v : Value) (t : TypeId) : ∀ (j : Nat) (u : Value), [v][j]? = some u → (W.alloc (.cells #[v] t)).cell? ((⟨n, 0, none⟩ : Addr).add j) = some u := by
  subst hn
  exact cell_one_new _ _ _

set_option maxRecDepth 100000 in
set_option maxHeartbeats 800000 in
theorem sNext_any (op a : Int) (pc : Nat) (w : World) (hpc : pc ≤ 1048576) :
    Calls Tryz.prog 65 #[.agg #[.int .i64 op, .int .i64 a], .int .i64 pc] w fun e w' => ∃ ad cap, e = .returned (.slice ad (nextB op a pc).length cap) ∧ IntsAt w' w.heap.size ad (nextB op a pc) ∧ Below w.heap.size w w' := by
  obtain ⟨i0, hi, hz0, hz1, hz2⟩ := info_parts info3
  by_cases h25 : op = 25
  · subst h25
    rw [next25]
    go_enter Tryz.func65, Tryz.ntmps65
    go_wp2
    go_ret
    exact ⟨_, _, rfl, fun i hi => absurd hi (by simp), ((Below.refl _ _).alloc (Nat.le_refl _) _).alloc (by simp) _⟩
  have hM0 := block_old (block_new w #[.int .i64 op, .int .i64 a] 135) (.cells #[] 3)
  have hE0 : ((w.alloc (.cells #[.int .i64 op, .int .i64 a] 135)).alloc (.cells #[] 3)).ownsRow w.heap.size 3 1 (.slice (some ⟨w.heap.size + 1, 0, none⟩) 0 0) 0 [] := by
    have := World.ownsRow_made (base := w.heap.size) (e := 3) (size := 1) (w.alloc (.cells #[.int .i64 op, .int .i64 a] 135)) #[] 0 (by simp) (by unfold maxLen; omega) rfl
    simpa using this
  have hbA : Below w.heap.size w ((w.alloc (.cells #[.int .i64 op, .int .i64 a] 135)).alloc (.cells #[] 3)) := ((Below.refl _ _).alloc (Nat.le_refl _) _).alloc (by simp) _
  by_cases h17 : op = 17
  · subst h17
    rw [next17]
    go_enter Tryz.func65, Tryz.ntmps65
    go_wp2_with (first | (at_builtin; refine wpList_append_lies _ rfl _ _ 87 rfl w.heap.size 3 i0 (.int .i64 0) 1 8 Tryz.underlying87 hi hz0 hz1 hz2 rfl (by decide) _ _ _ rfl (World.ownsRow.alloc hE0 _) ⟨w.heap.size + 1 + 1, 0, none⟩ 1 1 [.int .i64 a] rfl rfl (one_new _ _ (by simp) _ _) (by intro u hu; simp at hu; subst hu; rfl) (by decide) (by unfold maxLen; omega) (by omega) (by simp; omega) _ rfl ?_; intro g cap w1 hown1 hgrow1 hat1 hlt1))
    have hb1 : Below w.heap.size w w1 := (hbA.alloc (by simp; omega) _).trans ((Keeps.grown (ts := [3]) (World.ownsRow.alloc hE0 _) hgrow1 (by simp)).toBelow (by simp; omega))
    go_ret
    exact ⟨_, _, rfl, IntsAt.own hown1 (by simp) (by simp), hb1⟩
  by_cases h2 : op = 18 ∨ op = 19
  · rcases h2 with rfl | rfl
    all_goals
      first | rw [next18] | rw [next19]
      clear h25 h17
      go_enter Tryz.func65, Tryz.ntmps65
      go_wp2_with (first | (at_builtin; refine wpList_append_lies _ rfl _ _ 87 rfl w.heap.size 3 i0 (.int .i64 0) 1 8 Tryz.underlying87 hi hz0 hz1 hz2 rfl (by decide) _ _ _ rfl (World.ownsRow.alloc hE0 _) ⟨w.heap.size + 1 + 1, 0, none⟩ 1 1 [.int .i64 ((pc : Int) + 1)] rfl rfl (one_new _ _ (by simp) _ _) (by intro u hu; simp at hu; subst hu; rfl) (by decide) (by unfold maxLen; omega) (by omega) (by simp; omega) _ rfl ?_; intro g cap w1 hown1 hgrow1 hat1 hlt1; have hk1 := Keeps.grown (ts := [3]) (World.ownsRow.alloc hE0 _) hgrow1 (by simp); have hb1 : Below w.heap.size w w1 := (hbA.alloc (by simp; omega) _).trans (hk1.toBelow (by simp; omega)); have hM1 := hk1.cell (block_old hM0 _) (by simp); have x1 := block_cell hM1; have hsz1 := hb1.size; simp only [Nat.zero_add, List.nil_append] at hown1; clear hk1 hgrow1 hat1 hlt1 hE0 hM0 hM1 hbA; go_wp2_with (at_builtin; refine wpList_append_lies _ rfl _ _ 87 rfl w.heap.size 3 i0 (.int .i64 0) 1 8 Tryz.underlying87 hi hz0 hz1 hz2 rfl (by decide) (.slice (some ⟨g, 0, none⟩) 1 cap) 1 [.int .i64 ((pc : Int) + 1)] rfl (World.ownsRow.alloc hown1 _) ⟨w1.heap.size, 0, none⟩ 1 1 [.int .i64 a] rfl rfl (cell_one_new _ _ _) (by intro u hu; simp at hu; subst hu; rfl) (by decide) (by unfold maxLen; omega) (by omega) (by simp; omega) _ rfl ?_; intro g2 cap2 w2 hown2 hgrow2 hat2 hlt2)))
      have hb2 : Below w.heap.size w w2 := (hb1.alloc hb1.size _).trans ((Keeps.grown (ts := [3]) (World.ownsRow.alloc hown1 _) hgrow2 (by simp)).toBelow (by simp; omega))
      go_ret
      exact ⟨_, _, rfl, IntsAt.own hown2 (by simp) (by simp), hb2⟩
  · have h18 : op ≠ 18 := fun h => h2 (Or.inl h)
    have h19 : op ≠ 19 := fun h => h2 (Or.inr h)
    rw [next_else a pc h25 h17 h18 h19]
    have b25 : (op != 25) = true := by simpa using h25
    have b17 : (op != 17) = true := by simpa using h17
    have d17 : (op == 17) = false := by simpa using h17
    have b18 : (op == 18) = false := by simpa using h18
    have b19 : (op == 19) = false := by simpa using h19
    clear h2 h25 h17 h18 h19
    go_enter Tryz.func65, Tryz.ntmps65
    go_wp2_with (first | (at_builtin; refine wpList_append_lies _ rfl _ _ 87 rfl w.heap.size 3 i0 (.int .i64 0) 1 8 Tryz.underlying87 hi hz0 hz1 hz2 rfl (by decide) _ _ _ rfl (World.ownsRow.alloc hE0 _) ⟨w.heap.size + 1 + 1, 0, none⟩ 1 1 [.int .i64 ((pc : Int) + 1)] rfl rfl (one_new _ _ (by simp) _ _) (by intro u hu; simp at hu; subst hu; rfl) (by decide) (by unfold maxLen; omega) (by omega) (by simp; omega) _ rfl ?_; intro g cap w1 hown1 hgrow1 hat1 hlt1; have hk1 := Keeps.grown (ts := [3]) (World.ownsRow.alloc hE0 _) hgrow1 (by simp); have hb1 : Below w.heap.size w w1 := (hbA.alloc (by simp; omega) _).trans (hk1.toBelow (by simp; omega)); have hM1 := hk1.cell (block_old hM0 _) (by simp); have x1 := block_cell hM1))
    go_ret
    exact ⟨_, _, rfl, IntsAt.own hown1 (by simp) (by simp), hb1⟩
end Go.Proofs.YtcbknjjnphknbaaGreatDoor
