/-
  How many values an instruction takes and lays, how high the stack is ahead of each instruction of a function, and the first trouble of a module, as functions and predicates on plain data.
-/
import Derived.Test.YtmmcockkbhnopaaGreatOV3
namespace Go.Proofs.YtmmcockkbhnopaaGreat

/-- How many values an instruction takes off the stack, and how many it lays there. -/
def usesB (fs : List Fn) (op a : Int) : Int × Int :=
  if op = 1 ∨ op = 2 ∨ op = 3 ∨ op = 4 ∨ op = 5 ∨ op = 6 ∨ op = 20 then (0, 1)
  else if op = 7 ∨ op = 9 ∨ op = 18 ∨ op = 19 ∨ op = 25 ∨ op = 26 then (1, 0)
  else if op = 8 then (1, 2)
  else if op = 10 then (2, 2)
  else if op = 11 ∨ op = 12 ∨ op = 13 ∨ op = 14 ∨ op = 15 then (2, 1)
  else if op = 16 ∨ op = 21 then (1, 1)
  else if op = 22 then (2, 0)
  else if op = 23 then (if 0 ≤ a ∧ a ≤ 6 then (a + 1, 1) else (0, 0))
  else if op = 24 then (if h : 0 ≤ a ∧ a < fs.length then ((fs[a.toNat]'(by omega)).params, 1) else (0, 0))
  else (0, 0)

theorem usesB_out {fs : List Fn} {op a : Int} (h : op < 1 ∨ 26 < op) : usesB fs op a = (0, 0) := by
  unfold usesB
  repeat' split
  all_goals first | rfl | omega

/-- In a module that is ok an instruction takes and lays no fewer than none, and not many. -/
theorem usesB_ok {fs : List Fn} (h : ∀ f ∈ fs, 0 ≤ f.params ∧ f.params ≤ 6) (op a : Int) : 0 ≤ (usesB fs op a).1 ∧ (usesB fs op a).1 ≤ 7 ∧ 0 ≤ (usesB fs op a).2 ∧ (usesB fs op a).2 ≤ 2 := by
  unfold usesB
  repeat' split
  all_goals first | (refine ⟨?_, ?_, ?_, ?_⟩ <;> simp <;> omega) | skip
  rename_i hx
  have := h (fs[a.toNat]'(by omega)) (List.getElem_mem _)
  refine ⟨?_, ?_, ?_, ?_⟩ <;> simp <;> omega

/-- The places that may follow an instruction. -/
def nextB (op a : Int) (pc : Nat) : List Int := if op = 25 then [] else if op = 17 then [a] else if op = 18 ∨ op = 19 then [(pc : Int) + 1, a] else [(pc : Int) + 1]

/-- A height is laid where there is none yet. -/
def layB (left : Int) (h : List Int) (nx : Int) : List Int := if nx < h.length ∧ h.getD nx.toNat (-1) < 0 then h.set nx.toNat left else h

/-- One instruction, as it is gone through. -/
def stepB (fs : List Fn) (x : Int × Int) (pc : Nat) (h : List Int) : List Int :=
  if h.getD pc (-1) < (usesB fs x.1 x.2).1 ∨ 16 < h.getD pc (-1) - (usesB fs x.1 x.2).1 + (usesB fs x.1 x.2).2 then h
  else (nextB x.1 x.2 pc).foldl (layB (h.getD pc (-1) - (usesB fs x.1 x.2).1 + (usesB fs x.1 x.2).2)) h

/-- The first instructions of a round. -/
def partB (fs : List Fn) (code : List (Int × Int)) : Nat → List Int → List Int
  | 0, h => h
  | k + 1, h => stepB fs (code.getD k (0, 0)) k (partB fs code k h)

def roundB (fs : List Fn) (code : List (Int × Int)) (h : List Int) : List Int := partB fs code code.length h

def initB (n : Nat) : List Int := (List.replicate n (-1)).set 0 0

def iterB (fs : List Fn) (code : List (Int × Int)) : Nat → List Int
  | 0 => initB code.length
  | k + 1 => roundB fs code (iterB fs code k)

/-- The heights that are told: come to by rounds, and one more changes nothing. -/
def Done (fs : List Fn) (code : List (Int × Int)) (d : List Int) : Prop := (∃ k, d = iterB fs code k) ∧ roundB fs code d = d

theorem iter_more {fs : List Fn} {code : List (Int × Int)} {k : Nat} (h : roundB fs code (iterB fs code k) = iterB fs code k) (j : Nat) : iterB fs code (k + j) = iterB fs code k := by
  induction j with
  | zero => rfl
  | succ j ih => show roundB fs code (iterB fs code (k + j)) = _; rw [ih, h]

theorem Done.one {fs : List Fn} {code : List (Int × Int)} {d e : List Int} (hd : Done fs code d) (he : Done fs code e) : d = e := by
  obtain ⟨⟨k, rfl⟩, h1⟩ := hd
  obtain ⟨⟨j, rfl⟩, h2⟩ := he
  rcases Nat.le_total k j with h | h
  · have := iter_more h1 (j - k)
    rw [show k + (j - k) = j by omega] at this
    exact this.symm
  · have := iter_more h2 (k - j)
    rw [show j + (k - j) = k by omega] at this
    exact this

/-- How many have no height yet. -/
def negs (h : List Int) : Nat := h.countP fun x => decide (x < 0)

/-- What heights are throughout. -/
structure Hts (n : Nat) (h : List Int) : Prop where
  len : h.length = n
  low : ∀ i (hi : i < h.length), -1 ≤ h[i]
  high : ∀ i (hi : i < h.length), h[i] ≤ 16

theorem Hts.get {n : Nat} {h : List Int} (H : Hts n h) {i : Nat} (hi : i < n) : h.getD i (-1) = h[i]'(by rw [H.len]; exact hi) := by
  rw [List.getD_eq_getElem?_getD, List.getElem?_eq_getElem (by rw [H.len]; exact hi)]; rfl

theorem layB_hts {n : Nat} {h : List Int} {left nx : Int} (H : Hts n h) (h0 : 0 ≤ left) (h1 : left ≤ 16) : Hts n (layB left h nx) := by
  unfold layB
  split
  · refine ⟨by rw [List.length_set]; exact H.len, ?_, ?_⟩
    · intro i hi
      rw [List.getElem_set]
      split
      · omega
      · exact H.low i (by simpa using hi)
    · intro i hi
      rw [List.getElem_set]
      split
      · omega
      · exact H.high i (by simpa using hi)
  · exact H

theorem layB_less {h : List Int} {left nx : Int} (h0 : 0 ≤ left) (h1 : 0 ≤ nx) : (layB left h nx = h ∧ ¬ (nx < h.length ∧ h.getD nx.toNat (-1) < 0)) ∨ (nx < h.length ∧ h.getD nx.toNat (-1) < 0 ∧ layB left h nx = h.set nx.toNat left ∧ negs (layB left h nx) + 1 = negs h) := by
  unfold layB
  by_cases hc : nx < h.length ∧ h.getD nx.toNat (-1) < 0
  · right
    rw [if_pos hc]
    refine ⟨hc.1, hc.2, rfl, ?_⟩
    have hlt : nx.toNat < h.length := by omega
    have hneg : h[nx.toNat] < 0 := by
      have := hc.2
      rwa [List.getD_eq_getElem?_getD, List.getElem?_eq_getElem hlt, Option.getD_some] at this
    unfold negs
    rw [List.countP_set hlt]
    have hpos : 0 < List.countP (fun x => decide (x < 0)) h := List.countP_pos_iff.2 ⟨h[nx.toNat], List.getElem_mem _, by simpa using hneg⟩
    rw [if_pos (by simpa using hneg), if_neg (by simp; omega)]
    omega
  · left
    rw [if_neg hc]
    exact ⟨rfl, hc⟩

/-- The same, or fewer without a height. -/
def Less (h h' : List Int) : Prop := h' = h ∨ negs h' < negs h
theorem Less.trans {a b c : List Int} (h1 : Less a b) (h2 : Less b c) : Less a c := by
  rcases h1 with rfl | h1
  · exact h2
  · rcases h2 with rfl | h2
    · exact Or.inr h1
    · exact Or.inr (by omega)

theorem layB_Less {h : List Int} {left nx : Int} (h0 : 0 ≤ left) (h1 : 0 ≤ nx) : Less h (layB left h nx) := by
  rcases layB_less (h := h) h0 h1 with h | h
  · exact Or.inl h.1
  · exact Or.inr (by omega)

theorem nextB_nonneg {op a : Int} {pc : Nat} (h : op = 17 ∨ op = 18 ∨ op = 19 → 0 ≤ a) : ∀ nx ∈ nextB op a pc, 0 ≤ nx := by
  intro nx hnx
  unfold nextB at hnx
  split at hnx
  · simp at hnx
  · split at hnx
    · simp at hnx; omega
    · split at hnx
      · simp at hnx; omega
      · simp at hnx; omega

theorem fold_lay {n : Nat} {left : Int} (h0 : 0 ≤ left) (h1 : left ≤ 16) (l : List Int) (hl : ∀ nx ∈ l, 0 ≤ nx) : ∀ h, Hts n h → Hts n (l.foldl (layB left) h) ∧ Less h (l.foldl (layB left) h) := by
  induction l with
  | nil => exact fun h H => ⟨H, Or.inl rfl⟩
  | cons x l ih =>
    intro h H
    rw [List.foldl_cons]
    have := ih (fun nx hnx => hl nx (List.mem_cons_of_mem _ hnx)) (layB left h x) (layB_hts H h0 h1)
    exact ⟨this.1, (layB_Less h0 (hl x (List.mem_cons_self ..))).trans this.2⟩

/-- A module's functions as far as heights ask for them. -/
structure Fine (fs : List Fn) (code : List (Int × Int)) : Prop where
  params : ∀ f ∈ fs, 0 ≤ f.params ∧ f.params ≤ 6
  one : 1 ≤ code.length
  most : code.length ≤ 120
  jump : ∀ i (hi : i < code.length), code[i].1 = 17 ∨ code[i].1 = 18 ∨ code[i].1 = 19 → 0 ≤ code[i].2 ∧ code[i].2 < code.length

theorem step_ok {fs : List Fn} {n : Nat} {x : Int × Int} {pc : Nat} {h : List Int} (hp : ∀ f ∈ fs, 0 ≤ f.params ∧ f.params ≤ 6) (hj : x.1 = 17 ∨ x.1 = 18 ∨ x.1 = 19 → 0 ≤ x.2) (H : Hts n h) :
    Hts n (stepB fs x pc h) ∧ Less h (stepB fs x pc h) := by
  unfold stepB
  split
  · exact ⟨H, Or.inl rfl⟩
  · rename_i hc
    have hu := usesB_ok hp x.1 x.2
    exact fold_lay (by omega) (by omega) _ (nextB_nonneg hj) _ H

theorem getD_code {code : List (Int × Int)} {k : Nat} (hk : k < code.length) : code.getD k (0, 0) = code[k] := by
  rw [List.getD_eq_getElem?_getD, List.getElem?_eq_getElem hk]; rfl

theorem part_ok {fs : List Fn} {code : List (Int × Int)} (F : Fine fs code) {h : List Int} (H : Hts code.length h) (k : Nat) (hk : k ≤ code.length) : Hts code.length (partB fs code k h) ∧ Less h (partB fs code k h) := by
  induction k with
  | zero => exact ⟨H, Or.inl rfl⟩
  | succ k ih =>
    have := ih (by omega)
    have h2 := step_ok (fs := fs) (x := code.getD k (0, 0)) (pc := k) F.params (by rw [getD_code (by omega)]; exact fun hx => (F.jump k (by omega) hx).1) this.1
    exact ⟨h2.1, this.2.trans h2.2⟩

theorem init_hts {n : Nat} : Hts n (initB n) := by
  unfold initB
  refine ⟨by simp, ?_, ?_⟩
  · intro i hi
    rw [List.getElem_set]
    split
    · omega
    · simp
  · intro i hi
    rw [List.getElem_set]
    split
    · omega
    · simp

theorem init_negs {n : Nat} (h : 1 ≤ n) : negs (initB n) = n - 1 := by
  unfold initB negs
  rw [List.countP_set (by simp; omega)]
  simp [List.countP_replicate]

theorem iter_hts {fs : List Fn} {code : List (Int × Int)} (F : Fine fs code) (k : Nat) : Hts code.length (iterB fs code k) := by
  induction k with
  | zero => exact init_hts
  | succ k ih => exact (part_ok F ih _ (Nat.le_refl _)).1

/-- Where each has a height, nothing changes any more. -/
theorem step_full {fs : List Fn} {n : Nat} {x : Int × Int} {pc : Nat} {h : List Int} (hp : ∀ f ∈ fs, 0 ≤ f.params ∧ f.params ≤ 6) (hj : x.1 = 17 ∨ x.1 = 18 ∨ x.1 = 19 → 0 ≤ x.2) (H : Hts n h) (h0 : negs h = 0) : stepB fs x pc h = h := by
  rcases (step_ok hp hj H).2 with h | h
  · exact h
  · omega

theorem part_full {fs : List Fn} {code : List (Int × Int)} (F : Fine fs code) {h : List Int} (H : Hts code.length h) (h0 : negs h = 0) (k : Nat) (hk : k ≤ code.length) : partB fs code k h = h := by
  rcases (part_ok F H k hk).2 with h | h
  · exact h
  · omega

/-- The rest of a round, where each has a height. -/
theorem part_rest {fs : List Fn} {code : List (Int × Int)} (F : Fine fs code) {h : List Int} (H : Hts code.length h) {k : Nat} (hk : k ≤ code.length) (h0 : negs (partB fs code k h) = 0) (j : Nat) (hj : k + j ≤ code.length) : partB fs code (k + j) h = partB fs code k h := by
  induction j with
  | zero => rfl
  | succ j ih =>
    have e := ih (by omega)
    show stepB fs (code.getD (k + j) (0, 0)) (k + j) (partB fs code (k + j) h) = _
    rw [e]
    exact step_full F.params (by rw [getD_code (by omega)]; exact fun hx => (F.jump _ (by omega) hx).1) (part_ok F H k hk).1 h0

theorem done_full {fs : List Fn} {code : List (Int × Int)} (F : Fine fs code) {j k : Nat} (hk : k ≤ code.length) (h0 : negs (partB fs code k (iterB fs code j)) = 0) : Done fs code (partB fs code k (iterB fs code j)) := by
  have H := iter_hts F j
  have e : roundB fs code (iterB fs code j) = partB fs code k (iterB fs code j) := by
    have := part_rest F H hk h0 (code.length - k) (by omega)
    rw [show k + (code.length - k) = code.length by omega] at this
    exact this
  refine ⟨⟨j + 1, e.symm⟩, ?_⟩
  exact part_full F (part_ok F H k hk).1 h0 _ (Nat.le_refl _)

theorem done_same {fs : List Fn} {code : List (Int × Int)} (F : Fine fs code) {j : Nat} (h0 : negs (iterB fs code j) ≤ negs (partB fs code code.length (iterB fs code j))) : Done fs code (partB fs code code.length (iterB fs code j)) := by
  have e : partB fs code code.length (iterB fs code j) = iterB fs code j := by
    rcases (part_ok F (iter_hts F j) code.length (Nat.le_refl _)).2 with h | h
    · exact h
    · omega
  refine ⟨⟨j + 1, rfl⟩, ?_⟩
  show roundB fs code (roundB fs code (iterB fs code j)) = roundB fs code (iterB fs code j)
  have e2 : roundB fs code (iterB fs code j) = iterB fs code j := e
  rw [e2, e2]

theorem Done.hts {fs : List Fn} {code : List (Int × Int)} (F : Fine fs code) {d : List Int} (h : Done fs code d) : Hts code.length d := by
  obtain ⟨⟨k, rfl⟩, -⟩ := h
  exact iter_hts F k

/-- The trouble at an instruction, heights being known. -/
def troubleB (fs : List Fn) (code : List (Int × Int)) (d : List Int) (pc : Nat) : Int :=
  let x := code.getD pc (0, 0)
  let left := d.getD pc (-1) - (usesB fs x.1 x.2).1 + (usesB fs x.1 x.2).2
  if d.getD pc (-1) < 0 then 0
  else if d.getD pc (-1) < (usesB fs x.1 x.2).1 ∨ 16 < left then 2
  else if (nextB x.1 x.2 pc).any (fun nx => decide ((code.length : Int) ≤ nx)) then 3
  else if (nextB x.1 x.2 pc).any (fun nx => decide (d.getD nx.toNat (-1) ≠ left)) then 4
  else 0

/-- No trouble in a function ahead of instruction 'k'. -/
def Clear (fs : List Fn) (code : List (Int × Int)) (k : Nat) : Prop := ∀ d, Done fs code d → ∀ j, j < k → troubleB fs code d j = 0

/-- What a module that is ok is told: nothing, or its first trouble. -/
def Told (fs : List Fn) (c f at' : Int) : Prop :=
  (c = 0 ∧ f = 0 ∧ at' = 0 ∧ ∀ g (hg : g < fs.length), Clear fs fs[g].code fs[g].code.length) ∨
  (∃ (g : Nat) (hg : g < fs.length) (k : Nat) (d : List Int), f = g ∧ at' = k ∧ k < fs[g].code.length ∧ Done fs fs[g].code d ∧ troubleB fs fs[g].code d k = c ∧ c ≠ 0 ∧ Clear fs fs[g].code k ∧ ∀ g' (hg' : g' < fs.length), g' < g → Clear fs fs[g'].code fs[g'].code.length)

theorem Told.one {fs : List Fn} {c f a c' f' a' : Int} (h : Told fs c f a) (h' : Told fs c' f' a') : c = c' ∧ f = f' ∧ a = a' := by
  rcases h with ⟨rfl, rfl, rfl, hA⟩ | ⟨g, hg, k, d, rfl, rfl, hk, hd, ht, hc, hB, hA⟩
  · rcases h' with ⟨rfl, rfl, rfl, -⟩ | ⟨g', hg', k', d', rfl, rfl, hk', hd', ht', hc', -, -⟩
    · exact ⟨rfl, rfl, rfl⟩
    · exact absurd (ht'.symm.trans (hA g' hg' d' hd' k' hk')) hc'
  · rcases h' with ⟨rfl, rfl, rfl, hA'⟩ | ⟨g', hg', k', d', rfl, rfl, hk', hd', ht', hc', hB', hA'⟩
    · exact absurd (ht.symm.trans (hA' g hg d hd k hk)) hc
    · obtain rfl : g = g' := by
        rcases Nat.lt_trichotomy g g' with h | h | h
        · exact absurd (ht.symm.trans (hA' g hg h d hd k hk)) hc
        · exact h
        · exact absurd (ht'.symm.trans (hA g' hg' h d' hd' k' hk')) hc'
      obtain rfl : k = k' := by
        rcases Nat.lt_trichotomy k k' with h | h | h
        · exact absurd (ht.symm.trans (hB' d hd k h)) hc
        · exact h
        · exact absurd (ht'.symm.trans (hB d' hd' k' h)) hc'
      obtain rfl := hd.one hd'
      exact ⟨ht.symm.trans ht', rfl, rfl⟩
end Go.Proofs.YtmmcockkbhnopaaGreat
