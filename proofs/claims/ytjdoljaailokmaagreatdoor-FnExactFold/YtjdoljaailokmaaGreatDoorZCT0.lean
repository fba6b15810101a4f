/-
  Heights of a good function as a labelling: what is known of it, and that nothing else has it.
-/
import Derived.Test.YtjdoljaailokmaaGreatDoorZV0
namespace Go.Proofs.YtjdoljaailokmaaGreatDoor

/-- One comes there from instruction 0. -/
inductive Rch (code : List (Int × Int)) : Nat → Prop
  | start : Rch code 0
  | next {i : Nat} {nx : Int} : Rch code i → i < code.length → nx ∈ nextB (code.getD i (0, 0)).1 (code.getD i (0, 0)).2 i → 0 ≤ nx → nx < code.length → Rch code nx.toNat

def leftOf (fs : List Fn) (x : Int × Int) (z : Int) : Int := z - (usesB fs x.1 x.2).1 + (usesB fs x.1 x.2).2

structure Lab (fs : List Fn) (code : List (Int × Int)) (d : List Int) : Prop where
  len : d.length = code.length
  low : ∀ i, -1 ≤ d.getD i (-1)
  zero : d.getD 0 (-1) = 0
  step : ∀ i, i < code.length → 0 ≤ d.getD i (-1) → (usesB fs (code.getD i (0, 0)).1 (code.getD i (0, 0)).2).1 ≤ d.getD i (-1) ∧ leftOf fs (code.getD i (0, 0)) (d.getD i (-1)) ≤ 16 ∧
    ∀ nx ∈ nextB (code.getD i (0, 0)).1 (code.getD i (0, 0)).2 i, 0 ≤ nx ∧ nx < code.length ∧ d.getD nx.toNat (-1) = leftOf fs (code.getD i (0, 0)) (d.getD i (-1))
  reach : ∀ i, i < code.length → 0 ≤ d.getD i (-1) → Rch code i

theorem getD_set {h : List Int} {n i : Nat} {v : Int} : (h.set n v).getD i (-1) = if i = n ∧ n < h.length then v else h.getD i (-1) := by
  rw [List.getD_eq_getElem?_getD, List.getD_eq_getElem?_getD]
  by_cases e : i = n
  · subst e
    by_cases hl : i < h.length
    · simp [hl]
    · rw [if_neg (by simp; omega), List.getElem?_eq_none (by simpa using hl), List.getElem?_eq_none (by simpa using hl)]
  · rw [if_neg (by simp [e]), List.getElem?_set_ne (fun x => e x.symm)]
theorem getD_out {h : List Int} {i : Nat} (hi : h.length ≤ i) : h.getD i (-1) = -1 := by
  rw [List.getD_eq_getElem?_getD, List.getElem?_eq_none hi]; rfl
theorem getD_in {h : List Int} {i : Nat} (hi : 0 ≤ h.getD i (-1)) : i < h.length := by
  rcases Nat.lt_or_ge i h.length with a | a
  · exact a
  · rw [getD_out a] at hi; omega
theorem list_ext {a b : List Int} (hl : a.length = b.length) (h : ∀ i, a.getD i (-1) = b.getD i (-1)) : a = b := by
  apply List.ext_getElem hl
  intro i h1 h2
  have := h i
  rwa [List.getD_eq_getElem?_getD, List.getD_eq_getElem?_getD, List.getElem?_eq_getElem h1, List.getElem?_eq_getElem h2] at this

theorem layB_at {left nx : Int} {h : List Int} {i : Nat} : (layB left h nx).getD i (-1) = h.getD i (-1) ∨ (i = nx.toNat ∧ nx < h.length ∧ h.getD i (-1) < 0 ∧ (layB left h nx).getD i (-1) = left) := by
  unfold layB
  split
  · rename_i hc
    rw [getD_set]
    split
    · rename_i hi
      exact .inr ⟨hi.1, hc.1, by rw [hi.1]; exact hc.2, rfl⟩
    · exact .inl rfl
  · exact .inl rfl
theorem layB_len {left nx : Int} {h : List Int} : (layB left h nx).length = h.length := by
  unfold layB; split <;> simp

/-- Something that holds of heights ahead of a look at an instruction and is kept by each height that is laid holds behind it. -/
theorem step_keeps {fs : List Fn} {x : Int × Int} {pc : Nat} {h : List Int} (I : List Int → Prop) (h0 : I h)
    (hl : ¬ (h.getD pc (-1) < (usesB fs x.1 x.2).1 ∨ 16 < leftOf fs x (h.getD pc (-1))) → ∀ g nx, nx ∈ nextB x.1 x.2 pc → I g → I (layB (leftOf fs x (h.getD pc (-1))) g nx)) : I (stepB fs x pc h) := by
  unfold stepB
  split
  · exact h0
  · rename_i hc
    have hq := hl hc
    show I ((nextB x.1 x.2 pc).foldl (layB (leftOf fs x (h.getD pc (-1)))) h)
    have : ∀ (l : List Int), (∀ nx ∈ l, nx ∈ nextB x.1 x.2 pc) → ∀ g, I g → I (l.foldl (layB (leftOf fs x (h.getD pc (-1)))) g) := by
      intro l
      induction l with
      | nil => exact fun _ g hg => hg
      | cons y l ih => exact fun hl g hg => by rw [List.foldl_cons]; exact ih (fun nx hnx => hl nx (List.mem_cons_of_mem _ hnx)) _ (hq g y (hl y (List.mem_cons_self ..)) hg)
    exact this _ (fun _ h => h) h h0
theorem part_keeps {fs : List Fn} {code : List (Int × Int)} {h : List Int} (I : List Int → Prop) (h0 : I h)
    (hl : ∀ pc, pc < code.length → ∀ h, I h → ¬ (h.getD pc (-1) < (usesB fs (code.getD pc (0, 0)).1 (code.getD pc (0, 0)).2).1 ∨ 16 < leftOf fs (code.getD pc (0, 0)) (h.getD pc (-1))) → ∀ g nx, nx ∈ nextB (code.getD pc (0, 0)).1 (code.getD pc (0, 0)).2 pc → I g → I (layB (leftOf fs (code.getD pc (0, 0)) (h.getD pc (-1))) g nx)) :
    ∀ k, k ≤ code.length → I (partB fs code k h) := by
  intro k
  induction k with
  | zero => exact fun _ => h0
  | succ k ih => exact fun hk => step_keeps I (ih (by omega)) (hl k (by omega) _ (ih (by omega)))
theorem iter_keeps {fs : List Fn} {code : List (Int × Int)} (I : List Int → Prop) (h0 : I (initB code.length))
    (hl : ∀ pc, pc < code.length → ∀ h, I h → ¬ (h.getD pc (-1) < (usesB fs (code.getD pc (0, 0)).1 (code.getD pc (0, 0)).2).1 ∨ 16 < leftOf fs (code.getD pc (0, 0)) (h.getD pc (-1))) → ∀ g nx, nx ∈ nextB (code.getD pc (0, 0)).1 (code.getD pc (0, 0)).2 pc → I g → I (layB (leftOf fs (code.getD pc (0, 0)) (h.getD pc (-1))) g nx)) :
    ∀ k, I (iterB fs code k) := by
  intro k
  induction k with
  | zero => exact h0
  | succ k ih => exact part_keeps I ih hl _ (Nat.le_refl _)

theorem init_at {n i : Nat} (hn : 1 ≤ n) : (initB n).getD i (-1) = if i = 0 then 0 else -1 := by
  unfold initB
  rw [getD_set]
  by_cases e : i = 0
  · subst e; rw [if_pos ⟨rfl, by simp; omega⟩, if_pos rfl]
  · rw [if_neg (by simp [e]), if_neg e, List.getD_eq_getElem?_getD, List.getElem?_replicate]
    split <;> rfl

/-- Heights that are told of a function without trouble are a labelling. -/
theorem lab_of_done {fs : List Fn} {code : List (Int × Int)} {d : List Int} (F : Fine fs code) (h : Done fs code d) (hc : ∀ j, j < code.length → troubleB fs code d j = 0) : Lab fs code d := by
  have H := h.hts F
  obtain ⟨⟨k, hk⟩, -⟩ := h
  have hnn : ∀ pc, pc < code.length → ∀ nx ∈ nextB (code.getD pc (0, 0)).1 (code.getD pc (0, 0)).2 pc, 0 ≤ nx := fun pc hpc nx hnx => nextB_nonneg (by rw [getD_code hpc]; exact fun hx => (F.jump pc hpc hx).1) nx hnx
  have low : ∀ i, -1 ≤ d.getD i (-1) := fun i => by
    rcases Nat.lt_or_ge i d.length with a | a
    · rw [H.get (by rw [← H.len]; exact a)]; exact H.low i a
    · rw [getD_out a]; omega
  refine ⟨H.len, low, ?_, ?_, ?_⟩
  · rw [hk]
    refine iter_keeps (fun h => h.getD 0 (-1) = 0) ?_ ?_ k
    · rw [init_at F.one, if_pos rfl]
    · intro pc hpc h hh hf g nx hnx hg
      rcases layB_at (left := leftOf fs (code.getD pc (0, 0)) (h.getD pc (-1))) (nx := nx) (h := g) (i := 0) with e | ⟨-, -, e, -⟩
      · rw [e]; exact hg
      · omega
  · intro i hi h0
    have ht := hc i hi
    unfold troubleB at ht
    simp only at ht
    rw [if_neg (by omega)] at ht
    split at ht
    · cases ht
    · rename_i hs
      split at ht
      · cases ht
      · rename_i he
        split at ht
        · cases ht
        · rename_i hj
          refine ⟨by omega, by unfold leftOf; omega, fun nx hnx => ⟨hnn i hi nx hnx, ?_, ?_⟩⟩
          · have := List.any_eq_false.1 (Bool.eq_false_iff.2 he) nx hnx
            simpa using this
          · have := List.any_eq_false.1 (Bool.eq_false_iff.2 hj) nx hnx
            simpa [leftOf] using this
  · rw [hk]
    refine iter_keeps (fun h => h.length = code.length ∧ ∀ i, i < code.length → 0 ≤ h.getD i (-1) → Rch code i) ?_ ?_ k |>.2
    · refine ⟨by simp [initB], fun i hi h0 => ?_⟩
      rw [init_at F.one] at h0
      by_cases e : i = 0
      · subst e; exact .start
      · rw [if_neg e] at h0; omega
    · intro pc hpc h hh hf g nx hnx hg
      refine ⟨layB_len.trans hg.1, fun i hi h0 => ?_⟩
      rcases layB_at (left := leftOf fs (code.getD pc (0, 0)) (h.getD pc (-1))) (nx := nx) (h := g) (i := i) with e | ⟨e, hlt, -, -⟩
      · rw [e] at h0; exact hg.2 i hi h0
      · subst e
        have hu := (usesB_ok F.params (code.getD pc (0, 0)).1 (code.getD pc (0, 0)).2).1
        have hz : 0 ≤ h.getD pc (-1) := by omega
        exact .next (hh.2 pc hpc hz) hpc hnx (hnn pc hpc nx hnx) (by rw [← hg.1]; exact hlt)

theorem fold_fixed {left : Int} (h0 : 0 ≤ left) (h1 : left ≤ 16) (l : List Int) (hl : ∀ nx ∈ l, 0 ≤ nx) {n : Nat} {h : List Int} (H : Hts n h) (he : l.foldl (layB left) h = h) : ∀ nx ∈ l, nx < n → 0 ≤ h.getD nx.toNat (-1) := by
  induction l with
  | nil => exact fun _ hx => by cases hx
  | cons y l ih =>
    rw [List.foldl_cons] at he
    have hy0 : 0 ≤ y := hl y (List.mem_cons_self ..)
    have hr : ∀ nx ∈ l, 0 ≤ nx := fun nx hnx => hl nx (List.mem_cons_of_mem _ hnx)
    rcases layB_less (h := h) (left := left) h0 hy0 with ⟨e, hn⟩ | ⟨-, -, -, hlt⟩
    · rw [e] at he
      intro nx hnx hlt
      rcases List.mem_cons.1 hnx with rfl | hm
      · rw [H.len] at hn; omega
      · exact ih hr he nx hm hlt
    · have := (fold_lay h0 h1 l hr (layB left h y) (layB_hts H h0 h1)).2
      rw [he] at this
      rcases this with e | e
      · rw [← e] at hlt; omega
      · omega
theorem step_fixed {fs : List Fn} {code : List (Int × Int)} (F : Fine fs code) {d : List Int} (H : Hts code.length d) (h : roundB fs code d = d) : ∀ pc, pc < code.length → stepB fs (code.getD pc (0, 0)) pc d = d := by
  have hp : ∀ k, k ≤ code.length → partB fs code k d = d := by
    intro k hk
    rcases (part_ok F H k hk).2 with e | e
    · exact e
    · have h2 : ∀ j, k + j ≤ code.length → negs (partB fs code (k + j) d) ≤ negs (partB fs code k d) := by
        intro j
        induction j with
        | zero => intro _; exact Nat.le_refl _
        | succ j ih =>
          intro hj
          have hpo := part_ok F H (k + j) (by omega)
          rcases (step_ok (fs := fs) (x := code.getD (k + j) (0, 0)) (pc := k + j) F.params (by rw [getD_code (by omega)]; exact fun hx => (F.jump _ (by omega) hx).1) hpo.1).2 with e | e
          · have := ih (by omega)
            show negs (stepB fs (code.getD (k + j) (0, 0)) (k + j) (partB fs code (k + j) d)) ≤ _
            rw [e]; exact this
          · have := ih (by omega)
            show negs (stepB fs (code.getD (k + j) (0, 0)) (k + j) (partB fs code (k + j) d)) ≤ _
            omega
      have := h2 (code.length - k) (by omega)
      rw [show k + (code.length - k) = code.length by omega] at this
      have e2 : partB fs code code.length d = d := h
      rw [e2] at this
      omega
  intro pc hpc
  have := hp (pc + 1) (by omega)
  have e : partB fs code (pc + 1) d = stepB fs (code.getD pc (0, 0)) pc (partB fs code pc d) := rfl
  rw [e, hp pc (by omega)] at this
  exact this

/-- A labelling is what is told. -/
theorem Lab.done {fs : List Fn} {code : List (Int × Int)} {d e : List Int} (F : Fine fs code) (L : Lab fs code d) (h : Done fs code e) : e = d := by
  have H := h.hts F
  obtain ⟨⟨k, hk⟩, hr⟩ := h
  have agree : ∀ i, e.getD i (-1) < 0 ∨ e.getD i (-1) = d.getD i (-1) := by
    rw [hk]
    refine iter_keeps (fun h => ∀ i, h.getD i (-1) < 0 ∨ h.getD i (-1) = d.getD i (-1)) ?_ ?_ k
    · intro i
      rw [init_at F.one]
      by_cases e : i = 0
      · subst e; right; rw [if_pos rfl, L.zero]
      · left; rw [if_neg e]; omega
    · intro pc hpc h hh hf g nx hnx hg i
      rcases layB_at (left := leftOf fs (code.getD pc (0, 0)) (h.getD pc (-1))) (nx := nx) (h := g) (i := i) with e | ⟨e, hlt, -, hv⟩
      · rw [e]; exact hg i
      · right
        rw [hv, e]
        have hu := (usesB_ok F.params (code.getD pc (0, 0)).1 (code.getD pc (0, 0)).2).1
        have hz : 0 ≤ h.getD pc (-1) := by omega
        have hd : h.getD pc (-1) = d.getD pc (-1) := by rcases hh pc with a | a <;> omega
        rw [hd] at hz ⊢
        exact ((L.step pc hpc hz).2.2 nx hnx).2.2.symm
  have sf := step_fixed F H hr
  have all : ∀ i, Rch code i → i < code.length → 0 ≤ e.getD i (-1) := by
    intro i hi
    induction hi with
    | start =>
      intro _
      rw [hk]
      refine iter_keeps (fun h => 0 ≤ h.getD 0 (-1)) ?_ ?_ k
      · rw [init_at F.one, if_pos rfl]; omega
      · intro pc hpc h hh hf g nx hnx hg
        rcases layB_at (left := leftOf fs (code.getD pc (0, 0)) (h.getD pc (-1))) (nx := nx) (h := g) (i := 0) with e | ⟨-, -, e, -⟩
        · rw [e]; exact hg
        · omega
    | next hr hi hnx h0 hlt ih =>
      rename_i i nx
      intro _
      have hz := ih hi
      have hd : e.getD i (-1) = d.getD i (-1) := by rcases agree i with a | a <;> omega
      have hs := L.step i hi (by omega)
      have hu := usesB_ok F.params (code.getD i (0, 0)).1 (code.getD i (0, 0)).2
      have hstep := sf i hi
      unfold stepB at hstep
      have hs1 := hs.1
      have hs2 := hs.2.1
      unfold leftOf at hs2
      rw [if_neg (by rw [hd]; omega)] at hstep
      refine fold_fixed (left := e.getD i (-1) - (usesB fs (code.getD i (0, 0)).1 (code.getD i (0, 0)).2).1 + (usesB fs (code.getD i (0, 0)).1 (code.getD i (0, 0)).2).2) (by omega) (by omega) _ (fun y hy => (hs.2.2 y hy).1) H hstep nx hnx hlt
  apply list_ext (by rw [H.len, L.len])
  intro i
  by_cases h0 : 0 ≤ d.getD i (-1)
  · have hi : i < code.length := by rw [← L.len]; exact getD_in h0
    have := all i (L.reach i hi h0) hi
    rcases agree i with a | a <;> omega
  · have h1 := L.low i
    have h2 : -1 ≤ e.getD i (-1) := by
      rcases Nat.lt_or_ge i e.length with a | a
      · rw [H.get (by rw [← H.len]; exact a)]; exact H.low i a
      · rw [getD_out a]; omega
    rcases agree i with a | a <;> omega
end Go.Proofs.YtjdoljaailokmaaGreatDoor
