/-
  Instructions taken out of a function, on plain data: the new numbers, what is left, and its heights.
-/
import Derived.Test.YtjdoljaailokmaaGreatDoorZCT0
namespace Go.Proofs.YtjdoljaailokmaaGreatDoor

/-- Whether an Op's A is an instruction. -/
def Jop (op : Int) : Prop := op = 17 ∨ op = 18 ∨ op = 19
instance (op : Int) : Decidable (Jop op) := by unfold Jop; infer_instance

/-- The new number of an instruction, or of the next one that is left. -/
def news (g : Nat → Bool) : Nat → Nat
  | 0 => 0
  | k + 1 => if g k = true then news g k else news g k + 1
def keptL {α : Type} (g : Nat → Bool) (z : α) (l : List α) : Nat → List α
  | 0 => []
  | k + 1 => if g k = true then keptL g z l k else keptL g z l k ++ [l.getD k z]
def fixB (g : Nat → Bool) (x : Int × Int) : Int × Int := if Jop x.1 then (x.1, (news g x.2.toNat : Int)) else x
/-- What is left, with the jumps' new goals. -/
def takeOut (g : Nat → Bool) (code : List (Int × Int)) : List (Int × Int) := (keptL g (0, 0) code code.length).map (fixB g)

theorem news_no {g : Nat → Bool} {k : Nat} (h : g k = true) : news g (k + 1) = news g k := if_pos h
theorem news_yes {g : Nat → Bool} {k : Nat} (h : g k = false) : news g (k + 1) = news g k + 1 := by show (if g k = true then _ else _) = _; rw [if_neg (by simp [h])]
theorem keptL_no {α : Type} {g : Nat → Bool} {z : α} {l : List α} {k : Nat} (h : g k = true) : keptL g z l (k + 1) = keptL g z l k := if_pos h
theorem keptL_yes {α : Type} {g : Nat → Bool} {z : α} {l : List α} {k : Nat} (h : g k = false) : keptL g z l (k + 1) = keptL g z l k ++ [l.getD k z] := by show (if g k = true then _ else _) = _; rw [if_neg (by simp [h])]
theorem news_le (g : Nat → Bool) (k : Nat) : news g k ≤ k := by
  induction k with
  | zero => exact Nat.le_refl _
  | succ k ih => cases h : g k with
    | true => rw [news_no h]; omega
    | false => rw [news_yes h]; omega
theorem news_mono (g : Nat → Bool) {i j : Nat} (h : i ≤ j) : news g i ≤ news g j := by
  induction j with
  | zero => have : i = 0 := by omega
            subst this; exact Nat.le_refl _
  | succ j ih =>
    by_cases e : i = j + 1
    · subst e; exact Nat.le_refl _
    · have := ih (by omega)
      cases h : g j with
      | true => rw [news_no h]; exact this
      | false => rw [news_yes h]; omega
theorem news_lt {g : Nat → Bool} {i n : Nat} (h : i < n) (hg : g i = false) : news g i < news g n := by
  have := news_mono g (show i + 1 ≤ n by omega)
  rw [news_yes hg] at this
  omega
theorem keptL_len {α : Type} (g : Nat → Bool) (z : α) (l : List α) (k : Nat) : (keptL g z l k).length = news g k := by
  induction k with
  | zero => rfl
  | succ k ih => cases h : g k with
    | true => rw [keptL_no h, news_no h, ih]
    | false => rw [keptL_yes h, news_yes h]; simp [ih]
theorem keptL_at {α : Type} {g : Nat → Bool} {z : α} {l : List α} {k i : Nat} (hi : i < k) (hg : g i = false) : (keptL g z l k)[news g i]? = some (l.getD i z) := by
  induction k with
  | zero => omega
  | succ k ih =>
    by_cases e : i = k
    · subst e
      rw [keptL_yes hg, List.getElem?_append_right (by rw [keptL_len]; exact Nat.le_refl _), keptL_len]
      simp
    · have := ih (by omega)
      have hlt := news_lt (show i < k by omega) hg
      cases h : g k with
      | true => rw [keptL_no h]; exact this
      | false => rw [keptL_yes h, List.getElem?_append_left (by rw [keptL_len]; exact hlt)]; exact this
/-- Each new number is that of an instruction that is left. -/
theorem news_onto {g : Nat → Bool} {n j : Nat} (h : j < news g n) : ∃ i, i < n ∧ g i = false ∧ news g i = j := by
  induction n with
  | zero => exact absurd h (Nat.not_lt_zero _)
  | succ n ih =>
    cases hg : g n with
    | true =>
      rw [news_no hg] at h
      obtain ⟨i, h1, h2, h3⟩ := ih h
      exact ⟨i, by omega, h2, h3⟩
    | false =>
      rw [news_yes hg] at h
      by_cases e : j = news g n
      · exact ⟨n, by omega, hg, e.symm⟩
      · obtain ⟨i, h1, h2, h3⟩ := ih (by omega)
        exact ⟨i, by omega, h2, h3⟩
theorem takeOut_len (g : Nat → Bool) (code : List (Int × Int)) : (takeOut g code).length = news g code.length := by simp [takeOut, keptL_len]
theorem takeOut_at {g : Nat → Bool} {code : List (Int × Int)} {i : Nat} (hi : i < code.length) (hg : g i = false) : (takeOut g code).getD (news g i) (0, 0) = fixB g (code.getD i (0, 0)) := by
  unfold takeOut
  rw [List.getD_eq_getElem?_getD, List.getElem?_map, keptL_at hi hg]
  rfl
def keptD (g : Nat → Bool) (d : List Int) (n : Nat) : List Int := keptL g (-1) d n
theorem keptD_at {g : Nat → Bool} {d : List Int} {n i : Nat} (hi : i < n) (hg : g i = false) : (keptD g d n).getD (news g i) (-1) = d.getD i (-1) := by
  unfold keptD
  rw [List.getD_eq_getElem?_getD, keptL_at hi hg]
  rfl
theorem fixB_op (g : Nat → Bool) (x : Int × Int) : (fixB g x).1 = x.1 := by unfold fixB; split <;> rfl
theorem usesB_fix (fs : List Fn) (g : Nat → Bool) (x : Int × Int) : usesB fs (fixB g x).1 (fixB g x).2 = usesB fs x.1 x.2 := by
  unfold fixB
  split
  · rename_i h
    have h' : x.1 = 17 ∨ x.1 = 18 ∨ x.1 = 19 := h
    unfold usesB
    simp only
    rcases h' with e | e | e <;> simp [e]
  · rfl
theorem nextB_fix {g : Nat → Bool} {x : Int × Int} {i : Nat} (hg : g i = false) {nx : Int} (h0 : ∀ y ∈ nextB x.1 x.2 i, 0 ≤ y) : nx ∈ nextB (fixB g x).1 (fixB g x).2 (news g i) ↔ ∃ y ∈ nextB x.1 x.2 i, nx = (news g y.toNat : Int) := by
  have e1 : (news g (((i : Int) + 1).toNat) : Int) = (news g i : Int) + 1 := by
    rw [show ((i : Int) + 1).toNat = i + 1 by omega, news_yes hg]; rfl
  obtain ⟨op, a⟩ := x
  by_cases h25 : op = 25
  · subst h25
    have hj : ¬ Jop 25 := by unfold Jop; omega
    simp [fixB, hj, nextB]
  · by_cases h17 : op = 17
    · subst h17
      have hj : Jop 17 := .inl rfl
      simp [fixB, hj, nextB]
    · by_cases h18 : op = 18 ∨ op = 19
      · have hj : Jop op := .inr h18
        simp only [fixB, hj, if_true, nextB, h25, h17, h18, if_false, List.mem_cons, List.not_mem_nil, or_false, exists_eq_or_imp, exists_eq_left, e1]
      · have hj : ¬ Jop op := by unfold Jop; omega
        simp only [fixB, hj, if_false, nextB, h25, h17, h18, List.mem_cons, List.not_mem_nil, or_false, exists_eq_left, e1]

theorem next_nn {fs : List Fn} {code : List (Int × Int)} (F : Fine fs code) {i : Nat} (hi : i < code.length) : ∀ y ∈ nextB (code.getD i (0, 0)).1 (code.getD i (0, 0)).2 i, 0 ≤ y :=
  fun nx hnx => nextB_nonneg (by rw [getD_code hi]; exact fun hx => (F.jump i hi hx).1) nx hnx
theorem Lab.pos {fs : List Fn} {code : List (Int × Int)} {d : List Int} (F : Fine fs code) (L : Lab fs code d) {i : Nat} (h : Rch code i) (hi : i < code.length) : 0 ≤ d.getD i (-1) := by
  induction h with
  | start => rw [L.zero]; omega
  | next hr hi' hnx h0 hlt ih =>
    rename_i i' nx
    have hz := ih hi'
    have hs := L.step i' hi' hz
    rw [(hs.2.2 nx hnx).2.2]
    have hu := usesB_ok F.params (code.getD i' (0, 0)).1 (code.getD i' (0, 0)).2
    unfold leftOf
    have := hs.1
    omega

/-- Heights of what is left. -/
theorem lab_out {fs : List Fn} {code : List (Int × Int)} {d : List Int} (F : Fine fs code) (L : Lab fs code d) (g : Nat → Bool) (g0 : g 0 = false)
    (H1 : ∀ i, i < code.length → g i = false → 0 ≤ d.getD i (-1) → ∀ nx ∈ nextB (code.getD i (0, 0)).1 (code.getD i (0, 0)).2 i, ∃ n2, n2 < code.length ∧ g n2 = false ∧ news g nx.toNat = news g n2 ∧ d.getD n2 (-1) = d.getD nx.toNat (-1))
    (H2 : ∀ i, i < code.length → g i = true → 0 ≤ d.getD i (-1) → ∀ nx ∈ nextB (code.getD i (0, 0)).1 (code.getD i (0, 0)).2 i, news g nx.toNat = news g i) :
    Lab fs (takeOut g code) (keptD g d code.length) := by
  have hl : (keptD g d code.length).length = (takeOut g code).length := by unfold keptD; rw [keptL_len, takeOut_len]
  refine ⟨hl, fun j => ?_, ?_, fun j hj h0 => ?_, fun j hj h0 => ?_⟩
  · rcases Nat.lt_or_ge j (news g code.length) with a | a
    · obtain ⟨i, h1, h2, rfl⟩ := news_onto a
      rw [keptD_at h1 h2]
      exact L.low i
    · rw [getD_out (by rw [hl, takeOut_len]; exact a)]; omega
  · have := keptD_at (d := d) (n := code.length) (i := 0) F.one g0
    have e : news g 0 = 0 := rfl
    rw [e] at this
    rw [this, L.zero]
  · rw [takeOut_len] at hj
    obtain ⟨i, h1, h2, rfl⟩ := news_onto hj
    rw [keptD_at h1 h2] at h0 ⊢
    rw [takeOut_at h1 h2]
    have hs := L.step i h1 h0
    have e : leftOf fs (fixB g (code.getD i (0, 0))) (d.getD i (-1)) = leftOf fs (code.getD i (0, 0)) (d.getD i (-1)) := by unfold leftOf; rw [usesB_fix]
    rw [e, usesB_fix]
    refine ⟨hs.1, hs.2.1, fun nx hnx => ?_⟩
    obtain ⟨y, hy, rfl⟩ := (nextB_fix h2 (next_nn F h1)).1 hnx
    obtain ⟨n2, q1, q2, q3, q4⟩ := H1 i h1 h2 h0 y hy
    refine ⟨by omega, by rw [takeOut_len, q3]; exact_mod_cast news_lt q1 q2, ?_⟩
    rw [Int.toNat_natCast, q3, keptD_at q1 q2, q4, (hs.2.2 y hy).2.2]
  · rw [takeOut_len] at hj
    obtain ⟨i, h1, h2, rfl⟩ := news_onto hj
    rw [keptD_at h1 h2] at h0
    have hr := L.reach i h1 h0
    have all : ∀ i, Rch code i → i < code.length → Rch (takeOut g code) (news g i) := by
      intro i hr
      induction hr with
      | start => intro _; exact .start
      | next hr hi' hnx hn0 hlt ih =>
        rename_i i' nx
        intro _
        have hz := L.pos F hr hi'
        cases hg : g i' with
        | true => rw [H2 i' hi' hg hz nx hnx]; exact ih hi'
        | false =>
          obtain ⟨n2, q1, q2, q3, q4⟩ := H1 i' hi' hg hz nx hnx
          have hm : ((news g nx.toNat : Nat) : Int) ∈ nextB ((takeOut g code).getD (news g i') (0, 0)).1 ((takeOut g code).getD (news g i') (0, 0)).2 (news g i') := by
            rw [takeOut_at hi' hg]
            exact (nextB_fix hg (next_nn F hi')).2 ⟨nx, hnx, rfl⟩
          have := Rch.next (ih hi') (by rw [takeOut_len]; exact news_lt hi' hg) hm (by omega) (by rw [takeOut_len, q3]; exact_mod_cast news_lt q1 q2)
          rwa [Int.toNat_natCast] at this
    exact all i hr h1
theorem fine_out {fs : List Fn} {code : List (Int × Int)} (F : Fine fs code) (g : Nat → Bool) (g0 : g 0 = false) (H3 : ∀ i, i < code.length → g i = false → Jop (code.getD i (0, 0)).1 → news g (code.getD i (0, 0)).2.toNat < news g code.length) : Fine fs (takeOut g code) := by
  refine ⟨F.params, ?_, ?_, fun j hj hop => ?_⟩
  · rw [takeOut_len]
    have := news_lt (g := g) (i := 0) (n := code.length) F.one g0
    omega
  · rw [takeOut_len]
    have := news_le g code.length
    have := F.most
    omega
  · have hj' := hj
    rw [takeOut_len] at hj'
    obtain ⟨i, h1, h2, e⟩ := news_onto hj'
    have e2 : (takeOut g code)[j] = fixB g (code.getD i (0, 0)) := by
      rw [← takeOut_at h1 h2, e, getD_code hj]
    rw [e2] at hop ⊢
    rw [fixB_op] at hop
    have hjp : Jop (code.getD i (0, 0)).1 := hop
    have := H3 i h1 h2 hjp
    unfold fixB
    rw [if_pos hjp, takeOut_len]
    simp only
    omega

/-- Nothing is taken out. -/
theorem news_id {g : Nat → Bool} {n : Nat} (h : ∀ i, i < n → g i = false) : ∀ k, k ≤ n → news g k = k := by
  intro k
  induction k with
  | zero => exact fun _ => rfl
  | succ k ih => exact fun hk => by rw [news_yes (h k (by omega)), ih (by omega)]
theorem takeOut_id {fs : List Fn} {code : List (Int × Int)} (F : Fine fs code) {g : Nat → Bool} (h : ∀ i, i < code.length → g i = false) : takeOut g code = code := by
  have hn := news_id h
  apply List.ext_getElem
  · rw [takeOut_len, hn _ (Nat.le_refl _)]
  · intro j h1 h2
    have e := takeOut_at h2 (h j h2)
    rw [hn j (by omega), getD_code h1, getD_code h2] at e
    rw [e]
    unfold fixB
    split
    · rename_i hj
      have := F.jump j h2 hj
      rw [hn _ (by omega)]
      exact Prod.ext rfl (by simp only; omega)
    · rfl

/-- The heights that are told of a function. -/
noncomputable def dOf (fs : List Fn) (code : List (Int × Int)) : List Int := by
  classical
  exact if h : ∃ d, Done fs code d then Classical.choose h else []
theorem dOf_eq {fs : List Fn} {code : List (Int × Int)} {d : List Int} (h : Done fs code d) : dOf fs code = d := by
  unfold dOf
  rw [dif_pos ⟨d, h⟩]
  exact Done.one (Classical.choose_spec ⟨d, h⟩) h
def goneD (d : List Int) (i : Nat) : Bool := decide (d.getD i (-1) < 0)
/-- A function without the instructions that nobody comes to. -/
noncomputable def cutOf (fs : List Fn) (code : List (Int × Int)) : List (Int × Int) := takeOut (goneD (dOf fs code)) code

theorem cut_lab {fs : List Fn} {code : List (Int × Int)} {d : List Int} (F : Fine fs code) (L : Lab fs code d) :
    Lab fs (takeOut (goneD d) code) (keptD (goneD d) d code.length) ∧ Fine fs (takeOut (goneD d) code) ∧ ∀ i, i < (takeOut (goneD d) code).length → goneD (keptD (goneD d) d code.length) i = false := by
  have g0 : goneD d 0 = false := by unfold goneD; rw [L.zero]; rfl
  have hk : ∀ i, goneD d i = false ↔ 0 ≤ d.getD i (-1) := fun i => by unfold goneD; rw [decide_eq_false_iff_not]; omega
  have hnext : ∀ i, i < code.length → goneD d i = false → ∀ nx ∈ nextB (code.getD i (0, 0)).1 (code.getD i (0, 0)).2 i, nx.toNat < code.length ∧ goneD d nx.toNat = false := fun i hi hg nx hnx => by
    have hz := (hk i).1 hg
    have hs := L.step i hi hz
    have h3 := hs.2.2 nx hnx
    have hu := usesB_ok F.params (code.getD i (0, 0)).1 (code.getD i (0, 0)).2
    have h1 := hs.1
    refine ⟨by omega, (hk _).2 ?_⟩
    rw [h3.2.2]
    unfold leftOf
    omega
  refine ⟨lab_out F L _ g0 (fun i hi hg h0 nx hnx => ⟨nx.toNat, (hnext i hi hg nx hnx).1, (hnext i hi hg nx hnx).2, rfl, rfl⟩) (fun i hi hg h0 => ?_), fine_out F _ g0 (fun i hi hg hj => ?_), fun j hj => ?_⟩
  · have := (hk i).2 h0
    rw [this] at hg
    cases hg
  · have hm : (code.getD i (0, 0)).2 ∈ nextB (code.getD i (0, 0)).1 (code.getD i (0, 0)).2 i := by
      have hj' : (code.getD i (0, 0)).1 = 17 ∨ (code.getD i (0, 0)).1 = 18 ∨ (code.getD i (0, 0)).1 = 19 := hj
      unfold nextB
      rcases hj' with e | e | e
      · rw [if_neg (by omega), if_pos e]; simp
      · rw [if_neg (by omega), if_neg (by omega), if_pos (.inl e)]; simp
      · rw [if_neg (by omega), if_neg (by omega), if_pos (.inr e)]; simp
    have := hnext i hi hg _ hm
    exact news_lt this.1 this.2
  · rw [takeOut_len] at hj
    obtain ⟨i, h1, h2, rfl⟩ := news_onto hj
    have h0 := (hk i).1 h2
    have e : goneD (keptD (goneD d) d code.length) (news (goneD d) i) = decide ((keptD (goneD d) d code.length).getD (news (goneD d) i) (-1) < 0) := rfl
    rw [e, keptD_at h1 h2, decide_eq_false_iff_not]
    omega
end Go.Proofs.YtjdoljaailokmaaGreatDoor
