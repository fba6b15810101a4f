/-
  What was watched, as a table by places; profiles laid together, watchers joined: plain data.
-/
import Derived.Test.YtlohoolimejihaaGreatZ2
namespace Go.Proofs.YtlohoolimejihaaGreat
open Go.RowKit

theorem hidz {p : Prop} (h : p) : Hid p := h
/-- Two ascending lists with the same members are one. -/
theorem asc_ext {α : Type} {lt : α → α → Prop} (has : ∀ x y, lt x y → ¬ lt y x) : ∀ (S T : List α), S.Pairwise lt → T.Pairwise lt → (∀ x, x ∈ S ↔ x ∈ T) → S = T
  | [], [], _, _, _ => rfl
  | [], b :: T, _, _, h => absurd ((h b).2 List.mem_cons_self) (by simp)
  | a :: S, [], _, _, h => absurd ((h a).1 List.mem_cons_self) (by simp)
  | a :: S, b :: T, hS, hT, h => by
    rw [List.pairwise_cons] at hS hT
    have e : a = b := by
      rcases List.mem_cons.1 ((h a).1 List.mem_cons_self) with e | h1
      · exact e
      · rcases List.mem_cons.1 ((h b).2 List.mem_cons_self) with e | h2
        · exact e.symm
        · exact absurd (hT.1 a h1) (has _ _ (hS.1 b h2))
    subst e
    rw [asc_ext has S T hS.2 hT.2 fun x => ?_]
    constructor
    · intro hx
      rcases List.mem_cons.1 ((h x).1 (List.mem_cons_of_mem _ hx)) with e | h1
      · subst e; exact absurd (hS.1 x hx) (fun q => has _ _ q q)
      · exact h1
    · intro hx
      rcases List.mem_cons.1 ((h x).2 (List.mem_cons_of_mem _ hx)) with e | h1
      · subst e; exact absurd (hT.1 x hx) (fun q => has _ _ q q)
      · exact h1

theorem sl_asymm (x y : Si) (h : SiteLess x y) : ¬ SiteLess y x := by unfold SiteLess at *; omega
theorem sl_trans {x y z : Si} (h : SiteLess x y) (h2 : SiteLess y z) : SiteLess x z := by unfold SiteLess at *; omega
theorem sl_place {x y x' y' : Si} (h : SiteLess x y) (h1 : x'.f = x.f) (h2 : x'.pc = x.pc) (h3 : y'.f = y.f) (h4 : y'.pc = y.pc) : SiteLess x' y' := by unfold SiteLess at *; omega
theorem sl_other {x y : Si} (h : ¬ (x.f = y.f ∧ x.pc = y.pc)) (h2 : ¬ SiteLess y x) : SiteLess x y := by unfold SiteLess at *; omega
theorem sl_same {x y : Si} (h : SiteLess x y) : ¬ (x.f = y.f ∧ x.pc = y.pc) := by unfold SiteLess at *; omega
theorem both_place (op : Int) (a b : Si) : (bothS op a b).f = a.f ∧ (bothS op a b).pc = a.pc := by
  unfold bothS
  split
  · exact ⟨rfl, rfl⟩
  · split <;> exact ⟨rfl, rfl⟩

/-- Each is ahead of the next: of all behind it. -/
theorem asc_pair {ss : List Si} (h : AscI ss) : ss.Pairwise SiteLess := by
  rw [List.pairwise_iff_getElem]
  have key : ∀ (d i : Nat) (hj : i + d + 1 < ss.length), SiteLess (ss[i]'(by omega)) (ss[i + d + 1]'hj) := by
    intro d
    induction d with
    | zero =>
      intro i hj
      have := h (i + 1) (by omega) (by omega)
      simpa using this
    | succ d ih =>
      intro i hj
      have h1 := ih i (by omega)
      have h2 : SiteLess (ss[i + d + 1]'(by omega)) (ss[i + d + 1 + 1]'(by omega)) := by simpa using h (i + d + 1 + 1) (by omega) (by omega)
      exact sl_trans h1 h2
  intro i j hi hj hij
  have := key (j - i - 1) i (by omega)
  simpa [show i + (j - i - 1) + 1 = j by omega] using this

/-- A table by places. -/
abbrev Ct := Int → Int → Option (Int × Int)
def joinC (op : Int) (o : Option (Int × Int)) (s : Si) : Int × Int :=
  match o with
  | none => (s.seen, s.target)
  | some a => ((bothS op ⟨s.f, s.pc, a.1, a.2⟩ s).seen, (bothS op ⟨s.f, s.pc, a.1, a.2⟩ s).target)
def updC (op : Int → Int → Int) (C : Ct) (s : Si) : Ct := fun f p => if f = s.f ∧ p = s.pc then some (joinC (op s.f s.pc) (C f p) s) else C f p
theorem updC_at (op : Int → Int → Int) (C : Ct) (s : Si) : updC op C s s.f s.pc = some (joinC (op s.f s.pc) (C s.f s.pc) s) := by unfold updC; rw [if_pos ⟨rfl, rfl⟩]
theorem updC_off (op : Int → Int → Int) (C : Ct) (s : Si) (f p : Int) (h : ¬ (f = s.f ∧ p = s.pc)) : updC op C s f p = C f p := by unfold updC; rw [if_neg h]
def allC (op : Int → Int → Int) (C : Ct) (l : List Si) : Ct := l.foldl (updC op) C
/-- An ascending list that tells the table. -/
def Rep (R : List Si) (C : Ct) : Prop := R.Pairwise SiteLess ∧ ∀ x : Si, x ∈ R ↔ C x.f x.pc = some (x.seen, x.target)
theorem Rep.one {R R' : List Si} {C : Ct} (h : Rep R C) (h' : Rep R' C) : R = R' := asc_ext sl_asymm _ _ h.1 h'.1 (fun x => (h.2 x).trans (h'.2 x).symm)
theorem si_eta (x : Si) (f p a t : Int) (h1 : x.f = f) (h2 : x.pc = p) (h3 : x.seen = a) (h4 : x.target = t) : x = ⟨f, p, a, t⟩ := by
  cases x; simp_all

/-- What lies where a site was laid. -/
theorem layR_mem (op : Int) (s : Si) : ∀ (p : List Si) (dn : Bool), p.Pairwise SiteLess → (dn = true → ∀ x ∈ p, SiteLess s x) → ∀ x : Si,
    x ∈ layR op s dn p ↔ (x ∈ p ∧ ¬ (x.f = s.f ∧ x.pc = s.pc)) ∨ (∃ y ∈ p, (y.f = s.f ∧ y.pc = s.pc) ∧ x = bothS op y s) ∨ (dn = false ∧ (∀ y ∈ p, ¬ (y.f = s.f ∧ y.pc = s.pc)) ∧ x = s)
  | [], dn, _, _, x => by
    cases dn <;> simp [layR]
  | y :: l, dn, hp, hd, x => by
    rw [List.pairwise_cons] at hp
    by_cases he : y.f = s.f ∧ y.pc = s.pc
    · have hdn : dn = false := by
        cases dn
        · rfl
        · exact absurd he (fun e => sl_same (hd rfl y List.mem_cons_self) ⟨e.1.symm, e.2.symm⟩)
      subst hdn
      have hl : ∀ z ∈ l, SiteLess s z := fun z hz => sl_place (hp.1 z hz) he.1.symm he.2.symm rfl rfl
      rw [layR_same he, List.mem_cons, layR_mem op s l true hp.2 (fun _ => hl) x]
      constructor
      · rintro (rfl | ⟨h1, h2⟩ | ⟨z, hz, hzs, -⟩ | ⟨h, -⟩)
        · exact .inr (.inl ⟨y, List.mem_cons_self, he, rfl⟩)
        · exact .inl ⟨List.mem_cons_of_mem _ h1, h2⟩
        · exact absurd hzs (fun e => sl_same (hl z hz) ⟨e.1.symm, e.2.symm⟩)
        · cases h
      · rintro (⟨h1, h2⟩ | ⟨z, hz, hzs, rfl⟩ | ⟨-, h2, -⟩)
        · rcases List.mem_cons.1 h1 with rfl | h1
          · exact absurd he h2
          · exact .inr (.inl ⟨h1, h2⟩)
        · rcases List.mem_cons.1 hz with rfl | hz
          · exact .inl rfl
          · exact absurd hzs (fun e => sl_same (hl z hz) ⟨e.1.symm, e.2.symm⟩)
        · exact absurd he (h2 y List.mem_cons_self)
    · by_cases hlt : dn = false ∧ SiteLess s y
      · obtain ⟨rfl, hsy⟩ := hlt
        have hl : ∀ z ∈ l, SiteLess s z := fun z hz => sl_trans hsy (hp.1 z hz)
        have hno : ∀ z ∈ y :: l, ¬ (z.f = s.f ∧ z.pc = s.pc) := by
          intro z hz e
          rcases List.mem_cons.1 hz with rfl | hz
          · exact he e
          · exact sl_same (hl z hz) ⟨e.1.symm, e.2.symm⟩
        rw [layR_ahead he hsy, List.mem_cons, List.mem_cons, layR_mem op s l true hp.2 (fun _ => hl) x]
        constructor
        · rintro (rfl | rfl | ⟨h1, h2⟩ | ⟨z, hz, hzs, -⟩ | ⟨h, -⟩)
          · exact .inr (.inr ⟨rfl, hno, rfl⟩)
          · exact .inl ⟨List.mem_cons_self, he⟩
          · exact .inl ⟨List.mem_cons_of_mem _ h1, h2⟩
          · exact absurd hzs (hno z (List.mem_cons_of_mem _ hz))
          · cases h
        · rintro (⟨h1, h2⟩ | ⟨z, hz, hzs, -⟩ | ⟨-, -, rfl⟩)
          · rcases List.mem_cons.1 h1 with rfl | h1
            · exact .inr (.inl rfl)
            · exact .inr (.inr (.inl ⟨h1, h2⟩))
          · exact absurd hzs (hno z hz)
          · exact .inl rfl
      · have hd2 : dn = true → ∀ z ∈ l, SiteLess s z := fun e z hz => hd e z (List.mem_cons_of_mem _ hz)
        rw [layR_on he hlt, List.mem_cons, layR_mem op s l dn hp.2 hd2 x]
        constructor
        · rintro (rfl | ⟨h1, h2⟩ | ⟨z, hz, hzs, rfl⟩ | ⟨h, h2, rfl⟩)
          · exact .inl ⟨List.mem_cons_self, he⟩
          · exact .inl ⟨List.mem_cons_of_mem _ h1, h2⟩
          · exact .inr (.inl ⟨z, List.mem_cons_of_mem _ hz, hzs, rfl⟩)
          · refine .inr (.inr ⟨h, fun z hz => ?_, rfl⟩)
            rcases List.mem_cons.1 hz with rfl | hz
            · exact he
            · exact h2 z hz
        · rintro (⟨h1, h2⟩ | ⟨z, hz, hzs, rfl⟩ | ⟨h, h2, rfl⟩)
          · rcases List.mem_cons.1 h1 with rfl | h1
            · exact .inl rfl
            · exact .inr (.inl ⟨h1, h2⟩)
          · rcases List.mem_cons.1 hz with rfl | hz
            · exact absurd hzs he
            · exact .inr (.inr (.inl ⟨z, hz, hzs, rfl⟩))
          · exact .inr (.inr (.inr ⟨h, fun z hz => h2 z (List.mem_cons_of_mem _ hz), rfl⟩))

/-- A site laid into an ascending list leaves an ascending one. -/
theorem layR_asc (op : Int) (s : Si) : ∀ (p : List Si) (dn : Bool), p.Pairwise SiteLess → (dn = true → ∀ x ∈ p, SiteLess s x) → (layR op s dn p).Pairwise SiteLess
  | [], dn, _, _ => by cases dn <;> simp [layR]
  | y :: l, dn, hp, hd => by
    rw [List.pairwise_cons] at hp
    by_cases he : y.f = s.f ∧ y.pc = s.pc
    · have hl : ∀ z ∈ l, SiteLess s z := fun z hz => sl_place (hp.1 z hz) he.1.symm he.2.symm rfl rfl
      rw [layR_same he, List.pairwise_cons]
      refine ⟨fun x hx => ?_, layR_asc op s l true hp.2 (fun _ => hl)⟩
      have hb := both_place op y s
      rcases (layR_mem op s l true hp.2 (fun _ => hl) x).1 hx with ⟨h1, -⟩ | ⟨z, hz, hzs, -⟩ | ⟨h, -⟩
      · exact sl_place (hp.1 x h1) hb.1 hb.2 rfl rfl
      · exact absurd hzs (fun e => sl_same (hl z hz) ⟨e.1.symm, e.2.symm⟩)
      · cases h
    · by_cases hlt : dn = false ∧ SiteLess s y
      · obtain ⟨rfl, hsy⟩ := hlt
        have hl : ∀ z ∈ l, SiteLess s z := fun z hz => sl_trans hsy (hp.1 z hz)
        have hin : ∀ x ∈ layR op s true l, x ∈ l := by
          intro x hx
          rcases (layR_mem op s l true hp.2 (fun _ => hl) x).1 hx with ⟨h1, -⟩ | ⟨z, hz, hzs, -⟩ | ⟨h, -⟩
          · exact h1
          · exact absurd hzs (fun e => sl_same (hl z hz) ⟨e.1.symm, e.2.symm⟩)
          · cases h
        rw [layR_ahead he hsy, List.pairwise_cons, List.pairwise_cons]
        refine ⟨fun x hx => ?_, fun x hx => hp.1 x (hin x hx), layR_asc op s l true hp.2 (fun _ => hl)⟩
        rcases List.mem_cons.1 hx with rfl | hx
        · exact hsy
        · exact hl x (hin x hx)
      · have hd2 : dn = true → ∀ z ∈ l, SiteLess s z := fun e z hz => hd e z (List.mem_cons_of_mem _ hz)
        rw [layR_on he hlt, List.pairwise_cons]
        refine ⟨fun x hx => ?_, layR_asc op s l dn hp.2 hd2⟩
        rcases (layR_mem op s l dn hp.2 hd2 x).1 hx with ⟨h1, -⟩ | ⟨z, hz, hzs, rfl⟩ | ⟨h, -, rfl⟩
        · exact hp.1 x h1
        · have hb := both_place op z s
          exact sl_place (hp.1 z hz) rfl rfl hb.1 hb.2
        · exact sl_other he (fun q => hlt ⟨h, q⟩)

/-- A site laid: the table with it. -/
theorem lay_rep (op : Int → Int → Int) (s : Si) (R : List Si) (C : Ct) (h : Rep R C) : Rep (layR (op s.f s.pc) s false R) (updC op C s) := by
  refine ⟨layR_asc _ _ _ _ h.1 (fun e => by cases e), fun x => ?_⟩
  rw [layR_mem _ _ _ _ h.1 (fun e => by cases e)]
  by_cases he : x.f = s.f ∧ x.pc = s.pc
  · obtain ⟨e1, e2⟩ := he
    rw [e1, e2, updC_at]
    cases hC : C s.f s.pc with
    | none =>
      have hno : ∀ y ∈ R, ¬ (y.f = s.f ∧ y.pc = s.pc) := by
        intro y hy e
        have := (h.2 y).1 hy
        rw [e.1, e.2, hC] at this
        cases this
      constructor
      · rintro (⟨-, h2⟩ | ⟨y, hy, hys, -⟩ | ⟨-, -, rfl⟩)
        · exact absurd ⟨rfl, rfl⟩ h2
        · exact absurd hys (hno y hy)
        · rfl
      · intro h3
        have h3' := Option.some.inj h3
        simp only [joinC, Prod.mk.injEq] at h3'
        refine .inr (.inr ⟨rfl, hno, ?_⟩)
        cases x; cases s; simp_all
    | some a =>
      obtain ⟨a1, a2⟩ := a
      have hy : (⟨s.f, s.pc, a1, a2⟩ : Si) ∈ R := (h.2 _).2 hC
      have hone : ∀ y ∈ R, y.f = s.f ∧ y.pc = s.pc → y = ⟨s.f, s.pc, a1, a2⟩ := by
        intro y hy e
        have := (h.2 y).1 hy
        rw [e.1, e.2, hC] at this
        have := Option.some.inj this
        simp only [Prod.mk.injEq] at this
        exact si_eta y _ _ _ _ e.1 e.2 this.1.symm this.2.symm
      have hb := both_place (op s.f s.pc) ⟨s.f, s.pc, a1, a2⟩ s
      constructor
      · rintro (⟨-, h2⟩ | ⟨y, hy, hys, rfl⟩ | ⟨-, h2, -⟩)
        · exact absurd ⟨rfl, rfl⟩ h2
        · rw [hone y hy hys]
          rfl
        · exact absurd ⟨rfl, rfl⟩ (h2 _ hy)
      · intro h3
        have h3' := Option.some.inj h3
        simp only [joinC, Prod.mk.injEq] at h3'
        refine .inr (.inl ⟨_, hy, ⟨rfl, rfl⟩, ?_⟩)
        rw [si_eta x _ _ _ _ e1 e2 h3'.1.symm h3'.2.symm]
        exact (si_eta _ _ _ _ _ hb.1 hb.2 rfl rfl).symm
  · rw [updC_off _ _ _ _ _ he, ← h.2 x]
    constructor
    · rintro (⟨h1, -⟩ | ⟨y, -, hys, rfl⟩ | ⟨-, -, rfl⟩)
      · exact h1
      · have hb := both_place (op s.f s.pc) y s
        exact absurd ⟨hb.1.trans hys.1, hb.2.trans hys.2⟩ he
      · exact absurd ⟨rfl, rfl⟩ he
    · exact fun h1 => .inl ⟨h1, he⟩

/-- An ascending list's own table. -/
def tabC (p : List Si) : Ct := fun f pc => (p.find? (fun x => decide (x.f = f ∧ x.pc = pc))).map fun x => (x.seen, x.target)
theorem tab_rep {p : List Si} (h : p.Pairwise SiteLess) : Rep p (tabC p) := by
  refine ⟨h, fun x => ?_⟩
  unfold tabC
  constructor
  · intro hx
    have hs : (p.find? (fun y => decide (y.f = x.f ∧ y.pc = x.pc))) = some x := by
      induction p with
      | nil => cases hx
      | cons a l ih =>
        rw [List.pairwise_cons] at h
        rcases List.mem_cons.1 hx with rfl | hx
        · simp
        · have := sl_same (h.1 x hx)
          rw [List.find?_cons_of_neg (by simpa using this)]
          exact ih h.2 hx
    rw [hs]
    rfl
  · intro h3
    cases hf : p.find? (fun y => decide (y.f = x.f ∧ y.pc = x.pc)) with
    | none => rw [hf] at h3; cases h3
    | some y =>
      rw [hf] at h3
      have h4 := Option.some.inj h3
      simp only [Prod.mk.injEq] at h4
      have h5 := List.find?_some hf
      simp only [decide_eq_true_eq] at h5
      have h6 := List.mem_of_find?_eq_some hf
      rw [si_eta x x.f x.pc y.seen y.target rfl rfl h4.1.symm h4.2.symm, ← h5.1, ← h5.2]
      exact h6
theorem all_tab (op : Int → Int → Int) : ∀ (p : List Si) (C : Ct), p.Pairwise SiteLess → (∀ x ∈ p, C x.f x.pc = none) → ∀ f pc, allC op C p f pc = (tabC p f pc).or (C f pc)
  | [], C, _, _, f, pc => by simp [allC, tabC]
  | s :: l, C, hp, hC, f, pc => by
    rw [List.pairwise_cons] at hp
    have h1 : ∀ x ∈ l, updC op C s x.f x.pc = none := fun x hx => by
      rw [updC_off _ _ _ _ _ (fun e => sl_same (hp.1 x hx) ⟨e.1.symm, e.2.symm⟩)]
      exact hC x (List.mem_cons_of_mem _ hx)
    have ih := all_tab op l (updC op C s) hp.2 h1 f pc
    show allC op (updC op C s) l f pc = _
    rw [ih]
    by_cases he : f = s.f ∧ pc = s.pc
    · obtain ⟨rfl, rfl⟩ := he
      have hn : tabC l s.f s.pc = none := by
        unfold tabC
        rw [List.find?_eq_none.2 (fun x hx => by simpa using fun e1 e2 => sl_same (hp.1 x hx) ⟨e1.symm, e2.symm⟩)]
        rfl
      rw [hn, updC_at, hC s List.mem_cons_self]
      simp [tabC, joinC]
    · rw [updC_off _ _ _ _ _ he]
      have : tabC (s :: l) f pc = tabC l f pc := by
        unfold tabC
        rw [List.find?_cons_of_neg (by simpa using fun e1 e2 => he ⟨e1.symm, e2.symm⟩)]
      rw [this]
theorem none_rep (op : Int → Int → Int) {p : List Si} (h : p.Pairwise SiteLess) : Rep p (allC op (fun _ _ => none) p) := by
  have e : allC op (fun _ _ => none) p = tabC p := by
    funext f pc
    rw [all_tab op p _ h (fun _ _ => rfl)]
    simp
  rw [e]
  exact tab_rep h
/-- Profiles laid together. -/
def mergeS (op : Int → Int → Int) (p q : List Si) : List Si := q.foldl (fun out s => layR (op s.f s.pc) s false out) p
theorem merge_rep (op : Int → Int → Int) : ∀ (q p : List Si) (C : Ct), Rep p C → Rep (mergeS op p q) (allC op C q)
  | [], _, _, h => h
  | s :: q, p, C, h => merge_rep op q (layR (op s.f s.pc) s false p) (updC op C s) (lay_rep op s p C h)
end Go.Proofs.YtlohoolimejihaaGreat
