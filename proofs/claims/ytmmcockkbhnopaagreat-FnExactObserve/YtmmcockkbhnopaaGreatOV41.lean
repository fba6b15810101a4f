/-
  What was watched, as a table by places; profiles laid together, watchers joined: plain data.
  What spec.MergeSites returns.
  The watchers of a profile as plain data: what they tell, how they join a site; the table that they are.
-/
import Derived.Test.YtmmcockkbhnopaaGreatOV40
import Derived.Deep.DeepCutAuto
import Derived.Deep.CutRange
import Derived.Shelf.RegionOpen
namespace Go.Proofs.YtmmcockkbhnopaaGreat
open Go.RowKit

theorem hidz {p : Prop} (h : p) : Hid p := h
/-- Two ascending lists with the same members are one. -/
theorem asc_ext {α : Type} {lt : α → α → Prop} (has : ∀ x y, lt x y → ¬ lt y x) : ∀ (S T : List α), S.Pairwise lt → T.Pairwise lt → (∀ x, x ∈ S ↔ x ∈ T) → S = T
  | [], [], _, _, _ => rfl
  | [], b :: T, _, _, h => absurd ((h b).2 List.mem_cons_self) (by simp)
  | a :: S, [], _, _, h => absurd ((h a).1 List.mem_cons_self) (by simp)
  | a :: S, b :: T, hS, hT, h => by
    rw [List.pairwise_cons] at hS hT
    have e : a = b := by
      rcases List.mem_cons.1 ((h a).1 List.mem_cons_self) with e | h1
      · exact e
      · rcases List.mem_cons.1 ((h b).2 List.mem_cons_self) with e | h2
        · exact e.symm
        · exact absurd (hT.1 a h1) (has _ _ (hS.1 b h2))
    subst e
    rw [asc_ext has S T hS.2 hT.2 fun x => ?_]
    constructor
    · intro hx
      rcases List.mem_cons.1 ((h x).1 (List.mem_cons_of_mem _ hx)) with e | h1
      · subst e; exact absurd (hS.1 x hx) (fun q => has _ _ q q)
      · exact h1
    · intro hx
      rcases List.mem_cons.1 ((h x).2 (List.mem_cons_of_mem _ hx)) with e | h1
      · subst e; exact absurd (hT.1 x hx) (fun q => has _ _ q q)
      · exact h1

theorem sl_asymm (x y : Si) (h : SiteLess x y) : ¬ SiteLess y x := by unfold SiteLess at *; omega
theorem sl_trans {x y z : Si} (h : SiteLess x y) (h2 : SiteLess y z) : SiteLess x z := by unfold SiteLess at *; omega
theorem sl_place {x y x' y' : Si} (h : SiteLess x y) (h1 : x'.f = x.f) (h2 : x'.pc = x.pc) (h3 : y'.f = y.f) (h4 : y'.pc = y.pc) : SiteLess x' y' := by unfold SiteLess at *; omega
theorem sl_other {x y : Si} (h : ¬ (x.f = y.f ∧ x.pc = y.pc)) (h2 : ¬ SiteLess y x) : SiteLess x y := by unfold SiteLess at *; omega
theorem sl_same {x y : Si} (h : SiteLess x y) : ¬ (x.f = y.f ∧ x.pc = y.pc) := by unfold SiteLess at *; omega
theorem both_place (op : Int) (a b : Si) : (bothS op a b).f = a.f ∧ (bothS op a b).pc = a.pc := by
  unfold bothS
  split
  · exact ⟨rfl, rfl⟩
  · split <;> exact ⟨rfl, rfl⟩

/-- Each is ahead of the next: of all behind it. -/
theorem asc_pair {ss : List Si} (h : AscI ss) : ss.Pairwise SiteLess := by
  rw [List.pairwise_iff_getElem]
  have key : ∀ (d i : Nat) (hj : i + d + 1 < ss.length), SiteLess (ss[i]'(by omega)) (ss[i + d + 1]'hj) := by
    intro d
    induction d with
    | zero =>
      intro i hj
      have := h (i + 1) (by omega) (by omega)
      simpa using this
    | succ d ih =>
      intro i hj
      have h1 := ih i (by omega)
      have h2 : SiteLess (ss[i + d + 1]'(by omega)) (ss[i + d + 1 + 1]'(by omega)) := by simpa using h (i + d + 1 + 1) (by omega) (by omega)
      exact sl_trans h1 h2
  intro i j hi hj hij
  have := key (j - i - 1) i (by omega)
  simpa [show i + (j - i - 1) + 1 = j by omega] using this

/-- A table by places. -/
abbrev Ct := Int → Int → Option (Int × Int)
def joinC (op : Int) (o : Option (Int × Int)) (s : Si) : Int × Int :=
  match o with
  | none => (s.seen, s.target)
  | some a => ((bothS op ⟨s.f, s.pc, a.1, a.2⟩ s).seen, (bothS op ⟨s.f, s.pc, a.1, a.2⟩ s).target)
def updC (op : Int → Int → Int) (C : Ct) (s : Si) : Ct := fun f p => if f = s.f ∧ p = s.pc then some (joinC (op s.f s.pc) (C f p) s) else C f p
theorem updC_at (op : Int → Int → Int) (C : Ct) (s : Si) : updC op C s s.f s.pc = some (joinC (op s.f s.pc) (C s.f s.pc) s) := by unfold updC; rw [if_pos ⟨rfl, rfl⟩]
theorem updC_off (op : Int → Int → Int) (C : Ct) (s : Si) (f p : Int) (h : ¬ (f = s.f ∧ p = s.pc)) : updC op C s f p = C f p := by unfold updC; rw [if_neg h]
def allC (op : Int → Int → Int) (C : Ct) (l : List Si) : Ct := l.foldl (updC op) C
/-- An ascending list that tells the table. -/
def Rep (R : List Si) (C : Ct) : Prop := R.Pairwise SiteLess ∧ ∀ x : Si, x ∈ R ↔ C x.f x.pc = some (x.seen, x.target)
theorem Rep.one {R R' : List Si} {C : Ct} (h : Rep R C) (h' : Rep R' C) : R = R' := asc_ext sl_asymm _ _ h.1 h'.1 (fun x => (h.2 x).trans (h'.2 x).symm)
theorem si_eta (x : Si) (f p a t : Int) (h1 : x.f = f) (h2 : x.pc = p) (h3 : x.seen = a) (h4 : x.target = t) : x = ⟨f, p, a, t⟩ := by
  cases x; simp_all

/-- What lies where a site was laid. -/
theorem layR_mem (op : Int) (s : Si) : ∀ (p : List Si) (dn : Bool), p.Pairwise SiteLess → (dn = true → ∀ x ∈ p, SiteLess s x) → ∀ x : Si,
    x ∈ layR op s dn p ↔ (x ∈ p ∧ ¬ (x.f = s.f ∧ x.pc = s.pc)) ∨ (∃ y ∈ p, (y.f = s.f ∧ y.pc = s.pc) ∧ x = bothS op y s) ∨ (dn = false ∧ (∀ y ∈ p, ¬ (y.f = s.f ∧ y.pc = s.pc)) ∧ x = s)
  | [], dn, _, _, x => by
    cases dn <;> simp [layR]
  | y :: l, dn, hp, hd, x => by
    rw [List.pairwise_cons] at hp
    by_cases he : y.f = s.f ∧ y.pc = s.pc
    · have hdn : dn = false := by
        cases dn
        · rfl
        · exact absurd he (fun e => sl_same (hd rfl y List.mem_cons_self) ⟨e.1.symm, e.2.symm⟩)
      subst hdn
      have hl : ∀ z ∈ l, SiteLess s z := fun z hz => sl_place (hp.1 z hz) he.1.symm he.2.symm rfl rfl
      rw [layR_same he, List.mem_cons, layR_mem op s l true hp.2 (fun _ => hl) x]
      constructor
      · rintro (rfl | ⟨h1, h2⟩ | ⟨z, hz, hzs, -⟩ | ⟨h, -⟩)
        · exact .inr (.inl ⟨y, List.mem_cons_self, he, rfl⟩)
        · exact .inl ⟨List.mem_cons_of_mem _ h1, h2⟩
        · exact absurd hzs (fun e => sl_same (hl z hz) ⟨e.1.symm, e.2.symm⟩)
        · cases h
      · rintro (⟨h1, h2⟩ | ⟨z, hz, hzs, rfl⟩ | ⟨-, h2, -⟩)
        · rcases List.mem_cons.1 h1 with rfl | h1
          · exact absurd he h2
          · exact .inr (.inl ⟨h1, h2⟩)
        · rcases List.mem_cons.1 hz with rfl | hz
          · exact .inl rfl
          · exact absurd hzs (fun e => sl_same (hl z hz) ⟨e.1.symm, e.2.symm⟩)
        · exact absurd he (h2 y List.mem_cons_self)
    · by_cases hlt : dn = false ∧ SiteLess s y
      · obtain ⟨rfl, hsy⟩ := hlt
        have hl : ∀ z ∈ l, SiteLess s z := fun z hz => sl_trans hsy (hp.1 z hz)
        have hno : ∀ z ∈ y :: l, ¬ (z.f = s.f ∧ z.pc = s.pc) := by
          intro z hz e
          rcases List.mem_cons.1 hz with rfl | hz
          · exact he e
          · exact sl_same (hl z hz) ⟨e.1.symm, e.2.symm⟩
        rw [layR_ahead he hsy, List.mem_cons, List.mem_cons, layR_mem op s l true hp.2 (fun _ => hl) x]
        constructor
        · rintro (rfl | rfl | ⟨h1, h2⟩ | ⟨z, hz, hzs, -⟩ | ⟨h, -⟩)
          · exact .inr (.inr ⟨rfl, hno, rfl⟩)
          · exact .inl ⟨List.mem_cons_self, he⟩
          · exact .inl ⟨List.mem_cons_of_mem _ h1, h2⟩
          · exact absurd hzs (hno z (List.mem_cons_of_mem _ hz))
          · cases h
        · rintro (⟨h1, h2⟩ | ⟨z, hz, hzs, -⟩ | ⟨-, -, rfl⟩)
          · rcases List.mem_cons.1 h1 with rfl | h1
            · exact .inr (.inl rfl)
            · exact .inr (.inr (.inl ⟨h1, h2⟩))
          · exact absurd hzs (hno z hz)
          · exact .inl rfl
      · have hd2 : dn = true → ∀ z ∈ l, SiteLess s z := fun e z hz => hd e z (List.mem_cons_of_mem _ hz)
        rw [layR_on he hlt, List.mem_cons, layR_mem op s l dn hp.2 hd2 x]
        constructor
        · rintro (rfl | ⟨h1, h2⟩ | ⟨z, hz, hzs, rfl⟩ | ⟨h, h2, rfl⟩)
          · exact .inl ⟨List.mem_cons_self, he⟩
          · exact .inl ⟨List.mem_cons_of_mem _ h1, h2⟩
          · exact .inr (.inl ⟨z, List.mem_cons_of_mem _ hz, hzs, rfl⟩)
          · refine .inr (.inr ⟨h, fun z hz => ?_, rfl⟩)
            rcases List.mem_cons.1 hz with rfl | hz
            · exact he
            · exact h2 z hz
        · rintro (⟨h1, h2⟩ | ⟨z, hz, hzs, rfl⟩ | ⟨h, h2, rfl⟩)
          · rcases List.mem_cons.1 h1 with rfl | h1
            · exact .inl rfl
            · exact .inr (.inl ⟨h1, h2⟩)
          · rcases List.mem_cons.1 hz with rfl | hz
            · exact absurd hzs he
            · exact .inr (.inr (.inl ⟨z, hz, hzs, rfl⟩))
          · exact .inr (.inr (.inr ⟨h, fun z hz => h2 z (List.mem_cons_of_mem _ hz), rfl⟩))

/-- A site laid into an ascending list leaves an ascending one. -/
theorem layR_asc (op : Int) (s : Si) : ∀ (p : List Si) (dn : Bool), p.Pairwise SiteLess → (dn = true → ∀ x ∈ p, SiteLess s x) → (layR op s dn p).Pairwise SiteLess
  | [], dn, _, _ => by cases dn <;> simp [layR]
  | y :: l, dn, hp, hd => by
    rw [List.pairwise_cons] at hp
    by_cases he : y.f = s.f ∧ y.pc = s.pc
    · have hl : ∀ z ∈ l, SiteLess s z := fun z hz => sl_place (hp.1 z hz) he.1.symm he.2.symm rfl rfl
      rw [layR_same he, List.pairwise_cons]
      refine ⟨fun x hx => ?_, layR_asc op s l true hp.2 (fun _ => hl)⟩
      have hb := both_place op y s
      rcases (layR_mem op s l true hp.2 (fun _ => hl) x).1 hx with ⟨h1, -⟩ | ⟨z, hz, hzs, -⟩ | ⟨h, -⟩
      · exact sl_place (hp.1 x h1) hb.1 hb.2 rfl rfl
      · exact absurd hzs (fun e => sl_same (hl z hz) ⟨e.1.symm, e.2.symm⟩)
      · cases h
    · by_cases hlt : dn = false ∧ SiteLess s y
      · obtain ⟨rfl, hsy⟩ := hlt
        have hl : ∀ z ∈ l, SiteLess s z := fun z hz => sl_trans hsy (hp.1 z hz)
        have hin : ∀ x ∈ layR op s true l, x ∈ l := by
          intro x hx
          rcases (layR_mem op s l true hp.2 (fun _ => hl) x).1 hx with ⟨h1, -⟩ | ⟨z, hz, hzs, -⟩ | ⟨h, -⟩
          · exact h1
          · exact absurd hzs (fun e => sl_same (hl z hz) ⟨e.1.symm, e.2.symm⟩)
          · cases h
        rw [layR_ahead he hsy, List.pairwise_cons, List.pairwise_cons]
        refine ⟨fun x hx => ?_, fun x hx => hp.1 x (hin x hx), layR_asc op s l true hp.2 (fun _ => hl)⟩
        rcases List.mem_cons.1 hx with rfl | hx
        · exact hsy
        · exact hl x (hin x hx)
      · have hd2 : dn = true → ∀ z ∈ l, SiteLess s z := fun e z hz => hd e z (List.mem_cons_of_mem _ hz)
        rw [layR_on he hlt, List.pairwise_cons]
        refine ⟨fun x hx => ?_, layR_asc op s l dn hp.2 hd2⟩
        rcases (layR_mem op s l dn hp.2 hd2 x).1 hx with ⟨h1, -⟩ | ⟨z, hz, hzs, rfl⟩ | ⟨h, -, rfl⟩
        · exact hp.1 x h1
        · have hb := both_place op z s
          exact sl_place (hp.1 z hz) rfl rfl hb.1 hb.2
        · exact sl_other he (fun q => hlt ⟨h, q⟩)

/-- A site laid: the table with it. -/
theorem lay_rep (op : Int → Int → Int) (s : Si) (R : List Si) (C : Ct) (h : Rep R C) : Rep (layR (op s.f s.pc) s false R) (updC op C s) := by
  refine ⟨layR_asc _ _ _ _ h.1 (fun e => by cases e), fun x => ?_⟩
  rw [layR_mem _ _ _ _ h.1 (fun e => by cases e)]
  by_cases he : x.f = s.f ∧ x.pc = s.pc
  · obtain ⟨e1, e2⟩ := he
    rw [e1, e2, updC_at]
    cases hC : C s.f s.pc with
    | none =>
      have hno : ∀ y ∈ R, ¬ (y.f = s.f ∧ y.pc = s.pc) := by
        intro y hy e
        have := (h.2 y).1 hy
        rw [e.1, e.2, hC] at this
        cases this
      constructor
      · rintro (⟨-, h2⟩ | ⟨y, hy, hys, -⟩ | ⟨-, -, rfl⟩)
        · exact absurd ⟨rfl, rfl⟩ h2
        · exact absurd hys (hno y hy)
        · rfl
      · intro h3
        have h3' := Option.some.inj h3
        simp only [joinC, Prod.mk.injEq] at h3'
        refine .inr (.inr ⟨rfl, hno, ?_⟩)
        cases x; cases s; simp_all
    | some a =>
      obtain ⟨a1, a2⟩ := a
      have hy : (⟨s.f, s.pc, a1, a2⟩ : Si) ∈ R := (h.2 _).2 hC
      have hone : ∀ y ∈ R, y.f = s.f ∧ y.pc = s.pc → y = ⟨s.f, s.pc, a1, a2⟩ := by
        intro y hy e
        have := (h.2 y).1 hy
        rw [e.1, e.2, hC] at this
        have := Option.some.inj this
        simp only [Prod.mk.injEq] at this
        exact si_eta y _ _ _ _ e.1 e.2 this.1.symm this.2.symm
      have hb := both_place (op s.f s.pc) ⟨s.f, s.pc, a1, a2⟩ s
      constructor
      · rintro (⟨-, h2⟩ | ⟨y, hy, hys, rfl⟩ | ⟨-, h2, -⟩)
        · exact absurd ⟨rfl, rfl⟩ h2
        · rw [hone y hy hys]
          rfl
        · exact absurd ⟨rfl, rfl⟩ (h2 _ hy)
      · intro h3
        have h3' := Option.some.inj h3
        simp only [joinC, Prod.mk.injEq] at h3'
        refine .inr (.inl ⟨_, hy, ⟨rfl, rfl⟩, ?_⟩)
        rw [si_eta x _ _ _ _ e1 e2 h3'.1.symm h3'.2.symm]
        exact (si_eta _ _ _ _ _ hb.1 hb.2 rfl rfl).symm
  · rw [updC_off _ _ _ _ _ he, ← h.2 x]
    constructor
    · rintro (⟨h1, -⟩ | ⟨y, -, hys, rfl⟩ | ⟨-, -, rfl⟩)
      · exact h1
      · have hb := both_place (op s.f s.pc) y s
        exact absurd ⟨hb.1.trans hys.1, hb.2.trans hys.2⟩ he
      · exact absurd ⟨rfl, rfl⟩ he
    · exact fun h1 => .inl ⟨h1, he⟩

/-- An ascending list's own table. -/
def tabC (p : List Si) : Ct := fun f pc => (p.find? (fun x => decide (x.f = f ∧ x.pc = pc))).map fun x => (x.seen, x.target)
theorem tab_rep {p : List Si} (h : p.Pairwise SiteLess) : Rep p (tabC p) := by
  refine ⟨h, fun x => ?_⟩
  unfold tabC
  constructor
  · intro hx
    have hs : (p.find? (fun y => decide (y.f = x.f ∧ y.pc = x.pc))) = some x := by
      induction p with
      | nil => cases hx
      | cons a l ih =>
        rw [List.pairwise_cons] at h
        rcases List.mem_cons.1 hx with rfl | hx
        · simp
        · have := sl_same (h.1 x hx)
          rw [List.find?_cons_of_neg (by simpa using this)]
          exact ih h.2 hx
    rw [hs]
    rfl
  · intro h3
    cases hf : p.find? (fun y => decide (y.f = x.f ∧ y.pc = x.pc)) with
    | none => rw [hf] at h3; cases h3
    | some y =>
      rw [hf] at h3
      have h4 := Option.some.inj h3
      simp only [Prod.mk.injEq] at h4
      have h5 := List.find?_some hf
      simp only [decide_eq_true_eq] at h5
      have h6 := List.mem_of_find?_eq_some hf
      rw [si_eta x x.f x.pc y.seen y.target rfl rfl h4.1.symm h4.2.symm, ← h5.1, ← h5.2]
      exact h6
theorem all_tab (op : Int → Int → Int) : ∀ (p : List Si) (C : Ct), p.Pairwise SiteLess → (∀ x ∈ p, C x.f x.pc = none) → ∀ f pc, allC op C p f pc = (tabC p f pc).or (C f pc)
  | [], C, _, _, f, pc => by simp [allC, tabC]
  | s :: l, C, hp, hC, f, pc => by
    rw [List.pairwise_cons] at hp
    have h1 : ∀ x ∈ l, updC op C s x.f x.pc = none := fun x hx => by
      rw [updC_off _ _ _ _ _ (fun e => sl_same (hp.1 x hx) ⟨e.1.symm, e.2.symm⟩)]
      exact hC x (List.mem_cons_of_mem _ hx)
    have ih := all_tab op l (updC op C s) hp.2 h1 f pc
    show allC op (updC op C s) l f pc = _
    rw [ih]
    by_cases he : f = s.f ∧ pc = s.pc
    · obtain ⟨rfl, rfl⟩ := he
      have hn : tabC l s.f s.pc = none := by
        unfold tabC
        rw [List.find?_eq_none.2 (fun x hx => by simpa using fun e1 e2 => sl_same (hp.1 x hx) ⟨e1.symm, e2.symm⟩)]
        rfl
      rw [hn, updC_at, hC s List.mem_cons_self]
      simp [tabC, joinC]
    · rw [updC_off _ _ _ _ _ he]
      have : tabC (s :: l) f pc = tabC l f pc := by
        unfold tabC
        rw [List.find?_cons_of_neg (by simpa using fun e1 e2 => he ⟨e1.symm, e2.symm⟩)]
      rw [this]
theorem none_rep (op : Int → Int → Int) {p : List Si} (h : p.Pairwise SiteLess) : Rep p (allC op (fun _ _ => none) p) := by
  have e : allC op (fun _ _ => none) p = tabC p := by
    funext f pc
    rw [all_tab op p _ h (fun _ _ => rfl)]
    simp
  rw [e]
  exact tab_rep h
/-- Profiles laid together. -/
def mergeS (op : Int → Int → Int) (p q : List Si) : List Si := q.foldl (fun out s => layR (op s.f s.pc) s false out) p
theorem merge_rep (op : Int → Int → Int) : ∀ (q p : List Si) (C : Ct), Rep p C → Rep (mergeS op p q) (allC op C q)
  | [], _, _, h => h
  | s :: q, p, C, h => merge_rep op q (layR (op s.f s.pc) s false p) (updC op C s) (lay_rep op s p C h)
end Go.Proofs.YtmmcockkbhnopaaGreat

namespace Go.Proofs.YtmmcockkbhnopaaGreat
open Go.RowKit

/-- The Op of an instruction. -/
def opD (fs : List Fn) (f p : Int) : Int := ((insD fs f p).getD (0, 0)).1
def mgT (fs : List Fn) (p q : List Si) (k : Nat) : List Si := mergeS (opD fs) p (q.take k)
theorem mgT_zero (fs : List Fn) (p q : List Si) : mgT fs p q 0 = p := rfl
theorem mgT_succ (fs : List Fn) (p q : List Si) (k : Nat) (h : k < q.length) : mgT fs p q (k + 1) = layR (opD fs q[k].f q[k].pc) q[k] false (mgT fs p q k) := by
  unfold mgT mergeS
  rw [List.take_succ_eq_append_getElem h, List.foldl_append]
  rfl
theorem layR_len (op : Int) (s : Si) : ∀ (p : List Si) (dn : Bool), (layR op s dn p).length ≤ p.length + (if dn = true then 0 else 1)
  | [], dn => by cases dn <;> simp [layR]
  | x :: l, dn => by
    by_cases he : x.f = s.f ∧ x.pc = s.pc
    · rw [layR_same he]
      have := layR_len op s l true
      simp only [List.length_cons, if_true] at *
      split <;> omega
    · by_cases hlt : dn = false ∧ SiteLess s x
      · obtain ⟨rfl, hsx⟩ := hlt
        rw [layR_ahead he hsx]
        have := layR_len op s l true
        simp at *
        omega
      · rw [layR_on he hlt]
        have := layR_len op s l dn
        simp only [List.length_cons]
        omega
theorem seenOr_in {a b : Int} (ha : 1 ≤ a ∧ a ≤ 3) : 1 ≤ seenOr a b ∧ seenOr a b ≤ 3 := by
  unfold seenOr
  split <;> omega
theorem both_seen (op : Int) (a b : Si) (ha : 1 ≤ a.seen ∧ a.seen ≤ 3) : 1 ≤ (bothS op a b).seen ∧ (bothS op a b).seen ≤ 3 := by
  unfold bothS
  split
  · exact seenOr_in ha
  · split
    · exact ha
    · exact ⟨by show (1 : Int) ≤ 2; decide, by show (2 : Int) ≤ 3; decide⟩
theorem layR_seen (op : Int) (s : Si) (hs : 1 ≤ s.seen ∧ s.seen ≤ 3) : ∀ (p : List Si) (dn : Bool), (∀ x ∈ p, 1 ≤ x.seen ∧ x.seen ≤ 3) → ∀ x ∈ layR op s dn p, 1 ≤ x.seen ∧ x.seen ≤ 3
  | [], dn, _, x, hx => by
    cases dn
    · simp [layR] at hx; subst hx; exact hs
    · simp [layR] at hx
  | y :: l, dn, hp, x, hx => by
    have hl : ∀ x ∈ l, 1 ≤ x.seen ∧ x.seen ≤ 3 := fun x h => hp x (List.mem_cons_of_mem _ h)
    have hy := hp y List.mem_cons_self
    by_cases he : y.f = s.f ∧ y.pc = s.pc
    · rw [layR_same he] at hx
      rcases List.mem_cons.1 hx with rfl | hx
      · exact both_seen op y s hy
      · exact layR_seen op s hs l true hl x hx
    · by_cases hlt : dn = false ∧ SiteLess s y
      · obtain ⟨rfl, hsx⟩ := hlt
        rw [layR_ahead he hsx] at hx
        rcases List.mem_cons.1 hx with rfl | hx
        · exact hs
        · rcases List.mem_cons.1 hx with rfl | hx
          · exact hy
          · exact layR_seen op s hs l true hl x hx
      · rw [layR_on he hlt] at hx
        rcases List.mem_cons.1 hx with rfl | hx
        · exact hy
        · exact layR_seen op s hs l dn hl x hx
theorem site_seen {fs : List Fn} {s : Si} (h : SiteP fs s) : 1 ≤ s.seen ∧ s.seen ≤ 3 := by
  obtain ⟨_, _, _, _, h⟩ := h
  rcases h with ⟨-, h | h⟩ | h
  · omega
  · omega
  · exact ⟨h.2.2.1, h.2.2.2.1⟩
theorem prof_site {fs : List Fn} {ss : List Si} (h : ProfP fs ss) {x : Si} (hx : x ∈ ss) : SiteP fs x := by
  obtain ⟨i, hi, rfl⟩ := List.getElem_of_mem hx
  exact (h.2 i hi).1
theorem prof_asc {fs : List Fn} {ss : List Si} (h : ProfP fs ss) : ss.Pairwise SiteLess := asc_pair ((prof_iff fs ss).1 h.2).2
theorem mgT_len (fs : List Fn) (p q : List Si) : ∀ k, k ≤ q.length → (mgT fs p q k).length ≤ p.length + k
  | 0, _ => by simp [mgT_zero]
  | k + 1, h => by
    rw [mgT_succ fs p q k (by omega)]
    have := layR_len (opD fs q[k].f q[k].pc) q[k] (mgT fs p q k) false
    have := mgT_len fs p q k (by omega)
    simp at *
    omega
theorem mgT_seen {fs : List Fn} {p q : List Si} (hp : ProfP fs p) (hq : ProfP fs q) : ∀ k, k ≤ q.length → ∀ x ∈ mgT fs p q k, 1 ≤ x.seen ∧ x.seen ≤ 3
  | 0, _, x, hx => site_seen (prof_site hp hx)
  | k + 1, h, x, hx => by
    rw [mgT_succ fs p q k (by omega)] at hx
    exact layR_seen _ _ (site_seen (prof_site hq (List.getElem_mem (by omega)))) _ _ (mgT_seen hp hq k (by omega)) x hx
/-- What is answered of two profiles. -/
def MergeA (ts : List ByteArray) (fs : List Fn) (p q R : List Si) : Prop := ((Good ts fs ∧ ProfP fs p) ∧ ProfP fs q ∧ (mergeS (opD fs) p q).length ≤ 150 ∧ R = mergeS (opD fs) p q) ∨ (¬ ((Good ts fs ∧ ProfP fs p) ∧ ProfP fs q ∧ (mergeS (opD fs) p q).length ≤ 150) ∧ R = [])
theorem MergeA.one {ts : List ByteArray} {fs : List Fn} {p q R R' : List Si} (h : MergeA ts fs p q R) (h' : MergeA ts fs p q R') : R' = R := by
  rcases h with ⟨h1, h2, h3, rfl⟩ | ⟨h1, rfl⟩
  · rcases h' with ⟨-, -, -, rfl⟩ | ⟨k, -⟩
    · rfl
    · exact absurd ⟨h1, h2, h3⟩ k
  · rcases h' with ⟨k1, k2, k3, -⟩ | ⟨-, rfl⟩
    · exact absurd ⟨k1, k2, k3⟩ h1
    · rfl
theorem MergeA.len {ts : List ByteArray} {fs : List Fn} {p q R : List Si} (h : MergeA ts fs p q R) : R.length ≤ 150 := by
  rcases h with ⟨-, -, h, rfl⟩ | ⟨-, rfl⟩
  · exact h
  · simp

theorem own_lowz {w : World} {B B' e size n : Nat} {v : Value} {xs : List Value} (h : w.ownsRow B e size v n xs) (hl : B' ≤ B) : w.ownsRow B' e size v n xs := by
  refine ⟨h.1, ?_⟩
  rcases h.2 with hn | ⟨g, cap, cur, hv, hbb, hg, r⟩
  · exact .inl hn
  · exact .inr ⟨g, cap, cur, hv, by omega, hg, r⟩
theorem own_formz {w : World} {B e size n : Nat} {v : Value} {xs : List Value} (h : w.ownsRow B e size v n xs) : ∃ a cap, v = .slice a n cap := by
  rcases h.2 with ⟨hv, h0⟩ | ⟨g, cap, cur, hv, -⟩
  · exact ⟨none, 0, by rw [hv, h0]⟩
  · exact ⟨_, _, hv⟩
theorem flatS_at : ∀ (ss : List Si) (i : Nat) (h : i < ss.length), (flatS ss)[i * 4]? = some (.int .i64 ss[i].f) ∧ (flatS ss)[i * 4 + 1]? = some (.int .i64 ss[i].pc) ∧ (flatS ss)[i * 4 + 2]? = some (.int .i64 ss[i].seen) ∧ (flatS ss)[i * 4 + 3]? = some (.int .i64 ss[i].target)
  | [], i, h => by simp at h
  | s :: ss, 0, _ => by simp [flatS, Si.cells]
  | s :: ss, i + 1, h => by
    have := flatS_at ss i (by simpa using h)
    have e : flatS (s :: ss) = [.int .i64 s.f, .int .i64 s.pc, .int .i64 s.seen, .int .i64 s.target] ++ flatS ss := by simp [flatS, Si.cells]
    rw [e, show (i + 1) * 4 = i * 4 + 4 by omega]
    simp only [List.getElem_cons_succ]
    refine ⟨?_, ?_, ?_, ?_⟩
    · rw [List.getElem?_append_right (by simp)]; simpa using this.1
    · rw [List.getElem?_append_right (by simp)]; simpa using this.2.1
    · rw [List.getElem?_append_right (by simp)]; simpa using this.2.2.1
    · rw [List.getElem?_append_right (by simp)]; simpa using this.2.2.2
/-- A row of sites that a call owns, read as sites. -/
theorem own_sitesz {w : World} {base n : Nat} {a : Option Addr} {c : Nat} {ss : List Si} (h : w.ownsRow base 68 4 (.slice a n c) n (flatS ss)) (hn : n = ss.length) : SitesAt w base a ss := by
  intro i hi
  rcases h.2 with ⟨e, h0⟩ | ⟨b, cp, cur, e, hb, hh, h1, h2, h3, h4⟩
  · omega
  · cases e
    obtain ⟨f1, f2, f3, f4⟩ := flatS_at ss i hi
    have hc : ∀ j v, (flatS ss)[j]? = some v → w.cell? ⟨b, j, none⟩ = some v := fun j v hj => by
      rw [block_cell hh, ← Array.getElem?_toList]
      rw [← h4] at hj
      rw [List.getElem?_take] at hj
      split at hj
      · exact hj
      · cases hj
    refine ⟨b, 0, rfl, hb, ?_, ?_, ?_, ?_⟩ <;> rw [Nat.zero_add]
    · exact hc _ _ f1
    · exact hc _ _ f2
    · exact hc _ _ f3
    · exact hc _ _ f4
theorem oneS (l : List Si) : ∀ u ∈ flatS l, u.oneCell' = true := by
  intro u hu
  unfold flatS at hu
  obtain ⟨c, hc, hs⟩ := List.mem_flatten.1 hu
  obtain ⟨s, -, rfl⟩ := List.mem_map.1 hc
  simp [Si.cells] at hs
  rcases hs with rfl | rfl | rfl | rfl <;> rfl
theorem addr_add (g o i : Nat) : (⟨g, o, none⟩ : Addr).add i = ⟨g, o + i, none⟩ := by unfold Addr.add; split <;> simp_all
/-- Sites that came in lie cell by cell. -/
theorem sites_lie {w : World} {g off : Nat} {ss : List Si} (h : SitesAt w 0 (some ⟨g, off, none⟩) ss) : ∀ (i : Nat) (u : Value), (flatS ss)[i]? = some u → w.cell? ((⟨g, off, none⟩ : Addr).add i) = some u := by
  intro i u hu
  have hlt : i < (flatS ss).length := (List.getElem?_eq_some_iff.1 hu).1
  rw [flatS_len] at hlt
  obtain ⟨b, o, e, -, c0, c1, c2, c3⟩ := h (i / 4) (by omega)
  cases e
  obtain ⟨f0, f1, f2, f3⟩ := flatS_at ss (i / 4) (by omega)
  rw [addr_add]
  have hm : i = i / 4 * 4 + i % 4 := by omega
  rcases (show i % 4 = 0 ∨ i % 4 = 1 ∨ i % 4 = 2 ∨ i % 4 = 3 by omega) with e | e | e | e
  · rw [e, Nat.add_zero] at hm
    rw [hm] at hu ⊢
    rw [f0] at hu; rw [← hu]; exact c0
  · rw [e] at hm
    rw [hm] at hu ⊢
    rw [f1] at hu; rw [← hu]; exact c1
  · rw [e] at hm
    rw [hm] at hu ⊢
    rw [f2] at hu; rw [← hu]; exact c2
  · rw [e] at hm
    rw [hm] at hu ⊢
    rw [f3] at hu; rw [← hu]; exact c3
/-- An append whose run is known. -/
theorem wpList_run {ops : Array Oper} {rest : List Oper} {o : Oper} {a : Act} {Q : Exit → Act → World → Prop} {w : World} {t ty : TypeId} {v1 v2 v' : Value} {w' : World}
    (hr : (Builtin.append_ #[t, t] ty #[v1, v2]).run Tryz.prog w = .ok v' w') (hgd : o.guard = none) (s x : Operand)
    (ho : o.op = .call { callee := .builtin .append, args := #[s, x], argTypes := #[t, t] }) (hs : a.eval s = v1) (hx : a.eval x = v2) (hty : o.type = ty)
    (h : wpList Tryz.prog ops Q rest (a.put o.dst v') w') : wpList Tryz.prog ops Q (o :: rest) a w :=
  wpList_plain hgd fun _ hK => by
    unfold Oper.wp execOp
    simp only [ho, hty, resolve, invoke, builtin, Sem.run_bind, Sem.run_pure, Result.andThen_ok, List.map_toArray, List.map_cons, List.map_nil, hs, hx, hr]
    exact hK _ _ h
theorem app_noneS (W : World) (a p : Option Addr) (n cap c : Nat) (h : n ≤ cap) (ty : TypeId) : (Builtin.append_ #[36, 36] ty #[.slice a n cap, .slice p 0 c]).run Tryz.prog W = .ok (.slice a n cap) W := by
  obtain ⟨i0, hi, hz0, hz1, hz2⟩ := info_parts infoSi
  cases a <;> cases p <;> simp [Builtin.append_, run_underlying Tryz.underlying36, sizeOf, typeInfo, hi, Builtin.lenOf, Builtin.firstCells, loadCells, loadCellsFrom, storeCells, h]
/-- Sites appended to a new row. -/
theorem run_appS (w : World) (base : Nat) (hbase : base ≤ w.heap.size) (p : Option Addr) (c : Nat) (news : List Si) (hl : news.length ≤ 1000) (hS : SitesAt w 0 p news) :
    ∃ g cap w', (Builtin.append_ #[36, 36] 36 #[.slice (some ⟨w.heap.size, 0, none⟩) 0 0, .slice p news.length c]).run Tryz.prog (w.alloc (.cells #[] 68)) = .ok (.slice (some ⟨g, 0, none⟩) news.length cap) w' ∧
      w'.ownsRow base 68 4 (.slice (some ⟨g, 0, none⟩) news.length cap) news.length (flatS news) ∧ Below base w w' := by
  obtain ⟨i0, hi, hz0, hz1, hz2⟩ := info_parts infoSi
  have hown : (w.alloc (.cells #[] 68)).ownsRow base 68 4 (.slice (some ⟨w.heap.size, 0, none⟩) 0 0) 0 (flatS []) := by
    have := World.ownsRow_made (base := base) (e := 68) (size := 4) w #[] 0 hbase (by unfold maxLen; omega) rfl
    rw [show flatS [] = [] from rfl]
    simpa using this
  have hb0 : Below base w (w.alloc (.cells #[] 68)) := (Below.refl _ _).alloc hbase _
  by_cases hm : 0 < news.length
  · obtain ⟨b, off, rfl, -⟩ := hS 0 hm
    obtain ⟨g, cap, w', hr, h2, h3, -, -⟩ := run_append_lies (P := Tryz.prog) (w.alloc (.cells #[] 68)) 36 36 base 68 i0 (.agg #[.int .i64 0, .int .i64 0, .int .i64 0, .int .i64 0]) 4 32 Tryz.underlying36 hi hz0 hz1 hz2 rfl (by decide) _ 0 _ hown ⟨b, off, none⟩ news.length c (flatS news) (by rw [flatS_len]) (sites_lie (hS.mono ((Below.refl _ _).alloc (Nat.le_refl _) _))) (oneS _) hm (by unfold maxLen; omega) (by omega) (Nat.le_trans hbase (by simp)) _ rfl
    rw [Nat.zero_add] at hr h2
    exact ⟨g, cap, w', hr, h2, hb0.trans ((Keeps.grown (ts := [68]) hown h3 (by simp)).toBelow (Nat.le_trans hbase (by simp)))⟩
  · obtain rfl : news = [] := List.eq_nil_of_length_eq_zero (by omega)
    refine ⟨w.heap.size, 0, w.alloc (.cells #[] 68), ?_, hown, hb0⟩
    exact app_noneS _ _ p 0 0 c (Nat.le_refl _) _

/-- What is returned for two profiles: a row of the call's own. -/
def MergePost (ts : List ByteArray) (fs : List Fn) (p q : List Si) (w : World) : Ending → World → Prop := fun e w' => ∃ v R, e = .returned v ∧ MergeA ts fs p q R ∧ w'.ownsRow w.heap.size 68 4 v R.length (flatS R) ∧ Below w.heap.size w w'
def LayPost (fs : List Fn) (x : Si) (R : List Si) (w : World) : Ending → World → Prop := fun e w' => ∃ v, e = .returned v ∧ w'.ownsRow (w.heap.size + 2) 68 4 v (layR (opD fs x.f x.pc) x false R).length (flatS (layR (opD fs x.f x.pc) x false R)) ∧ Below w.heap.size w w'
theorem sLay_site (a1 a2 : Option Addr) (nt c1 c2 : Nat) (fs : List Fn) (pa : Option Addr) (R : List Si) (cap : Nat) (x : Si) (w : World) (hx : SiteP fs x) (hfn : FnsAt w 0 a2 fs) (hn : R.length ≤ 1000) (hseen : ∀ x ∈ R, 1 ≤ x.seen ∧ x.seen ≤ 3) (hm : SitesAt w 0 pa R) :
    Calls Tryz.prog 51 #[.agg #[.slice a1 nt c1, .slice a2 fs.length c2], .slice pa R.length cap, .agg #[.int .i64 x.f, .int .i64 x.pc, .int .i64 x.seen, .int .i64 x.target]] w (LayPost fs x R w) := by
  have hsn := site_seen hx
  obtain ⟨h0, h1, hf, hp, -⟩ := hx
  obtain ⟨xf, xp, xs, xt⟩ := x
  obtain ⟨sf, rfl⟩ : ∃ sf : Nat, xf = sf := ⟨xf.toNat, by simp at h0; omega⟩
  obtain ⟨sp, rfl⟩ : ∃ sp : Nat, xp = sp := ⟨xp.toNat, by simp at h1; omega⟩
  simp only [Int.toNat_natCast] at hf hp
  have e : opD fs (sf : Int) (sp : Int) = fs[sf].code[sp].1 := by unfold opD; rw [insD_hit hf hp]; rfl
  unfold LayPost
  rw [e]
  exact sLay_any a1 a2 nt c1 c2 fs pa R cap sf sp xs xt w hf hp hfn hn hseen hsn hm

set_option maxRecDepth 100000 in
set_option maxHeartbeats 8000000 in
theorem sMerge_any (a1 a2 pa qa : Option Addr) (c1 c2 pc qc : Nat) (ts : List ByteArray) (fs : List Fn) (p q : List Si) (w : World) (hs : Small ts fs) (hpn : p.length ≤ 1048576) (hqn : q.length ≤ 1048576) (hm : StrsAt w 0 a1 ts) (hm2 : FnsAt w 0 a2 fs) (hp : SitesAt w 0 pa p) (hq : SitesAt w 0 qa q) :
    Calls Tryz.prog 20 #[.agg #[.slice a1 ts.length c1, .slice a2 fs.length c2], .slice pa p.length pc, .slice qa q.length qc] w (MergePost ts fs p q w) := by
  obtain ⟨w0, hw0⟩ : ∃ w0, w0 = w.alloc (.cells #[.slice a1 ts.length c1, .slice a2 fs.length c2] 40) := ⟨_, rfl⟩
  have hb0 : Below w.heap.size w w0 := by rw [hw0]; exact (Below.refl _ _).alloc (Nat.le_refl _) _
  have hM0 : w0.heap[w.heap.size]? = some (.cells #[.slice a1 ts.length c1, .slice a2 fs.length c2] 40 (0, 0)) := by rw [hw0]; exact block_new _ _ _
  have HPO : Hid (∀ w', Below w.heap.size w w' → Calls Tryz.prog 27 #[.agg #[.slice a1 ts.length c1, .slice a2 fs.length c2], .slice pa p.length pc] w' fun e w'' => e = .returned (.bool (pB (Good ts fs ∧ ProfP fs p))) ∧ Below w'.heap.size w' w'') := fun w' h => sProfileOk_any a1 a2 c1 c2 ts fs pa pc p w' hs hpn (hm.mono h) (hm2.mono h) (hp.mono h)
  have HQO : Hid (∀ w', Below w.heap.size w w' → Calls Tryz.prog 27 #[.agg #[.slice a1 ts.length c1, .slice a2 fs.length c2], .slice qa q.length qc] w' fun e w'' => e = .returned (.bool (pB (Good ts fs ∧ ProfP fs q))) ∧ Below w'.heap.size w' w'') := fun w' h => sProfileOk_any a1 a2 c1 c2 ts fs qa qc q w' hs hqn (hm.mono h) (hm2.mono h) (hq.mono h)
  have HL : Hid (∀ (ra : Option Addr) (R : List Si) (cap : Nat) (x : Si) (w' : World), SiteP fs x → Below w.heap.size w w' → R.length ≤ 1000 → (∀ x ∈ R, 1 ≤ x.seen ∧ x.seen ≤ 3) → SitesAt w' 0 ra R → Calls Tryz.prog 51 #[.agg #[.slice a1 ts.length c1, .slice a2 fs.length c2], .slice ra R.length cap, .agg #[.int .i64 x.f, .int .i64 x.pc, .int .i64 x.seen, .int .i64 x.target]] w' (LayPost fs x R w')) := fun ra R cap x w' hx hb hn hse hS => sLay_site a1 a2 ts.length c1 c2 fs ra R cap x w' hx (hm2.mono hb) hn hse hS
  have HP0 : Hid (SitesAt w 0 pa p) := hp
  have HQ0 : Hid (SitesAt w 0 qa q) := hq
  have m0 := block_cell hM0
  clear hm hm2 hp hq
  go_enter Tryz.func20, Tryz.ntmps20
  go_wp2_with fail
  rw [← hw0]
  clear hw0 m0
  refine (HPO.out _ hb0).mono ?_
  rintro e w1 ⟨rfl, hb1⟩
  have hB1 := hb0.trans (hb1.mono hb0.size)
  have hM1 := block_kept hM0 hb1
  have m1 := block_cell hM1
  clear hb1 hM0 hb0 HPO
  by_cases hP : Good ts fs ∧ ProfP fs p
  case neg =>
    rw [pB_no hP]
    have HN := hidz hP
    clear hP
    have hE : (w1.alloc (.cells #[] 68)).ownsRow w.heap.size 68 4 (.slice (some ⟨w1.heap.size, 0, none⟩) 0 0) 0 (flatS []) := by
      have := World.ownsRow_made (base := w.heap.size) (e := 68) (size := 4) w1 #[] 0 hB1.size (by unfold maxLen; omega) rfl
      simpa [flatS] using this
    have HE := hidz hE
    have HB := hidz (hB1.alloc hB1.size (.cells #[] 68))
    clear hE hB1
    go_wp2
    go_ret
    unfold MergePost
    exact ⟨_, [], rfl, .inr ⟨fun h => HN.out h.1, rfl⟩, HE.out, HB.out⟩
  rw [pB_yes hP]
  go_wp2_with fail
  clear m1
  refine (HQO.out _ hB1).mono ?_
  rintro e w2 ⟨rfl, hb2⟩
  have hB2 := hB1.trans (hb2.mono hB1.size)
  have hM2 := block_kept hM1 hb2
  clear hb2 hM1 hB1 HQO
  by_cases hQ : Good ts fs ∧ ProfP fs q
  case neg =>
    rw [pB_no hQ]
    have HN := hidz hQ
    have HG := hidz hP
    clear hQ hP
    have hE : (w2.alloc (.cells #[] 68)).ownsRow w.heap.size 68 4 (.slice (some ⟨w2.heap.size, 0, none⟩) 0 0) 0 (flatS []) := by
      have := World.ownsRow_made (base := w.heap.size) (e := 68) (size := 4) w2 #[] 0 hB2.size (by unfold maxLen; omega) rfl
      simpa [flatS] using this
    have HE := hidz hE
    have HB := hidz (hB2.alloc hB2.size (.cells #[] 68))
    clear hE hB2
    go_wp2
    go_ret
    unfold MergePost
    exact ⟨_, [], rfl, .inr ⟨fun h => HN.out ⟨HG.out.1, h.2.1⟩, rfl⟩, HE.out, HB.out⟩
  rw [pB_yes hQ]
  have hp150 := hP.2.1
  have hq150 := hQ.2.1
  have HPP := hidz hP
  have HQQ := hidz hQ
  have HLEN := hidz (mgT_len fs p q)
  have HSEEN := hidz (mgT_seen hP.2 hQ.2)
  clear hP hQ hpn hqn
  obtain ⟨g3, cap3, w3, hr3, hown3, hb3⟩ := run_appS w2 w2.heap.size (Nat.le_refl _) pa pc p (by omega) (HP0.out.mono hB2)
  have hM3 := block_kept hM2 hb3
  have hB3 := hB2.trans (hb3.mono hB2.size)
  have hO3 := own_lowz hown3 hB2.size
  clear hM2 hown3 hb3
  go_upto_region 4 with (at_builtin; refine wpList_run hr3 rfl _ _ rfl rfl rfl rfl ?_)
  clear hr3 hB2
  have HO3 := hidz hO3
  have HM3 := hidz hM3
  have HB3 := hidz hB3
  clear hO3 hM3 hB3
  go_wp2
  go_loopw [7, 8] (fun v i wr => ∃ (k : Nat) (ra : Option Addr) (rc : Nat), k ≤ q.length ∧ i = .int .i64 k ∧ v = .slice ra (mgT fs p q k).length rc ∧ Hid (wr.ownsRow w.heap.size 68 4 (.slice ra (mgT fs p q k).length rc) (mgT fs p q k).length (flatS (mgT fs p q k))) ∧ Hid (wr.heap[w.heap.size]? = some (.cells #[.slice a1 ts.length c1, .slice a2 fs.length c2] 40 (0, 0))) ∧ Hid (Below w.heap.size w wr)) (fun _ i _ => q.length - (intOf i).toNat)
  case atStart => exact ⟨0, _, _, by omega, rfl, rfl, HO3, HM3, HB3⟩
  case round =>
    obtain ⟨k, ra, rc, hk, rfl, rfl, HO, HM, HB⟩ := hrel
    clear HO3 HM3 HB3
    by_cases hlt : k < q.length
    · obtain ⟨b, off, hqa, -, g0, g1, g2, g3⟩ := HQ0.out k hlt
      subst hqa
      have zk : (k : Int) < (q.length : Int) := by omega
      have HSX : Hid (SiteP fs q[k]) := prof_site HQQ.out.2 (List.getElem_mem hlt)
      have HSU := hidz (mgT_succ fs p q k hlt)
      have hRl := HLEN.out k (by omega)
      have HRS := hidz (HSEEN.out k (by omega))
      generalize q[k] = x at g0 g1 g2 g3 HSX HSU
      obtain ⟨R, hR⟩ : ∃ R, R = mgT fs p q k := ⟨_, rfl⟩
      rw [← hR] at HO HSU hRl HRS ⊢
      clear hR
      have HX : Hid (∀ w', Below wr.heap.size wr w' → w'.cell? ⟨w.heap.size, 0, none⟩ = some (.slice a1 ts.length c1) ∧ w'.cell? ⟨w.heap.size, 1, none⟩ = some (.slice a2 fs.length c2) ∧ w'.cell? ⟨b, off + k * 4, none⟩ = some (.int .i64 x.f) ∧ w'.cell? ⟨b, off + k * 4 + 1, none⟩ = some (.int .i64 x.pc) ∧ w'.cell? ⟨b, off + k * 4 + 2, none⟩ = some (.int .i64 x.seen) ∧ w'.cell? ⟨b, off + k * 4 + 3, none⟩ = some (.int .i64 x.target)) := by
        intro w' hb
        have hw := HB.out.trans (hb.mono HB.out.size)
        have hm := block_kept HM.out hb
        exact ⟨by rw [block_cell hm]; rfl, by rw [block_cell hm]; rfl, cell_later hw g0, cell_later hw g1, cell_later hw g2, cell_later hw g3⟩
      have HLX : Hid (∀ w', Below wr.heap.size wr w' → Calls Tryz.prog 51 #[.agg #[.slice a1 ts.length c1, .slice a2 fs.length c2], .slice ra R.length rc, .agg #[.int .i64 x.f, .int .i64 x.pc, .int .i64 x.seen, .int .i64 x.target]] w' (LayPost fs x R w')) := fun w' hb => HL.out ra R rc x w' HSX.out (HB.out.trans (hb.mono HB.out.size)) (by omega) HRS.out ((own_sitesz (own_below HO.out hb) rfl).low (Nat.zero_le _))
      clear g0 g1 g2 g3
      go_upto_region 7 with fail
      have hh : (fun w' : World => w'.cell? ⟨w.heap.size, 0, none⟩ = some (.slice a1 ts.length c1) ∧ w'.cell? ⟨w.heap.size, 1, none⟩ = some (.slice a2 fs.length c2) ∧ w'.cell? ⟨b, off + k * 4, none⟩ = some (.int .i64 x.f) ∧ w'.cell? ⟨b, off + k * 4 + 1, none⟩ = some (.int .i64 x.pc) ∧ w'.cell? ⟨b, off + k * 4 + 2, none⟩ = some (.int .i64 x.seen) ∧ w'.cell? ⟨b, off + k * 4 + 3, none⟩ = some (.int .i64 x.target)) _ := HX.out _ (Below.refl _ _).drew
      refine h_begin (fun w' : World => w'.cell? ⟨w.heap.size, 0, none⟩ = some (.slice a1 ts.length c1) ∧ w'.cell? ⟨w.heap.size, 1, none⟩ = some (.slice a2 fs.length c2) ∧ w'.cell? ⟨b, off + k * 4, none⟩ = some (.int .i64 x.f) ∧ w'.cell? ⟨b, off + k * 4 + 1, none⟩ = some (.int .i64 x.pc) ∧ w'.cell? ⟨b, off + k * 4 + 2, none⟩ = some (.int .i64 x.seen) ∧ w'.cell? ⟨b, off + k * 4 + 3, none⟩ = some (.int .i64 x.target)) (by kernel_rfl) ?_
      refine h_take (i := 0) (oi := _) (v := ?_) rfl (by kernel_rfl) (by kernel_rfl) (by kernel_rfl) (fun _ _ _ h => h) (by kernel_rfl) ?_ hh ?_
      rotate_left
      · intro w' hSw
        obtain ⟨j0, j1, j2, j3, j4, j5⟩ := hSw
        go_simp
        try with_reducible rfl
      simp only [Act.put, List.setIfInBounds_toArray]
      refine h_take (i := 1) (oi := _) (v := ?_) rfl (by kernel_rfl) (by kernel_rfl) (by kernel_rfl) (fun _ _ _ h => h) (by kernel_rfl) ?_ hh ?_
      rotate_left
      · intro w' hSw
        obtain ⟨j0, j1, j2, j3, j4, j5⟩ := hSw
        go_simp
        try with_reducible rfl
      simp only [Act.put]
      refine h_take (i := 2) (oi := _) (v := ?_) rfl (by kernel_rfl) (by kernel_rfl) (by kernel_rfl) (fun _ _ _ h => h) (by kernel_rfl) ?_ hh ?_
      rotate_left
      · intro w' hSw
        obtain ⟨j0, j1, j2, j3, j4, j5⟩ := hSw
        go_simp
        try with_reducible rfl
      simp only [Act.put]
      refine h_take (i := 3) (oi := _) (v := ?_) rfl (by kernel_rfl) (by kernel_rfl) (by kernel_rfl) (fun _ _ _ h => h) (by kernel_rfl) ?_ hh ?_
      rotate_left
      · intro w' hSw
        obtain ⟨j0, j1, j2, j3, j4, j5⟩ := hSw
        go_simp
        try with_reducible rfl
      simp only [Act.put]
      refine h_take (i := 4) (oi := _) (v := ?_) rfl (by kernel_rfl) (by kernel_rfl) (by kernel_rfl) (fun _ _ _ h => h) (by kernel_rfl) ?_ hh ?_
      rotate_left
      · intro w' hSw
        obtain ⟨j0, j1, j2, j3, j4, j5⟩ := hSw
        go_simp
        try with_reducible rfl
      simp only [Act.put]
      refine h_take (i := 5) (oi := _) (v := ?_) rfl (by kernel_rfl) (by kernel_rfl) (by kernel_rfl) (fun _ _ _ h => h) (by kernel_rfl) ?_ hh ?_
      rotate_left
      · intro w' hSw
        obtain ⟨j0, j1, j2, j3, j4, j5⟩ := hSw
        go_simp
        try with_reducible rfl
      simp only [Act.put]
      refine h_one (i := 6) (o := _) (by kernel_rfl) rfl (fun K hK => ?_)
      go_simp
      go_at_call 51
      refine (HLX.out _ (Below.refl _ _).drew).mono ?_
      rintro e wB hpo
      obtain ⟨v, rfl, hoB, hbB⟩ := hpo
      have hqB : Below wr.heap.size wr wB := (Below.refl _ _).drew.trans hbB
      have hBB := HB.out.trans (hqB.mono HB.out.size)
      have hmB := block_kept HM.out hqB
      have hoB2 := own_lowz hoB (show w.heap.size ≤ wr.heap.size + 2 by have := HB.out.size; omega)
      obtain ⟨ra2, rc2, rfl⟩ := own_formz hoB2
      clear hoB hbB HLX
      have hh : (fun w' : World => w'.cell? ⟨w.heap.size, 0, none⟩ = some (.slice a1 ts.length c1) ∧ w'.cell? ⟨w.heap.size, 1, none⟩ = some (.slice a2 fs.length c2) ∧ w'.cell? ⟨b, off + k * 4, none⟩ = some (.int .i64 x.f) ∧ w'.cell? ⟨b, off + k * 4 + 1, none⟩ = some (.int .i64 x.pc) ∧ w'.cell? ⟨b, off + k * 4 + 2, none⟩ = some (.int .i64 x.seen) ∧ w'.cell? ⟨b, off + k * 4 + 3, none⟩ = some (.int .i64 x.target)) _ := HX.out wB hqB
      refine hK.out _ _ hh ?_
      clear hK K
      try simp only [Act.put]
      refine h_take (i := 7) (oi := _) (v := ?_) rfl (by kernel_rfl) (by kernel_rfl) (by kernel_rfl) (fun _ _ _ h => h) (by kernel_rfl) ?_ hh ?_
      rotate_left
      · intro w' hSw
        obtain ⟨j0, j1, j2, j3, j4, j5⟩ := hSw
        go_simp
        try with_reducible rfl
      simp only [Act.put]
      refine wpAnyH_done (by kernel_rfl) ?_ _
      go_simp
      go_wp2
      go_roundw
      case rel =>
        refine ⟨k + 1, ra2, rc2, by omega, by go_num, ?_, ?_, hidz hmB, hidz hBB⟩
        · rw [HSU.out]
        · rw [HSU.out]; exact hidz hoB2
      case measure => simp [intOf]; omega
    · obtain rfl : k = q.length := by omega
      have z2 : ¬ (q.length : Int) < (q.length : Int) := by omega
      have hE : mgT fs p q q.length = mergeS (opD fs) p q := by unfold mgT; rw [List.take_length]
      rw [hE] at HO ⊢
      clear hE
      obtain ⟨R, hR⟩ : ∃ R, R = mergeS (opD fs) p q := ⟨_, rfl⟩
      rw [← hR] at HO ⊢
      have HR := hidz hR
      clear hR
      by_cases h150 : R.length ≤ 150
      · have z3 : ¬ ((150 : Int) < (R.length : Int)) := by omega
        have H150 := hidz h150
        clear h150
        go_wp2
        go_ret
        unfold MergePost
        exact ⟨_, R, rfl, .inl ⟨HPP.out, HQQ.out.2, by rw [← HR.out]; exact H150.out, HR.out⟩, HO.out, HB.out⟩
      · have z3 : (150 : Int) < (R.length : Int) := by omega
        have H150 := hidz h150
        clear h150
        have hE : (wr.alloc (.cells #[] 68)).ownsRow w.heap.size 68 4 (.slice (some ⟨wr.heap.size, 0, none⟩) 0 0) 0 (flatS []) := by
          have := World.ownsRow_made (base := w.heap.size) (e := 68) (size := 4) wr #[] 0 HB.out.size (by unfold maxLen; omega) rfl
          simpa [flatS] using this
        have HE := hidz hE
        have HB5 := hidz (HB.out.alloc HB.out.size (.cells #[] 68))
        clear hE
        go_wp2
        go_ret
        unfold MergePost
        exact ⟨_, [], rfl, .inr ⟨fun h => by rw [← HR.out] at h; exact H150.out h.2.2, rfl⟩, HE.out, HB5.out⟩
end Go.Proofs.YtmmcockkbhnopaaGreat

namespace Go.Proofs.YtmmcockkbhnopaaGreat
open Go.RowKit

/-- A watcher: its place, its block, its kind, what it counted. -/
structure Wt where
  f : Int
  p : Int
  g : Nat
  c : Bool
  x : Int
  o : Int
  t : Int

def cntX (sn x : Int) : Int := if sn = 2 then x else x + 1
def cntO (sn o : Int) : Int := if sn = 1 then o else o + 1
/-- What a watcher tells. -/
def told (W : Wt) : Int × Int := if W.c = true then (if W.o = 0 then (1, W.t) else (2, 0)) else (if W.o = 0 then (1, 0) else if W.x = 0 then (2, 0) else (3, 0))
/-- The target of a watcher that a site joins. -/
def tgtJ (W : Wt) (s : Si) : Int := if W.x = 0 ∧ W.o = 0 then s.target else W.t
def seenJ (W : Wt) (s : Si) : Int := if s.target = tgtJ W s then s.seen else 2
def joinW (W : Wt) (s : Si) : Wt := if W.c = true then { W with x := cntX (seenJ W s) W.x, o := cntO (seenJ W s) W.o, t := tgtJ W s } else { W with x := cntX s.seen W.x, o := cntO s.seen W.o }
def OkW (n : Nat) (W : Wt) : Prop := 0 ≤ W.x ∧ W.x ≤ n ∧ 0 ≤ W.o ∧ W.o ≤ n
def OkS (c : Bool) (s : Si) : Prop := (c = true → s.seen = 1 ∨ (s.seen = 2 ∧ s.target = 0)) ∧ (c = false → (1 ≤ s.seen ∧ s.seen ≤ 3) ∧ s.target = 0)
theorem join_keep (W : Wt) (s : Si) : (joinW W s).f = W.f ∧ (joinW W s).p = W.p ∧ (joinW W s).g = W.g ∧ (joinW W s).c = W.c := by
  unfold joinW
  split <;> exact ⟨rfl, rfl, rfl, rfl⟩
theorem join_ok {n : Nat} {W : Wt} {s : Si} (h : OkW n W) (hs : OkS W.c s) : OkW (n + 1) (joinW W s) ∧ 1 ≤ (joinW W s).x + (joinW W s).o := by
  obtain ⟨h1, h2, h3, h4⟩ := h
  unfold joinW OkW
  cases hc : W.c
  · simp only [Bool.false_eq_true, if_false]
    have := (hs.2 hc).1
    unfold cntX cntO
    constructor
    · refine ⟨?_, ?_, ?_, ?_⟩ <;> split <;> omega
    · split <;> split <;> omega
  · simp only [if_true]
    have := hs.1 hc
    unfold cntX cntO
    have hq : seenJ W s = 1 ∨ seenJ W s = 2 := by
      unfold seenJ
      split
      · rcases this with h | h
        · exact .inl h
        · exact .inr h.1
      · exact .inr rfl
    constructor
    · refine ⟨?_, ?_, ?_, ?_⟩ <;> split <;> omega
    · rcases hq with h | h <;> rw [h] <;> simp <;> omega
theorem first_told {op : Int} {W : Wt} {s : Si} (hx : W.x = 0) (ho : W.o = 0) (hs : OkS W.c s) : told (joinW W s) = joinC op none s := by
  unfold joinC joinW told
  cases hc : W.c
  · obtain ⟨h1, h2⟩ := hs.2 hc
    rcases (show s.seen = 1 ∨ s.seen = 2 ∨ s.seen = 3 by omega) with h | h | h <;> simp [h, h2, cntX, cntO, hx, ho]
  · rcases hs.1 hc with h | ⟨h, h2⟩
    · simp [tgtJ, seenJ, hx, ho, h, cntX, cntO]
    · simp [tgtJ, seenJ, hx, ho, h, h2, cntX, cntO]
theorem join_told {n : Nat} {op : Int} {W : Wt} {s : Si} (h : OkW n W) (h1 : 1 ≤ W.x + W.o) (hs : OkS W.c s) (hop : W.c = decide (op = 23)) : told (joinW W s) = joinC op (some (told W)) s := by
  obtain ⟨k1, k2, k3, k4⟩ := h
  cases hc : W.c
  · have hne : ¬ op = 23 := by rw [hc] at hop; simpa using hop.symm
    obtain ⟨g1, g2⟩ := hs.2 hc
    have e : joinC op (some (told W)) s = (seenOr (told W).1 s.seen, (told W).2) := by
      unfold joinC bothS
      simp only [if_pos hne]
    rw [e]
    have hj : joinW W s = { W with x := cntX s.seen W.x, o := cntO s.seen W.o } := by unfold joinW; rw [hc]; rfl
    rw [hj]
    unfold told
    simp only [hc, Bool.false_eq_true, if_false]
    unfold cntX cntO seenOr
    rcases (show s.seen = 1 ∨ s.seen = 2 ∨ s.seen = 3 by omega) with h | h | h <;> rw [h] <;> by_cases ho : W.o = 0 <;> by_cases hx : W.x = 0 <;>
      first
        | (exfalso; omega)
        | (have p1 : ¬ W.o + 1 = 0 := by omega
           have p2 : ¬ W.x + 1 = 0 := by omega
           simp [ho, hx, p1, p2])
  · have he : op = 23 := by rw [hc] at hop; simpa using hop.symm
    have hj : joinW W s = { W with x := cntX (seenJ W s) W.x, o := cntO (seenJ W s) W.o, t := W.t } := by
      unfold joinW
      rw [if_pos hc]
      have : tgtJ W s = W.t := by unfold tgtJ; rw [if_neg (by omega)]
      rw [this]
    have ht : tgtJ W s = W.t := by unfold tgtJ; rw [if_neg (by omega)]
    rw [hj]
    unfold joinC bothS told
    simp only [hc, if_true, he, not_true_eq_false, if_false]
    unfold seenJ cntO
    rw [ht]
    rcases hs.1 hc with h | ⟨h, h2⟩
    · by_cases ho : W.o = 0
      · by_cases hst : s.target = W.t
        · simp [ho, hst, h]
        · have hts : ¬ W.t = s.target := fun q => hst q.symm
          simp [ho, hst, hts, h]
      · have p1 : ¬ W.o + 1 = 0 := by omega
        by_cases hst : s.target = W.t <;> simp [ho, hst, h, p1]
    · by_cases ho : W.o = 0
      · by_cases hst : s.target = W.t <;> simp [ho, hst, h, h2]
      · have p1 : ¬ W.o + 1 = 0 := by omega
        by_cases hst : s.target = W.t <;> simp [ho, hst, h, p1]

/-- The table that watchers are. -/
def tabW (ws : List Wt) : Ct := fun f p => (ws.find? (fun W => decide (W.f = f ∧ W.p = p))).map told
/-- A watcher that a site joins, among others. -/
def joinAt (ws : List Wt) (s : Si) : List Wt := ws.map fun W => if W.f = s.f ∧ W.p = s.pc then joinW W s else W
/-- Places are all different. -/
def Places (ws : List Wt) : Prop := ws.Pairwise fun V W => ¬ (V.f = W.f ∧ V.p = W.p)
def Kinds (op : Int → Int → Int) (ws : List Wt) : Prop := ∀ W ∈ ws, W.c = decide (op W.f W.p = 23)
def Used (n : Nat) (ws : List Wt) : Prop := ∀ W ∈ ws, OkW n W ∧ 1 ≤ W.x + W.o
theorem find_map (ws : List Wt) (s : Si) (f p : Int) : (joinAt ws s).find? (fun W => decide (W.f = f ∧ W.p = p)) = (ws.find? (fun W => decide (W.f = f ∧ W.p = p))).map (fun W => if W.f = s.f ∧ W.p = s.pc then joinW W s else W) := by
  unfold joinAt
  induction ws with
  | nil => rfl
  | cons V l ih =>
    have hk : ((if V.f = s.f ∧ V.p = s.pc then joinW V s else V).f = f ∧ (if V.f = s.f ∧ V.p = s.pc then joinW V s else V).p = p) ↔ (V.f = f ∧ V.p = p) := by
      have := join_keep V s
      split
      · rw [this.1, this.2.1]
      · exact Iff.rfl
    rw [List.map_cons]
    by_cases h : V.f = f ∧ V.p = p
    · rw [List.find?_cons_of_pos (by simpa using hk.2 h), List.find?_cons_of_pos (by simpa using h)]
      rfl
    · rw [List.find?_cons_of_neg (by simpa using fun a b => h (hk.1 ⟨a, b⟩)), List.find?_cons_of_neg (by simpa using h)]
      exact ih
/-- Two tables that tell the same. -/
theorem tab_join {n : Nat} {op : Int → Int → Int} {ws : List Wt} {s : Si} (hu : Used n ws) (hk : Kinds op ws) (hs : OkS (decide (op s.f s.pc = 23)) s) (hin : ∃ W ∈ ws, W.f = s.f ∧ W.p = s.pc) : tabW (joinAt ws s) = updC op (tabW ws) s := by
  funext f p
  unfold tabW
  rw [find_map]
  by_cases he : f = s.f ∧ p = s.pc
  · obtain ⟨rfl, rfl⟩ := he
    rw [updC_at]
    cases hf : ws.find? (fun W => decide (W.f = s.f ∧ W.p = s.pc)) with
    | none =>
      obtain ⟨W, hW, h1⟩ := hin
      have := List.find?_eq_none.1 hf W hW
      simp [h1] at this
    | some W =>
      have h5 := List.find?_some hf
      simp only [decide_eq_true_eq] at h5
      have h6 := List.mem_of_find?_eq_some hf
      have hc : W.c = decide (op s.f s.pc = 23) := by rw [← h5.1, ← h5.2]; exact hk W h6
      simp only [Option.map_some, if_pos h5]
      rw [join_told (op := op s.f s.pc) (hu W h6).1 (hu W h6).2 (by rw [hc]; exact hs) hc]
  · rw [updC_off _ _ _ _ _ he]
    cases hf : ws.find? (fun W => decide (W.f = f ∧ W.p = p)) with
    | none => rfl
    | some W =>
      have h5 := List.find?_some hf
      simp only [decide_eq_true_eq] at h5
      simp only [Option.map_some]
      rw [if_neg (by rw [h5.1, h5.2]; exact he)]
theorem tab_new {op : Int → Int → Int} {ws : List Wt} {s : Si} {W : Wt} (hno : ∀ V ∈ ws, ¬ (V.f = s.f ∧ V.p = s.pc)) (h1 : W.f = s.f) (h2 : W.p = s.pc) (hx : W.x = 0) (ho : W.o = 0) (hs : OkS W.c s) : tabW (ws ++ [joinW W s]) = updC op (tabW ws) s := by
  have hkp := join_keep W s
  have hn : ws.find? (fun W => decide (W.f = s.f ∧ W.p = s.pc)) = none := List.find?_eq_none.2 (fun V hV => by simpa using fun a b => hno V hV ⟨a, b⟩)
  funext f p
  unfold tabW
  rw [List.find?_append]
  by_cases he : f = s.f ∧ p = s.pc
  · obtain ⟨rfl, rfl⟩ := he
    rw [updC_at, hn]
    simp only [Option.none_or]
    rw [List.find?_cons_of_pos (by simp [hkp, h1, h2])]
    simp only [Option.map_some, Option.map_none]
    rw [first_told (op := op s.f s.pc) hx ho hs]
  · rw [updC_off _ _ _ _ _ he, List.find?_cons_of_neg (by simpa [hkp, h1, h2] using fun a b => he ⟨a.symm, b.symm⟩)]
    simp
end Go.Proofs.YtmmcockkbhnopaaGreat
