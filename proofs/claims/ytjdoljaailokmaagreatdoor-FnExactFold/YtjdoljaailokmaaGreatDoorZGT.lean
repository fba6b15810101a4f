/-
  A region that draws its order, some of whose operations write what others of it read: what is read may be taken first where all that may write it waits for the reading. Behind each operation number j it is asked what R j says of the worlds ahead of it and behind it.
-/
import Derived.Test.YtjdoljaailokmaaGreatDoorZFQ15
import Derived.Deep.RegionHeld3
namespace Go.Proofs.YtjdoljaailokmaaGreatDoor
open Go.RowKit

section
variable {P : Program} {ops : Array Oper} {Q : Exit → Act → World → Prop} {md : Region.Mode} {S : World → Prop} {R : Nat → World → World → Prop}

/-- Whatever order is picked from here on; each operation keeps what R says of it. -/
def wpAnyT (P : Program) (md : Region.Mode) (ops : Array Oper) (Q : Exit → Act → World → Prop) (R : Nat → World → World → Prop) : Nat → Array Bool → Act → World → Prop
  | 0, listed, a, w => Region.ready md ops listed = [] ∧ Q .normal a w
  | n + 1, listed, a, w => (Region.ready md ops listed = [] → Q .normal a w) ∧
    ∀ i ∈ Region.ready md ops listed, wpOp P ops Q i (fun a' w' => R i w w' ∧ wpAnyT P md ops Q R n (listed.setIfInBounds i true) a' w') a w

theorem wpAny_of_T : ∀ (n : Nat) (listed : Array Bool) (a : Act) (w : World), wpAnyT P md ops Q R n listed a w → wpAny P md ops Q n listed a w
  | 0, _, _, _, h => h
  | n + 1, _, _, _, h => ⟨h.1, fun i hi => wpOp_mono (fun a' w' h' => wpAny_of_T n _ a' w' h'.2) (h.2 i hi)⟩

/-- Those of W have not come up, and each of them waits for number i or for one of W. -/
def awaits (md : Region.Mode) (ops : Array Oper) (listed : Array Bool) (W : List Nat) (i : Nat) : Bool :=
  W.all (fun c => (listed.getD c true == false) && (match ops[c]? with
    | some o => o.after.toList.any (fun e => Region.binds md e && (e.on == i || W.contains e.on))
    | none => false))

theorem not_listed {listed : Array Bool} {i : Nat} (h0 : listed.getD i true = false) (h : listed.getD i false = true) : False := by
  rcases Nat.lt_or_ge i listed.size with h' | h'
  · simp [h'] at h0 h; rw [h0] at h; cases h
  · simp [Array.getElem?_eq_none h'] at h

theorem not_ready {listed : Array Bool} {W : List Nat} {i j : Nat} (hi : i ∈ Region.ready md ops listed) (hj : j ∈ Region.ready md ops listed) (h : awaits md ops listed W i = true) : j ∉ W := by
  intro hW
  have hall := List.all_eq_true.1 h
  have hc := hall j hW
  obtain ⟨-, o, ho, hb⟩ := mem_ready.1 hj
  rw [Bool.and_eq_true, ho] at hc
  obtain ⟨e, he, h2⟩ := List.any_eq_true.1 hc.2
  rw [Bool.and_eq_true, Bool.or_eq_true, beq_iff_eq] at h2
  have h3 := hb e (by simpa using he) h2.1
  rcases h2.2 with h4 | h4
  · rw [h4] at h3
    exact not_listed (mem_ready.1 hi).1 h3
  · have h5 := hall e.on (by simpa using h4)
    rw [Bool.and_eq_true, beq_iff_eq] at h5
    exact not_listed h5.1 h3

theorem awaits_more {listed : Array Bool} {W : List Nat} {i j : Nat} (h : awaits md ops listed W i = true) (hj : j ∉ W) : awaits md ops (listed.setIfInBounds j true) W i = true := by
  refine List.all_eq_true.2 fun c hc => ?_
  have h1 := List.all_eq_true.1 h c hc
  rw [Bool.and_eq_true] at *
  exact ⟨by rw [getD_set_ne true (fun e => hj (by rw [e]; exact hc))]; exact h1.1, h1.2⟩

theorem not_after {listed : Array Bool} {i : Nat} {oj : Oper} (hi : i ∈ Region.ready md ops listed) (hall : ∀ e ∈ oj.after, Region.binds md e = true → listed.getD e.on false = true) : ∀ e ∈ oj.after, Region.binds md e = true → e.on ≠ i :=
  fun e he hb heq => not_listed (mem_ready.1 hi).1 (by have h1 := hall e he hb; rw [heq] at h1; exact h1)

/-- What yields its value in every world that meets S may be taken first, where whatever does not wait for it keeps S. -/
theorem wpAnyT_first {i : Nat} {oi : Oper} {v : Value} {W : List Nat} (hi : ops[i]? = some oi) (hsel : ∀ (j : Nat) (o : Oper) cs b, ops[j]? = some o → o.op ≠ .select cs b)
    (hQ : ∀ c a w, Q (.panic c) (a.put oi.dst v) w → Q (.panic c) a w) (hR : ∀ w, R i w w) (hW : ∀ j, j ∉ W → ∀ w w', S w → R j w w' → S w') (n : Nat) : ∀ (listed : Array Bool) (a : Act) (w : World), awaits md ops listed W i = true →
      (∀ j oj, ops[j]? = some oj → j ≠ i → listed.getD j true = false → (∀ e ∈ oj.after, Region.binds md e = true → e.on ≠ i) → oi.apart ops oj = true) →
      i ∈ Region.ready md ops listed → YieldsIf P ops S oi v a → S w →
      wpAnyT P md ops Q R n (listed.setIfInBounds i true) (a.put oi.dst v) w → wpAnyT P md ops Q R (n + 1) listed a w := by
  induction n with
  | zero =>
    intro listed a w _ _ hr hy hS H
    refine ⟨fun h => (by rw [h] at hr; cases hr), fun j hj => ?_⟩
    by_cases hji : j = i
    · subst hji; exact hy.wpOp hi hS ⟨hR w, H⟩
    · have h := ready_mono hj hji
      rw [H.1] at h
      cases h
  | succ n ih =>
    intro listed a w hT hfree hr hy hS H
    refine ⟨fun h => (by rw [h] at hr; cases hr), fun j hj => ?_⟩
    by_cases hji : j = i
    · subst hji; exact hy.wpOp hi hS ⟨hR w, H⟩
    obtain ⟨hjun, oj, hoj, hall⟩ := mem_ready.1 hj
    have hjW : j ∉ W := not_ready hr hj hT
    have h2 := wpOp_putIf hoj (hfree j oj hoj hji hjun (not_after hr hall)) (fun cs b => hsel i oi cs b hi) (fun cs b => hsel j oj cs b hoj) hQ hy (H.2 j (ready_mono hj hji))
    refine wpOp_mono (fun a' w' h3 => ⟨h3.2.1, ih (listed.setIfInBounds j true) a' w' (awaits_more hT hjW) (fun k ok hk hki hun hno => ?_) (ready_mono hr (Ne.symm hji)) h3.1 (hW j hjW w w' hS h3.2.1) ?_⟩) h2
    · refine hfree k ok hk hki ?_ hno
      by_cases hjk : j = k
      · subst hjk; exact hjun
      · rw [getD_set_ne true hjk] at hun; exact hun
    · rw [Array.setIfInBounds_comm _ _ hji]
      exact h3.2.2

theorem wpAnyT_take {i : Nat} (S : World → Prop) (W : List Nat) {oi : Oper} {v : Value} {n : Nat} {listed : Array Bool} {a : Act} {w : World} (hi : ops[i]? = some oi)
    (hs : Region.noSelect ops = true) (hf : Region.free md ops listed i = true) (hr : (Region.ready md ops listed).contains i = true) (hT : awaits md ops listed W i = true)
    (hQ : ∀ c a w, Q (.panic c) (a.put oi.dst v) w → Q (.panic c) a w) (hw : Region.wanted oi (yielded ops a.tmps) = true) (hR : ∀ w, R i w w) (hW : ∀ j, j ∉ W → ∀ w w', S w → R j w w' → S w')
    (hy : ∀ w, S w → (execOp a.eval oi).run P w = .ok (.value v) w) (hS : S w)
    (h : wpAnyT P md ops Q R n (listed.setIfInBounds i true) (a.put oi.dst v) w) : wpAnyT P md ops Q R (n + 1) listed a w :=
  wpAnyT_first hi (Region.noSelect_spec hs) hQ hR hW n listed a w hT (Region.free_spec hi hf) (by simpa using hr) (.inl ⟨hw, hy⟩) hS h

/-- One alone may come up. -/
theorem wpAnyT_one {i : Nat} {o : Oper} {n : Nat} {listed : Array Bool} {a : Act} {w : World} (hr : Region.ready md ops listed = [i]) (ho : ops[i]? = some o)
    (h : ∀ K' : Act → World → Prop, Shut (∀ a w', R i w w' → wpAnyT P md ops Q R n (listed.setIfInBounds i true) a w' → K' a w') → if Region.wanted o (yielded ops a.tmps) = true then Oper.wp P o a w K' Q else K' (a.put o.dst undef) w) :
    wpAnyT P md ops Q R (n + 1) listed a w := by
  refine ⟨fun h0 => (by rw [hr] at h0; cases h0), fun j hj => ?_⟩
  rw [hr] at hj
  obtain rfl := List.mem_singleton.1 hj
  exact wpOp_step ho (fun K' hK => h K' (fun a w hS hW => hK a w ⟨hS, hW⟩))

theorem wpAnyT_done {listed : Array Bool} {a : Act} {w : World} (hr : Region.ready md ops listed = []) (h : Q .normal a w) : ∀ n, wpAnyT P md ops Q R n listed a w
  | 0 => ⟨hr, h⟩
  | _ + 1 => ⟨fun _ => h, by rw [hr]; simp⟩

theorem wp_region_T {id : Nat} {a : Act} {w : World} (R : Nat → World → World → Prop) (hm : P.follows .mixedOrders = true) (h : wpAnyT P .any ops Q R ops.size (Array.replicate ops.size false) a w.drew) : (Code.region id ops true).wp P Q a w :=
  wp_region_any hm (wpAny_of_T _ _ _ _ h)

/-- A condition that all but the hard ones keep. -/
theorem keepS {S : World → Prop} {hard W : List Nat} (h : hard.all (fun c => W.contains c) = true) : ∀ j, j ∉ W → ∀ w w' : World, S w → (j ∈ hard ∨ (S w → S w')) → S w' := fun j hj _ _ hS hR => by
  rcases hR with q | q
  · exact absurd (by simpa using List.all_eq_true.1 h j q) hj
  · exact q hS

/-- All but the hard ones keep a condition. -/
abbrev RS (hard : List Nat) (S : World → Prop) : Nat → World → World → Prop := fun j wa wb => j ∈ hard ∨ (S wa → S wb)
theorem and4 {a b c d : Bool} (h : (a && b && c && d) = true) : a = true ∧ b = true ∧ c = true ∧ d = true := by cases a <;> cases b <;> cases c <;> cases d <;> simp_all
theorem tkP {hard : List Nat} {i : Nat} {oi : Oper} {v : Value} {n : Nat} {listed : Array Bool} {a : Act} {w : World} (hi : ops[i]? = some oi)
    (hc : (Region.noSelect ops && Region.free md ops listed i && (Region.ready md ops listed).contains i && Region.wanted oi (yielded ops a.tmps)) = true)
    (hQ : ∀ c a w, Q (.panic c) (a.put oi.dst v) w → Q (.panic c) a w) (hy : ∀ w, (execOp a.eval oi).run P w = .ok (.value v) w)
    (h : wpAnyT P md ops Q (RS hard S) n (listed.setIfInBounds i true) (a.put oi.dst v) w) : wpAnyT P md ops Q (RS hard S) (n + 1) listed a w :=
  wpAnyT_take (fun _ => True) [] hi (and4 hc).1 (and4 hc).2.1 (and4 hc).2.2.1 rfl hQ (and4 hc).2.2.2 (fun _ => .inr (fun h => h)) (fun _ _ _ _ _ _ => trivial) (fun w _ => hy w) trivial h
theorem tkS {hard : List Nat} {i : Nat} (W : List Nat) {oi : Oper} {v : Value} {n : Nat} {listed : Array Bool} {a : Act} {w : World} (hi : ops[i]? = some oi)
    (hc : (Region.noSelect ops && Region.free md ops listed i && (Region.ready md ops listed).contains i && Region.wanted oi (yielded ops a.tmps)) = true) (hT : (awaits md ops listed W i && hard.all (fun c => W.contains c)) = true)
    (hQ : ∀ c a w, Q (.panic c) (a.put oi.dst v) w → Q (.panic c) a w) (hy : ∀ w, S w → (execOp a.eval oi).run P w = .ok (.value v) w) (hS : S w)
    (h : wpAnyT P md ops Q (RS hard S) n (listed.setIfInBounds i true) (a.put oi.dst v) w) : wpAnyT P md ops Q (RS hard S) (n + 1) listed a w :=
  wpAnyT_take S W hi (and4 hc).1 (and4 hc).2.1 (and4 hc).2.2.1 ((Bool.and_eq_true _ _).mp hT).1 hQ (and4 hc).2.2.2 (fun _ => .inr (fun h => h)) (keepS ((Bool.and_eq_true _ _).mp hT).2) hy hS h

/-- Two conditions, each kept by all but some. -/
def Two (S1 S2 : World → Prop) (t1 t2 : List Nat) (j : Nat) (w w' : World) : Prop := (j ∉ t1 → S1 w → S1 w') ∧ (j ∉ t2 → S2 w → S2 w')
theorem Two.same {S1 S2 : World → Prop} {t1 t2 : List Nat} (j : Nat) (w : World) : Two S1 S2 t1 t2 j w w := ⟨fun _ h => h, fun _ h => h⟩
theorem sub_not {T W : List Nat} (h : T.all (fun c => W.contains c) = true) {j : Nat} (hj : j ∉ W) : j ∉ T := fun h1 => hj (by simpa using List.all_eq_true.1 h j h1)
theorem Two.left {S1 S2 : World → Prop} {t1 t2 W : List Nat} (h : t1.all (fun c => W.contains c) = true) : ∀ j, j ∉ W → ∀ w w', S1 w → Two S1 S2 t1 t2 j w w' → S1 w' := fun _ hj _ _ hS hR => hR.1 (sub_not h hj) hS
theorem Two.right {S1 S2 : World → Prop} {t1 t2 W : List Nat} (h : t2.all (fun c => W.contains c) = true) : ∀ j, j ∉ W → ∀ w w', S2 w → Two S1 S2 t1 t2 j w w' → S2 w' := fun _ hj _ _ hS hR => hR.2 (sub_not h hj) hS
end
end Go.Proofs.YtjdoljaailokmaaGreatDoor
