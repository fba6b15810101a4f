/-
  The watchers of a profile as plain data: what they tell, how they join a site; the table that they are.
-/
import Derived.Test.YtlohoolimejihaaGreatZM1
namespace Go.Proofs.YtlohoolimejihaaGreat
open Go.RowKit

/-- A watcher: its place, its block, its kind, what it counted. -/
structure Wt where
  f : Int
  p : Int
  g : Nat
  c : Bool
  x : Int
  o : Int
  t : Int

def cntX (sn x : Int) : Int := if sn = 2 then x else x + 1
def cntO (sn o : Int) : Int := if sn = 1 then o else o + 1
/-- What a watcher tells. -/
def told (W : Wt) : Int × Int := if W.c = true then (if W.o = 0 then (1, W.t) else (2, 0)) else (if W.o = 0 then (1, 0) else if W.x = 0 then (2, 0) else (3, 0))
/-- The target of a watcher that a site joins. -/
def tgtJ (W : Wt) (s : Si) : Int := if W.x = 0 ∧ W.o = 0 then s.target else W.t
def seenJ (W : Wt) (s : Si) : Int := if s.target = tgtJ W s then s.seen else 2
def joinW (W : Wt) (s : Si) : Wt := if W.c = true then { W with x := cntX (seenJ W s) W.x, o := cntO (seenJ W s) W.o, t := tgtJ W s } else { W with x := cntX s.seen W.x, o := cntO s.seen W.o }
def OkW (n : Nat) (W : Wt) : Prop := 0 ≤ W.x ∧ W.x ≤ n ∧ 0 ≤ W.o ∧ W.o ≤ n
def OkS (c : Bool) (s : Si) : Prop := (c = true → s.seen = 1 ∨ (s.seen = 2 ∧ s.target = 0)) ∧ (c = false → (1 ≤ s.seen ∧ s.seen ≤ 3) ∧ s.target = 0)
theorem join_keep (W : Wt) (s : Si) : (joinW W s).f = W.f ∧ (joinW W s).p = W.p ∧ (joinW W s).g = W.g ∧ (joinW W s).c = W.c := by
  unfold joinW
  split <;> exact ⟨rfl, rfl, rfl, rfl⟩
theorem join_ok {n : Nat} {W : Wt} {s : Si} (h : OkW n W) (hs : OkS W.c s) : OkW (n + 1) (joinW W s) ∧ 1 ≤ (joinW W s).x + (joinW W s).o := by
  obtain ⟨h1, h2, h3, h4⟩ := h
  unfold joinW OkW
  cases hc : W.c
  · simp only [Bool.false_eq_true, if_false]
    have := (hs.2 hc).1
    unfold cntX cntO
    constructor
    · refine ⟨?_, ?_, ?_, ?_⟩ <;> split <;> omega
    · split <;> split <;> omega
  · simp only [if_true]
    have := hs.1 hc
    unfold cntX cntO
    have hq : seenJ W s = 1 ∨ seenJ W s = 2 := by
      unfold seenJ
      split
      · rcases this with h | h
        · exact .inl h
        · exact .inr h.1
      · exact .inr rfl
    constructor
    · refine ⟨?_, ?_, ?_, ?_⟩ <;> split <;> omega
    · rcases hq with h | h <;> rw [h] <;> simp <;> omega
theorem first_told {op : Int} {W : Wt} {s : Si} (hx : W.x = 0) (ho : W.o = 0) (hs : OkS W.c s) : told (joinW W s) = joinC op none s := by
  unfold joinC joinW told
  cases hc : W.c
  · obtain ⟨h1, h2⟩ := hs.2 hc
    rcases (show s.seen = 1 ∨ s.seen = 2 ∨ s.seen = 3 by omega) with h | h | h <;> simp [h, h2, cntX, cntO, hx, ho]
  · rcases hs.1 hc with h | ⟨h, h2⟩
    · simp [tgtJ, seenJ, hx, ho, h, cntX, cntO]
    · simp [tgtJ, seenJ, hx, ho, h, h2, cntX, cntO]
theorem join_told {n : Nat} {op : Int} {W : Wt} {s : Si} (h : OkW n W) (h1 : 1 ≤ W.x + W.o) (hs : OkS W.c s) (hop : W.c = decide (op = 23)) : told (joinW W s) = joinC op (some (told W)) s := by
  obtain ⟨k1, k2, k3, k4⟩ := h
  cases hc : W.c
  · have hne : ¬ op = 23 := by rw [hc] at hop; simpa using hop.symm
    obtain ⟨g1, g2⟩ := hs.2 hc
    have e : joinC op (some (told W)) s = (seenOr (told W).1 s.seen, (told W).2) := by
      unfold joinC bothS
      simp only [if_pos hne]
    rw [e]
    have hj : joinW W s = { W with x := cntX s.seen W.x, o := cntO s.seen W.o } := by unfold joinW; rw [hc]; rfl
    rw [hj]
    unfold told
    simp only [hc, Bool.false_eq_true, if_false]
    unfold cntX cntO seenOr
    rcases (show s.seen = 1 ∨ s.seen = 2 ∨ s.seen = 3 by omega) with h | h | h <;> rw [h] <;> by_cases ho : W.o = 0 <;> by_cases hx : W.x = 0 <;>
      first
        | (exfalso; omega)
        | (have p1 : ¬ W.o + 1 = 0 := by omega
           have p2 : ¬ W.x + 1 = 0 := by omega
           simp [ho, hx, p1, p2])
  · have he : op = 23 := by rw [hc] at hop; simpa using hop.symm
    have hj : joinW W s = { W with x := cntX (seenJ W s) W.x, o := cntO (seenJ W s) W.o, t := W.t } := by
      unfold joinW
      rw [if_pos hc]
      have : tgtJ W s = W.t := by unfold tgtJ; rw [if_neg (by omega)]
      rw [this]
    have ht : tgtJ W s = W.t := by unfold tgtJ; rw [if_neg (by omega)]
    rw [hj]
    unfold joinC bothS told
    simp only [hc, if_true, he, not_true_eq_false, if_false]
    unfold seenJ cntO
    rw [ht]
    rcases hs.1 hc with h | ⟨h, h2⟩
    · by_cases ho : W.o = 0
      · by_cases hst : s.target = W.t
        · simp [ho, hst, h]
        · have hts : ¬ W.t = s.target := fun q => hst q.symm
          simp [ho, hst, hts, h]
      · have p1 : ¬ W.o + 1 = 0 := by omega
        by_cases hst : s.target = W.t <;> simp [ho, hst, h, p1]
    · by_cases ho : W.o = 0
      · by_cases hst : s.target = W.t <;> simp [ho, hst, h, h2]
      · have p1 : ¬ W.o + 1 = 0 := by omega
        by_cases hst : s.target = W.t <;> simp [ho, hst, h, p1]

/-- The table that watchers are. -/
def tabW (ws : List Wt) : Ct := fun f p => (ws.find? (fun W => decide (W.f = f ∧ W.p = p))).map told
/-- A watcher that a site joins, among others. -/
def joinAt (ws : List Wt) (s : Si) : List Wt := ws.map fun W => if W.f = s.f ∧ W.p = s.pc then joinW W s else W
/-- Places are all different. -/
def Places (ws : List Wt) : Prop := ws.Pairwise fun V W => ¬ (V.f = W.f ∧ V.p = W.p)
def Kinds (op : Int → Int → Int) (ws : List Wt) : Prop := ∀ W ∈ ws, W.c = decide (op W.f W.p = 23)
def Used (n : Nat) (ws : List Wt) : Prop := ∀ W ∈ ws, OkW n W ∧ 1 ≤ W.x + W.o
theorem find_map (ws : List Wt) (s : Si) (f p : Int) : (joinAt ws s).find? (fun W => decide (W.f = f ∧ W.p = p)) = (ws.find? (fun W => decide (W.f = f ∧ W.p = p))).map (fun W => if W.f = s.f ∧ W.p = s.pc then joinW W s else W) := by
  unfold joinAt
  induction ws with
  | nil => rfl
  | cons V l ih =>
    have hk : ((if V.f = s.f ∧ V.p = s.pc then joinW V s else V).f = f ∧ (if V.f = s.f ∧ V.p = s.pc then joinW V s else V).p = p) ↔ (V.f = f ∧ V.p = p) := by
      have := join_keep V s
      split
      · rw [this.1, this.2.1]
      · exact Iff.rfl
    rw [List.map_cons]
    by_cases h : V.f = f ∧ V.p = p
    · rw [List.find?_cons_of_pos (by simpa using hk.2 h), List.find?_cons_of_pos (by simpa using h)]
      rfl
    · rw [List.find?_cons_of_neg (by simpa using fun a b => h (hk.1 ⟨a, b⟩)), List.find?_cons_of_neg (by simpa using h)]
      exact ih
/-- Two tables that tell the same. -/
theorem tab_join {n : Nat} {op : Int → Int → Int} {ws : List Wt} {s : Si} (hu : Used n ws) (hk : Kinds op ws) (hs : OkS (decide (op s.f s.pc = 23)) s) (hin : ∃ W ∈ ws, W.f = s.f ∧ W.p = s.pc) : tabW (joinAt ws s) = updC op (tabW ws) s := by
  funext f p
  unfold tabW
  rw [find_map]
  by_cases he : f = s.f ∧ p = s.pc
  · obtain ⟨rfl, rfl⟩ := he
    rw [updC_at]
    cases hf : ws.find? (fun W => decide (W.f = s.f ∧ W.p = s.pc)) with
    | none =>
      obtain ⟨W, hW, h1⟩ := hin
      have := List.find?_eq_none.1 hf W hW
      simp [h1] at this
    | some W =>
      have h5 := List.find?_some hf
      simp only [decide_eq_true_eq] at h5
      have h6 := List.mem_of_find?_eq_some hf
      have hc : W.c = decide (op s.f s.pc = 23) := by rw [← h5.1, ← h5.2]; exact hk W h6
      simp only [Option.map_some, if_pos h5]
      rw [join_told (op := op s.f s.pc) (hu W h6).1 (hu W h6).2 (by rw [hc]; exact hs) hc]
  · rw [updC_off _ _ _ _ _ he]
    cases hf : ws.find? (fun W => decide (W.f = f ∧ W.p = p)) with
    | none => rfl
    | some W =>
      have h5 := List.find?_some hf
      simp only [decide_eq_true_eq] at h5
      simp only [Option.map_some]
      rw [if_neg (by rw [h5.1, h5.2]; exact he)]
theorem tab_new {op : Int → Int → Int} {ws : List Wt} {s : Si} {W : Wt} (hno : ∀ V ∈ ws, ¬ (V.f = s.f ∧ V.p = s.pc)) (h1 : W.f = s.f) (h2 : W.p = s.pc) (hx : W.x = 0) (ho : W.o = 0) (hs : OkS W.c s) : tabW (ws ++ [joinW W s]) = updC op (tabW ws) s := by
  have hkp := join_keep W s
  have hn : ws.find? (fun W => decide (W.f = s.f ∧ W.p = s.pc)) = none := List.find?_eq_none.2 (fun V hV => by simpa using fun a b => hno V hV ⟨a, b⟩)
  funext f p
  unfold tabW
  rw [List.find?_append]
  by_cases he : f = s.f ∧ p = s.pc
  · obtain ⟨rfl, rfl⟩ := he
    rw [updC_at, hn]
    simp only [Option.none_or]
    rw [List.find?_cons_of_pos (by simp [hkp, h1, h2])]
    simp only [Option.map_some, Option.map_none]
    rw [first_told (op := op s.f s.pc) hx ho hs]
  · rw [updC_off _ _ _ _ _ he, List.find?_cons_of_neg (by simpa [hkp, h1, h2] using fun a b => he ⟨a.symm, b.symm⟩)]
    simp
end Go.Proofs.YtlohoolimejihaaGreat
