/-
  What impl takes out of a list: without, numberWithout.
-/
import Derived.Test.YtffeejkghmpkkaaRCO
import Derived.Test.YtffeejkghmpkkaaRMT6
import Derived.Test.YtffeejkghmpkkaaRMT4
import Derived.Laws.CopyRow
import Derived.Laws.CopyOwn
namespace Go.Proofs.Ytffeejkghmpkkaa
open Go.RowKit

/-- The places of what is gone. -/
def goneL (g : Nat → Bool) : Nat → List Int
  | 0 => []
  | k + 1 => if g k = true then goneL g k ++ [(k : Int)] else goneL g k
theorem goneL_yes {g : Nat → Bool} {k : Nat} (h : g k = true) : goneL g (k + 1) = goneL g k ++ [(k : Int)] := if_pos h
theorem goneL_no {g : Nat → Bool} {k : Nat} (h : g k = false) : goneL g (k + 1) = goneL g k := by show (if g k = true then _ else _) = _; rw [if_neg (by simp [h])]
theorem goneL_len (g : Nat → Bool) (k : Nat) : (goneL g k).length + news g k = k := by
  induction k with
  | zero => rfl
  | succ k ih => cases h : g k with
    | true => rw [goneL_yes h, news_no h]; simp; omega
    | false => rw [goneL_no h, news_yes h]; omega
theorem goneL_lt {g : Nat → Bool} {k : Nat} : ∀ x ∈ goneL g k, 0 ≤ x ∧ x < (k : Int) := by
  induction k with
  | zero => intro x hx; cases hx
  | succ k ih =>
    intro x hx
    cases h : g k with
    | true =>
      rw [goneL_yes h] at hx
      rcases List.mem_append.1 hx with hx | hx
      · have := ih x hx; omega
      · simp at hx; omega
    | false =>
      rw [goneL_no h] at hx
      have := ih x hx; omega
theorem goneL_mono (g : Nat → Bool) {i j : Nat} (h : i ≤ j) : ∃ l, goneL g j = goneL g i ++ l ∧ ∀ x ∈ l, (i : Int) ≤ x := by
  induction j with
  | zero => exact ⟨[], by have : i = 0 := by omega
                          subst this; simp, by simp⟩
  | succ j ih =>
    by_cases e : i = j + 1
    · subst e; exact ⟨[], by simp, by simp⟩
    · obtain ⟨l, h1, h2⟩ := ih (by omega)
      cases hg : g j with
      | true => exact ⟨l ++ [(j : Int)], by rw [goneL_yes hg, h1, List.append_assoc], fun x hx => by
          rcases List.mem_append.1 hx with hx | hx
          · exact h2 x hx
          · simp at hx; omega⟩
      | false => exact ⟨l, by rw [goneL_no hg, h1], h2⟩
theorem goneL_sorted (g : Nat → Bool) (k : Nat) : (goneL g k).Pairwise (· ≤ ·) := by
  induction k with
  | zero => exact List.Pairwise.nil
  | succ k ih => cases h : g k with
    | true =>
      rw [goneL_yes h, List.pairwise_append]
      exact ⟨ih, List.pairwise_singleton .., fun a ha b hb => by
        have := (goneL_lt a ha).2
        simp at hb
        omega⟩
    | false => rw [goneL_no h]; exact ih
theorem goneL_count {g : Nat → Bool} {x n : Nat} (h : x ≤ n) : (goneL g n).countP (fun y => decide (y < (x : Int))) = (goneL g x).length := by
  obtain ⟨l, h1, h2⟩ := goneL_mono g h
  rw [h1, List.countP_append, List.countP_eq_length.2 (fun y hy => by have := (goneL_lt y hy).2; simpa using this), List.countP_eq_zero.2 (fun y hy => by have := h2 y hy; simp; omega)]
  omega
theorem goneL_at {g : Nat → Bool} {n t : Nat} (h : t < (goneL g n).length) : ∃ i, i < n ∧ g i = true ∧ (goneL g n)[t] = (i : Int) ∧ (goneL g i).length = t := by
  induction n with
  | zero => exact absurd h (Nat.not_lt_zero _)
  | succ n ih =>
    cases hg : g n with
    | true =>
      have e := goneL_yes hg
      by_cases h2 : t < (goneL g n).length
      · obtain ⟨i, a, b, c, d⟩ := ih h2
        refine ⟨i, by omega, b, ?_, d⟩
        rw [← c]
        simp only [e]
        rw [List.getElem_append_left h2]
      · have ht : t = (goneL g n).length := by rw [e] at h; simp at h; omega
        refine ⟨n, by omega, hg, ?_, ht.symm⟩
        simp only [e]
        rw [List.getElem_append_right (by omega)]
        simp
    | false =>
      have e := goneL_no hg
      have h' : t < (goneL g n).length := by rw [← e]; exact h
      obtain ⟨i, a, b, c, d⟩ := ih h'
      refine ⟨i, by omega, b, ?_, d⟩
      simp only [e]
      exact c
theorem goneL_le {g : Nat → Bool} {i j : Nat} (h : i ≤ j) : (goneL g i).length ≤ (goneL g j).length := by
  obtain ⟨l, h1, -⟩ := goneL_mono g h
  rw [h1]; simp
theorem goneL_same {g : Nat → Bool} {f i : Nat} (hl : (goneL g i).length = (goneL g f).length) : ∀ j, f ≤ j → j < i → g j = false := by
  intro j h1 h2
  cases hg : g j with
  | false => rfl
  | true =>
    have a := goneL_le (g := g) h1
    have b := goneL_le (g := g) (show j + 1 ≤ i by omega)
    rw [goneL_yes hg] at b
    simp at b
    omega
theorem goneL_ahead {g : Nat → Bool} {f i : Nat} (hg : g i = true) (hl : (goneL g i).length = (goneL g f).length) : f ≤ i := by
  rcases Nat.lt_or_ge i f with a | a
  · have b := goneL_le (g := g) (show i + 1 ≤ f by omega)
    rw [goneL_yes hg] at b
    simp at b
    omega
  · exact a
theorem keptL_run {α : Type} {g : Nat → Bool} {z : α} {l : List α} {f : Nat} : ∀ i, f ≤ i → i ≤ l.length → (∀ j, f ≤ j → j < i → g j = false) → keptL g z l i = keptL g z l f ++ (l.drop f).take (i - f) ∧ news g i = news g f + (i - f) := by
  intro i
  induction i with
  | zero => intro h _ _; have : f = 0 := by omega
            subst this; simp
  | succ i ih =>
    intro h1 h2 h3
    by_cases e : f = i + 1
    · subst e; simp
    · obtain ⟨a, b⟩ := ih (by omega) (by omega) (fun j q1 q2 => h3 j q1 (by omega))
      have hg := h3 i (by omega) (by omega)
      refine ⟨?_, by rw [news_yes hg, b]; omega⟩
      rw [keptL_yes hg, a, List.append_assoc]
      congr 1
      rw [show i + 1 - f = (i - f) + 1 by omega, List.take_succ_eq_append_getElem (by simp; omega)]
      congr 1
      rw [List.getElem_drop, List.getD_eq_getElem?_getD, List.getElem?_eq_getElem (by omega)]
      simp only [show f + (i - f) = i by omega]
      rfl
theorem splice_take {α : Type} (L : List α) (o : Nat) (cs : List α) (h : o + cs.length ≤ L.length) : (splice L o cs).take (o + cs.length) = L.take o ++ cs := by
  unfold splice
  rw [← List.append_assoc, List.take_append_of_le_length (by simp; omega), List.take_of_length_le (by simp; omega)]
theorem codeVals_app (xs ys : List (Int × Int)) : codeVals (xs ++ ys) = codeVals xs ++ codeVals ys := by simp [codeVals]

theorem run_copy2 {P : Program} (w : World) (dT sT ty elem : TypeId) (g o dLen dCap : Nat) (a : Addr) (sLen sCap : Nat) (cur : Array Value) (t : TypeId) (cs : List Value)
    (hu : P.underlying dT = some (.slice elem)) (hs : (P.info? elem).map (·.size) = some 2)
    (hg : w.heap[g]? = some (.cells cur t (0, 0))) (hle : sLen ≤ dLen) (hn : cs.length = sLen * 2)
    (hsrc : ∀ j v, cs[j]? = some v → w.cell? (a.add j) = some v) (hfit : o + cs.length ≤ cur.size) (h1 : ∀ v ∈ cs, v.oneCell' = true) :
    (Builtin.copy_ #[dT, sT] ty #[.slice (some ⟨g, o, none⟩) dLen dCap, .slice (some a) sLen sCap]).run P w =
      .ok (goInt sLen) (w.setRow g (splice cur.toList o cs).toArray) := by
  have hl := run_loadCells_list (P := P) w a cs hsrc
  have hst := run_storeCells_at P g o t cs 0 cur w hg (by simpa using hfit) h1
  have hmin : Nat.min sLen dLen = sLen := Nat.min_eq_left hle
  cases hq : P.info? elem with
  | none => simp [hq] at hs
  | some i =>
    have hi : i.size = 2 := by simpa [hq] using hs
    simp [Builtin.copy_, run_underlying hu, Builtin.lenOf, Builtin.firstCells, sizeOf, typeInfo, hq, hi, hmin, ← hn, hl, hst, splice]

set_option maxRecDepth 100000 in
set_option maxHeartbeats 1000000 in
theorem jumpOp_any (op : Int) (w : World) : Calls Try.prog 61 #[.int .i64 op] w fun e w' => e = .returned (.bool (decide (op = 17 ∨ op = 18 ∨ op = 19))) ∧ w' = w := by
  by_cases h1 : op = 17
  · subst h1
    go_enter Try.func61, Try.ntmps61
    go_wp2
    go_ret
    exact ⟨rfl, rfl⟩
  by_cases h2 : op = 18
  · subst h2
    go_enter Try.func61, Try.ntmps61
    go_wp2
    go_ret
    exact ⟨rfl, rfl⟩
  by_cases h3 : op = 19
  · subst h3
    go_enter Try.func61, Try.ntmps61
    go_wp2
    go_ret
    exact ⟨rfl, rfl⟩
  have e1 : (op == 17) = false := beq_eq_false_iff_ne.2 h1
  have e2 : (op == 18) = false := beq_eq_false_iff_ne.2 h2
  have e3 : (op == 19) = false := beq_eq_false_iff_ne.2 h3
  have hd : decide (op = 17 ∨ op = 18 ∨ op = 19) = false := decide_eq_false (by omega)
  rw [hd]
  clear h1 h2 h3
  go_enter Try.func61, Try.ntmps61
  go_wp2
  go_ret
  exact ⟨rfl, rfl⟩

set_option maxHeartbeats 1000000 in
theorem numWithout_any (p n : Nat) (g : Nat → Bool) (ga : Option Addr) (gc : Nat) (w : World) (hp : p ≤ n) (hn : n ≤ 120) (hm : IntsAt w 0 ga (goneL g n)) :
    Calls Try.prog 62 #[.int .i64 p, .slice ga (goneL g n).length gc] w fun e w' => e = .returned (.int .i64 (news g p : Int)) ∧ Below w.heap.size w w' := by
  have hl := goneL_len g n
  have hcp := goneL_count (g := g) hp
  have hlp := goneL_len g p
  have HB : Hid (Calls Try.prog 71 #[.slice ga (goneL g n).length gc, .int .i64 p] w fun e w' => ∃ b, e = .returned (.tuple #[.int .i64 ((goneL g p).length : Int), .bool b]) ∧ Below w.heap.size w w') := by
    by_cases h0 : (goneL g n).length = 0
    · have h1 : (goneL g p).length = 0 := by have := goneL_le (g := g) hp; omega
      rw [h0]
      refine (Try.slices_BinarySearch_int_empty ga gc p w).mono ?_
      rintro e w' ⟨rfl, rfl⟩
      exact ⟨false, by rw [h1]; rfl, Below.refl _ _⟩
    · obtain ⟨b, off, rfl, -, -⟩ := hm 0 (by omega)
      refine (Try.slices_BinarySearch_int b off (goneL g n).length gc (goneL g n) p w (Nat.le_refl _) (by omega) (fun j hj => ?_) (by rw [List.take_length]; exact goneL_sorted g n)).mono ?_
      · obtain ⟨b', off', e, -, hc⟩ := hm j hj
        cases e
        rw [hc, List.getD_eq_getElem?_getD, List.getElem?_eq_getElem hj]; rfl
      · rintro e w' ⟨rfl, q, rfl⟩
        refine ⟨_, by rw [List.take_length, hcp], ?_⟩
        exact ⟨rfl, rfl, rfl, Nat.le_refl _, fun _ _ => rfl⟩
  have hw : IntKind.i64.wrap ((p : Int) - ((goneL g p).length : Int)) = (news g p : Int) := by rw [IntKind.wrap_i64]; omega
  go_enter Try.func62, Try.ntmps62
  go_wp2_with fail
  refine HB.out.mono ?_
  rintro e w1 ⟨b, rfl, hb⟩
  go_wp2
  go_ret
  exact ⟨rfl, hb⟩
end Go.Proofs.Ytffeejkghmpkkaa
