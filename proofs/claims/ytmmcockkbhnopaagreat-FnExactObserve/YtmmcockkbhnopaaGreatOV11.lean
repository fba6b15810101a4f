/-
  What spec.l03Next returns: the places that may follow, in memory of the call's own.
  A proposition as a truth.
  The small functions that sites are asked with, of both sides.
  A drawn region whose operations read, and whose callees may make new memory besides, is walked once, in the order of the text.
-/
import Derived.Test.YtmmcockkbhnopaaGreatOV2
import Derived.Test.YtmmcockkbhnopaaGreatOV4
import Derived.Test.YtmmcockkbhnopaaGreatOV9
import Derived.Test.YtmmcockkbhnopaaGreatOV10
import Derived.Deep.RegionHeld3
import Derived.Deep.Quiet
namespace Go.Proofs.YtmmcockkbhnopaaGreat
open Go.RowKit

theorem info3 : (Tryz.prog.info? 3).map (fun i => (i.zero, i.size, i.bytes)) = some (some (.int .i64 0), 1, 8) := by kernel_rfl

/-- The cells of a slice of numbers. -/
def IntsAt (w : World) (lo : Nat) (a : Option Addr) (xs : List Int) : Prop :=
  ∀ i (h : i < xs.length), ∃ b off, a = some ⟨b, off, none⟩ ∧ lo ≤ b ∧ w.cell? ⟨b, off + i, none⟩ = some (.int .i64 xs[i])

theorem IntsAt.mono {w w' : World} {lo : Nat} {a : Option Addr} {xs : List Int} (h : IntsAt w lo a xs) (hb : Below w.heap.size w w') : IntsAt w' lo a xs := by
  intro i hi
  obtain ⟨b, off, h1, h2, h3⟩ := h i hi
  exact ⟨b, off, h1, h2, cell_later hb h3⟩
theorem IntsAt.low {w : World} {lo lo' : Nat} {a : Option Addr} {xs : List Int} (h : IntsAt w lo a xs) (hl : lo' ≤ lo) : IntsAt w lo' a xs := fun i hi => by
  obtain ⟨b, off, h1, h2, h3⟩ := h i hi
  exact ⟨b, off, h1, by omega, h3⟩
theorem IntsAt.above {w w' : World} {lo : Nat} {a : Option Addr} {xs : List Int} (h : IntsAt w lo a xs) (hb : Above lo w w') : IntsAt w' lo a xs := by
  intro i hi
  obtain ⟨b, off, h1, h2, h3⟩ := h i hi
  exact ⟨b, off, h1, h2, hb.cell h2 h3⟩

theorem IntsAt.own {w : World} {B n cap : Nat} {a : Option Addr} {xs : List Int} {vs : List Value} (h : w.ownsRow B 3 1 (.slice a n cap) n vs) (hv : vs = xs.map (Value.int .i64)) (hn : n = xs.length) : IntsAt w B a xs := by
  subst hv
  subst hn
  rcases h.2 with ⟨-, hn⟩ | ⟨g, cap, cur, hv, hb, hh, hn, -, hs, htake⟩
  · exact fun i hi => by omega
  · cases hv
    refine fun i hi => ⟨g, 0, rfl, hb, ?_⟩
    rw [block_cell hh, Nat.zero_add]
    have h1 : (cur.toList.take (xs.length * 1))[i]? = (xs.map (Value.int .i64))[i]? := by rw [htake]
    rw [List.getElem?_take_of_lt (by omega)] at h1
    simpa [hi] using h1

theorem next25 (a : Int) (pc : Nat) : nextB 25 a pc = [] := rfl
theorem next17 (a : Int) (pc : Nat) : nextB 17 a pc = [a] := rfl
theorem next18 (a : Int) (pc : Nat) : nextB 18 a pc = [(pc : Int) + 1, a] := rfl
theorem next19 (a : Int) (pc : Nat) : nextB 19 a pc = [(pc : Int) + 1, a] := rfl
theorem next_else {op : Int} (a : Int) (pc : Nat) (h1 : op ≠ 25) (h2 : op ≠ 17) (h3 : op ≠ 18) (h4 : op ≠ 19) : nextB op a pc = [(pc : Int) + 1] := by
  unfold nextB
  rw [if_neg h1, if_neg h2, if_neg (by omega)]

theorem one_new (W : World) (n : Nat) (hn : W.heap.size = n) (v : Value) (t : TypeId) : ∀ (j : Nat) (u : Value), [v][j]? = some u → (W.alloc (.cells #[v] t)).cell? ((⟨n, 0, none⟩ : Addr).add j) = some u := by
  subst hn
  exact cell_one_new _ _ _

set_option maxRecDepth 100000 in
set_option maxHeartbeats 800000 in
theorem sNext_any (op a : Int) (pc : Nat) (w : World) (hpc : pc ≤ 1048576) :
    Calls Tryz.prog 120 #[.agg #[.int .i64 op, .int .i64 a], .int .i64 pc] w fun e w' => ∃ ad cap, e = .returned (.slice ad (nextB op a pc).length cap) ∧ IntsAt w' w.heap.size ad (nextB op a pc) ∧ Below w.heap.size w w' := by
  obtain ⟨i0, hi, hz0, hz1, hz2⟩ := info_parts info3
  by_cases h25 : op = 25
  · subst h25
    rw [next25]
    go_enter Tryz.func120, Tryz.ntmps120
    go_wp2
    go_ret
    exact ⟨_, _, rfl, fun i hi => absurd hi (by simp), ((Below.refl _ _).alloc (Nat.le_refl _) _).alloc (by simp) _⟩
  have hM0 := block_old (block_new w #[.int .i64 op, .int .i64 a] 152) (.cells #[] 3)
  have hE0 : ((w.alloc (.cells #[.int .i64 op, .int .i64 a] 152)).alloc (.cells #[] 3)).ownsRow w.heap.size 3 1 (.slice (some ⟨w.heap.size + 1, 0, none⟩) 0 0) 0 [] := by
    have := World.ownsRow_made (base := w.heap.size) (e := 3) (size := 1) (w.alloc (.cells #[.int .i64 op, .int .i64 a] 152)) #[] 0 (by simp) (by unfold maxLen; omega) rfl
    simpa using this
  have hbA : Below w.heap.size w ((w.alloc (.cells #[.int .i64 op, .int .i64 a] 152)).alloc (.cells #[] 3)) := ((Below.refl _ _).alloc (Nat.le_refl _) _).alloc (by simp) _
  by_cases h17 : op = 17
  · subst h17
    rw [next17]
    go_enter Tryz.func120, Tryz.ntmps120
    go_wp2_with (first | (at_builtin; refine wpList_append_lies _ rfl _ _ 156 rfl w.heap.size 3 i0 (.int .i64 0) 1 8 Tryz.underlying156 hi hz0 hz1 hz2 rfl (by decide) _ _ _ rfl (World.ownsRow.alloc hE0 _) ⟨w.heap.size + 1 + 1, 0, none⟩ 1 1 [.int .i64 a] rfl rfl (one_new _ _ (by simp) _ _) (by intro u hu; simp at hu; subst hu; rfl) (by decide) (by unfold maxLen; omega) (by omega) (by simp; omega) _ rfl ?_; intro g cap w1 hown1 hgrow1 hat1 hlt1))
    have hb1 : Below w.heap.size w w1 := (hbA.alloc (by simp; omega) _).trans ((Keeps.grown (ts := [3]) (World.ownsRow.alloc hE0 _) hgrow1 (by simp)).toBelow (by simp; omega))
    go_ret
    exact ⟨_, _, rfl, IntsAt.own hown1 (by simp) (by simp), hb1⟩
  by_cases h2 : op = 18 ∨ op = 19
  · rcases h2 with rfl | rfl
    all_goals
      first | rw [next18] | rw [next19]
      clear h25 h17
      go_enter Tryz.func120, Tryz.ntmps120
      go_wp2_with (first | (at_builtin; refine wpList_append_lies _ rfl _ _ 156 rfl w.heap.size 3 i0 (.int .i64 0) 1 8 Tryz.underlying156 hi hz0 hz1 hz2 rfl (by decide) _ _ _ rfl (World.ownsRow.alloc hE0 _) ⟨w.heap.size + 1 + 1, 0, none⟩ 1 1 [.int .i64 ((pc : Int) + 1)] rfl rfl (one_new _ _ (by simp) _ _) (by intro u hu; simp at hu; subst hu; rfl) (by decide) (by unfold maxLen; omega) (by omega) (by simp; omega) _ rfl ?_; intro g cap w1 hown1 hgrow1 hat1 hlt1; have hk1 := Keeps.grown (ts := [3]) (World.ownsRow.alloc hE0 _) hgrow1 (by simp); have hb1 : Below w.heap.size w w1 := (hbA.alloc (by simp; omega) _).trans (hk1.toBelow (by simp; omega)); have hM1 := hk1.cell (block_old hM0 _) (by simp); have x1 := block_cell hM1; have hsz1 := hb1.size; simp only [Nat.zero_add, List.nil_append] at hown1; clear hk1 hgrow1 hat1 hlt1 hE0 hM0 hM1 hbA; go_wp2_with (at_builtin; refine wpList_append_lies _ rfl _ _ 156 rfl w.heap.size 3 i0 (.int .i64 0) 1 8 Tryz.underlying156 hi hz0 hz1 hz2 rfl (by decide) (.slice (some ⟨g, 0, none⟩) 1 cap) 1 [.int .i64 ((pc : Int) + 1)] rfl (World.ownsRow.alloc hown1 _) ⟨w1.heap.size, 0, none⟩ 1 1 [.int .i64 a] rfl rfl (cell_one_new _ _ _) (by intro u hu; simp at hu; subst hu; rfl) (by decide) (by unfold maxLen; omega) (by omega) (by simp; omega) _ rfl ?_; intro g2 cap2 w2 hown2 hgrow2 hat2 hlt2)))
      have hb2 : Below w.heap.size w w2 := (hb1.alloc hb1.size _).trans ((Keeps.grown (ts := [3]) (World.ownsRow.alloc hown1 _) hgrow2 (by simp)).toBelow (by simp; omega))
      go_ret
      exact ⟨_, _, rfl, IntsAt.own hown2 (by simp) (by simp), hb2⟩
  · have h18 : op ≠ 18 := fun h => h2 (Or.inl h)
    have h19 : op ≠ 19 := fun h => h2 (Or.inr h)
    rw [next_else a pc h25 h17 h18 h19]
    have b25 : (op != 25) = true := by simpa using h25
    have b17 : (op != 17) = true := by simpa using h17
    have d17 : (op == 17) = false := by simpa using h17
    have b18 : (op == 18) = false := by simpa using h18
    have b19 : (op == 19) = false := by simpa using h19
    clear h2 h25 h17 h18 h19
    go_enter Tryz.func120, Tryz.ntmps120
    go_wp2_with (first | (at_builtin; refine wpList_append_lies _ rfl _ _ 156 rfl w.heap.size 3 i0 (.int .i64 0) 1 8 Tryz.underlying156 hi hz0 hz1 hz2 rfl (by decide) _ _ _ rfl (World.ownsRow.alloc hE0 _) ⟨w.heap.size + 1 + 1, 0, none⟩ 1 1 [.int .i64 ((pc : Int) + 1)] rfl rfl (one_new _ _ (by simp) _ _) (by intro u hu; simp at hu; subst hu; rfl) (by decide) (by unfold maxLen; omega) (by omega) (by simp; omega) _ rfl ?_; intro g cap w1 hown1 hgrow1 hat1 hlt1; have hk1 := Keeps.grown (ts := [3]) (World.ownsRow.alloc hE0 _) hgrow1 (by simp); have hb1 : Below w.heap.size w w1 := (hbA.alloc (by simp; omega) _).trans (hk1.toBelow (by simp; omega)); have hM1 := hk1.cell (block_old hM0 _) (by simp); have x1 := block_cell hM1))
    go_ret
    exact ⟨_, _, rfl, IntsAt.own hown1 (by simp) (by simp), hb1⟩
end Go.Proofs.YtmmcockkbhnopaaGreat

namespace Go.Proofs.YtmmcockkbhnopaaGreat
open Go.RowKit

noncomputable section
open Classical
/-- A proposition as a truth. -/
noncomputable def pB (P : Prop) : Bool := decide P
end
theorem pB_yes {P : Prop} (h : P) : pB P = true := by simpa [pB] using h
theorem pB_no {P : Prop} (h : ¬ P) : pB P = false := by simpa [pB] using h
theorem ret_pB {b : Bool} {P : Prop} (h : b = true ↔ P) : Ending.returned (.bool b) = .returned (.bool (pB P)) := by
  by_cases hp : P
  · rw [pB_yes hp, h.2 hp]
  · rw [pB_no hp]
    cases b
    · rfl
    · exact absurd (h.1 rfl) hp
end Go.Proofs.YtmmcockkbhnopaaGreat

namespace Go.Proofs.YtmmcockkbhnopaaGreat
open Go.RowKit

/-- -1, 0 or 1. -/
def cmpI (x y : Int) : Int := if x < y then -1 else if y < x then 1 else 0

set_option maxHeartbeats 400000 in
theorem isNaN_any (x : Int) (w : World) : Calls Tryz.prog 137 #[.int .i64 x] w fun e w' => e = .returned (.bool false) ∧ w' = w := by
  go_enter Tryz.func137, Tryz.ntmps137
  go_wp2
  go_ret
  exact ⟨ret_bool (by simp), rfl⟩

set_option maxHeartbeats 400000 in
theorem compare_any (x y : Int) (w : World) : Calls Tryz.prog 115 #[.int .i64 x, .int .i64 y] w fun e w' => e = .returned (.int .i64 (cmpI x y)) ∧ w' = w := by
  unfold cmpI
  by_cases h1 : x < y
  · rw [if_pos h1]
    go_enter Tryz.func115, Tryz.ntmps115
    go_wp2_with (go_at_call 137; refine (isNaN_any _ _).mono ?_; rintro e w' ⟨rfl, rfl⟩)
    go_ret
    exact ⟨rfl, rfl⟩
  · rw [if_neg h1]
    by_cases h2 : y < x
    · rw [if_pos h2]
      go_enter Tryz.func115, Tryz.ntmps115
      go_wp2_with (go_at_call 137; refine (isNaN_any _ _).mono ?_; rintro e w' ⟨rfl, rfl⟩)
      go_ret
      exact ⟨rfl, rfl⟩
    · rw [if_neg h2]
      go_enter Tryz.func115, Tryz.ntmps115
      go_wp2_with (go_at_call 137; refine (isNaN_any _ _).mono ?_; rintro e w' ⟨rfl, rfl⟩)
      go_ret
      exact ⟨rfl, rfl⟩

set_option maxHeartbeats 400000 in
theorem numberOp_any (op : Int) (w : World) : Calls Tryz.prog 110 #[.int .i64 op] w fun e w' => e = .returned (.bool (decide (11 ≤ op ∧ op ≤ 14))) ∧ w' = w := by
  by_cases h1 : op = 11
  · subst h1; go_enter Tryz.func110, Tryz.ntmps110; go_wp2; go_ret; exact ⟨rfl, rfl⟩
  by_cases h2 : op = 12
  · subst h2; go_enter Tryz.func110, Tryz.ntmps110; go_wp2; go_ret; exact ⟨rfl, rfl⟩
  by_cases h3 : op = 13
  · subst h3; go_enter Tryz.func110, Tryz.ntmps110; go_wp2; go_ret; exact ⟨rfl, rfl⟩
  by_cases h4 : op = 14
  · subst h4; go_enter Tryz.func110, Tryz.ntmps110; go_wp2; go_ret; exact ⟨rfl, rfl⟩
  go_enter Tryz.func110, Tryz.ntmps110
  go_wp2
  go_ret
  exact ⟨ret_bool (by symm; simp; omega), rfl⟩

set_option maxHeartbeats 400000 in
theorem is_any (op : Int) (w : World) : Calls Tryz.prog 91 #[.int .i64 op] w fun e w' => e = .returned (.bool (decide (11 ≤ op ∧ op ≤ 14 ∨ op = 23))) ∧ w' = w := by
  by_cases h1 : op = 11
  · subst h1; go_enter Tryz.func91, Tryz.ntmps91; go_wp2; go_ret; exact ⟨rfl, rfl⟩
  by_cases h2 : op = 12
  · subst h2; go_enter Tryz.func91, Tryz.ntmps91; go_wp2; go_ret; exact ⟨rfl, rfl⟩
  by_cases h3 : op = 13
  · subst h3; go_enter Tryz.func91, Tryz.ntmps91; go_wp2; go_ret; exact ⟨rfl, rfl⟩
  by_cases h4 : op = 14
  · subst h4; go_enter Tryz.func91, Tryz.ntmps91; go_wp2; go_ret; exact ⟨rfl, rfl⟩
  by_cases h5 : op = 23
  · subst h5; go_enter Tryz.func91, Tryz.ntmps91; go_wp2; go_ret; exact ⟨rfl, rfl⟩
  go_enter Tryz.func91, Tryz.ntmps91
  go_wp2
  go_ret
  exact ⟨ret_bool (by symm; simp; omega), rfl⟩

set_option maxHeartbeats 400000 in
theorem placeOf_any (f p s t : Int) (w : World) :
    Calls Tryz.prog 76 #[.agg #[.int .i64 f, .int .i64 p, .int .i64 s, .int .i64 t]] w fun e w' => e = .returned (.agg #[.int .i64 f, .int .i64 p]) ∧ Below w.heap.size w w' := by
  go_enter Tryz.func76, Tryz.ntmps76
  go_wp2
  refine bodyPost_ret (v := .agg #[.int .i64 f, .int .i64 p]) (by simp [results, Tryz.results76, go_sem]) rfl ⟨rfl, ?_⟩
  repeat (first | refine Below.setCell ?_ (by first | omega | (simp; omega) | simp) _ | refine Below.alloc ?_ (by first | omega | (simp; omega) | simp) _ | exact Below.refl _ _)

/-- One site is ahead of another one. -/
def SiteLess (a b : Si) : Prop := a.f < b.f ∨ a.f = b.f ∧ a.pc < b.pc
instance (a b : Si) : Decidable (SiteLess a b) := by unfold SiteLess; infer_instance

set_option maxHeartbeats 1000000 in
theorem less_any (a b : Si) (w : World) :
    Calls Tryz.prog 87 #[.agg #[.int .i64 a.f, .int .i64 a.pc, .int .i64 a.seen, .int .i64 a.target], .agg #[.int .i64 b.f, .int .i64 b.pc, .int .i64 b.seen, .int .i64 b.target]] w fun e w' => e = .returned (.bool (decide (SiteLess a b))) ∧ Below w.heap.size w w' := by
  obtain ⟨af, ap, asn, atg⟩ := a
  obtain ⟨bf, bp, bsn, btg⟩ := b
  unfold SiteLess
  dsimp only
  by_cases h1 : af < bf
  · go_enter Tryz.func87, Tryz.ntmps87
    go_wp2
    go_ret
    exact ⟨ret_bool (by first | rfl | (simp [h1]; done) | (rw [Bool.eq_iff_iff]; simp; omega) | (simp; omega)), ((Below.refl _ _).alloc (Nat.le_refl _) _).alloc (by simp) _⟩
  · by_cases h2 : af = bf
    · subst h2
      by_cases h3 : ap < bp
      all_goals
        go_enter Tryz.func87, Tryz.ntmps87
        go_wp2
        go_ret
        exact ⟨ret_bool (by first | rfl | (rw [Bool.eq_iff_iff]; simp; omega) | (simp; omega) | simp), ((Below.refl _ _).alloc (Nat.le_refl _) _).alloc (by simp) _⟩
    · go_enter Tryz.func87, Tryz.ntmps87
      go_wp2
      go_ret
      exact ⟨ret_bool (by first | rfl | (rw [Bool.eq_iff_iff]; simp; omega) | (simp; omega)), ((Below.refl _ _).alloc (Nat.le_refl _) _).alloc (by simp) _⟩

/-- The first that is not 0. -/
def orI (x y : Int) : Int := if x = 0 then y else x
set_option maxHeartbeats 1000000 in
theorem or_any (x y : Int) (g cap : Nat) (w : World) (h0 : w.cell? ⟨g, 0, none⟩ = some (.int .i64 x)) (h1 : w.cell? ⟨g, 1, none⟩ = some (.int .i64 y)) :
    Calls Tryz.prog 114 #[.slice (some ⟨g, 0, none⟩) 2 cap] w fun e w' => e = .returned (.int .i64 (orI x y)) ∧ Below w.heap.size w w' := by
  unfold orI
  go_enter Tryz.func114, Tryz.ntmps114
  go_wp2
  go_loopw [8] (fun i wr => ∃ (k : Nat), k ≤ 2 ∧ i = .int .i64 k ∧ Hid (0 < k → x = 0) ∧ Hid (1 < k → y = 0) ∧ Below w.heap.size w wr) (fun i _ => 2 - (intOf i).toNat)
  case atStart => exact ⟨0, by omega, rfl, fun h => absurd h (by omega), fun h => absurd h (by omega), Below.refl _ _⟩
  case round =>
    obtain ⟨k, hk, rfl, hx, hy, hb⟩ := hrel
    have c0 := cell_later hb h0
    have c1 := cell_later hb h1
    clear h0 h1
    obtain rfl | rfl | rfl : k = 0 ∨ k = 1 ∨ k = 2 := by omega
    · by_cases h : x = 0
      · subst h
        go_wp2
        go_roundw
        case rel => exact ⟨1, by omega, rfl, (by show _ → _; simp), fun h => absurd h (by omega), hb⟩
        case measure => simp [intOf]
      · go_wp2
        go_ret
        exact ⟨rfl, hb⟩
    · obtain rfl := hx.out (by omega)
      by_cases h : y = 0
      · subst h
        go_wp2
        go_roundw
        case rel => exact ⟨2, by omega, rfl, (by show _ → _; simp), (by show _ → _; simp), hb⟩
        case measure => simp [intOf]
      · go_wp2
        go_ret
        exact ⟨rfl, hb⟩
    · obtain rfl := hx.out (by omega)
      obtain rfl := hy.out (by omega)
      go_wp2
      go_ret
      exact ⟨rfl, hb⟩

set_option maxRecDepth 100000 in
set_option maxHeartbeats 1000000 in
theorem comparePlaces_any (af ap bf bp : Int) (w : World) :
    Calls Tryz.prog 79 #[.agg #[.int .i64 af, .int .i64 ap], .agg #[.int .i64 bf, .int .i64 bp]] w fun e w' => e = .returned (.int .i64 (orI (cmpI af bf) (cmpI ap bp))) ∧ Below w.heap.size w w' := by
  obtain ⟨wA, hwA⟩ : ∃ wA, wA = (w.alloc (.cells #[.int .i64 af, .int .i64 ap] 134)).alloc (.cells #[.int .i64 bf, .int .i64 bp] 134) := ⟨_, rfl⟩
  have hbA : Below w.heap.size w wA := by rw [hwA]; exact ((Below.refl _ _).alloc (Nat.le_refl _) _).alloc (by simp) _
  have hX : wA.heap[w.heap.size]? = some (.cells #[.int .i64 af, .int .i64 ap] 134 (0, 0)) := by rw [hwA]; exact block_old (block_new _ _ _) _
  have hY : wA.heap[w.heap.size + 1]? = some (.cells #[.int .i64 bf, .int .i64 bp] 134 (0, 0)) := by rw [hwA]; simpa using block_new (w.alloc (.cells #[.int .i64 af, .int .i64 ap] 134)) #[.int .i64 bf, .int .i64 bp] 134
  have hS : ∀ w', Below wA.heap.size wA w' → w'.cell? ⟨w.heap.size, 0, none⟩ = some (.int .i64 af) ∧ w'.cell? ⟨w.heap.size, 1, none⟩ = some (.int .i64 ap) ∧ w'.cell? ⟨w.heap.size + 1, 0, none⟩ = some (.int .i64 bf) ∧ w'.cell? ⟨w.heap.size + 1, 1, none⟩ = some (.int .i64 bp) := fun w' hb =>
    ⟨by rw [block_cell (block_kept hX hb)]; rfl, by rw [block_cell (block_kept hX hb)]; rfl, by rw [block_cell (block_kept hY hb)]; rfl, by rw [block_cell (block_kept hY hb)]; rfl⟩
  have HS : Hid (∀ w', Below wA.heap.size wA w' → w'.cell? ⟨w.heap.size, 0, none⟩ = some (.int .i64 af) ∧ w'.cell? ⟨w.heap.size, 1, none⟩ = some (.int .i64 ap) ∧ w'.cell? ⟨w.heap.size + 1, 0, none⟩ = some (.int .i64 bf) ∧ w'.cell? ⟨w.heap.size + 1, 1, none⟩ = some (.int .i64 bp)) := hS
  have q : Below wA.heap.size wA wA.drew := (Below.refl _ _).drew
  have HB : Hid (Below w.heap.size w wA) := hbA
  clear hS hX hY hbA
  go_enter Tryz.func79, Tryz.ntmps79
  go_wp2
  rw [← hwA]
  clear hwA
  go_region_held3 (fun w' => w'.cell? ⟨w.heap.size, 0, none⟩ = some (.int .i64 af) ∧ w'.cell? ⟨w.heap.size, 1, none⟩ = some (.int .i64 ap) ∧ w'.cell? ⟨w.heap.size + 1, 0, none⟩ = some (.int .i64 bf) ∧ w'.cell? ⟨w.heap.size + 1, 1, none⟩ = some (.int .i64 bp))
    ((refine HS.out _ ?_; first | exact q | exact Below.refl _ _ | exact ((Below.refl _ _).alloc (Nat.le_refl _) _).drew))
    (first
      | (go_at_call 115; refine (compare_any _ _ _).mono ?_; rintro e wb ⟨rfl, rfl⟩)
      | (go_at_call 114; refine (or_any (cmpI af bf) (cmpI ap bp) _ _ _ (by exact (cell_new wA #[.int .i64 (cmpI af bf), .int .i64 (cmpI ap bp)] 3 0).trans rfl) (by exact (cell_new wA #[.int .i64 (cmpI af bf), .int .i64 (cmpI ap bp)] 3 1).trans rfl)).mono ?_; rintro e w3 ⟨rfl, kd⟩; have q := (((Below.refl wA.heap.size wA).alloc (Nat.le_refl _) (.cells #[.int .i64 (cmpI af bf), .int .i64 (cmpI ap bp)] 3)).drew).trans (kd.mono (by simp))))
  go_wp2
  go_ret
  exact ⟨rfl, HB.out.trans (q.mono HB.out.size)⟩
theorem cmp_less (a b : Si) : 0 ≤ orI (cmpI a.f b.f) (cmpI a.pc b.pc) ↔ ¬ SiteLess a b := by
  unfold orI cmpI SiteLess
  repeat' split
  all_goals omega
end Go.Proofs.YtmmcockkbhnopaaGreat

namespace Go.Proofs.YtmmcockkbhnopaaGreat
open Go.RowKit

section
variable {P : Program} {ops : Array Oper} {C : World → Prop} {Q : Act → Prop} {a : Act} {o : Oper} {rest : List Oper}
theorem q_skip (hw : Region.wanted o (yielded ops a.tmps) = false) (h : wpQuiet P ops C Q rest (a.put o.dst undef)) : wpQuiet P ops C Q (o :: rest) a := by
  unfold wpQuiet
  rw [if_neg (by rw [hw]; exact Bool.false_ne_true)]
  exact h
theorem q_want {v : Value} (hw : Region.wanted o (yielded ops a.tmps) = true) (hv : ∀ w, C w → Oper.quietUpon P C w v ((execOp a.eval o).run P w)) (h : wpQuiet P ops C Q rest (a.put o.dst v)) : wpQuiet P ops C Q (o :: rest) a := by
  unfold wpQuiet
  rw [if_pos hw]
  exact ⟨v, hv, h⟩
end
theorem wp_below {P : Program} {id : Nat} {Q : Exit → Act → World → Prop} {a : Act} {w : World} {l : List Oper} (hm : P.follows .mixedOrders = true) (hB : Region.lexB .any l.toArray = true)
    (h : wpQuiet P l.toArray (fun w' => Below w.heap.size w w') (fun a' => ∀ w', Below w.heap.size w w' → Q .normal a' w') l a) : (Code.region id l.toArray true).wp P Q a w :=
  wp_region_quiet (C := fun w' => Below w.heap.size w w') hm hB (Below.refl _ _).drew (by simpa using h)
end Go.Proofs.YtmmcockkbhnopaaGreat
