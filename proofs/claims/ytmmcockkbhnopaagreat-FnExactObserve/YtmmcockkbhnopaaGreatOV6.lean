/-
  What impl.UsesOf and spec.UsesOf return, for every module within the stated size and every instruction.
  What spec.UsesOf returns, for every module within the stated size and every instruction.
-/
import Derived.Test.YtmmcockkbhnopaaGreatOV5
import Derived.Test.YtmmcockkbhnopaaGreatOV4
namespace Go.Proofs.YtmmcockkbhnopaaGreat
open Go.RowKit

theorem uses23_in {fs : List Fn} {a : Int} (h0 : 0 ≤ a) (h1 : a ≤ 6) : usesB fs 23 a = (a + 1, 1) := by
  unfold usesB
  simp [h0, h1]
theorem uses23_out {fs : List Fn} {a : Int} (h : ¬ (0 ≤ a ∧ a ≤ 6)) : usesB fs 23 a = (0, 0) := by
  unfold usesB
  simp [h]
theorem uses24_in {fs : List Fn} {k : Nat} (h : k < fs.length) : usesB fs 24 (k : Int) = (fs[k].params, 1) := by
  unfold usesB
  simp [h]
theorem uses24_out {fs : List Fn} {a : Int} (h : ¬ (0 ≤ a ∧ a < fs.length)) : usesB fs 24 a = (0, 0) := by
  unfold usesB
  simp [h]

set_option maxHeartbeats 4000000 in
theorem iUses_any (a1 a2 : Option Addr) (nt c1 c2 : Nat) (fs : List Fn) (op a : Int) (w : World) (hf : FnsAt w 0 a2 fs) :
    Calls Tryz.prog 142 #[.agg #[.slice a1 nt c1, .slice a2 fs.length c2], .agg #[.int .i64 op, .int .i64 a]] w fun e w' => e = .returned (.tuple #[.int .i64 (usesB fs op a).1, .int .i64 (usesB fs op a).2]) ∧ Below w.heap.size w w' := by
  have hbA : Below w.heap.size w ((w.alloc (.cells #[.slice a1 nt c1, .slice a2 fs.length c2] 40)).alloc (.cells #[.int .i64 op, .int .i64 a] 152)) := ((Below.refl _ _).alloc (Nat.le_refl _) _).alloc (by simp) _
  rcases ops_cases op with rfl | rfl | rfl | rfl | rfl | rfl | rfl | rfl | rfl | rfl | rfl | rfl | rfl | rfl | rfl | rfl | rfl | rfl | rfl | rfl | rfl | rfl | h23 | h24 | rfl | rfl | h | h
  case inr.inr.inr.inr.inr.inr.inr.inr.inr.inr.inr.inr.inr.inr.inr.inr.inr.inr.inr.inr.inr.inr.inr.inr.inr.inr.inl =>
    rw [usesB_out (Or.inl h : op < 1 ∨ 26 < op)]
    go_enter Tryz.func142, Tryz.ntmps142
    go_wp2
    go_ret2
    exact ⟨rfl, hbA⟩
  case inr.inr.inr.inr.inr.inr.inr.inr.inr.inr.inr.inr.inr.inr.inr.inr.inr.inr.inr.inr.inr.inr.inr.inr.inr.inr.inr =>
    rw [usesB_out (Or.inr h : op < 1 ∨ 26 < op)]
    go_enter Tryz.func142, Tryz.ntmps142
    go_wp2
    go_ret2
    exact ⟨rfl, hbA⟩
  case inr.inr.inr.inr.inr.inr.inr.inr.inr.inr.inr.inr.inr.inr.inr.inr.inr.inr.inr.inr.inr.inr.inl =>
    subst h23
    by_cases h : 0 ≤ a ∧ a ≤ 6
    · obtain ⟨h0, h1⟩ := h
      rw [uses23_in h0 h1]
      go_enter Tryz.func142, Tryz.ntmps142
      go_wp2
      go_ret2
      exact ⟨rfl, hbA⟩
    · rw [uses23_out h]
      rcases (show a < 0 ∨ (0 ≤ a ∧ 6 < a) by omega) with h1 | ⟨h1, h2⟩
      all_goals
        clear h
        go_enter Tryz.func142, Tryz.ntmps142
        go_wp2
        go_ret2
        exact ⟨rfl, hbA⟩
  case inr.inr.inr.inr.inr.inr.inr.inr.inr.inr.inr.inr.inr.inr.inr.inr.inr.inr.inr.inr.inr.inr.inr.inl =>
    subst h24
    by_cases h : 0 ≤ a ∧ a < fs.length
    · obtain ⟨k, rfl⟩ : ∃ k : Nat, a = k := ⟨a.toNat, by omega⟩
      have hk : k < fs.length := by omega
      rw [uses24_in hk]
      obtain ⟨b, off, ca, cc, rfl, -, d1, d2, d3, d4⟩ := hf k hk
      have d1' := cell_later hbA d1
      clear d1 d2 d3 d4 h hf
      go_enter Tryz.func142, Tryz.ntmps142
      go_wp2
      go_ret2
      exact ⟨rfl, hbA⟩
    · rw [uses24_out h]
      rcases (show a < 0 ∨ (0 ≤ a ∧ (fs.length : Int) ≤ a) by omega) with h1 | ⟨h1, h2⟩
      all_goals
        clear h
        go_enter Tryz.func142, Tryz.ntmps142
        go_wp2
        go_ret2
        exact ⟨rfl, hbA⟩
  all_goals
    go_enter Tryz.func142, Tryz.ntmps142
    go_wp2
    go_ret2
    exact ⟨rfl, hbA⟩
end Go.Proofs.YtmmcockkbhnopaaGreat
namespace Go.Proofs.YtmmcockkbhnopaaGreat
open Go.RowKit

set_option maxHeartbeats 4000000 in
theorem sUses_any (a1 a2 : Option Addr) (nt c1 c2 : Nat) (fs : List Fn) (op a : Int) (w : World) (hn : fs.length ≤ 1048576) (hf : FnsAt w 0 a2 fs) :
    Calls Tryz.prog 119 #[.agg #[.slice a1 nt c1, .slice a2 fs.length c2], .agg #[.int .i64 op, .int .i64 a]] w fun e w' => e = .returned (.tuple #[.int .i64 (usesB fs op a).1, .int .i64 (usesB fs op a).2]) ∧ Below w.heap.size w w' := by
  have hbA : Below w.heap.size w ((w.alloc (.cells #[.slice a1 nt c1, .slice a2 fs.length c2] 40)).alloc (.cells #[.int .i64 op, .int .i64 a] 152)) := ((Below.refl _ _).alloc (Nat.le_refl _) _).alloc (by simp) _
  rcases ops_cases op with rfl | rfl | rfl | rfl | rfl | rfl | rfl | rfl | rfl | rfl | rfl | rfl | rfl | rfl | rfl | rfl | rfl | rfl | rfl | rfl | rfl | rfl | h23 | h24 | rfl | rfl | h | h
  case inr.inr.inr.inr.inr.inr.inr.inr.inr.inr.inr.inr.inr.inr.inr.inr.inr.inr.inr.inr.inr.inr.inr.inr.inr.inr.inl =>
    rw [usesB_out (Or.inl h : op < 1 ∨ 26 < op)]
    go_enter Tryz.func119, Tryz.ntmps119
    go_wp2_with (go_at_call 57; refine (between_any _ _ _ _).mono ?_; rintro e w1 ⟨rfl, rfl⟩)
    go_ret2
    exact ⟨rfl, hbA⟩
  case inr.inr.inr.inr.inr.inr.inr.inr.inr.inr.inr.inr.inr.inr.inr.inr.inr.inr.inr.inr.inr.inr.inr.inr.inr.inr.inr =>
    rw [usesB_out (Or.inr h : op < 1 ∨ 26 < op)]
    go_enter Tryz.func119, Tryz.ntmps119
    go_wp2_with (go_at_call 57; refine (between_any _ _ _ _).mono ?_; rintro e w1 ⟨rfl, rfl⟩)
    go_ret2
    exact ⟨rfl, hbA⟩
  case inr.inr.inr.inr.inr.inr.inr.inr.inr.inr.inr.inr.inr.inr.inr.inr.inr.inr.inr.inr.inr.inr.inl =>
    subst h23
    by_cases h : 0 ≤ a ∧ a ≤ 6
    · obtain ⟨h0, h1⟩ := h
      rw [uses23_in h0 h1]
      go_enter Tryz.func119, Tryz.ntmps119
      go_wp2_with (go_at_call 57; refine (between_any _ _ _ _).mono ?_; rintro e w1 ⟨rfl, rfl⟩)
      go_ret2
      exact ⟨rfl, hbA⟩
    · rw [uses23_out h]
      rcases (show a < 0 ∨ (0 ≤ a ∧ 6 < a) by omega) with h1 | ⟨h1, h2⟩
      all_goals
        clear h
        go_enter Tryz.func119, Tryz.ntmps119
        go_wp2_with (go_at_call 57; refine (between_any _ _ _ _).mono ?_; rintro e w1 ⟨rfl, rfl⟩)
        go_ret2
        exact ⟨rfl, hbA⟩
  case inr.inr.inr.inr.inr.inr.inr.inr.inr.inr.inr.inr.inr.inr.inr.inr.inr.inr.inr.inr.inr.inr.inr.inl =>
    subst h24
    by_cases h : 0 ≤ a ∧ a < fs.length
    · obtain ⟨k, rfl⟩ : ∃ k : Nat, a = k := ⟨a.toNat, by omega⟩
      have hk : k < fs.length := by omega
      rw [uses24_in hk]
      obtain ⟨b, off, ca, cc, rfl, -, d1, d2, d3, d4⟩ := hf k hk
      have d1' := cell_later hbA d1
      have g1 : (k : Int) ≤ (fs.length : Int) - 1 := by omega
      clear d1 d2 d3 d4 h hf
      go_enter Tryz.func119, Tryz.ntmps119
      go_wp2_with (go_at_call 57; refine (between_any _ _ _ _).mono ?_; rintro e w1 ⟨rfl, rfl⟩)
      go_ret2
      exact ⟨rfl, hbA⟩
    · rw [uses24_out h]
      rcases (show a < 0 ∨ (0 ≤ a ∧ (fs.length : Int) - 1 < a) by omega) with h1 | ⟨h1, h2⟩
      all_goals
        clear h
        go_enter Tryz.func119, Tryz.ntmps119
        go_wp2_with (go_at_call 57; refine (between_any _ _ _ _).mono ?_; rintro e w1 ⟨rfl, rfl⟩)
        go_ret2
        exact ⟨rfl, hbA⟩
  all_goals
    go_enter Tryz.func119, Tryz.ntmps119
    go_wp2_with (go_at_call 57; refine (between_any _ _ _ _).mono ?_; rintro e w1 ⟨rfl, rfl⟩)
    go_ret2
    exact ⟨rfl, hbA⟩
end Go.Proofs.YtmmcockkbhnopaaGreat
