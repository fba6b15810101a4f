/-
  The document's ActOk.
-/
import Derived.Test.YtedjabgkdogkfaaDoorAC1
namespace Go.Proofs.YtedjabgkdogkfaaDoor
open Go.RowKit

set_option maxRecDepth 100000 in
set_option maxHeartbeats 8000000 in
theorem sAct_any (k a b l : Int) (s : Bool) (sa : Option Addr) (n cap : Nat) (w : World) (hn : n ≤ 1048576) :
    Calls Tryd.prog 10 #[.agg #[.int .i64 k, .int .i64 a, .int .i64 b, .int .i64 l, .bool s, .slice sa n cap]] w fun e w' => ActPost k a b l s n e ∧ Below w.heap.size w w' := by
  obtain ⟨W, hW⟩ : ∃ W, W = w.alloc (.cells #[.int .i64 k, .int .i64 a, .int .i64 b, .int .i64 l, .bool s, .slice sa n cap] 37) := ⟨_, rfl⟩
  have hA : W.heap[w.heap.size]? = some (.cells #[.int .i64 k, .int .i64 a, .int .i64 b, .int .i64 l, .bool s, .slice sa n cap] 37 (0, 0)) := by rw [hW]; exact block_new _ _ _
  have hb : Below w.heap.size w W := by rw [hW]; exact (Below.refl _ _).alloc (Nat.le_refl _) _
  have HB2 := hid hb
  have n0 := block_cell hA
  clear hb hA
  go_enter Tryd.func10, Tryd.ntmps10
  go_upto_region 1 with fail
  rw [← hW]
  clear hW
  by_cases k1 : k = 1
  · subst k1
    go_wp2_with fail
    refine (between_any _ _ _ _).mono ?_
    rintro e w1 ⟨rfl, hw1⟩
    rw [hw1]
    clear hw1 w1
    by_cases ca : 0 ≤ a ∧ a ≤ 500
    case neg =>
      have hq : (decide (0 ≤ a) && decide (a ≤ 500)) = false := by rw [Bool.eq_false_iff]; simp; omega
      rw [hq]
      clear hq
      have HN : Hid (¬ AOK 1 a b l s n) := by show ¬ AOK _ _ _ _ _ _; simp [AOK, *] <;> omega
      go_wp2
      go_ret
      exact ⟨ActPost.no HN.out, HB2.out⟩
    have hq : (decide (0 ≤ a) && decide (a ≤ 500)) = true := by simp; omega
    rw [hq]
    clear hq
    by_cases cb : b = 0
    case neg =>
      have eb : (b == 0) = false := beq_eq_false_iff_ne.2 cb
      have HN : Hid (¬ AOK 1 a b l s n) := by show ¬ AOK _ _ _ _ _ _; simp [AOK, *] <;> omega
      go_wp2
      go_ret
      exact ⟨ActPost.no HN.out, HB2.out⟩
    have eb : (b == 0) = true := by rw [cb]; rfl
    by_cases cl : l = 0
    case neg =>
      have el : (l == 0) = false := beq_eq_false_iff_ne.2 cl
      have HN : Hid (¬ AOK 1 a b l s n) := by show ¬ AOK _ _ _ _ _ _; simp [AOK, *] <;> omega
      go_wp2
      go_ret
      exact ⟨ActPost.no HN.out, HB2.out⟩
    have el : (l == 0) = true := by rw [cl]; rfl
    cases s with
    | true =>
      have HN : Hid (¬ AOK 1 a b l true n) := by show ¬ AOK _ _ _ _ _ _; simp [AOK, *] <;> omega
      go_wp2
      go_ret
      exact ⟨ActPost.no HN.out, HB2.out⟩
    | false =>
      go_wp2
      go_ret
      refine ⟨⟨_, rfl, ?_⟩, HB2.out⟩
      show (_ = true) ↔ AOK 1 a b l false n
      simp [AOK, *] <;> omega
  have f1 : (k == 1) = false := beq_eq_false_iff_ne.2 k1
  by_cases k2 : k = 2
  · subst k2
    clear k1
    go_wp2_with fail
    refine (between_any _ _ _ _).mono ?_
    rintro e w1 ⟨rfl, hw1⟩
    rw [hw1]
    clear hw1 w1
    by_cases ca : 0 ≤ a ∧ a ≤ 11
    case neg =>
      have hq : (decide (0 ≤ a) && decide (a ≤ 11)) = false := by rw [Bool.eq_false_iff]; simp; omega
      rw [hq]
      clear hq
      have HN : Hid (¬ AOK 2 a b l s n) := by show ¬ AOK _ _ _ _ _ _; simp [AOK, *] <;> omega
      go_wp2
      go_ret
      exact ⟨ActPost.no HN.out, HB2.out⟩
    have hq : (decide (0 ≤ a) && decide (a ≤ 11)) = true := by simp; omega
    rw [hq]
    clear hq
    by_cases cb : b = 0
    case neg =>
      have eb : (b == 0) = false := beq_eq_false_iff_ne.2 cb
      have HN : Hid (¬ AOK 2 a b l s n) := by show ¬ AOK _ _ _ _ _ _; simp [AOK, *] <;> omega
      go_wp2
      go_ret
      exact ⟨ActPost.no HN.out, HB2.out⟩
    have eb : (b == 0) = true := by rw [cb]; rfl
    go_wp2_with fail
    refine (between_any _ _ _ _).mono ?_
    rintro e w1 ⟨rfl, hw1⟩
    rw [hw1]
    clear hw1 w1
    by_cases cl : 0 ≤ l ∧ l ≤ 3
    case neg =>
      have hq : (decide (0 ≤ l) && decide (l ≤ 3)) = false := by rw [Bool.eq_false_iff]; simp; omega
      rw [hq]
      clear hq
      have HN : Hid (¬ AOK 2 a b l s n) := by show ¬ AOK _ _ _ _ _ _; simp [AOK, *] <;> omega
      go_wp2
      go_ret
      exact ⟨ActPost.no HN.out, HB2.out⟩
    have hq : (decide (0 ≤ l) && decide (l ≤ 3)) = true := by simp; omega
    rw [hq]
    clear hq
    go_wp2
    go_ret
    refine ⟨⟨_, rfl, ?_⟩, HB2.out⟩
    show (_ = true) ↔ AOK 2 a b l s n
    simp [AOK, *] <;> omega
  have f2 : (k == 2) = false := beq_eq_false_iff_ne.2 k2
  by_cases k3 : k = 3
  · subst k3
    clear k1
    clear k2
    go_wp2_with fail
    refine (between_any _ _ _ _).mono ?_
    rintro e w1 ⟨rfl, hw1⟩
    rw [hw1]
    clear hw1 w1
    by_cases ca : 0 ≤ a ∧ a ≤ 11
    case neg =>
      have hq : (decide (0 ≤ a) && decide (a ≤ 11)) = false := by rw [Bool.eq_false_iff]; simp; omega
      rw [hq]
      clear hq
      have HN : Hid (¬ AOK 3 a b l s n) := by show ¬ AOK _ _ _ _ _ _; simp [AOK, *] <;> omega
      go_wp2
      go_ret
      exact ⟨ActPost.no HN.out, HB2.out⟩
    have hq : (decide (0 ≤ a) && decide (a ≤ 11)) = true := by simp; omega
    rw [hq]
    clear hq
    go_wp2_with fail
    refine (between_any _ _ _ _).mono ?_
    rintro e w1 ⟨rfl, hw1⟩
    rw [hw1]
    clear hw1 w1
    by_cases cb : 0 ≤ b ∧ b ≤ 119
    case neg =>
      have hq : (decide (0 ≤ b) && decide (b ≤ 119)) = false := by rw [Bool.eq_false_iff]; simp; omega
      rw [hq]
      clear hq
      have HN : Hid (¬ AOK 3 a b l s n) := by show ¬ AOK _ _ _ _ _ _; simp [AOK, *] <;> omega
      go_wp2
      go_ret
      exact ⟨ActPost.no HN.out, HB2.out⟩
    have hq : (decide (0 ≤ b) && decide (b ≤ 119)) = true := by simp; omega
    rw [hq]
    clear hq
    go_wp2_with fail
    refine (between_any _ _ _ _).mono ?_
    rintro e w1 ⟨rfl, hw1⟩
    rw [hw1]
    clear hw1 w1
    by_cases cl : 0 ≤ l ∧ l ≤ 3
    case neg =>
      have hq : (decide (0 ≤ l) && decide (l ≤ 3)) = false := by rw [Bool.eq_false_iff]; simp; omega
      rw [hq]
      clear hq
      have HN : Hid (¬ AOK 3 a b l s n) := by show ¬ AOK _ _ _ _ _ _; simp [AOK, *] <;> omega
      go_wp2
      go_ret
      exact ⟨ActPost.no HN.out, HB2.out⟩
    have hq : (decide (0 ≤ l) && decide (l ≤ 3)) = true := by simp; omega
    rw [hq]
    clear hq
    go_wp2
    go_ret
    refine ⟨⟨_, rfl, ?_⟩, HB2.out⟩
    show (_ = true) ↔ AOK 3 a b l s n
    simp [AOK, *] <;> omega
  have f3 : (k == 3) = false := beq_eq_false_iff_ne.2 k3
  by_cases k4 : k = 4
  · subst k4
    clear k1
    clear k2
    clear k3
    go_wp2_with fail
    refine (between_any _ _ _ _).mono ?_
    rintro e w1 ⟨rfl, hw1⟩
    rw [hw1]
    clear hw1 w1
    by_cases ca : 0 ≤ a ∧ a ≤ 11
    case neg =>
      have hq : (decide (0 ≤ a) && decide (a ≤ 11)) = false := by rw [Bool.eq_false_iff]; simp; omega
      rw [hq]
      clear hq
      have HN : Hid (¬ AOK 4 a b l s n) := by show ¬ AOK _ _ _ _ _ _; simp [AOK, *] <;> omega
      go_wp2
      go_ret
      exact ⟨ActPost.no HN.out, HB2.out⟩
    have hq : (decide (0 ≤ a) && decide (a ≤ 11)) = true := by simp; omega
    rw [hq]
    clear hq
    by_cases cb : b = 0
    case neg =>
      have eb : (b == 0) = false := beq_eq_false_iff_ne.2 cb
      have HN : Hid (¬ AOK 4 a b l s n) := by show ¬ AOK _ _ _ _ _ _; simp [AOK, *] <;> omega
      go_wp2
      go_ret
      exact ⟨ActPost.no HN.out, HB2.out⟩
    have eb : (b == 0) = true := by rw [cb]; rfl
    by_cases cl : l = 0
    case neg =>
      have el : (l == 0) = false := beq_eq_false_iff_ne.2 cl
      have HN : Hid (¬ AOK 4 a b l s n) := by show ¬ AOK _ _ _ _ _ _; simp [AOK, *] <;> omega
      go_wp2
      go_ret
      exact ⟨ActPost.no HN.out, HB2.out⟩
    have el : (l == 0) = true := by rw [cl]; rfl
    cases s with
    | true =>
      have HN : Hid (¬ AOK 4 a b l true n) := by show ¬ AOK _ _ _ _ _ _; simp [AOK, *] <;> omega
      go_wp2
      go_ret
      exact ⟨ActPost.no HN.out, HB2.out⟩
    | false =>
      go_wp2
      go_ret
      refine ⟨⟨_, rfl, ?_⟩, HB2.out⟩
      show (_ = true) ↔ AOK 4 a b l false n
      simp [AOK, *] <;> omega
  have f4 : (k == 4) = false := beq_eq_false_iff_ne.2 k4
  by_cases k5 : k = 5
  · subst k5
    clear k1
    clear k2
    clear k3
    clear k4
    by_cases ca : a = 0
    case neg =>
      have ea : (a == 0) = false := beq_eq_false_iff_ne.2 ca
      have HN : Hid (¬ AOK 5 a b l s n) := by show ¬ AOK _ _ _ _ _ _; simp [AOK, *] <;> omega
      go_wp2
      go_ret
      exact ⟨ActPost.no HN.out, HB2.out⟩
    have ea : (a == 0) = true := by rw [ca]; rfl
    by_cases cb : b = 0
    case neg =>
      have eb : (b == 0) = false := beq_eq_false_iff_ne.2 cb
      have HN : Hid (¬ AOK 5 a b l s n) := by show ¬ AOK _ _ _ _ _ _; simp [AOK, *] <;> omega
      go_wp2
      go_ret
      exact ⟨ActPost.no HN.out, HB2.out⟩
    have eb : (b == 0) = true := by rw [cb]; rfl
    by_cases cl : l = 0
    case neg =>
      have el : (l == 0) = false := beq_eq_false_iff_ne.2 cl
      have HN : Hid (¬ AOK 5 a b l s n) := by show ¬ AOK _ _ _ _ _ _; simp [AOK, *] <;> omega
      go_wp2
      go_ret
      exact ⟨ActPost.no HN.out, HB2.out⟩
    have el : (l == 0) = true := by rw [cl]; rfl
    cases s with
    | true =>
      have HN : Hid (¬ AOK 5 a b l true n) := by show ¬ AOK _ _ _ _ _ _; simp [AOK, *] <;> omega
      go_wp2
      go_ret
      exact ⟨ActPost.no HN.out, HB2.out⟩
    | false =>
      go_wp2
      go_ret
      refine ⟨⟨_, rfl, ?_⟩, HB2.out⟩
      show (_ = true) ↔ AOK 5 a b l false n
      simp [AOK, *] <;> omega
  have f5 : (k == 5) = false := beq_eq_false_iff_ne.2 k5
  have HN : Hid (¬ AOK k a b l s n) := by show ¬ AOK _ _ _ _ _ _; unfold AOK; omega
  clear k1 k2 k3 k4 k5
  go_wp2
  go_ret
  exact ⟨ActPost.no HN.out, HB2.out⟩
end Go.Proofs.YtedjabgkdogkfaaDoor
