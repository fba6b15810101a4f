/-
  impl.ActOk.
-/
import Derived.Test.YtedjabgkdogkfaaDoorAC0
import Derived.Deep.CutRange
import Derived.Deep.Cut
namespace Go.Proofs.YtedjabgkdogkfaaDoor
open Go.RowKit

set_option maxRecDepth 100000 in
set_option maxHeartbeats 8000000 in
theorem iAct_any (k a b l : Int) (s : Bool) (sa : Option Addr) (n cap : Nat) (w : World) (hL : LimAt w) (hn : n ≤ 1048576) :
    Calls Tryd.prog 15 #[.agg #[.int .i64 k, .int .i64 a, .int .i64 b, .int .i64 l, .bool s, .slice sa n cap]] w fun e w' => ActPost k a b l s n e ∧ Below w.heap.size w w' := by
  obtain ⟨W, hW⟩ : ∃ W, W = w.alloc (.cells #[.int .i64 k, .int .i64 a, .int .i64 b, .int .i64 l, .bool s, .slice sa n cap] 37) := ⟨_, rfl⟩
  have hA : W.heap[w.heap.size]? = some (.cells #[.int .i64 k, .int .i64 a, .int .i64 b, .int .i64 l, .bool s, .slice sa n cap] 37 (0, 0)) := by rw [hW]; exact block_new _ _ _
  have hb : Below w.heap.size w W := by rw [hW]; exact (Below.refl _ _).alloc (Nat.le_refl _) _
  have HB := hid hb
  have HLW := hid (hL.mono hb)
  have m0 := block_cell hA
  have hszW : 0 < W.heap.size := by rw [hW]; simp
  clear hL hb
  go_enter Tryd.func15, Tryd.ntmps15
  go_upto_region 1 with fail
  rw [← hW]
  clear hW
  go_wp2_with fail
  refine (betweenI_any _ _ _ _).mono ?_
  rintro e w1 ⟨rfl, hw1⟩
  rw [hw1]
  clear hw1 w1
  by_cases hk : 1 ≤ k ∧ k ≤ 5
  case neg =>
    have hq : (decide (1 ≤ k) && decide (k ≤ 5)) = false := by rw [Bool.eq_false_iff]; simp; omega
    rw [hq]
    have HN : Hid (¬ AOK k a b l s n) := by show ¬ _; unfold AOK; omega
    clear hk
    go_wp2
    go_ret
    exact ⟨ActPost.no HN.out, HB.out⟩
  have hq : (decide (1 ≤ k) && decide (k ≤ 5)) = true := by simp; omega
  rw [hq]
  clear hq
  obtain ⟨k', rfl⟩ : ∃ k' : Nat, k = (k' : Int) := ⟨k.toNat, by omega⟩
  have hk5 : k' = 1 ∨ k' = 2 ∨ k' = 3 ∨ k' = 4 ∨ k' = 5 := by omega
  clear hk
  rcases hk5 with rfl | rfl | rfl | rfl | rfl
  · obtain ⟨z1, z2, z3, z4, z5⟩ := HLW.out 1 (by decide)
    have t1 : W.cell? ⟨0, 1 * 5, none⟩ = some (.int .i64 500) := z1
    have t2 : W.cell? ⟨0, 1 * 5 + 1, none⟩ = some (.int .i64 0) := z2
    have t3 : W.cell? ⟨0, 1 * 5 + 2, none⟩ = some (.int .i64 0) := z3
    have t4 : W.cell? ⟨0, 1 * 5 + 3, none⟩ = some (.bool false) := z4
    have t5 : W.cell? ⟨0, 1 * 5 + 4, none⟩ = some (.int .i64 0) := z5
    clear z1 z2 z3 z4 z5
    go_upto_region 4 with fail
    have hbz : Below W.heap.size W (W.alloc (.cells #[.int .i64 500, .int .i64 0, .int .i64 0, .bool false, .int .i64 0] 55)) := (Below.refl _ _).alloc (Nat.le_refl _) _
    have n0 := block_cell (block_kept hA hbz)
    have n1 := block_cell (block_new W #[.int .i64 500, .int .i64 0, .int .i64 0, .bool false, .int .i64 0] 55)
    have HB2 : Hid (Below w.heap.size w (W.alloc (.cells #[.int .i64 500, .int .i64 0, .int .i64 0, .bool false, .int .i64 0] 55))) := HB.out.trans (hbz.mono HB.out.size)
    obtain ⟨W2, hW2⟩ : ∃ W2, W2 = W.alloc (.cells #[.int .i64 500, .int .i64 0, .int .i64 0, .bool false, .int .i64 0] 55) := ⟨_, rfl⟩
    rw [← hW2] at n0 n1 HB2 ⊢
    clear hW2 hbz hA m0 t1 t2 t3 t4 t5
    go_wp2_with fail
    refine (betweenI_any _ _ _ _).mono ?_
    rintro e w1 ⟨rfl, hw1⟩
    rw [hw1]
    clear hw1 w1
    by_cases ca : 0 ≤ a ∧ a ≤ 500
    case neg =>
      have hq : (decide (0 ≤ a) && decide (a ≤ 500)) = false := by rw [Bool.eq_false_iff]; simp; omega
      rw [hq]
      clear hq
      have HN : Hid (¬ AOK (1 : Nat) a b l s n) := by show ¬ AOK _ _ _ _ _ _; simp [AOK, *] <;> omega
      go_wp2
      go_ret
      exact ⟨ActPost.no HN.out, HB2.out⟩
    have hq : (decide (0 ≤ a) && decide (a ≤ 500)) = true := by simp; omega
    rw [hq]
    clear hq
    go_wp2_with fail
    refine (betweenI_any _ _ _ _).mono ?_
    rintro e w1 ⟨rfl, hw1⟩
    rw [hw1]
    clear hw1 w1
    by_cases cb : 0 ≤ b ∧ b ≤ 0
    case neg =>
      have hq : (decide (0 ≤ b) && decide (b ≤ 0)) = false := by rw [Bool.eq_false_iff]; simp; omega
      rw [hq]
      clear hq
      have HN : Hid (¬ AOK (1 : Nat) a b l s n) := by show ¬ AOK _ _ _ _ _ _; simp [AOK, *] <;> omega
      go_wp2
      go_ret
      exact ⟨ActPost.no HN.out, HB2.out⟩
    have hq : (decide (0 ≤ b) && decide (b ≤ 0)) = true := by simp; omega
    rw [hq]
    clear hq
    go_wp2_with fail
    refine (betweenI_any _ _ _ _).mono ?_
    rintro e w1 ⟨rfl, hw1⟩
    rw [hw1]
    clear hw1 w1
    by_cases cl : 0 ≤ l ∧ l ≤ 0
    case neg =>
      have hq : (decide (0 ≤ l) && decide (l ≤ 0)) = false := by rw [Bool.eq_false_iff]; simp; omega
      rw [hq]
      clear hq
      have HN : Hid (¬ AOK (1 : Nat) a b l s n) := by show ¬ AOK _ _ _ _ _ _; simp [AOK, *] <;> omega
      go_wp2
      go_ret
      exact ⟨ActPost.no HN.out, HB2.out⟩
    have hq : (decide (0 ≤ l) && decide (l ≤ 0)) = true := by simp; omega
    rw [hq]
    clear hq
    cases s with
    | true =>
      have HN : Hid (¬ AOK (1 : Nat) a b l true n) := by show ¬ AOK _ _ _ _ _ _; simp [AOK, *] <;> omega
      go_wp2
      go_ret
      exact ⟨ActPost.no HN.out, HB2.out⟩
    | false =>
      go_wp2
      go_ret
      refine ⟨⟨_, rfl, ?_⟩, HB2.out⟩
      show (decide _ = true) ↔ AOK (1 : Nat) a b l false n
      simp [AOK, *] <;> omega
  · obtain ⟨z1, z2, z3, z4, z5⟩ := HLW.out 2 (by decide)
    have t1 : W.cell? ⟨0, 2 * 5, none⟩ = some (.int .i64 11) := z1
    have t2 : W.cell? ⟨0, 2 * 5 + 1, none⟩ = some (.int .i64 0) := z2
    have t3 : W.cell? ⟨0, 2 * 5 + 2, none⟩ = some (.int .i64 3) := z3
    have t4 : W.cell? ⟨0, 2 * 5 + 3, none⟩ = some (.bool true) := z4
    have t5 : W.cell? ⟨0, 2 * 5 + 4, none⟩ = some (.int .i64 0) := z5
    clear z1 z2 z3 z4 z5
    go_upto_region 4 with fail
    have hbz : Below W.heap.size W (W.alloc (.cells #[.int .i64 11, .int .i64 0, .int .i64 3, .bool true, .int .i64 0] 55)) := (Below.refl _ _).alloc (Nat.le_refl _) _
    have n0 := block_cell (block_kept hA hbz)
    have n1 := block_cell (block_new W #[.int .i64 11, .int .i64 0, .int .i64 3, .bool true, .int .i64 0] 55)
    have HB2 : Hid (Below w.heap.size w (W.alloc (.cells #[.int .i64 11, .int .i64 0, .int .i64 3, .bool true, .int .i64 0] 55))) := HB.out.trans (hbz.mono HB.out.size)
    obtain ⟨W2, hW2⟩ : ∃ W2, W2 = W.alloc (.cells #[.int .i64 11, .int .i64 0, .int .i64 3, .bool true, .int .i64 0] 55) := ⟨_, rfl⟩
    rw [← hW2] at n0 n1 HB2 ⊢
    clear hW2 hbz hA m0 t1 t2 t3 t4 t5
    go_wp2_with fail
    refine (betweenI_any _ _ _ _).mono ?_
    rintro e w1 ⟨rfl, hw1⟩
    rw [hw1]
    clear hw1 w1
    by_cases ca : 0 ≤ a ∧ a ≤ 11
    case neg =>
      have hq : (decide (0 ≤ a) && decide (a ≤ 11)) = false := by rw [Bool.eq_false_iff]; simp; omega
      rw [hq]
      clear hq
      have HN : Hid (¬ AOK (2 : Nat) a b l s n) := by show ¬ AOK _ _ _ _ _ _; simp [AOK, *] <;> omega
      go_wp2
      go_ret
      exact ⟨ActPost.no HN.out, HB2.out⟩
    have hq : (decide (0 ≤ a) && decide (a ≤ 11)) = true := by simp; omega
    rw [hq]
    clear hq
    go_wp2_with fail
    refine (betweenI_any _ _ _ _).mono ?_
    rintro e w1 ⟨rfl, hw1⟩
    rw [hw1]
    clear hw1 w1
    by_cases cb : 0 ≤ b ∧ b ≤ 0
    case neg =>
      have hq : (decide (0 ≤ b) && decide (b ≤ 0)) = false := by rw [Bool.eq_false_iff]; simp; omega
      rw [hq]
      clear hq
      have HN : Hid (¬ AOK (2 : Nat) a b l s n) := by show ¬ AOK _ _ _ _ _ _; simp [AOK, *] <;> omega
      go_wp2
      go_ret
      exact ⟨ActPost.no HN.out, HB2.out⟩
    have hq : (decide (0 ≤ b) && decide (b ≤ 0)) = true := by simp; omega
    rw [hq]
    clear hq
    go_wp2_with fail
    refine (betweenI_any _ _ _ _).mono ?_
    rintro e w1 ⟨rfl, hw1⟩
    rw [hw1]
    clear hw1 w1
    by_cases cl : 0 ≤ l ∧ l ≤ 3
    case neg =>
      have hq : (decide (0 ≤ l) && decide (l ≤ 3)) = false := by rw [Bool.eq_false_iff]; simp; omega
      rw [hq]
      clear hq
      have HN : Hid (¬ AOK (2 : Nat) a b l s n) := by show ¬ AOK _ _ _ _ _ _; simp [AOK, *] <;> omega
      go_wp2
      go_ret
      exact ⟨ActPost.no HN.out, HB2.out⟩
    have hq : (decide (0 ≤ l) && decide (l ≤ 3)) = true := by simp; omega
    rw [hq]
    clear hq
    go_wp2
    go_ret
    refine ⟨⟨_, rfl, ?_⟩, HB2.out⟩
    show (decide _ = true) ↔ AOK (2 : Nat) a b l s n
    simp [AOK, *] <;> omega
  · obtain ⟨z1, z2, z3, z4, z5⟩ := HLW.out 3 (by decide)
    have t1 : W.cell? ⟨0, 3 * 5, none⟩ = some (.int .i64 11) := z1
    have t2 : W.cell? ⟨0, 3 * 5 + 1, none⟩ = some (.int .i64 119) := z2
    have t3 : W.cell? ⟨0, 3 * 5 + 2, none⟩ = some (.int .i64 3) := z3
    have t4 : W.cell? ⟨0, 3 * 5 + 3, none⟩ = some (.bool true) := z4
    have t5 : W.cell? ⟨0, 3 * 5 + 4, none⟩ = some (.int .i64 0) := z5
    clear z1 z2 z3 z4 z5
    go_upto_region 4 with fail
    have hbz : Below W.heap.size W (W.alloc (.cells #[.int .i64 11, .int .i64 119, .int .i64 3, .bool true, .int .i64 0] 55)) := (Below.refl _ _).alloc (Nat.le_refl _) _
    have n0 := block_cell (block_kept hA hbz)
    have n1 := block_cell (block_new W #[.int .i64 11, .int .i64 119, .int .i64 3, .bool true, .int .i64 0] 55)
    have HB2 : Hid (Below w.heap.size w (W.alloc (.cells #[.int .i64 11, .int .i64 119, .int .i64 3, .bool true, .int .i64 0] 55))) := HB.out.trans (hbz.mono HB.out.size)
    obtain ⟨W2, hW2⟩ : ∃ W2, W2 = W.alloc (.cells #[.int .i64 11, .int .i64 119, .int .i64 3, .bool true, .int .i64 0] 55) := ⟨_, rfl⟩
    rw [← hW2] at n0 n1 HB2 ⊢
    clear hW2 hbz hA m0 t1 t2 t3 t4 t5
    go_wp2_with fail
    refine (betweenI_any _ _ _ _).mono ?_
    rintro e w1 ⟨rfl, hw1⟩
    rw [hw1]
    clear hw1 w1
    by_cases ca : 0 ≤ a ∧ a ≤ 11
    case neg =>
      have hq : (decide (0 ≤ a) && decide (a ≤ 11)) = false := by rw [Bool.eq_false_iff]; simp; omega
      rw [hq]
      clear hq
      have HN : Hid (¬ AOK (3 : Nat) a b l s n) := by show ¬ AOK _ _ _ _ _ _; simp [AOK, *] <;> omega
      go_wp2
      go_ret
      exact ⟨ActPost.no HN.out, HB2.out⟩
    have hq : (decide (0 ≤ a) && decide (a ≤ 11)) = true := by simp; omega
    rw [hq]
    clear hq
    go_wp2_with fail
    refine (betweenI_any _ _ _ _).mono ?_
    rintro e w1 ⟨rfl, hw1⟩
    rw [hw1]
    clear hw1 w1
    by_cases cb : 0 ≤ b ∧ b ≤ 119
    case neg =>
      have hq : (decide (0 ≤ b) && decide (b ≤ 119)) = false := by rw [Bool.eq_false_iff]; simp; omega
      rw [hq]
      clear hq
      have HN : Hid (¬ AOK (3 : Nat) a b l s n) := by show ¬ AOK _ _ _ _ _ _; simp [AOK, *] <;> omega
      go_wp2
      go_ret
      exact ⟨ActPost.no HN.out, HB2.out⟩
    have hq : (decide (0 ≤ b) && decide (b ≤ 119)) = true := by simp; omega
    rw [hq]
    clear hq
    go_wp2_with fail
    refine (betweenI_any _ _ _ _).mono ?_
    rintro e w1 ⟨rfl, hw1⟩
    rw [hw1]
    clear hw1 w1
    by_cases cl : 0 ≤ l ∧ l ≤ 3
    case neg =>
      have hq : (decide (0 ≤ l) && decide (l ≤ 3)) = false := by rw [Bool.eq_false_iff]; simp; omega
      rw [hq]
      clear hq
      have HN : Hid (¬ AOK (3 : Nat) a b l s n) := by show ¬ AOK _ _ _ _ _ _; simp [AOK, *] <;> omega
      go_wp2
      go_ret
      exact ⟨ActPost.no HN.out, HB2.out⟩
    have hq : (decide (0 ≤ l) && decide (l ≤ 3)) = true := by simp; omega
    rw [hq]
    clear hq
    go_wp2
    go_ret
    refine ⟨⟨_, rfl, ?_⟩, HB2.out⟩
    show (decide _ = true) ↔ AOK (3 : Nat) a b l s n
    simp [AOK, *] <;> omega
  · obtain ⟨z1, z2, z3, z4, z5⟩ := HLW.out 4 (by decide)
    have t1 : W.cell? ⟨0, 4 * 5, none⟩ = some (.int .i64 11) := z1
    have t2 : W.cell? ⟨0, 4 * 5 + 1, none⟩ = some (.int .i64 0) := z2
    have t3 : W.cell? ⟨0, 4 * 5 + 2, none⟩ = some (.int .i64 0) := z3
    have t4 : W.cell? ⟨0, 4 * 5 + 3, none⟩ = some (.bool false) := z4
    have t5 : W.cell? ⟨0, 4 * 5 + 4, none⟩ = some (.int .i64 0) := z5
    clear z1 z2 z3 z4 z5
    go_upto_region 4 with fail
    have hbz : Below W.heap.size W (W.alloc (.cells #[.int .i64 11, .int .i64 0, .int .i64 0, .bool false, .int .i64 0] 55)) := (Below.refl _ _).alloc (Nat.le_refl _) _
    have n0 := block_cell (block_kept hA hbz)
    have n1 := block_cell (block_new W #[.int .i64 11, .int .i64 0, .int .i64 0, .bool false, .int .i64 0] 55)
    have HB2 : Hid (Below w.heap.size w (W.alloc (.cells #[.int .i64 11, .int .i64 0, .int .i64 0, .bool false, .int .i64 0] 55))) := HB.out.trans (hbz.mono HB.out.size)
    obtain ⟨W2, hW2⟩ : ∃ W2, W2 = W.alloc (.cells #[.int .i64 11, .int .i64 0, .int .i64 0, .bool false, .int .i64 0] 55) := ⟨_, rfl⟩
    rw [← hW2] at n0 n1 HB2 ⊢
    clear hW2 hbz hA m0 t1 t2 t3 t4 t5
    go_wp2_with fail
    refine (betweenI_any _ _ _ _).mono ?_
    rintro e w1 ⟨rfl, hw1⟩
    rw [hw1]
    clear hw1 w1
    by_cases ca : 0 ≤ a ∧ a ≤ 11
    case neg =>
      have hq : (decide (0 ≤ a) && decide (a ≤ 11)) = false := by rw [Bool.eq_false_iff]; simp; omega
      rw [hq]
      clear hq
      have HN : Hid (¬ AOK (4 : Nat) a b l s n) := by show ¬ AOK _ _ _ _ _ _; simp [AOK, *] <;> omega
      go_wp2
      go_ret
      exact ⟨ActPost.no HN.out, HB2.out⟩
    have hq : (decide (0 ≤ a) && decide (a ≤ 11)) = true := by simp; omega
    rw [hq]
    clear hq
    go_wp2_with fail
    refine (betweenI_any _ _ _ _).mono ?_
    rintro e w1 ⟨rfl, hw1⟩
    rw [hw1]
    clear hw1 w1
    by_cases cb : 0 ≤ b ∧ b ≤ 0
    case neg =>
      have hq : (decide (0 ≤ b) && decide (b ≤ 0)) = false := by rw [Bool.eq_false_iff]; simp; omega
      rw [hq]
      clear hq
      have HN : Hid (¬ AOK (4 : Nat) a b l s n) := by show ¬ AOK _ _ _ _ _ _; simp [AOK, *] <;> omega
      go_wp2
      go_ret
      exact ⟨ActPost.no HN.out, HB2.out⟩
    have hq : (decide (0 ≤ b) && decide (b ≤ 0)) = true := by simp; omega
    rw [hq]
    clear hq
    go_wp2_with fail
    refine (betweenI_any _ _ _ _).mono ?_
    rintro e w1 ⟨rfl, hw1⟩
    rw [hw1]
    clear hw1 w1
    by_cases cl : 0 ≤ l ∧ l ≤ 0
    case neg =>
      have hq : (decide (0 ≤ l) && decide (l ≤ 0)) = false := by rw [Bool.eq_false_iff]; simp; omega
      rw [hq]
      clear hq
      have HN : Hid (¬ AOK (4 : Nat) a b l s n) := by show ¬ AOK _ _ _ _ _ _; simp [AOK, *] <;> omega
      go_wp2
      go_ret
      exact ⟨ActPost.no HN.out, HB2.out⟩
    have hq : (decide (0 ≤ l) && decide (l ≤ 0)) = true := by simp; omega
    rw [hq]
    clear hq
    cases s with
    | true =>
      have HN : Hid (¬ AOK (4 : Nat) a b l true n) := by show ¬ AOK _ _ _ _ _ _; simp [AOK, *] <;> omega
      go_wp2
      go_ret
      exact ⟨ActPost.no HN.out, HB2.out⟩
    | false =>
      go_wp2
      go_ret
      refine ⟨⟨_, rfl, ?_⟩, HB2.out⟩
      show (decide _ = true) ↔ AOK (4 : Nat) a b l false n
      simp [AOK, *] <;> omega
  · obtain ⟨z1, z2, z3, z4, z5⟩ := HLW.out 5 (by decide)
    have t1 : W.cell? ⟨0, 5 * 5, none⟩ = some (.int .i64 0) := z1
    have t2 : W.cell? ⟨0, 5 * 5 + 1, none⟩ = some (.int .i64 0) := z2
    have t3 : W.cell? ⟨0, 5 * 5 + 2, none⟩ = some (.int .i64 0) := z3
    have t4 : W.cell? ⟨0, 5 * 5 + 3, none⟩ = some (.bool false) := z4
    have t5 : W.cell? ⟨0, 5 * 5 + 4, none⟩ = some (.int .i64 150) := z5
    clear z1 z2 z3 z4 z5
    go_upto_region 4 with fail
    have hbz : Below W.heap.size W (W.alloc (.cells #[.int .i64 0, .int .i64 0, .int .i64 0, .bool false, .int .i64 150] 55)) := (Below.refl _ _).alloc (Nat.le_refl _) _
    have n0 := block_cell (block_kept hA hbz)
    have n1 := block_cell (block_new W #[.int .i64 0, .int .i64 0, .int .i64 0, .bool false, .int .i64 150] 55)
    have HB2 : Hid (Below w.heap.size w (W.alloc (.cells #[.int .i64 0, .int .i64 0, .int .i64 0, .bool false, .int .i64 150] 55))) := HB.out.trans (hbz.mono HB.out.size)
    obtain ⟨W2, hW2⟩ : ∃ W2, W2 = W.alloc (.cells #[.int .i64 0, .int .i64 0, .int .i64 0, .bool false, .int .i64 150] 55) := ⟨_, rfl⟩
    rw [← hW2] at n0 n1 HB2 ⊢
    clear hW2 hbz hA m0 t1 t2 t3 t4 t5
    go_wp2_with fail
    refine (betweenI_any _ _ _ _).mono ?_
    rintro e w1 ⟨rfl, hw1⟩
    rw [hw1]
    clear hw1 w1
    by_cases ca : 0 ≤ a ∧ a ≤ 0
    case neg =>
      have hq : (decide (0 ≤ a) && decide (a ≤ 0)) = false := by rw [Bool.eq_false_iff]; simp; omega
      rw [hq]
      clear hq
      have HN : Hid (¬ AOK (5 : Nat) a b l s n) := by show ¬ AOK _ _ _ _ _ _; simp [AOK, *] <;> omega
      go_wp2
      go_ret
      exact ⟨ActPost.no HN.out, HB2.out⟩
    have hq : (decide (0 ≤ a) && decide (a ≤ 0)) = true := by simp; omega
    rw [hq]
    clear hq
    go_wp2_with fail
    refine (betweenI_any _ _ _ _).mono ?_
    rintro e w1 ⟨rfl, hw1⟩
    rw [hw1]
    clear hw1 w1
    by_cases cb : 0 ≤ b ∧ b ≤ 0
    case neg =>
      have hq : (decide (0 ≤ b) && decide (b ≤ 0)) = false := by rw [Bool.eq_false_iff]; simp; omega
      rw [hq]
      clear hq
      have HN : Hid (¬ AOK (5 : Nat) a b l s n) := by show ¬ AOK _ _ _ _ _ _; simp [AOK, *] <;> omega
      go_wp2
      go_ret
      exact ⟨ActPost.no HN.out, HB2.out⟩
    have hq : (decide (0 ≤ b) && decide (b ≤ 0)) = true := by simp; omega
    rw [hq]
    clear hq
    go_wp2_with fail
    refine (betweenI_any _ _ _ _).mono ?_
    rintro e w1 ⟨rfl, hw1⟩
    rw [hw1]
    clear hw1 w1
    by_cases cl : 0 ≤ l ∧ l ≤ 0
    case neg =>
      have hq : (decide (0 ≤ l) && decide (l ≤ 0)) = false := by rw [Bool.eq_false_iff]; simp; omega
      rw [hq]
      clear hq
      have HN : Hid (¬ AOK (5 : Nat) a b l s n) := by show ¬ AOK _ _ _ _ _ _; simp [AOK, *] <;> omega
      go_wp2
      go_ret
      exact ⟨ActPost.no HN.out, HB2.out⟩
    have hq : (decide (0 ≤ l) && decide (l ≤ 0)) = true := by simp; omega
    rw [hq]
    clear hq
    cases s with
    | true =>
      have HN : Hid (¬ AOK (5 : Nat) a b l true n) := by show ¬ AOK _ _ _ _ _ _; simp [AOK, *] <;> omega
      go_wp2
      go_ret
      exact ⟨ActPost.no HN.out, HB2.out⟩
    | false =>
      go_wp2
      go_ret
      refine ⟨⟨_, rfl, ?_⟩, HB2.out⟩
      show (decide _ = true) ↔ AOK (5 : Nat) a b l false n
      simp [AOK, *] <;> omega
end Go.Proofs.YtedjabgkdogkfaaDoor
