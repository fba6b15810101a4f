/-
  Values: the law on NotOf, walked.
-/
import Derived.Test.YtlpbolchedngoabDoorH1
import Derived.Test.YtlpbolchedngoabDoorE1s
namespace Go.Proofs.YtlpbolchedngoabDoor
open Go.RowKit Go.Extern.Stop Go.Stop Go.Extern

set_option maxRecDepth 100000 in
set_option maxHeartbeats 1000000 in
theorem lawNot_ok (n : Int) (s : ByteArray) (a0 a1 a2 : Addr) (w : World) (h : Errs w a0 a1 a2) (hs : s.size ≤ maxLen) :
    Calls Tryd.prog 3 #[.agg #[.int .i64 2, .int .i64 n, .string s]] w fun e w' => e = .returned (.bool true) ∧ Below w.heap.size w w' := by
  have hA : Below w.heap.size w (w.alloc (.cells #[.int .i64 2, .int .i64 n, .string s] 23)) := (Below.refl _ _).alloc (Nat.le_refl _) _
  by_cases c1 : (1048576 : Int) < (s.size : Int)
  · go_enter Tryd.func3, Tryd.ntmps3
    go_wp2_with fail
    refine (szVal_any _ _ _ _ _ (by omega) (by omega) hs).mono ?_
    rintro e w1 ⟨rfl, hb⟩
    rw [if_pos (by omega)]
    go_wp2
    go_ret
    exact ⟨rfl, hA.trans (hb.mono hA.size)⟩
  go_enter Tryd.func3, Tryd.ntmps3
  go_wp2_with fail
  refine (szVal_any _ _ _ _ _ (by omega) (by omega) hs).mono ?_
  rintro e w1 ⟨rfl, hb⟩
  rw [if_neg (by omega)]
  have hx := block_kept (block_new w #[.int .i64 2, .int .i64 n, .string s] 23) hb
  have hB := hA.trans (hb.mono hA.size)
  have x0 := block_cell hx
  have l1 : ¬ (1048576 - (s.size : Int)) < 0 := by omega
  clear hb hA hs c1
  go_wp2_with fail
  clear l1
  refine (toValue_any _ _ _ _).mono ?_
  rintro e w2 ⟨rfl, hb2⟩
  have hx2 := block_kept hx hb2
  have hB2 := hB.trans (hb2.mono hB.size)
  clear x0
  go_wp2_with fail
  refine (sNot_ok _ _ _).mono ?_
  rintro e w3 ⟨rfl, hb3⟩
  have hx3 := block_kept hx2 hb3
  have hB3 := hB2.trans (hb3.mono hB2.size)
  have x3 := fun C => block_cell (block_kept hx3 ((Below.refl _ _).alloc (Nat.le_refl _) (.cells C 25)))
  go_wp2_with fail
  have hG := block_new w3 #[.int .i64 (2), .int .i64 (tr (n != 1)), .string (⟨#[]⟩)] 25
  have hb4 : Below w3.heap.size w3 (w3.alloc (.cells #[.int .i64 (2), .int .i64 (tr (n != 1)), .string (⟨#[]⟩)] 25)) := (Below.refl _ _).alloc (Nat.le_refl _) _
  have hB4 := hB3.trans (hb4.mono hB3.size)
  refine (toValue_any _ _ _ _).mono ?_
  rintro e w5 ⟨rfl, hb5⟩
  have hG5 := block_kept hG hb5
  have hB5 := hB4.trans (hb5.mono hB4.size)
  have hE5 := h.later hB5
  clear x3
  go_wp2_with fail
  refine (iNot_ok _ _ _).mono ?_
  rintro e w6 ⟨rfl, hb6⟩
  have hG6 := block_kept hG5 hb6
  have hB6 := hB5.trans (hb6.mono hB5.size)
  have g6 := block_cell (block_kept hG6 ((Below.refl _ _).alloc (Nat.le_refl _) (.cells #[.int .i64 (2), .int .i64 (tr (n != 1)), .string (⟨#[]⟩)] 25)))
  have hB7 : Below w.heap.size w (w6.alloc (.cells #[.int .i64 (2), .int .i64 (tr (n != 1)), .string (⟨#[]⟩)] 25)) := hB6.alloc hB6.size _
  clear hE5 hB5 hB4 hB3 hB2 hB hb2 hb3 hb4 hb5 hb6 hx hx2 hx3 hG hG5
  go_wp2_with fail
  refine (eqValue_same _ _ _ _).mono ?_
  rintro e w8 ⟨rfl, hb8⟩
  clear g6
  go_wp2
  go_ret
  exact ⟨rfl, hB7.trans (hb8.mono hB7.size)⟩

set_option maxRecDepth 100000 in
set_option maxHeartbeats 1000000 in
theorem lawNot_type (k n : Int) (s : ByteArray) (a0 a1 a2 : Addr) (w : World) (h : Errs w a0 a1 a2) (hs : s.size ≤ maxLen) (hk2 : k ≠ 2) :
    Calls Tryd.prog 3 #[.agg #[.int .i64 k, .int .i64 n, .string s]] w fun e w' => e = .returned (.bool true) ∧ Below w.heap.size w w' := by
  have hA : Below w.heap.size w (w.alloc (.cells #[.int .i64 k, .int .i64 n, .string s] 23)) := (Below.refl _ _).alloc (Nat.le_refl _) _
  by_cases c1 : (1048576 : Int) < (s.size : Int)
  · go_enter Tryd.func3, Tryd.ntmps3
    go_wp2_with fail
    refine (szVal_any _ _ _ _ _ (by omega) (by omega) hs).mono ?_
    rintro e w1 ⟨rfl, hb⟩
    rw [if_pos (by omega)]
    go_wp2
    go_ret
    exact ⟨rfl, hA.trans (hb.mono hA.size)⟩
  go_enter Tryd.func3, Tryd.ntmps3
  go_wp2_with fail
  refine (szVal_any _ _ _ _ _ (by omega) (by omega) hs).mono ?_
  rintro e w1 ⟨rfl, hb⟩
  rw [if_neg (by omega)]
  have hx := block_kept (block_new w #[.int .i64 k, .int .i64 n, .string s] 23) hb
  have hB := hA.trans (hb.mono hA.size)
  have x0 := block_cell hx
  have l1 : ¬ (1048576 - (s.size : Int)) < 0 := by omega
  clear hb hA hs c1
  go_wp2_with fail
  clear l1
  refine (toValue_any _ _ _ _).mono ?_
  rintro e w2 ⟨rfl, hb2⟩
  have hx2 := block_kept hx hb2
  have hB2 := hB.trans (hb2.mono hB.size)
  clear x0
  go_wp2_with fail
  refine (sNot_type _ _ _ _ hk2).mono ?_
  rintro e w3 ⟨rfl, hb3⟩
  have hx3 := block_kept hx2 hb3
  have hB3 := hB2.trans (hb3.mono hB2.size)
  have x3 := fun C => block_cell (block_kept hx3 ((Below.refl _ _).alloc (Nat.le_refl _) (.cells C 25)))
  go_wp2_with fail
  have hG := block_new w3 #[.int .i64 (0), .int .i64 (0), .string (⟨#[]⟩)] 25
  have hb4 : Below w3.heap.size w3 (w3.alloc (.cells #[.int .i64 (0), .int .i64 (0), .string (⟨#[]⟩)] 25)) := (Below.refl _ _).alloc (Nat.le_refl _) _
  have hB4 := hB3.trans (hb4.mono hB3.size)
  refine (toValue_any _ _ _ _).mono ?_
  rintro e w5 ⟨rfl, hb5⟩
  have hG5 := block_kept hG hb5
  have hB5 := hB4.trans (hb5.mono hB4.size)
  have hE5 := h.later hB5
  clear x3
  go_wp2_with fail
  refine (iNot_type _ _ _ a0 a1 a2 _ hE5 hk2).mono ?_
  rintro e w6 ⟨rfl, hb6⟩
  have hG6 := block_kept hG5 hb6
  have hB6 := hB5.trans (hb6.mono hB5.size)
  have g6 := block_cell (block_kept hG6 ((Below.refl _ _).alloc (Nat.le_refl _) (.cells #[.int .i64 (0), .int .i64 (0), .string (⟨#[]⟩)] 25)))
  have hB7 : Below w.heap.size w (w6.alloc (.cells #[.int .i64 (0), .int .i64 (0), .string (⟨#[]⟩)] 25)) := hB6.alloc hB6.size _
  clear hE5 hB5 hB4 hB3 hB2 hB hb2 hb3 hb4 hb5 hb6 hx hx2 hx3 hG hG5
  go_wp2_with fail
  refine (eqValue_same _ _ _ _).mono ?_
  rintro e w8 ⟨rfl, hb8⟩
  clear g6
  go_wp2
  go_ret
  exact ⟨rfl, hB7.trans (hb8.mono hB7.size)⟩

theorem lawNot (k n : Int) (s : ByteArray) (a0 a1 a2 : Addr) (w : World) (h : Errs w a0 a1 a2) (hs : s.size ≤ maxLen) :
    Calls Tryd.prog 3 #[.agg #[.int .i64 k, .int .i64 n, .string s]] w fun e w' => e = .returned (.bool true) ∧ Below w.heap.size w w' := by
  by_cases hk : k = 2
  · subst hk
    exact lawNot_ok n s a0 a1 a2 w h hs
  · exact lawNot_type k n s a0 a1 a2 w h hs hk
end Go.Proofs.YtlpbolchedngoabDoor
