/-
  The line of an act, as the document's l18Line has it.
-/
import Derived.Test.YtedjabgkdogkfaaDoorST0
import Derived.Test.YtedjabgkdogkfaaDoorYq
import Derived.Deep.CutBlock
namespace Go.Proofs.YtedjabgkdogkfaaDoor
open Go.RowKit

set_option maxRecDepth 100000 in
set_option maxHeartbeats 2000000 in
theorem sline_run (a b l : Int) (s : Bool) (ss : List Si) (sa : Option Addr) (cap : Nat) (w : World) (ra : inR a) :
    Calls Tryd.prog 11 #[.agg #[.int .i64 1, .int .i64 a, .int .i64 b, .int .i64 l, .bool s, .slice sa ss.length cap]] w fun e w' => e = .returned (.string (lineJ (actW ⟨1, a, b, l, s, ss⟩))) ∧ Below w.heap.size w w' := by
  have HE : Hid (lineJ (actW ⟨1, a, b, l, s, ss⟩) = ⟨#[114, 117, 110, 32]⟩ ++ numText a) := by
    show lineJ (⟨#[114, 117, 110]⟩ :: [numText a]) = _
    rw [lineJ_cons, show (⟨#[114, 117, 110, 32]⟩ : ByteArray) = ⟨#[114, 117, 110]⟩ ++ ⟨#[32]⟩ from rfl]
    rfl
  have hb : Below w.heap.size w (w.alloc (.cells #[.int .i64 1, .int .i64 a, .int .i64 b, .int .i64 l, .bool s, .slice sa ss.length cap] 37)) := (Below.refl _ _).alloc (Nat.le_refl _) _
  have m0 := block_cell (block_new w #[.int .i64 1, .int .i64 a, .int .i64 b, .int .i64 l, .bool s, .slice sa ss.length cap] 37)
  have HD : Hid (∀ w', Calls Tryd.prog 22 #[.int .i64 a] w' fun e w'' => e = .returned (.string (numText a)) ∧ Below w'.heap.size w' w'') := fun w' => sDigits_any a ra.1 ra.2 w'
  have hz := num_small a ra
  have HB := hid hb
  rw [HE.out]
  generalize numText a = t at *
  clear HE hb
  have q : ¬ 9223372036854775807 < 4 + t.size := by omega
  cases s
  all_goals
    go_enter Tryd.func11, Tryd.ntmps11
    go_wp2_with fail
    refine (HD.out _).mono ?_
    rintro e w1 ⟨rfl, hb1⟩
    have hB := HB.out.trans (hb1.mono HB.out.size)
    clear hb1 HD m0
    go_wp2
    go_ret
    exact ⟨rfl, hB⟩

set_option maxRecDepth 100000 in
set_option maxHeartbeats 2000000 in
theorem sline_drop (a b l : Int) (s : Bool) (ss : List Si) (sa : Option Addr) (cap : Nat) (w : World) (ra : inR a) :
    Calls Tryd.prog 11 #[.agg #[.int .i64 4, .int .i64 a, .int .i64 b, .int .i64 l, .bool s, .slice sa ss.length cap]] w fun e w' => e = .returned (.string (lineJ (actW ⟨4, a, b, l, s, ss⟩))) ∧ Below w.heap.size w w' := by
  have HE : Hid (lineJ (actW ⟨4, a, b, l, s, ss⟩) = ⟨#[100, 114, 111, 112, 32]⟩ ++ numText a) := by
    show lineJ (⟨#[100, 114, 111, 112]⟩ :: [numText a]) = _
    rw [lineJ_cons, show (⟨#[100, 114, 111, 112, 32]⟩ : ByteArray) = ⟨#[100, 114, 111, 112]⟩ ++ ⟨#[32]⟩ from rfl]
    rfl
  have hb : Below w.heap.size w (w.alloc (.cells #[.int .i64 4, .int .i64 a, .int .i64 b, .int .i64 l, .bool s, .slice sa ss.length cap] 37)) := (Below.refl _ _).alloc (Nat.le_refl _) _
  have m0 := block_cell (block_new w #[.int .i64 4, .int .i64 a, .int .i64 b, .int .i64 l, .bool s, .slice sa ss.length cap] 37)
  have HD : Hid (∀ w', Calls Tryd.prog 22 #[.int .i64 a] w' fun e w'' => e = .returned (.string (numText a)) ∧ Below w'.heap.size w' w'') := fun w' => sDigits_any a ra.1 ra.2 w'
  have hz := num_small a ra
  have HB := hid hb
  rw [HE.out]
  generalize numText a = t at *
  clear HE hb
  have q : ¬ 9223372036854775807 < 5 + t.size := by omega
  cases s
  all_goals
    go_enter Tryd.func11, Tryd.ntmps11
    go_wp2_with fail
    refine (HD.out _).mono ?_
    rintro e w1 ⟨rfl, hb1⟩
    have hB := HB.out.trans (hb1.mono HB.out.size)
    clear hb1 HD m0
    go_wp2
    go_ret
    exact ⟨rfl, hB⟩

set_option maxRecDepth 100000 in
set_option maxHeartbeats 4000000 in
theorem sline_tier (a b l : Int) (s : Bool) (ss : List Si) (sa : Option Addr) (cap : Nat) (w : World) (ra : inR a) (rl : inR l) :
    Calls Tryd.prog 11 #[.agg #[.int .i64 2, .int .i64 a, .int .i64 b, .int .i64 l, .bool s, .slice sa ss.length cap]] w fun e w' => e = .returned (.string (lineJ (actW ⟨2, a, b, l, s, ss⟩))) ∧ Below w.heap.size w w' := by
  obtain ⟨W, hW⟩ : ∃ W, W = w.alloc (.cells #[.int .i64 2, .int .i64 a, .int .i64 b, .int .i64 l, .bool s, .slice sa ss.length cap] 37) := ⟨_, rfl⟩
  have hb : Below w.heap.size w W := by rw [hW]; exact (Below.refl _ _).alloc (Nat.le_refl _) _
  have hA : W.heap[w.heap.size]? = some (.cells #[.int .i64 2, .int .i64 a, .int .i64 b, .int .i64 l, .bool s, .slice sa ss.length cap] 37 (0, 0)) := by rw [hW]; exact block_new _ _ _
  have m0 := block_cell hA
  have HS : Hid (∀ w', Below W.heap.size W w' → w'.cell? ⟨w.heap.size, 1, none⟩ = some (.int .i64 a) ∧ w'.cell? ⟨w.heap.size, 2, none⟩ = some (.int .i64 b) ∧ w'.cell? ⟨w.heap.size, 3, none⟩ = some (.int .i64 l)) := fun w' h => ⟨by rw [block_cell (block_kept hA h)]; rfl, by rw [block_cell (block_kept hA h)]; rfl, by rw [block_cell (block_kept hA h)]; rfl⟩
  have HB := hid hb
  have HDa : Hid (∀ w', Calls Tryd.prog 22 #[.int .i64 a] w' fun e w'' => e = .returned (.string (numText a)) ∧ Below w'.heap.size w' w'') := fun w' => sDigits_any a ra.1 ra.2 w'
  have hza := num_small a ra
  have HDl : Hid (∀ w', Calls Tryd.prog 22 #[.int .i64 l] w' fun e w'' => e = .returned (.string (numText l)) ∧ Below w'.heap.size w' w'') := fun w' => sDigits_any l rl.1 rl.2 w'
  have hzl := num_small l rl
  have HEtrue : Hid (lineJ (actW ⟨2, a, b, l, true, ss⟩) = ⟨#[116, 105, 101, 114, 32]⟩ ++ numText a ++ ⟨#[32]⟩ ++ numText l ++ ⟨#[32, 98, 97, 114, 101]⟩) := by
    show lineJ (⟨#[116, 105, 101, 114]⟩ :: ([numText a, numText l] ++ [⟨#[98, 97, 114, 101]⟩])) = _
    rw [lineJ_cons, show (⟨#[116, 105, 101, 114, 32]⟩ : ByteArray) = ⟨#[116, 105, 101, 114]⟩ ++ ⟨#[32]⟩ from rfl, show (⟨#[32, 98, 97, 114, 101]⟩ : ByteArray) = ⟨#[32]⟩ ++ ⟨#[98, 97, 114, 101]⟩ from rfl, ← ByteArray.append_assoc]
    rfl
  have HEfalse : Hid (lineJ (actW ⟨2, a, b, l, false, ss⟩) = ⟨#[116, 105, 101, 114, 32]⟩ ++ numText a ++ ⟨#[32]⟩ ++ numText l ++ ⟨#[32, 109, 97, 100, 101]⟩) := by
    show lineJ (⟨#[116, 105, 101, 114]⟩ :: ([numText a, numText l] ++ [⟨#[109, 97, 100, 101]⟩])) = _
    rw [lineJ_cons, show (⟨#[116, 105, 101, 114, 32]⟩ : ByteArray) = ⟨#[116, 105, 101, 114]⟩ ++ ⟨#[32]⟩ from rfl, show (⟨#[32, 109, 97, 100, 101]⟩ : ByteArray) = ⟨#[32]⟩ ++ ⟨#[109, 97, 100, 101]⟩ from rfl, ← ByteArray.append_assoc]
    rfl
  clear hb hA ra rl
  generalize numText a = t1 at *
  generalize numText l = t2 at *
  have z1 : ¬ 9223372036854775807 < 5 + t1.size := by omega
  have z2 : ¬ 9223372036854775807 < 5 + t1.size + 1 := by omega
  have z3 : ¬ 9223372036854775807 < 5 + t1.size + 1 + t2.size := by omega
  have z4 : ¬ 9223372036854775807 < 5 + t1.size + 1 + t2.size + 1 := by omega
  have z5 : ¬ 9223372036854775807 < 5 + t1.size + 1 + t2.size + 5 := by omega
  cases s
  case false =>
    rw [HEfalse.out]
    clear HEtrue HEfalse
    go_enter Tryd.func11, Tryd.ntmps11
    go_upto_region 1 with fail
    rw [← hW]
    clear hW
    go_wp2_with fail
    clear m0
    refine wp_below (by kernel_rfl) (by kernel_rfl) ?_
    refine q_want (v := ?_) (by kernel_rfl) ?_ ?_
    rotate_left
    · intro w' hC
      obtain ⟨j0, j1, j2⟩ := HS.out w' hC
      go_simp
      try with_reducible rfl
    try simp only [Act.put, List.setIfInBounds_toArray, List.set_cons_zero, List.set_cons_succ]
    refine q_want (v := ?_) (by kernel_rfl) ?_ ?_
    rotate_left
    · intro w' hC
      obtain ⟨j0, j1, j2⟩ := HS.out w' hC
      go_simp
      try with_reducible rfl
    try simp only [Act.put, List.setIfInBounds_toArray, List.set_cons_zero, List.set_cons_succ]
    refine q_want (v := .string t1) (by kernel_rfl) ?_ ?_
    · intro w' hC
      go_simp
      refine (HDa.out _).mono ?_
      rintro e w'' ⟨rfl, hb2⟩
      exact ⟨rfl, hC.trans (hb2.mono hC.size)⟩
    try simp only [Act.put, List.setIfInBounds_toArray, List.set_cons_zero, List.set_cons_succ]
    refine q_want (v := ?_) (by kernel_rfl) ?_ ?_
    rotate_left
    · intro w' hC
      obtain ⟨j0, j1, j2⟩ := HS.out w' hC
      go_simp
      try with_reducible rfl
    try simp only [Act.put, List.setIfInBounds_toArray, List.set_cons_zero, List.set_cons_succ]
    refine q_want (v := ?_) (by kernel_rfl) ?_ ?_
    rotate_left
    · intro w' hC
      obtain ⟨j0, j1, j2⟩ := HS.out w' hC
      go_simp
      try with_reducible rfl
    try simp only [Act.put, List.setIfInBounds_toArray, List.set_cons_zero, List.set_cons_succ]
    refine q_want (v := ?_) (by kernel_rfl) ?_ ?_
    rotate_left
    · intro w' hC
      obtain ⟨j0, j1, j2⟩ := HS.out w' hC
      go_simp
      try with_reducible rfl
    try simp only [Act.put, List.setIfInBounds_toArray, List.set_cons_zero, List.set_cons_succ]
    refine q_want (v := ?_) (by kernel_rfl) ?_ ?_
    rotate_left
    · intro w' hC
      obtain ⟨j0, j1, j2⟩ := HS.out w' hC
      go_simp
      try with_reducible rfl
    try simp only [Act.put, List.setIfInBounds_toArray, List.set_cons_zero, List.set_cons_succ]
    refine q_want (v := .string t2) (by kernel_rfl) ?_ ?_
    · intro w' hC
      go_simp
      refine (HDl.out _).mono ?_
      rintro e w'' ⟨rfl, hb2⟩
      exact ⟨rfl, hC.trans (hb2.mono hC.size)⟩
    try simp only [Act.put, List.setIfInBounds_toArray, List.set_cons_zero, List.set_cons_succ]
    refine q_want (v := ?_) (by kernel_rfl) ?_ ?_
    rotate_left
    · intro w' hC
      obtain ⟨j0, j1, j2⟩ := HS.out w' hC
      go_simp
      try with_reducible rfl
    try simp only [Act.put, List.setIfInBounds_toArray, List.set_cons_zero, List.set_cons_succ]
    refine q_want (v := ?_) (by kernel_rfl) ?_ ?_
    rotate_left
    · intro w' hC
      obtain ⟨j0, j1, j2⟩ := HS.out w' hC
      go_simp
      try with_reducible rfl
    try simp only [Act.put, List.setIfInBounds_toArray, List.set_cons_zero, List.set_cons_succ]
    refine q_want (v := ?_) (by kernel_rfl) ?_ ?_
    rotate_left
    · intro w' hC
      obtain ⟨j0, j1, j2⟩ := HS.out w' hC
      go_simp
      try with_reducible rfl
    try simp only [Act.put, List.setIfInBounds_toArray, List.set_cons_zero, List.set_cons_succ]
    refine q_want (v := ?_) (by kernel_rfl) ?_ ?_
    rotate_left
    · intro w' hC
      obtain ⟨j0, j1, j2⟩ := HS.out w' hC
      go_simp
      try with_reducible rfl
    try simp only [Act.put, List.setIfInBounds_toArray, List.set_cons_zero, List.set_cons_succ]
    refine wpQuiet_nil ?_
    intro w2 q2
    have hB := HB.out.trans (q2.mono HB.out.size)
    clear HS q2
    go_wp2
    go_ret
    exact ⟨rfl, hB⟩
  case true =>
    rw [HEtrue.out]
    clear HEtrue HEfalse
    go_enter Tryd.func11, Tryd.ntmps11
    go_upto_region 1 with fail
    rw [← hW]
    clear hW
    go_wp2_with fail
    clear m0
    refine wp_below (by kernel_rfl) (by kernel_rfl) ?_
    refine q_want (v := ?_) (by kernel_rfl) ?_ ?_
    rotate_left
    · intro w' hC
      obtain ⟨j0, j1, j2⟩ := HS.out w' hC
      go_simp
      try with_reducible rfl
    try simp only [Act.put, List.setIfInBounds_toArray, List.set_cons_zero, List.set_cons_succ]
    refine q_want (v := ?_) (by kernel_rfl) ?_ ?_
    rotate_left
    · intro w' hC
      obtain ⟨j0, j1, j2⟩ := HS.out w' hC
      go_simp
      try with_reducible rfl
    try simp only [Act.put, List.setIfInBounds_toArray, List.set_cons_zero, List.set_cons_succ]
    refine q_want (v := .string t1) (by kernel_rfl) ?_ ?_
    · intro w' hC
      go_simp
      refine (HDa.out _).mono ?_
      rintro e w'' ⟨rfl, hb2⟩
      exact ⟨rfl, hC.trans (hb2.mono hC.size)⟩
    try simp only [Act.put, List.setIfInBounds_toArray, List.set_cons_zero, List.set_cons_succ]
    refine q_want (v := ?_) (by kernel_rfl) ?_ ?_
    rotate_left
    · intro w' hC
      obtain ⟨j0, j1, j2⟩ := HS.out w' hC
      go_simp
      try with_reducible rfl
    try simp only [Act.put, List.setIfInBounds_toArray, List.set_cons_zero, List.set_cons_succ]
    refine q_want (v := ?_) (by kernel_rfl) ?_ ?_
    rotate_left
    · intro w' hC
      obtain ⟨j0, j1, j2⟩ := HS.out w' hC
      go_simp
      try with_reducible rfl
    try simp only [Act.put, List.setIfInBounds_toArray, List.set_cons_zero, List.set_cons_succ]
    refine q_want (v := ?_) (by kernel_rfl) ?_ ?_
    rotate_left
    · intro w' hC
      obtain ⟨j0, j1, j2⟩ := HS.out w' hC
      go_simp
      try with_reducible rfl
    try simp only [Act.put, List.setIfInBounds_toArray, List.set_cons_zero, List.set_cons_succ]
    refine q_want (v := ?_) (by kernel_rfl) ?_ ?_
    rotate_left
    · intro w' hC
      obtain ⟨j0, j1, j2⟩ := HS.out w' hC
      go_simp
      try with_reducible rfl
    try simp only [Act.put, List.setIfInBounds_toArray, List.set_cons_zero, List.set_cons_succ]
    refine q_want (v := .string t2) (by kernel_rfl) ?_ ?_
    · intro w' hC
      go_simp
      refine (HDl.out _).mono ?_
      rintro e w'' ⟨rfl, hb2⟩
      exact ⟨rfl, hC.trans (hb2.mono hC.size)⟩
    try simp only [Act.put, List.setIfInBounds_toArray, List.set_cons_zero, List.set_cons_succ]
    refine q_want (v := ?_) (by kernel_rfl) ?_ ?_
    rotate_left
    · intro w' hC
      obtain ⟨j0, j1, j2⟩ := HS.out w' hC
      go_simp
      try with_reducible rfl
    try simp only [Act.put, List.setIfInBounds_toArray, List.set_cons_zero, List.set_cons_succ]
    refine q_want (v := ?_) (by kernel_rfl) ?_ ?_
    rotate_left
    · intro w' hC
      obtain ⟨j0, j1, j2⟩ := HS.out w' hC
      go_simp
      try with_reducible rfl
    try simp only [Act.put, List.setIfInBounds_toArray, List.set_cons_zero, List.set_cons_succ]
    refine q_want (v := ?_) (by kernel_rfl) ?_ ?_
    rotate_left
    · intro w' hC
      obtain ⟨j0, j1, j2⟩ := HS.out w' hC
      go_simp
      try with_reducible rfl
    try simp only [Act.put, List.setIfInBounds_toArray, List.set_cons_zero, List.set_cons_succ]
    refine q_want (v := ?_) (by kernel_rfl) ?_ ?_
    rotate_left
    · intro w' hC
      obtain ⟨j0, j1, j2⟩ := HS.out w' hC
      go_simp
      try with_reducible rfl
    try simp only [Act.put, List.setIfInBounds_toArray, List.set_cons_zero, List.set_cons_succ]
    refine wpQuiet_nil ?_
    intro w2 q2
    have hB := HB.out.trans (q2.mono HB.out.size)
    clear HS q2
    go_wp2
    go_ret
    exact ⟨rfl, hB⟩

set_option maxRecDepth 100000 in
set_option maxHeartbeats 4000000 in
theorem sline_loop (a b l : Int) (s : Bool) (ss : List Si) (sa : Option Addr) (cap : Nat) (w : World) (ra : inR a) (rb : inR b) (rl : inR l) :
    Calls Tryd.prog 11 #[.agg #[.int .i64 3, .int .i64 a, .int .i64 b, .int .i64 l, .bool s, .slice sa ss.length cap]] w fun e w' => e = .returned (.string (lineJ (actW ⟨3, a, b, l, s, ss⟩))) ∧ Below w.heap.size w w' := by
  obtain ⟨W, hW⟩ : ∃ W, W = w.alloc (.cells #[.int .i64 3, .int .i64 a, .int .i64 b, .int .i64 l, .bool s, .slice sa ss.length cap] 37) := ⟨_, rfl⟩
  have hb : Below w.heap.size w W := by rw [hW]; exact (Below.refl _ _).alloc (Nat.le_refl _) _
  have hA : W.heap[w.heap.size]? = some (.cells #[.int .i64 3, .int .i64 a, .int .i64 b, .int .i64 l, .bool s, .slice sa ss.length cap] 37 (0, 0)) := by rw [hW]; exact block_new _ _ _
  have m0 := block_cell hA
  have HS : Hid (∀ w', Below W.heap.size W w' → w'.cell? ⟨w.heap.size, 1, none⟩ = some (.int .i64 a) ∧ w'.cell? ⟨w.heap.size, 2, none⟩ = some (.int .i64 b) ∧ w'.cell? ⟨w.heap.size, 3, none⟩ = some (.int .i64 l)) := fun w' h => ⟨by rw [block_cell (block_kept hA h)]; rfl, by rw [block_cell (block_kept hA h)]; rfl, by rw [block_cell (block_kept hA h)]; rfl⟩
  have HB := hid hb
  have HDa : Hid (∀ w', Calls Tryd.prog 22 #[.int .i64 a] w' fun e w'' => e = .returned (.string (numText a)) ∧ Below w'.heap.size w' w'') := fun w' => sDigits_any a ra.1 ra.2 w'
  have hza := num_small a ra
  have HDb : Hid (∀ w', Calls Tryd.prog 22 #[.int .i64 b] w' fun e w'' => e = .returned (.string (numText b)) ∧ Below w'.heap.size w' w'') := fun w' => sDigits_any b rb.1 rb.2 w'
  have hzb := num_small b rb
  have HDl : Hid (∀ w', Calls Tryd.prog 22 #[.int .i64 l] w' fun e w'' => e = .returned (.string (numText l)) ∧ Below w'.heap.size w' w'') := fun w' => sDigits_any l rl.1 rl.2 w'
  have hzl := num_small l rl
  have HEtrue : Hid (lineJ (actW ⟨3, a, b, l, true, ss⟩) = ⟨#[108, 111, 111, 112, 32]⟩ ++ numText a ++ ⟨#[32]⟩ ++ numText b ++ ⟨#[32]⟩ ++ numText l ++ ⟨#[32, 98, 97, 114, 101]⟩) := by
    show lineJ (⟨#[108, 111, 111, 112]⟩ :: ([numText a, numText b, numText l] ++ [⟨#[98, 97, 114, 101]⟩])) = _
    rw [lineJ_cons, show (⟨#[108, 111, 111, 112, 32]⟩ : ByteArray) = ⟨#[108, 111, 111, 112]⟩ ++ ⟨#[32]⟩ from rfl, show (⟨#[32, 98, 97, 114, 101]⟩ : ByteArray) = ⟨#[32]⟩ ++ ⟨#[98, 97, 114, 101]⟩ from rfl, ← ByteArray.append_assoc]
    rfl
  have HEfalse : Hid (lineJ (actW ⟨3, a, b, l, false, ss⟩) = ⟨#[108, 111, 111, 112, 32]⟩ ++ numText a ++ ⟨#[32]⟩ ++ numText b ++ ⟨#[32]⟩ ++ numText l ++ ⟨#[32, 109, 97, 100, 101]⟩) := by
    show lineJ (⟨#[108, 111, 111, 112]⟩ :: ([numText a, numText b, numText l] ++ [⟨#[109, 97, 100, 101]⟩])) = _
    rw [lineJ_cons, show (⟨#[108, 111, 111, 112, 32]⟩ : ByteArray) = ⟨#[108, 111, 111, 112]⟩ ++ ⟨#[32]⟩ from rfl, show (⟨#[32, 109, 97, 100, 101]⟩ : ByteArray) = ⟨#[32]⟩ ++ ⟨#[109, 97, 100, 101]⟩ from rfl, ← ByteArray.append_assoc]
    rfl
  clear hb hA ra rb rl
  generalize numText a = t1 at *
  generalize numText b = t2 at *
  generalize numText l = t3 at *
  have z1 : ¬ 9223372036854775807 < 5 + t1.size := by omega
  have z2 : ¬ 9223372036854775807 < 5 + t1.size + 1 := by omega
  have z3 : ¬ 9223372036854775807 < 5 + t1.size + 1 + t2.size := by omega
  have z4 : ¬ 9223372036854775807 < 5 + t1.size + 1 + t2.size + 1 := by omega
  have z5 : ¬ 9223372036854775807 < 5 + t1.size + 1 + t2.size + 1 + t3.size := by omega
  have z6 : ¬ 9223372036854775807 < 5 + t1.size + 1 + t2.size + 1 + t3.size + 1 := by omega
  have z7 : ¬ 9223372036854775807 < 5 + t1.size + 1 + t2.size + 1 + t3.size + 5 := by omega
  cases s
  case false =>
    rw [HEfalse.out]
    clear HEtrue HEfalse
    go_enter Tryd.func11, Tryd.ntmps11
    go_upto_region 1 with fail
    rw [← hW]
    clear hW
    go_wp2_with fail
    clear m0
    refine wp_below (by kernel_rfl) (by kernel_rfl) ?_
    refine q_want (v := ?_) (by kernel_rfl) ?_ ?_
    rotate_left
    · intro w' hC
      obtain ⟨j0, j1, j2⟩ := HS.out w' hC
      go_simp
      try with_reducible rfl
    try simp only [Act.put, List.setIfInBounds_toArray, List.set_cons_zero, List.set_cons_succ]
    refine q_want (v := ?_) (by kernel_rfl) ?_ ?_
    rotate_left
    · intro w' hC
      obtain ⟨j0, j1, j2⟩ := HS.out w' hC
      go_simp
      try with_reducible rfl
    try simp only [Act.put, List.setIfInBounds_toArray, List.set_cons_zero, List.set_cons_succ]
    refine q_want (v := .string t1) (by kernel_rfl) ?_ ?_
    · intro w' hC
      go_simp
      refine (HDa.out _).mono ?_
      rintro e w'' ⟨rfl, hb2⟩
      exact ⟨rfl, hC.trans (hb2.mono hC.size)⟩
    try simp only [Act.put, List.setIfInBounds_toArray, List.set_cons_zero, List.set_cons_succ]
    refine q_want (v := ?_) (by kernel_rfl) ?_ ?_
    rotate_left
    · intro w' hC
      obtain ⟨j0, j1, j2⟩ := HS.out w' hC
      go_simp
      try with_reducible rfl
    try simp only [Act.put, List.setIfInBounds_toArray, List.set_cons_zero, List.set_cons_succ]
    refine q_want (v := ?_) (by kernel_rfl) ?_ ?_
    rotate_left
    · intro w' hC
      obtain ⟨j0, j1, j2⟩ := HS.out w' hC
      go_simp
      try with_reducible rfl
    try simp only [Act.put, List.setIfInBounds_toArray, List.set_cons_zero, List.set_cons_succ]
    refine q_want (v := ?_) (by kernel_rfl) ?_ ?_
    rotate_left
    · intro w' hC
      obtain ⟨j0, j1, j2⟩ := HS.out w' hC
      go_simp
      try with_reducible rfl
    try simp only [Act.put, List.setIfInBounds_toArray, List.set_cons_zero, List.set_cons_succ]
    refine q_want (v := ?_) (by kernel_rfl) ?_ ?_
    rotate_left
    · intro w' hC
      obtain ⟨j0, j1, j2⟩ := HS.out w' hC
      go_simp
      try with_reducible rfl
    try simp only [Act.put, List.setIfInBounds_toArray, List.set_cons_zero, List.set_cons_succ]
    refine q_want (v := .string t2) (by kernel_rfl) ?_ ?_
    · intro w' hC
      go_simp
      refine (HDb.out _).mono ?_
      rintro e w'' ⟨rfl, hb2⟩
      exact ⟨rfl, hC.trans (hb2.mono hC.size)⟩
    try simp only [Act.put, List.setIfInBounds_toArray, List.set_cons_zero, List.set_cons_succ]
    refine q_want (v := ?_) (by kernel_rfl) ?_ ?_
    rotate_left
    · intro w' hC
      obtain ⟨j0, j1, j2⟩ := HS.out w' hC
      go_simp
      try with_reducible rfl
    try simp only [Act.put, List.setIfInBounds_toArray, List.set_cons_zero, List.set_cons_succ]
    refine q_want (v := ?_) (by kernel_rfl) ?_ ?_
    rotate_left
    · intro w' hC
      obtain ⟨j0, j1, j2⟩ := HS.out w' hC
      go_simp
      try with_reducible rfl
    try simp only [Act.put, List.setIfInBounds_toArray, List.set_cons_zero, List.set_cons_succ]
    refine q_want (v := ?_) (by kernel_rfl) ?_ ?_
    rotate_left
    · intro w' hC
      obtain ⟨j0, j1, j2⟩ := HS.out w' hC
      go_simp
      try with_reducible rfl
    try simp only [Act.put, List.setIfInBounds_toArray, List.set_cons_zero, List.set_cons_succ]
    refine q_want (v := ?_) (by kernel_rfl) ?_ ?_
    rotate_left
    · intro w' hC
      obtain ⟨j0, j1, j2⟩ := HS.out w' hC
      go_simp
      try with_reducible rfl
    try simp only [Act.put, List.setIfInBounds_toArray, List.set_cons_zero, List.set_cons_succ]
    refine q_want (v := .string t3) (by kernel_rfl) ?_ ?_
    · intro w' hC
      go_simp
      refine (HDl.out _).mono ?_
      rintro e w'' ⟨rfl, hb2⟩
      exact ⟨rfl, hC.trans (hb2.mono hC.size)⟩
    try simp only [Act.put, List.setIfInBounds_toArray, List.set_cons_zero, List.set_cons_succ]
    refine q_want (v := ?_) (by kernel_rfl) ?_ ?_
    rotate_left
    · intro w' hC
      obtain ⟨j0, j1, j2⟩ := HS.out w' hC
      go_simp
      try with_reducible rfl
    try simp only [Act.put, List.setIfInBounds_toArray, List.set_cons_zero, List.set_cons_succ]
    refine q_want (v := ?_) (by kernel_rfl) ?_ ?_
    rotate_left
    · intro w' hC
      obtain ⟨j0, j1, j2⟩ := HS.out w' hC
      go_simp
      try with_reducible rfl
    try simp only [Act.put, List.setIfInBounds_toArray, List.set_cons_zero, List.set_cons_succ]
    refine q_want (v := ?_) (by kernel_rfl) ?_ ?_
    rotate_left
    · intro w' hC
      obtain ⟨j0, j1, j2⟩ := HS.out w' hC
      go_simp
      try with_reducible rfl
    try simp only [Act.put, List.setIfInBounds_toArray, List.set_cons_zero, List.set_cons_succ]
    refine q_want (v := ?_) (by kernel_rfl) ?_ ?_
    rotate_left
    · intro w' hC
      obtain ⟨j0, j1, j2⟩ := HS.out w' hC
      go_simp
      try with_reducible rfl
    try simp only [Act.put, List.setIfInBounds_toArray, List.set_cons_zero, List.set_cons_succ]
    refine wpQuiet_nil ?_
    intro w2 q2
    have hB := HB.out.trans (q2.mono HB.out.size)
    clear HS q2
    go_wp2
    go_ret
    exact ⟨rfl, hB⟩
  case true =>
    rw [HEtrue.out]
    clear HEtrue HEfalse
    go_enter Tryd.func11, Tryd.ntmps11
    go_upto_region 1 with fail
    rw [← hW]
    clear hW
    go_wp2_with fail
    clear m0
    refine wp_below (by kernel_rfl) (by kernel_rfl) ?_
    refine q_want (v := ?_) (by kernel_rfl) ?_ ?_
    rotate_left
    · intro w' hC
      obtain ⟨j0, j1, j2⟩ := HS.out w' hC
      go_simp
      try with_reducible rfl
    try simp only [Act.put, List.setIfInBounds_toArray, List.set_cons_zero, List.set_cons_succ]
    refine q_want (v := ?_) (by kernel_rfl) ?_ ?_
    rotate_left
    · intro w' hC
      obtain ⟨j0, j1, j2⟩ := HS.out w' hC
      go_simp
      try with_reducible rfl
    try simp only [Act.put, List.setIfInBounds_toArray, List.set_cons_zero, List.set_cons_succ]
    refine q_want (v := .string t1) (by kernel_rfl) ?_ ?_
    · intro w' hC
      go_simp
      refine (HDa.out _).mono ?_
      rintro e w'' ⟨rfl, hb2⟩
      exact ⟨rfl, hC.trans (hb2.mono hC.size)⟩
    try simp only [Act.put, List.setIfInBounds_toArray, List.set_cons_zero, List.set_cons_succ]
    refine q_want (v := ?_) (by kernel_rfl) ?_ ?_
    rotate_left
    · intro w' hC
      obtain ⟨j0, j1, j2⟩ := HS.out w' hC
      go_simp
      try with_reducible rfl
    try simp only [Act.put, List.setIfInBounds_toArray, List.set_cons_zero, List.set_cons_succ]
    refine q_want (v := ?_) (by kernel_rfl) ?_ ?_
    rotate_left
    · intro w' hC
      obtain ⟨j0, j1, j2⟩ := HS.out w' hC
      go_simp
      try with_reducible rfl
    try simp only [Act.put, List.setIfInBounds_toArray, List.set_cons_zero, List.set_cons_succ]
    refine q_want (v := ?_) (by kernel_rfl) ?_ ?_
    rotate_left
    · intro w' hC
      obtain ⟨j0, j1, j2⟩ := HS.out w' hC
      go_simp
      try with_reducible rfl
    try simp only [Act.put, List.setIfInBounds_toArray, List.set_cons_zero, List.set_cons_succ]
    refine q_want (v := ?_) (by kernel_rfl) ?_ ?_
    rotate_left
    · intro w' hC
      obtain ⟨j0, j1, j2⟩ := HS.out w' hC
      go_simp
      try with_reducible rfl
    try simp only [Act.put, List.setIfInBounds_toArray, List.set_cons_zero, List.set_cons_succ]
    refine q_want (v := .string t2) (by kernel_rfl) ?_ ?_
    · intro w' hC
      go_simp
      refine (HDb.out _).mono ?_
      rintro e w'' ⟨rfl, hb2⟩
      exact ⟨rfl, hC.trans (hb2.mono hC.size)⟩
    try simp only [Act.put, List.setIfInBounds_toArray, List.set_cons_zero, List.set_cons_succ]
    refine q_want (v := ?_) (by kernel_rfl) ?_ ?_
    rotate_left
    · intro w' hC
      obtain ⟨j0, j1, j2⟩ := HS.out w' hC
      go_simp
      try with_reducible rfl
    try simp only [Act.put, List.setIfInBounds_toArray, List.set_cons_zero, List.set_cons_succ]
    refine q_want (v := ?_) (by kernel_rfl) ?_ ?_
    rotate_left
    · intro w' hC
      obtain ⟨j0, j1, j2⟩ := HS.out w' hC
      go_simp
      try with_reducible rfl
    try simp only [Act.put, List.setIfInBounds_toArray, List.set_cons_zero, List.set_cons_succ]
    refine q_want (v := ?_) (by kernel_rfl) ?_ ?_
    rotate_left
    · intro w' hC
      obtain ⟨j0, j1, j2⟩ := HS.out w' hC
      go_simp
      try with_reducible rfl
    try simp only [Act.put, List.setIfInBounds_toArray, List.set_cons_zero, List.set_cons_succ]
    refine q_want (v := ?_) (by kernel_rfl) ?_ ?_
    rotate_left
    · intro w' hC
      obtain ⟨j0, j1, j2⟩ := HS.out w' hC
      go_simp
      try with_reducible rfl
    try simp only [Act.put, List.setIfInBounds_toArray, List.set_cons_zero, List.set_cons_succ]
    refine q_want (v := .string t3) (by kernel_rfl) ?_ ?_
    · intro w' hC
      go_simp
      refine (HDl.out _).mono ?_
      rintro e w'' ⟨rfl, hb2⟩
      exact ⟨rfl, hC.trans (hb2.mono hC.size)⟩
    try simp only [Act.put, List.setIfInBounds_toArray, List.set_cons_zero, List.set_cons_succ]
    refine q_want (v := ?_) (by kernel_rfl) ?_ ?_
    rotate_left
    · intro w' hC
      obtain ⟨j0, j1, j2⟩ := HS.out w' hC
      go_simp
      try with_reducible rfl
    try simp only [Act.put, List.setIfInBounds_toArray, List.set_cons_zero, List.set_cons_succ]
    refine q_want (v := ?_) (by kernel_rfl) ?_ ?_
    rotate_left
    · intro w' hC
      obtain ⟨j0, j1, j2⟩ := HS.out w' hC
      go_simp
      try with_reducible rfl
    try simp only [Act.put, List.setIfInBounds_toArray, List.set_cons_zero, List.set_cons_succ]
    refine q_want (v := ?_) (by kernel_rfl) ?_ ?_
    rotate_left
    · intro w' hC
      obtain ⟨j0, j1, j2⟩ := HS.out w' hC
      go_simp
      try with_reducible rfl
    try simp only [Act.put, List.setIfInBounds_toArray, List.set_cons_zero, List.set_cons_succ]
    refine q_want (v := ?_) (by kernel_rfl) ?_ ?_
    rotate_left
    · intro w' hC
      obtain ⟨j0, j1, j2⟩ := HS.out w' hC
      go_simp
      try with_reducible rfl
    try simp only [Act.put, List.setIfInBounds_toArray, List.set_cons_zero, List.set_cons_succ]
    refine wpQuiet_nil ?_
    intro w2 q2
    have hB := HB.out.trans (q2.mono HB.out.size)
    clear HS q2
    go_wp2
    go_ret
    exact ⟨rfl, hB⟩

set_option maxRecDepth 100000 in
set_option maxHeartbeats 4000000 in
theorem sline_forge (k a b l : Int) (s : Bool) (ss : List Si) (sa : Option Addr) (cap : Nat) (w : World) (hk : k = 5) (hl : ss.length ≤ 150) (hr : ∀ y ∈ ss, siR y) (hss : SitesAt w 0 sa ss) :
    Calls Tryd.prog 11 #[.agg #[.int .i64 k, .int .i64 a, .int .i64 b, .int .i64 l, .bool s, .slice sa ss.length cap]] w fun e w' => e = .returned (.string (lineJ (actW ⟨k, a, b, l, s, ss⟩))) ∧ Below w.heap.size w w' := by
  have HE : Hid (lineJ (actW ⟨k, a, b, l, s, ss⟩) = wsT ⟨#[102, 111, 114, 103, 101]⟩ (sitesW ss)) := by
    subst hk
    show lineJ (⟨#[102, 111, 114, 103, 101]⟩ :: sitesW ss) = _
    rw [lineJ_cons]
  rw [HE.out]
  clear HE
  subst hk
  have HSZ : Hid (∀ k, k ≤ ss.length → (wsT ⟨#[102, 111, 114, 103, 101]⟩ (sitesW (ss.take k))).size ≤ 40000) := fun k hk => by
    have h := wsT_size ⟨#[102, 111, 114, 103, 101]⟩ (sitesW (ss.take k)) (fun t ht => by
      unfold sitesW at ht
      obtain ⟨y, hy, hy2⟩ := List.mem_flatMap.1 ht
      obtain ⟨r1, r2, r3, r4⟩ := hr y (List.mem_of_mem_take hy)
      unfold siW at hy2
      simp only [List.mem_cons, List.not_mem_nil, or_false] at hy2
      rcases hy2 with rfl | rfl | rfl | rfl
      · exact num_small _ r1
      · exact num_small _ r2
      · exact num_small _ r3
      · exact num_small _ r4)
    rw [sitesW_len, List.length_take] at h
    have e : (⟨#[102, 111, 114, 103, 101]⟩ : ByteArray).size = 5 := rfl
    omega
  obtain ⟨W, hW⟩ : ∃ W, W = w.alloc (.cells #[.int .i64 5, .int .i64 a, .int .i64 b, .int .i64 l, .bool s, .slice sa ss.length cap] 37) := ⟨_, rfl⟩
  have hb : Below w.heap.size w W := by rw [hW]; exact (Below.refl _ _).alloc (Nat.le_refl _) _
  have hA : W.heap[w.heap.size]? = some (.cells #[.int .i64 5, .int .i64 a, .int .i64 b, .int .i64 l, .bool s, .slice sa ss.length cap] 37 (0, 0)) := by rw [hW]; exact block_new _ _ _
  have m0 := block_cell hA
  have HS : Hid (∀ w', Below W.heap.size W w' → w'.cell? ⟨w.heap.size, 5, none⟩ = some (.slice sa ss.length cap)) := fun w' h => by rw [block_cell (block_kept hA h)]; rfl
  have HB := hid hb
  have HSS := hid (hss.mono hb)
  have HR := hid hr
  clear hb hA hss hr
  cases s
  all_goals
    go_enter Tryd.func11, Tryd.ntmps11
    go_upto_region 1 with fail
    rw [← hW]
    clear hW
    go_wp2_with fail
    clear m0
    go_loopw [4, 5, 6] (fun o i _b wr => ∃ (k : Nat), k ≤ ss.length ∧ i = .int .i64 k ∧ o = .string (wsT ⟨#[102, 111, 114, 103, 101]⟩ (sitesW (ss.take k))) ∧ Below W.heap.size W wr) (fun _ i _ _ => ss.length - (intOf i).toNat)
    case atStart => exact ⟨0, by omega, rfl, rfl, Below.refl _ _⟩
    case round =>
      obtain ⟨k, hk', rfl, rfl, hbr⟩ := hrel
      have m5 := HS.out wr hbr
      by_cases hlt : k < ss.length
      · obtain ⟨b', off, rfl, -, c0, c1, c2, c3⟩ := (HSS.out.mono hbr) k hlt
        obtain ⟨r0, r1, r2, r3⟩ := HR.out _ (List.getElem_mem hlt)
        have hz := HSZ.out k (by omega)
        have HW : Hid (wsT ⟨#[102, 111, 114, 103, 101]⟩ (sitesW (ss.take (k + 1))) = wsT ⟨#[102, 111, 114, 103, 101]⟩ (sitesW (ss.take k)) ++ ⟨#[32]⟩ ++ numText ss[k].f ++ ⟨#[32]⟩ ++ numText ss[k].pc ++ ⟨#[32]⟩ ++ numText ss[k].seen ++ ⟨#[32]⟩ ++ numText ss[k].target) := by
          show _ = _
          rw [sitesW_succ _ _ hlt, wsT_append]
          rfl
        obtain ⟨y, hy⟩ : ∃ y, y = ss[k] := ⟨_, rfl⟩
        rw [← hy] at c0 c1 c2 c3 r0 r1 r2 r3 HW
        clear hy
        have HD1 : Hid (∀ w', Calls Tryd.prog 22 #[.int .i64 y.f] w' fun e w'' => e = .returned (.string (numText y.f)) ∧ Below w'.heap.size w' w'') := fun w' => sDigits_any y.f r0.1 r0.2 w'
        have HD2 : Hid (∀ w', Calls Tryd.prog 22 #[.int .i64 y.pc] w' fun e w'' => e = .returned (.string (numText y.pc)) ∧ Below w'.heap.size w' w'') := fun w' => sDigits_any y.pc r1.1 r1.2 w'
        have HD3 : Hid (∀ w', Calls Tryd.prog 22 #[.int .i64 y.seen] w' fun e w'' => e = .returned (.string (numText y.seen)) ∧ Below w'.heap.size w' w'') := fun w' => sDigits_any y.seen r2.1 r2.2 w'
        have HD4 : Hid (∀ w', Calls Tryd.prog 22 #[.int .i64 y.target] w' fun e w'' => e = .returned (.string (numText y.target)) ∧ Below w'.heap.size w' w'') := fun w' => sDigits_any y.target r3.1 r3.2 w'
        have hz1 := num_small _ r0
        have hz2 := num_small _ r1
        have hz3 := num_small _ r2
        have hz4 := num_small _ r3
        generalize numText y.f = t1 at *
        generalize numText y.pc = t2 at *
        generalize numText y.seen = t3 at *
        generalize numText y.target = t4 at *
        generalize wsT ⟨#[102, 111, 114, 103, 101]⟩ (sitesW (ss.take k)) = sj at *
        have z1 : ¬ 9223372036854775807 < sj.size + 1 := by omega
        have z2 : ¬ 9223372036854775807 < sj.size + 1 + t1.size := by omega
        have z3 : ¬ 9223372036854775807 < sj.size + 1 + t1.size + 1 := by omega
        have z4 : ¬ 9223372036854775807 < sj.size + 1 + t1.size + 1 + t2.size := by omega
        have z5 : ¬ 9223372036854775807 < sj.size + 1 + t1.size + 1 + t2.size + 1 := by omega
        have z6 : ¬ 9223372036854775807 < sj.size + 1 + t1.size + 1 + t2.size + 1 + t3.size := by omega
        have z7 : ¬ 9223372036854775807 < sj.size + 1 + t1.size + 1 + t2.size + 1 + t3.size + 1 := by omega
        have z8 : ¬ 9223372036854775807 < sj.size + 1 + t1.size + 1 + t2.size + 1 + t3.size + 1 + t4.size := by omega
        obtain ⟨U, hU⟩ : ∃ U, U = wr.alloc (.cells #[.int .i64 y.f, .int .i64 y.pc, .int .i64 y.seen, .int .i64 y.target] 51) := ⟨_, rfl⟩
        have hbU : Below W.heap.size W U := by rw [hU]; exact hbr.alloc hbr.size _
        have hnU : U.heap[wr.heap.size]? = some (.cells #[.int .i64 y.f, .int .i64 y.pc, .int .i64 y.seen, .int .i64 y.target] 51 (0, 0)) := by rw [hU]; exact block_new _ _ _
        have HS2 : Hid (∀ w', Below U.heap.size U w' → w'.cell? ⟨wr.heap.size, 0, none⟩ = some (.int .i64 y.f) ∧ w'.cell? ⟨wr.heap.size, 1, none⟩ = some (.int .i64 y.pc) ∧ w'.cell? ⟨wr.heap.size, 2, none⟩ = some (.int .i64 y.seen) ∧ w'.cell? ⟨wr.heap.size, 3, none⟩ = some (.int .i64 y.target)) := fun w' h => ⟨by rw [block_cell (block_kept hnU h)]; rfl, by rw [block_cell (block_kept hnU h)]; rfl, by rw [block_cell (block_kept hnU h)]; rfl, by rw [block_cell (block_kept hnU h)]; rfl⟩
        have HBU := hid hbU
        have HU := hid hU
        clear hU hnU hbU r0 r1 r2 r3
        go_wp2_with fail
        try rw [← HU.out]
        clear HU c0 c1 c2 c3 m5
        refine wp_below (by kernel_rfl) (by kernel_rfl) ?_
        refine q_want (v := ?_) (by kernel_rfl) ?_ ?_
        rotate_left
        · intro w' hC
          obtain ⟨j0, j1, j2, j3⟩ := HS2.out w' hC
          go_simp
          try with_reducible rfl
        try simp only [Act.put, List.setIfInBounds_toArray, List.set_cons_zero, List.set_cons_succ]
        refine q_want (v := ?_) (by kernel_rfl) ?_ ?_
        rotate_left
        · intro w' hC
          obtain ⟨j0, j1, j2, j3⟩ := HS2.out w' hC
          go_simp
          try with_reducible rfl
        try simp only [Act.put, List.setIfInBounds_toArray, List.set_cons_zero, List.set_cons_succ]
        refine q_want (v := ?_) (by kernel_rfl) ?_ ?_
        rotate_left
        · intro w' hC
          obtain ⟨j0, j1, j2, j3⟩ := HS2.out w' hC
          go_simp
          try with_reducible rfl
        try simp only [Act.put, List.setIfInBounds_toArray, List.set_cons_zero, List.set_cons_succ]
        refine q_want (v := ?_) (by kernel_rfl) ?_ ?_
        rotate_left
        · intro w' hC
          obtain ⟨j0, j1, j2, j3⟩ := HS2.out w' hC
          go_simp
          try with_reducible rfl
        try simp only [Act.put, List.setIfInBounds_toArray, List.set_cons_zero, List.set_cons_succ]
        refine q_want (v := .string t1) (by kernel_rfl) ?_ ?_
        · intro w' hC
          go_simp
          refine (HD1.out _).mono ?_
          rintro e w'' ⟨rfl, hb2⟩
          exact ⟨rfl, hC.trans (hb2.mono hC.size)⟩
        try simp only [Act.put, List.setIfInBounds_toArray, List.set_cons_zero, List.set_cons_succ]
        refine q_want (v := ?_) (by kernel_rfl) ?_ ?_
        rotate_left
        · intro w' hC
          obtain ⟨j0, j1, j2, j3⟩ := HS2.out w' hC
          go_simp
          try with_reducible rfl
        try simp only [Act.put, List.setIfInBounds_toArray, List.set_cons_zero, List.set_cons_succ]
        refine q_want (v := ?_) (by kernel_rfl) ?_ ?_
        rotate_left
        · intro w' hC
          obtain ⟨j0, j1, j2, j3⟩ := HS2.out w' hC
          go_simp
          try with_reducible rfl
        try simp only [Act.put, List.setIfInBounds_toArray, List.set_cons_zero, List.set_cons_succ]
        refine q_want (v := ?_) (by kernel_rfl) ?_ ?_
        rotate_left
        · intro w' hC
          obtain ⟨j0, j1, j2, j3⟩ := HS2.out w' hC
          go_simp
          try with_reducible rfl
        try simp only [Act.put, List.setIfInBounds_toArray, List.set_cons_zero, List.set_cons_succ]
        refine q_want (v := ?_) (by kernel_rfl) ?_ ?_
        rotate_left
        · intro w' hC
          obtain ⟨j0, j1, j2, j3⟩ := HS2.out w' hC
          go_simp
          try with_reducible rfl
        try simp only [Act.put, List.setIfInBounds_toArray, List.set_cons_zero, List.set_cons_succ]
        refine q_want (v := .string t2) (by kernel_rfl) ?_ ?_
        · intro w' hC
          go_simp
          refine (HD2.out _).mono ?_
          rintro e w'' ⟨rfl, hb2⟩
          exact ⟨rfl, hC.trans (hb2.mono hC.size)⟩
        try simp only [Act.put, List.setIfInBounds_toArray, List.set_cons_zero, List.set_cons_succ]
        refine q_want (v := ?_) (by kernel_rfl) ?_ ?_
        rotate_left
        · intro w' hC
          obtain ⟨j0, j1, j2, j3⟩ := HS2.out w' hC
          go_simp
          try with_reducible rfl
        try simp only [Act.put, List.setIfInBounds_toArray, List.set_cons_zero, List.set_cons_succ]
        refine q_want (v := ?_) (by kernel_rfl) ?_ ?_
        rotate_left
        · intro w' hC
          obtain ⟨j0, j1, j2, j3⟩ := HS2.out w' hC
          go_simp
          try with_reducible rfl
        try simp only [Act.put, List.setIfInBounds_toArray, List.set_cons_zero, List.set_cons_succ]
        refine q_want (v := ?_) (by kernel_rfl) ?_ ?_
        rotate_left
        · intro w' hC
          obtain ⟨j0, j1, j2, j3⟩ := HS2.out w' hC
          go_simp
          try with_reducible rfl
        try simp only [Act.put, List.setIfInBounds_toArray, List.set_cons_zero, List.set_cons_succ]
        refine q_want (v := ?_) (by kernel_rfl) ?_ ?_
        rotate_left
        · intro w' hC
          obtain ⟨j0, j1, j2, j3⟩ := HS2.out w' hC
          go_simp
          try with_reducible rfl
        try simp only [Act.put, List.setIfInBounds_toArray, List.set_cons_zero, List.set_cons_succ]
        refine q_want (v := .string t3) (by kernel_rfl) ?_ ?_
        · intro w' hC
          go_simp
          refine (HD3.out _).mono ?_
          rintro e w'' ⟨rfl, hb2⟩
          exact ⟨rfl, hC.trans (hb2.mono hC.size)⟩
        try simp only [Act.put, List.setIfInBounds_toArray, List.set_cons_zero, List.set_cons_succ]
        refine q_want (v := ?_) (by kernel_rfl) ?_ ?_
        rotate_left
        · intro w' hC
          obtain ⟨j0, j1, j2, j3⟩ := HS2.out w' hC
          go_simp
          try with_reducible rfl
        try simp only [Act.put, List.setIfInBounds_toArray, List.set_cons_zero, List.set_cons_succ]
        refine q_want (v := ?_) (by kernel_rfl) ?_ ?_
        rotate_left
        · intro w' hC
          obtain ⟨j0, j1, j2, j3⟩ := HS2.out w' hC
          go_simp
          try with_reducible rfl
        try simp only [Act.put, List.setIfInBounds_toArray, List.set_cons_zero, List.set_cons_succ]
        refine q_want (v := ?_) (by kernel_rfl) ?_ ?_
        rotate_left
        · intro w' hC
          obtain ⟨j0, j1, j2, j3⟩ := HS2.out w' hC
          go_simp
          try with_reducible rfl
        try simp only [Act.put, List.setIfInBounds_toArray, List.set_cons_zero, List.set_cons_succ]
        refine q_want (v := ?_) (by kernel_rfl) ?_ ?_
        rotate_left
        · intro w' hC
          obtain ⟨j0, j1, j2, j3⟩ := HS2.out w' hC
          go_simp
          try with_reducible rfl
        try simp only [Act.put, List.setIfInBounds_toArray, List.set_cons_zero, List.set_cons_succ]
        refine q_want (v := .string t4) (by kernel_rfl) ?_ ?_
        · intro w' hC
          go_simp
          refine (HD4.out _).mono ?_
          rintro e w'' ⟨rfl, hb2⟩
          exact ⟨rfl, hC.trans (hb2.mono hC.size)⟩
        try simp only [Act.put, List.setIfInBounds_toArray, List.set_cons_zero, List.set_cons_succ]
        refine q_want (v := ?_) (by kernel_rfl) ?_ ?_
        rotate_left
        · intro w' hC
          obtain ⟨j0, j1, j2, j3⟩ := HS2.out w' hC
          go_simp
          try with_reducible rfl
        try simp only [Act.put, List.setIfInBounds_toArray, List.set_cons_zero, List.set_cons_succ]
        refine q_want (v := ?_) (by kernel_rfl) ?_ ?_
        rotate_left
        · intro w' hC
          obtain ⟨j0, j1, j2, j3⟩ := HS2.out w' hC
          go_simp
          try with_reducible rfl
        try simp only [Act.put, List.setIfInBounds_toArray, List.set_cons_zero, List.set_cons_succ]
        refine wpQuiet_nil ?_
        intro w2 qq
        have hbz := HBU.out.trans (qq.mono HBU.out.size)
        clear HS2 qq z1 z2 z3 z4 z5 z6 z7 z8
        go_wp2
        go_roundw
        case rel => exact ⟨k + 1, by omega, by go_num, by rw [HW.out], hbz⟩
        case measure => simp [intOf]; omega
      · have hkl : k = ss.length := by omega
        subst hkl
        rw [List.take_length]
        have hB := HB.out.trans (hbr.mono HB.out.size)
        clear hbr
        go_wp2
        go_ret
        exact ⟨rfl, hB⟩

theorem sline_any (x : Ac) (sa : Option Addr) (cap : Nat) (w : World) (hok : AcOk x) (hr : ∀ y ∈ x.ss, siR y) (hss : SitesAt w 0 sa x.ss) :
    Calls Tryd.prog 11 #[.agg #[.int .i64 x.k, .int .i64 x.a, .int .i64 x.b, .int .i64 x.l, .bool x.s, .slice sa x.ss.length cap]] w fun e w' => e = .returned (.string (lineJ (actW x))) ∧ Below w.heap.size w w' := by
  have h := hok
  unfold AcOk AOK at h
  have ha : inR x.a := by unfold inR; omega
  have hb : inR x.b := by unfold inR; omega
  have hl : inR x.l := by unfold inR; omega
  have hn : x.ss.length ≤ 150 := by omega
  have hk : x.k = 1 ∨ x.k = 2 ∨ x.k = 3 ∨ x.k = 4 ∨ x.k = 5 := by omega
  clear h hok
  obtain ⟨k, a, b, l, s, ss⟩ := x
  simp only at *
  rcases hk with rfl | rfl | rfl | rfl | rfl
  · exact sline_run a b l s ss sa cap w ha
  · exact sline_tier a b l s ss sa cap w ha hl
  · exact sline_loop a b l s ss sa cap w ha hb hl
  · exact sline_drop a b l s ss sa cap w ha
  · exact sline_forge 5 a b l s ss sa cap w rfl hn hr hss
end Go.Proofs.YtedjabgkdogkfaaDoor
