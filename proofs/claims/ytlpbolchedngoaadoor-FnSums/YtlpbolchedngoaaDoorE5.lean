/-
  Values: sums, differences and products of numbers, in the program.
-/
import Derived.Test.YtlpbolchedngoaaDoorE4
namespace Go.Proofs.YtlpbolchedngoaaDoor
open Go.RowKit Go.Extern.Stop Go.Stop Go.Extern

theorem methodValue59 (v : Value) (w : World) : (Go.method 252 59 v "loop.example/g00094/impl.value").run Tryd.prog w = .ok (70, v) w := by kernel_rfl
theorem methodValue48 (v : Value) (w : World) : (Go.method 252 48 v "loop.example/g00094/impl.value").run Tryd.prog w = .ok (33, v) w := by kernel_rfl
theorem methodValue62 (v : Value) (w : World) : (Go.method 252 62 v "loop.example/g00094/impl.value").run Tryd.prog w = .ok (73, v) w := by kernel_rfl

set_option maxHeartbeats 400000 in
theorem answered_int (n : Int) (w : World) :
    Calls Tryd.prog 25 #[.iface 59 (.int .i64 n), .nilIface] w fun e w' => e = .returned (.tuple #[.agg #[.int .i64 1, .int .i64 n, .string ⟨#[]⟩], .int .i64 0]) ∧ Below w.heap.size w w' := by
  have m := methodValue59
  go_enter Tryd.func25, Tryd.ntmps25
  go_wp2_with fail
  refine (intValue_any _ _).mono ?_
  rintro e w1 ⟨rfl, hb⟩
  have hk := block_kept (block_new w _ _) hb
  have hc := block_cell hk
  have hf := block_free hk
  have hB : Below w.heap.size w w1 := ((Below.refl _ _).alloc (Nat.le_refl _) _).trans (hb.mono (by simp))
  go_wp2
  have hz := block_cell (stored3 (a := .int .i64 1) (b := .int .i64 n) (c := .string ⟨#[]⟩) hk)
  have z0 := hz 0
  have z1 := hz 1
  have z2 := hz 2
  refine bodyPost_ret (v := .tuple #[.agg #[.int .i64 1, .int .i64 n, .string ⟨#[]⟩], .int .i64 0]) (by simp [results, Tryd.results25, go_sem, z0, z1, z2]) rfl ⟨rfl, ?_⟩
  exact ((hB.setCell (Nat.le_refl _) _).setCell (Nat.le_refl _) _).setCell (Nat.le_refl _) _

/-- What comes of two numbers: the sum (or what else) of them where all three are numbers of the machine, else the trap. -/
def rangedV (op x y n : Int) (a : Addr) : Value := if num x && num y && num n then .tuple #[.iface 59 (.int .i64 n), .nilIface] else .tuple #[.nilIface, trapE op a]

theorem index0 (x y n : Value) (w : World) : (Instr.index 76 (.agg #[x, y, n]) (.int .i64 0)).run Tryd.prog w = .ok x w := by kernel_rfl
theorem index1 (x y n : Value) (w : World) : (Instr.index 76 (.agg #[x, y, n]) (.int .i64 1)).run Tryd.prog w = .ok y w := by kernel_rfl
theorem index2 (x y n : Value) (w : World) : (Instr.index 76 (.agg #[x, y, n]) (.int .i64 2)).run Tryd.prog w = .ok n w := by kernel_rfl

set_option maxRecDepth 100000 in
set_option maxHeartbeats 1000000 in
theorem ranged_lt1 (op x y n : Int) (a0 a1 a2 : Addr) (w : World) (h : Errs w a0 a1 a2) (hb : x < -1000000000) :
    Calls Tryd.prog 39 #[.int .i64 op, .int .i64 x, .int .i64 y, .int .i64 n] w fun e w' => e = .returned (.tuple #[.nilIface, trapE op a1]) ∧ Below w.heap.size w w' := by
  have g1 := h.g1
  have i0 := index0
  have i1 := index1
  have i2 := index2
  go_enter Tryd.func39, Tryd.ntmps39
  go_wp2
  refine wp_loop_rounds 1 ?_
  rw [rounds_succ]
  go_wp2
  go_quiet (fail)
  go_wp2
  go_ret2
  exact ⟨rfl, below_draws (Below.refl _ _) _⟩

set_option maxRecDepth 100000 in
set_option maxHeartbeats 1000000 in
theorem ranged_gt1 (op x y n : Int) (a0 a1 a2 : Addr) (w : World) (h : Errs w a0 a1 a2) (hb : 1000000000 < x) :
    Calls Tryd.prog 39 #[.int .i64 op, .int .i64 x, .int .i64 y, .int .i64 n] w fun e w' => e = .returned (.tuple #[.nilIface, trapE op a1]) ∧ Below w.heap.size w w' := by
  have g1 := h.g1
  have i0 := index0
  have i1 := index1
  have i2 := index2
  go_enter Tryd.func39, Tryd.ntmps39
  go_wp2
  refine wp_loop_rounds 1 ?_
  rw [rounds_succ]
  go_wp2
  go_quiet (fail)
  go_wp2
  go_ret2
  exact ⟨rfl, below_draws (Below.refl _ _) _⟩

set_option maxRecDepth 100000 in
set_option maxHeartbeats 1000000 in
theorem ranged_lt2 (op x y n : Int) (a0 a1 a2 : Addr) (w : World) (h : Errs w a0 a1 a2) (lx : ¬ x < -1000000000) (gx : ¬ 1000000000 < x) (hb : y < -1000000000) :
    Calls Tryd.prog 39 #[.int .i64 op, .int .i64 x, .int .i64 y, .int .i64 n] w fun e w' => e = .returned (.tuple #[.nilIface, trapE op a1]) ∧ Below w.heap.size w w' := by
  have g1 := h.g1
  have i0 := index0
  have i1 := index1
  have i2 := index2
  go_enter Tryd.func39, Tryd.ntmps39
  go_wp2
  refine wp_loop_rounds 2 ?_
  rw [rounds_succ]
  go_wp2
  rw [rounds_succ]
  go_wp2
  go_quiet (fail)
  go_wp2
  go_ret2
  exact ⟨rfl, below_draws (Below.refl _ _) _⟩

set_option maxRecDepth 100000 in
set_option maxHeartbeats 1000000 in
theorem ranged_gt2 (op x y n : Int) (a0 a1 a2 : Addr) (w : World) (h : Errs w a0 a1 a2) (lx : ¬ x < -1000000000) (gx : ¬ 1000000000 < x) (hb : 1000000000 < y) :
    Calls Tryd.prog 39 #[.int .i64 op, .int .i64 x, .int .i64 y, .int .i64 n] w fun e w' => e = .returned (.tuple #[.nilIface, trapE op a1]) ∧ Below w.heap.size w w' := by
  have g1 := h.g1
  have i0 := index0
  have i1 := index1
  have i2 := index2
  go_enter Tryd.func39, Tryd.ntmps39
  go_wp2
  refine wp_loop_rounds 2 ?_
  rw [rounds_succ]
  go_wp2
  rw [rounds_succ]
  go_wp2
  go_quiet (fail)
  go_wp2
  go_ret2
  exact ⟨rfl, below_draws (Below.refl _ _) _⟩

set_option maxRecDepth 100000 in
set_option maxHeartbeats 1000000 in
theorem ranged_lt3 (op x y n : Int) (a0 a1 a2 : Addr) (w : World) (h : Errs w a0 a1 a2) (lx : ¬ x < -1000000000) (gx : ¬ 1000000000 < x) (ly : ¬ y < -1000000000) (gy : ¬ 1000000000 < y) (hb : n < -1000000000) :
    Calls Tryd.prog 39 #[.int .i64 op, .int .i64 x, .int .i64 y, .int .i64 n] w fun e w' => e = .returned (.tuple #[.nilIface, trapE op a1]) ∧ Below w.heap.size w w' := by
  have g1 := h.g1
  have i0 := index0
  have i1 := index1
  have i2 := index2
  go_enter Tryd.func39, Tryd.ntmps39
  go_wp2
  refine wp_loop_rounds 3 ?_
  rw [rounds_succ]
  go_wp2
  rw [rounds_succ]
  go_wp2
  rw [rounds_succ]
  go_wp2
  go_quiet (fail)
  go_wp2
  go_ret2
  exact ⟨rfl, below_draws (Below.refl _ _) _⟩

set_option maxRecDepth 100000 in
set_option maxHeartbeats 1000000 in
theorem ranged_gt3 (op x y n : Int) (a0 a1 a2 : Addr) (w : World) (h : Errs w a0 a1 a2) (lx : ¬ x < -1000000000) (gx : ¬ 1000000000 < x) (ly : ¬ y < -1000000000) (gy : ¬ 1000000000 < y) (hb : 1000000000 < n) :
    Calls Tryd.prog 39 #[.int .i64 op, .int .i64 x, .int .i64 y, .int .i64 n] w fun e w' => e = .returned (.tuple #[.nilIface, trapE op a1]) ∧ Below w.heap.size w w' := by
  have g1 := h.g1
  have i0 := index0
  have i1 := index1
  have i2 := index2
  go_enter Tryd.func39, Tryd.ntmps39
  go_wp2
  refine wp_loop_rounds 3 ?_
  rw [rounds_succ]
  go_wp2
  rw [rounds_succ]
  go_wp2
  rw [rounds_succ]
  go_wp2
  go_quiet (fail)
  go_wp2
  go_ret2
  exact ⟨rfl, below_draws (Below.refl _ _) _⟩

set_option maxRecDepth 100000 in
set_option maxHeartbeats 1000000 in
theorem ranged_ok (op x y n : Int) (w : World) (lx : ¬ x < -1000000000) (gx : ¬ 1000000000 < x) (ly : ¬ y < -1000000000) (gy : ¬ 1000000000 < y) (ln : ¬ n < -1000000000) (gn : ¬ 1000000000 < n) :
    Calls Tryd.prog 39 #[.int .i64 op, .int .i64 x, .int .i64 y, .int .i64 n] w fun e w' => e = .returned (.tuple #[.iface 59 (.int .i64 n), .nilIface]) ∧ Below w.heap.size w w' := by
  have i0 := index0
  have i1 := index1
  have i2 := index2
  go_enter Tryd.func39, Tryd.ntmps39
  go_wp2
  refine wp_loop_rounds 4 ?_
  rw [rounds_succ]
  go_wp2
  rw [rounds_succ]
  go_wp2
  rw [rounds_succ]
  go_wp2
  rw [rounds_succ]
  go_wp2
  go_ret2
  exact ⟨rfl, Below.refl _ _⟩

theorem ranged_any (op x y n : Int) (a0 a1 a2 : Addr) (w : World) (h : Errs w a0 a1 a2) :
    Calls Tryd.prog 39 #[.int .i64 op, .int .i64 x, .int .i64 y, .int .i64 n] w fun e w' => e = .returned (rangedV op x y n a1) ∧ Below w.heap.size w w' := by
  by_cases lx : x < -1000000000
  · rw [show rangedV op x y n a1 = .tuple #[.nilIface, trapE op a1] by rw [rangedV, if_neg]; simp [num]; omega]; exact ranged_lt1 op x y n a0 a1 a2 w h lx
  by_cases gx : 1000000000 < x
  · rw [show rangedV op x y n a1 = .tuple #[.nilIface, trapE op a1] by rw [rangedV, if_neg]; simp [num]; omega]; exact ranged_gt1 op x y n a0 a1 a2 w h gx
  by_cases ly : y < -1000000000
  · rw [show rangedV op x y n a1 = .tuple #[.nilIface, trapE op a1] by rw [rangedV, if_neg]; simp [num]; omega]; exact ranged_lt2 op x y n a0 a1 a2 w h lx gx ly
  by_cases gy : 1000000000 < y
  · rw [show rangedV op x y n a1 = .tuple #[.nilIface, trapE op a1] by rw [rangedV, if_neg]; simp [num]; omega]; exact ranged_gt2 op x y n a0 a1 a2 w h lx gx gy
  by_cases ln : n < -1000000000
  · rw [show rangedV op x y n a1 = .tuple #[.nilIface, trapE op a1] by rw [rangedV, if_neg]; simp [num]; omega]; exact ranged_lt3 op x y n a0 a1 a2 w h lx gx ly gy ln
  by_cases gn : 1000000000 < n
  · rw [show rangedV op x y n a1 = .tuple #[.nilIface, trapE op a1] by rw [rangedV, if_neg]; simp [num]; omega]; exact ranged_gt3 op x y n a0 a1 a2 w h lx gx ly gy gn
  · rw [show rangedV op x y n a1 = .tuple #[.iface 59 (.int .i64 n), .nilIface] by rw [rangedV, if_pos]; simp [num]; omega]; exact ranged_ok op x y n w lx gx ly gy ln gn
end Go.Proofs.YtlpbolchedngoaaDoor
