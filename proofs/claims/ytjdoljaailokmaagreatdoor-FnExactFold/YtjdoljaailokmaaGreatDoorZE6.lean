/-
  Values: what the program's difference, product and order of two things are.
-/
import Derived.Test.YtjdoljaailokmaaGreatDoorZFQ3
namespace Go.Proofs.YtjdoljaailokmaaGreatDoor
open Go.RowKit Go.Extern.Stop Go.Stop Go.Extern

theorem asInt_hit (v : Value) (w : World) : (Instr.typeAssert (.iface 109 v) 135 109 true).run Tryz.prog w = .ok (.tuple #[v, .bool true]) w := by kernel_rfl
theorem asInt_miss (k n : Int) (s : ByteArray) (h : k ≠ 1) (w : World) : (Instr.typeAssert (thing k n s) 135 109 true).run Tryz.prog w = .ok (.tuple #[.int .i64 0, .bool false]) w := by
  unfold thing
  rw [if_neg h]
  split
  · kernel_rfl
  split
  · kernel_rfl
  split
  · kernel_rfl
  split
  · kernel_rfl
  split
  · kernel_rfl
  · kernel_rfl
theorem asText_hit (v : Value) (w : World) : (Instr.typeAssert (.iface 146 v) 135 146 true).run Tryz.prog w = .ok (.tuple #[v, .bool true]) w := by kernel_rfl
theorem asText_miss (k n : Int) (s : ByteArray) (h : k ≠ 3) (w : World) : (Instr.typeAssert (thing k n s) 135 146 true).run Tryz.prog w = .ok (.tuple #[.string ⟨#[]⟩, .bool false]) w := by
  unfold thing
  rw [if_neg h]
  split
  · kernel_rfl
  split
  · kernel_rfl
  split
  · kernel_rfl
  split
  · kernel_rfl
  split
  · kernel_rfl
  · kernel_rfl
theorem thing_1 (n : Int) (s : ByteArray) : thing 1 n s = .iface 109 (.int .i64 n) := rfl
theorem thing_3 (n : Int) (s : ByteArray) : thing 3 n s = .iface 146 (.string s) := rfl

/-- What comes out where no trap was told, and the trap. -/
def outT (t : Int) (v : Value) : Value := if t = 0 then v else .nilIface
def outE (op t : Int) (a0 a1 a2 : Addr) : Value := if t = 0 then .nilIface else trapE op (trapAt t a0 a1 a2)
def ak (t x : Int) : Int := if t = 0 then x else 0
def sk (t : Int) (s : ByteArray) : ByteArray := if t = 0 then s else ⟨#[]⟩
/-- The trap of three numbers: the two that were there, and what came of them. -/
def rT (x y n : Int) : Int := if num x && num y && num n then 0 else 2

theorem ranged_out (op x y n : Int) (a0 a1 a2 : Addr) (w : World) (h : Errs w a0 a1 a2) :
    Calls Tryz.prog 99 #[.int .i64 op, .int .i64 x, .int .i64 y, .int .i64 n] w fun e w' => e = .returned (.tuple #[outT (rT x y n) (thing 1 n ⟨#[]⟩), outE op (rT x y n) a0 a1 a2]) ∧ Below w.heap.size w w' := by
  refine (ranged_any op x y n a0 a1 a2 w h).mono ?_
  rintro e w' ⟨rfl, hb⟩
  refine ⟨?_, hb⟩
  by_cases q : (num x && num y && num n) = true
  · rw [rangedV, rT, if_pos q, if_pos q]; rfl
  · rw [rangedV, rT, if_neg q, if_neg q]; rfl

/-- The trap of two values that are to be numbers. -/
def numT (k k' x y n : Int) : Int := if k = 1 ∧ k' = 1 then rT x y n else 1

set_option maxRecDepth 100000 in
set_option maxHeartbeats 1000000 in
theorem difference_type (k n k' n' : Int) (s s' : ByteArray) (a0 a1 a2 : Addr) (w : World) (h : Errs w a0 a1 a2) (hk : k ≠ 1 ∨ k' ≠ 1) :
    Calls Tryz.prog 92 #[thing k n s, thing k' n' s'] w fun e w' => e = .returned (.tuple #[.nilIface, trapE 12 a0]) ∧ Below w.heap.size w w' := by
  have g0 := h.g0
  have q := asInt_hit
  by_cases e1 : k = 1
  · have e2 : k' ≠ 1 := by omega
    have m := asInt_miss k' n' s' e2
    subst e1
    rw [thing_1]
    go_enter Tryz.func92, Tryz.ntmps92
    go_wp2
    go_quiet (fail)
    go_wp2
    go_ret2
    exact ⟨rfl, below_draws (Below.refl _ _) _⟩
  · have m := asInt_miss k n s e1
    by_cases e2 : k' = 1
    · subst e2
      rw [thing_1]
      go_enter Tryz.func92, Tryz.ntmps92
      go_wp2
      go_quiet (fail)
      go_wp2
      go_ret2
      exact ⟨rfl, below_draws (Below.refl _ _) _⟩
    · have m' := asInt_miss k' n' s' e2
      go_enter Tryz.func92, Tryz.ntmps92
      go_wp2
      go_quiet (fail)
      go_wp2
      go_ret2
      exact ⟨rfl, below_draws (Below.refl _ _) _⟩

set_option maxRecDepth 100000 in
set_option maxHeartbeats 1000000 in
theorem difference_ok (n n' : Int) (s s' : ByteArray) (a0 a1 a2 : Addr) (w : World) (h : Errs w a0 a1 a2) :
    Calls Tryz.prog 92 #[thing 1 n s, thing 1 n' s'] w fun e w' => e = .returned (.tuple #[outT (rT n n' (wrap64 (n - n'))) (thing 1 (wrap64 (n - n')) ⟨#[]⟩), outE 12 (rT n n' (wrap64 (n - n'))) a0 a1 a2]) ∧ Below w.heap.size w w' := by
  rw [thing_1, thing_1]
  have q := asInt_hit
  go_enter Tryz.func92, Tryz.ntmps92
  go_wp2_with fail
  refine (ranged_out _ _ _ _ a0 a1 a2 _ h).mono ?_
  rintro e w1 ⟨rfl, hb⟩
  go_wp2
  go_ret2
  exact ⟨rfl, hb⟩

theorem difference_any (k n k' n' : Int) (s s' : ByteArray) (a0 a1 a2 : Addr) (w : World) (h : Errs w a0 a1 a2) :
    Calls Tryz.prog 92 #[thing k n s, thing k' n' s'] w fun e w' => e = .returned (.tuple #[outT (numT k k' n n' (wrap64 (n - n'))) (thing 1 (wrap64 (n - n')) ⟨#[]⟩), outE 12 (numT k k' n n' (wrap64 (n - n'))) a0 a1 a2]) ∧ Below w.heap.size w w' := by
  by_cases hk : k = 1 ∧ k' = 1
  · obtain ⟨rfl, rfl⟩ := hk
    exact difference_ok n n' s s' a0 a1 a2 w h
  · have e : numT k k' n n' (wrap64 (n - n')) = 1 := by rw [numT, if_neg hk]
    rw [e]
    exact difference_type k n k' n' s s' a0 a1 a2 w h (by omega)

set_option maxRecDepth 100000 in
set_option maxHeartbeats 1000000 in
theorem product_type (k n k' n' : Int) (s s' : ByteArray) (a0 a1 a2 : Addr) (w : World) (h : Errs w a0 a1 a2) (hk : k ≠ 1 ∨ k' ≠ 1) :
    Calls Tryz.prog 93 #[thing k n s, thing k' n' s'] w fun e w' => e = .returned (.tuple #[.nilIface, trapE 13 a0]) ∧ Below w.heap.size w w' := by
  have g0 := h.g0
  have q := asInt_hit
  by_cases e1 : k = 1
  · have e2 : k' ≠ 1 := by omega
    have m := asInt_miss k' n' s' e2
    subst e1
    rw [thing_1]
    go_enter Tryz.func93, Tryz.ntmps93
    go_wp2
    go_quiet (fail)
    go_wp2
    go_ret2
    exact ⟨rfl, below_draws (Below.refl _ _) _⟩
  · have m := asInt_miss k n s e1
    by_cases e2 : k' = 1
    · subst e2
      rw [thing_1]
      go_enter Tryz.func93, Tryz.ntmps93
      go_wp2
      go_quiet (fail)
      go_wp2
      go_ret2
      exact ⟨rfl, below_draws (Below.refl _ _) _⟩
    · have m' := asInt_miss k' n' s' e2
      go_enter Tryz.func93, Tryz.ntmps93
      go_wp2
      go_quiet (fail)
      go_wp2
      go_ret2
      exact ⟨rfl, below_draws (Below.refl _ _) _⟩

set_option maxRecDepth 100000 in
set_option maxHeartbeats 1000000 in
theorem product_ok (n n' : Int) (s s' : ByteArray) (a0 a1 a2 : Addr) (w : World) (h : Errs w a0 a1 a2) :
    Calls Tryz.prog 93 #[thing 1 n s, thing 1 n' s'] w fun e w' => e = .returned (.tuple #[outT (rT n n' (wrap64 (n * n'))) (thing 1 (wrap64 (n * n')) ⟨#[]⟩), outE 13 (rT n n' (wrap64 (n * n'))) a0 a1 a2]) ∧ Below w.heap.size w w' := by
  rw [thing_1, thing_1]
  have q := asInt_hit
  go_enter Tryz.func93, Tryz.ntmps93
  go_wp2_with fail
  refine (ranged_out _ _ _ _ a0 a1 a2 _ h).mono ?_
  rintro e w1 ⟨rfl, hb⟩
  go_wp2
  go_ret2
  exact ⟨rfl, hb⟩

theorem product_any (k n k' n' : Int) (s s' : ByteArray) (a0 a1 a2 : Addr) (w : World) (h : Errs w a0 a1 a2) :
    Calls Tryz.prog 93 #[thing k n s, thing k' n' s'] w fun e w' => e = .returned (.tuple #[outT (numT k k' n n' (wrap64 (n * n'))) (thing 1 (wrap64 (n * n')) ⟨#[]⟩), outE 13 (numT k k' n n' (wrap64 (n * n'))) a0 a1 a2]) ∧ Below w.heap.size w w' := by
  by_cases hk : k = 1 ∧ k' = 1
  · obtain ⟨rfl, rfl⟩ := hk
    exact product_ok n n' s s' a0 a1 a2 w h
  · have e : numT k k' n n' (wrap64 (n * n')) = 1 := by rw [numT, if_neg hk]
    rw [e]
    exact product_type k n k' n' s s' a0 a1 a2 w h (by omega)

theorem rT_bounds (x y n : Int) : 0 ≤ rT x y n ∧ rT x y n ≤ 3 := by unfold rT; split <;> omega
theorem numT_bounds (k k' x y n : Int) : 0 ≤ numT k k' x y n ∧ numT k k' x y n ≤ 3 := by
  unfold numT
  have := rT_bounds x y n
  split <;> omega

set_option maxHeartbeats 400000 in
theorem answered_bool (n : Int) (w : World) :
    Calls Tryz.prog 89 #[.iface 153 (.int .i64 n), .nilIface] w fun e w' => e = .returned (.tuple #[.agg #[.int .i64 2, .int .i64 n, .string ⟨#[]⟩], .int .i64 0]) ∧ Below w.heap.size w w' := by
  have m := methodValue48
  go_enter Tryz.func89, Tryz.ntmps89
  go_wp2_with fail
  refine (boolValue_any _ _).mono ?_
  rintro e w1 ⟨rfl, hb⟩
  have hk := block_kept (block_new w _ _) hb
  have hc := block_cell hk
  have hf := block_free hk
  have hB : Below w.heap.size w w1 := ((Below.refl _ _).alloc (Nat.le_refl _) _).trans (hb.mono (by simp))
  go_wp2
  have hz := block_cell (stored3 (a := .int .i64 2) (b := .int .i64 n) (c := .string ⟨#[]⟩) hk)
  have z0 := hz 0
  have z1 := hz 1
  have z2 := hz 2
  refine bodyPost_ret (v := .tuple #[.agg #[.int .i64 2, .int .i64 n, .string ⟨#[]⟩], .int .i64 0]) (by simp [results, Tryz.results89, go_sem, z0, z1, z2]) rfl ⟨rfl, ?_⟩
  exact ((hB.setCell (Nat.le_refl _) _).setCell (Nat.le_refl _) _).setCell (Nat.le_refl _) _

set_option maxHeartbeats 400000 in
theorem answered_text (s : ByteArray) (w : World) :
    Calls Tryz.prog 89 #[.iface 146 (.string s), .nilIface] w fun e w' => e = .returned (.tuple #[.agg #[.int .i64 3, .int .i64 0, .string s], .int .i64 0]) ∧ Below w.heap.size w w' := by
  have m := methodValue62
  go_enter Tryz.func89, Tryz.ntmps89
  go_wp2_with fail
  refine (textValue_any _ _).mono ?_
  rintro e w1 ⟨rfl, hb⟩
  have hk := block_kept (block_new w _ _) hb
  have hc := block_cell hk
  have hf := block_free hk
  have hB : Below w.heap.size w w1 := ((Below.refl _ _).alloc (Nat.le_refl _) _).trans (hb.mono (by simp))
  go_wp2
  have hz := block_cell (stored3 (a := .int .i64 3) (b := .int .i64 0) (c := .string s) hk)
  have z0 := hz 0
  have z1 := hz 1
  have z2 := hz 2
  refine bodyPost_ret (v := .tuple #[.agg #[.int .i64 3, .int .i64 0, .string s], .int .i64 0]) (by simp [results, Tryz.results89, go_sem, z0, z1, z2]) rfl ⟨rfl, ?_⟩
  exact ((hB.setCell (Nat.le_refl _) _).setCell (Nat.le_refl _) _).setCell (Nat.le_refl _) _

/-- A value that is just its thing, of one of the kinds that come out. -/
def Just (k n : Int) (s : ByteArray) : Prop := (k = 1 ∧ s = ⟨#[]⟩) ∨ (k = 2 ∧ s = ⟨#[]⟩) ∨ (k = 3 ∧ n = 0)

theorem answered_any (op t k n : Int) (s : ByteArray) (a0 a1 a2 : Addr) (w : World) (h : Errs w a0 a1 a2) (h0 : 0 ≤ t) (h3 : t ≤ 3) (hj : Just k n s) :
    Calls Tryz.prog 89 #[outT t (thing k n s), outE op t a0 a1 a2] w fun e w' => e = .returned (.tuple #[.agg #[.int .i64 (ak t k), .int .i64 (ak t n), .string (sk t s)], .int .i64 t]) ∧ Below w.heap.size w w' := by
  by_cases e : t = 0
  · subst e
    rcases hj with ⟨rfl, rfl⟩ | ⟨rfl, rfl⟩ | ⟨rfl, rfl⟩
    · exact answered_int n w
    · exact answered_bool n w
    · exact answered_text s w
  · simp only [outT, outE, ak, sk, if_neg e]
    exact answered_trap op t a0 a1 a2 w h (by omega) h3
end Go.Proofs.YtjdoljaailokmaaGreatDoor
