/-
  Values: which of two things is less, in the program.
-/
import Derived.Test.YtlpbolchedngoaaDoorE6
namespace Go.Proofs.YtlpbolchedngoaaDoor
open Go.RowKit Go.Extern.Stop Go.Stop Go.Extern

theorem asInt_text (v : Value) (w : World) : (Instr.typeAssert (.iface 62 v) 41 59 true).run Tryd.prog w = .ok (.tuple #[.int .i64 0, .bool false]) w := by kernel_rfl

/-- Whether one of two numbers, or of two texts, is less; and the trap of two values that are neither. -/
def lessB (k n n' : Int) (s s' : ByteArray) : Bool := if k = 3 then Op.bytesLess s.toList s'.toList else decide (n < n')
def lessT (k k' : Int) : Int := if (k = 1 ∧ k' = 1) ∨ (k = 3 ∧ k' = 3) then 0 else 1
theorem lessT_bounds (k k' : Int) : 0 ≤ lessT k k' ∧ lessT k k' ≤ 3 := by unfold lessT; split <;> omega

set_option maxRecDepth 100000 in
set_option maxHeartbeats 1000000 in
theorem order_int (n n' : Int) (w : World) :
    Calls Tryd.prog 31 #[.iface 59 (.int .i64 n), .iface 59 (.int .i64 n')] w fun e w' => e = .returned (.tuple #[.iface 48 (.int .i64 (tr (decide (n < n')))), .nilIface]) ∧ Below w.heap.size w w' := by
  have q := asInt_hit
  go_enter Tryd.func31, Tryd.ntmps31
  go_wp2_with fail
  refine (truthOf_any _ _).mono ?_
  rintro e w1 ⟨rfl, rfl⟩
  go_wp2
  go_ret2
  exact ⟨rfl, Below.refl _ _⟩

set_option maxRecDepth 100000 in
set_option maxHeartbeats 1000000 in
theorem order_text (s s' : ByteArray) (w : World) :
    Calls Tryd.prog 31 #[.iface 62 (.string s), .iface 62 (.string s')] w fun e w' => e = .returned (.tuple #[.iface 48 (.int .i64 (tr (Op.bytesLess s.toList s'.toList))), .nilIface]) ∧ Below w.heap.size w w' := by
  have q := asInt_text
  have q' := asText_hit
  go_enter Tryd.func31, Tryd.ntmps31
  go_wp2_with fail
  refine (truthOf_any _ _).mono ?_
  rintro e w1 ⟨rfl, rfl⟩
  go_wp2
  go_ret2
  exact ⟨rfl, Below.refl _ _⟩

set_option maxRecDepth 100000 in
set_option maxHeartbeats 1000000 in
theorem order_type1 (n k' n' : Int) (s s' : ByteArray) (a0 a1 a2 : Addr) (w : World) (h : Errs w a0 a1 a2) (hk : k' ≠ 1) :
    Calls Tryd.prog 31 #[thing 1 n s, thing k' n' s'] w fun e w' => e = .returned (.tuple #[.nilIface, trapE 14 a0]) ∧ Below w.heap.size w w' := by
  have g0 := h.g0
  have q := asInt_hit
  have m := asInt_miss k' n' s' hk
  rw [thing_1]
  go_enter Tryd.func31, Tryd.ntmps31
  go_wp2
  go_quiet (fail)
  go_wp2
  go_ret2
  exact ⟨rfl, below_draws (Below.refl _ _) _⟩

set_option maxRecDepth 100000 in
set_option maxHeartbeats 1000000 in
theorem order_type3 (n k' n' : Int) (s s' : ByteArray) (a0 a1 a2 : Addr) (w : World) (h : Errs w a0 a1 a2) (hk : k' ≠ 3) :
    Calls Tryd.prog 31 #[thing 3 n s, thing k' n' s'] w fun e w' => e = .returned (.tuple #[.nilIface, trapE 14 a0]) ∧ Below w.heap.size w w' := by
  have g0 := h.g0
  have q := asInt_text
  have q' := asText_hit
  have m := asText_miss k' n' s' hk
  rw [thing_3]
  go_enter Tryd.func31, Tryd.ntmps31
  go_wp2
  go_quiet (fail)
  go_wp2
  go_ret2
  exact ⟨rfl, below_draws (Below.refl _ _) _⟩

set_option maxRecDepth 100000 in
set_option maxHeartbeats 1000000 in
theorem order_type (k n k' n' : Int) (s s' : ByteArray) (a0 a1 a2 : Addr) (w : World) (h : Errs w a0 a1 a2) (h1 : k ≠ 1) (h3 : k ≠ 3) :
    Calls Tryd.prog 31 #[thing k n s, thing k' n' s'] w fun e w' => e = .returned (.tuple #[.nilIface, trapE 14 a0]) ∧ Below w.heap.size w w' := by
  have g0 := h.g0
  have m := asInt_miss k n s h1
  have m' := asText_miss k n s h3
  go_enter Tryd.func31, Tryd.ntmps31
  go_wp2
  go_quiet (fail)
  go_wp2
  go_ret2
  exact ⟨rfl, below_draws (Below.refl _ _) _⟩

theorem order_any (k n k' n' : Int) (s s' : ByteArray) (a0 a1 a2 : Addr) (w : World) (h : Errs w a0 a1 a2) :
    Calls Tryd.prog 31 #[thing k n s, thing k' n' s'] w fun e w' => e = .returned (.tuple #[outT (lessT k k') (thing 2 (tr (lessB k n n' s s')) ⟨#[]⟩), outE 14 (lessT k k') a0 a1 a2]) ∧ Below w.heap.size w w' := by
  by_cases h1 : k = 1
  · subst h1
    by_cases h2 : k' = 1
    · subst h2
      exact order_int n n' w
    · rw [show lessT 1 k' = 1 by simp [lessT, h2]]
      exact order_type1 n k' n' s s' a0 a1 a2 w h h2
  by_cases h3 : k = 3
  · subst h3
    by_cases h2 : k' = 3
    · subst h2
      exact order_text s s' w
    · rw [show lessT 3 k' = 1 by simp [lessT, h2]]
      exact order_type3 n k' n' s s' a0 a1 a2 w h h2
  · rw [show lessT k k' = 1 by simp [lessT, h1, h3]]
    exact order_type k n k' n' s s' a0 a1 a2 w h h1 h3
end Go.Proofs.YtlpbolchedngoaaDoor
