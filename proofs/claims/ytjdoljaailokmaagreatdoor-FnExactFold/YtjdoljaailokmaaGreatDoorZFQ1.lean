/-
  Values: what the small functions of the laws, of the document's model and of the program return of one value.
  Values: a value as the program's own kind of thing, and back.
  Values: what errors.Is answers at a trap of the program's own type that wraps one of its three errors, and the trap's number.
  Values: the program's own three errors in memory, a trap's number, and what an answer is of what came of two things.
  What the program's three errors hold when a law begins.
-/
import Derived.Test.YtjdoljaailokmaaGreatDoorProg
import Derived.WalkKit
import Derived.WalkSpells
import Derived.WalkLawsBesides
import Derived.Deep.QuietTactic
import Derived.BigQuiet
import Derived.Deep.RegionWith
import Derived.LaidEql
import Derived.Stop.Asserts
import Derived.RowKitTokens
import Derived.Test.YtjdoljaailokmaaGreatDoorRows
import Derived.ProofKit
import Derived.OpenShut
import Derived.MakeChecks
import Derived.Stop.LaidTwo
import Derived.Lib.SmallJoins
namespace Go.Proofs.YtjdoljaailokmaaGreatDoor
open Go.RowKit

theorem ret_bool {a b : Bool} (h : a = b) : Ending.returned (.bool a) = .returned (.bool b) := by rw [h]
theorem below_draws {B : Nat} {a w : World} (h : Below B a w) (n : Nat) : Below B a (w.drewN n) := h.trans ⟨rfl, rfl, rfl, Nat.le_refl _, fun _ _ => rfl⟩

set_option maxHeartbeats 400000 in
theorem between_any (n lo hi : Int) (w : World) :
    Calls Tryz.prog 56 #[.int .i64 n, .int .i64 lo, .int .i64 hi] w fun e w' => e = .returned (.bool (decide (lo ≤ n) && decide (n ≤ hi))) ∧ w' = w := by
  by_cases h1 : lo ≤ n
  · by_cases h2 : n ≤ hi
    all_goals
      go_enter Tryz.func56, Tryz.ntmps56
      go_wp2
      go_ret
      exact ⟨ret_bool (by rw [Bool.eq_iff_iff]; simp; omega), rfl⟩
  · go_enter Tryz.func56, Tryz.ntmps56
    go_wp2
    go_ret
    exact ⟨ret_bool (by rw [Bool.eq_iff_iff]; simp; omega), rfl⟩

/-- A number of the machine. -/
def num (n : Int) : Bool := decide (-1000000000 ≤ n) && decide (n ≤ 1000000000)

set_option maxHeartbeats 400000 in
theorem sNum_any (n : Int) (w : World) : Calls Tryz.prog 33 #[.int .i64 n] w fun e w' => e = .returned (.bool (num n)) ∧ w' = w := by
  go_enter Tryz.func33, Tryz.ntmps33
  go_wp2_with fail
  refine (between_any _ _ _ _).mono ?_
  rintro e w1 ⟨rfl, rfl⟩
  go_wp2
  go_ret
  exact ⟨rfl, rfl⟩

/-- A truth as a number. -/
def tr (b : Bool) : Int := if b then 1 else 0

set_option maxHeartbeats 400000 in
theorem boolValue_any (n : Int) (w : World) : Calls Tryz.prog 137 #[.int .i64 n] w fun e w' => e = .returned (.agg #[.int .i64 2, .int .i64 n, .string ⟨#[]⟩]) ∧ Below w.heap.size w w' := by
  go_enter Tryz.func137, Tryz.ntmps137
  go_wp2
  refine bodyPost_ret (v := .agg #[.int .i64 2, .int .i64 n, .string ⟨#[]⟩]) (by simp [results, Tryz.results137, go_sem]) rfl ⟨rfl, ?_⟩
  repeat (first | exact Below.refl _ _ | refine Below.alloc ?_ (by first | exact Nat.le_refl _ | (simp <;> omega)) _ | refine Below.setCell ?_ (by first | exact Nat.le_refl _ | (simp <;> omega)) _)

end Go.Proofs.YtjdoljaailokmaaGreatDoor

namespace Go.Proofs.YtjdoljaailokmaaGreatDoor
open Go.RowKit

/-- A value as a thing: an interface value, by its kind. -/
def thing (k n : Int) (s : ByteArray) : Value :=
  if k = 0 then .iface 152 (.agg #[]) else if k = 1 then .iface 109 (.int .i64 n) else if k = 2 then .iface 153 (.int .i64 n) else if k = 3 then .iface 146 (.string s)
  else if k = 4 then .iface 154 (.int .i64 n) else if k = 5 then .iface 155 (.int .i64 n) else .iface 156 (.int .i64 k)

set_option maxHeartbeats 1000000 in
theorem thingOf_any (k n : Int) (s : ByteArray) (w : World) :
    Calls Tryz.prog 91 #[.agg #[.int .i64 k, .int .i64 n, .string s]] w fun e w' => e = .returned (thing k n s) ∧ Below w.heap.size w w' := by
  by_cases h0 : k = 0
  · subst h0
    go_enter Tryz.func91, Tryz.ntmps91
    go_wp2
    go_ret
    exact ⟨rfl, (Below.refl _ _).alloc (Nat.le_refl _) _⟩
  by_cases h1 : k = 1
  · subst h1
    go_enter Tryz.func91, Tryz.ntmps91
    go_wp2
    go_ret
    exact ⟨rfl, (Below.refl _ _).alloc (Nat.le_refl _) _⟩
  by_cases h2 : k = 2
  · subst h2
    go_enter Tryz.func91, Tryz.ntmps91
    go_wp2
    go_ret
    exact ⟨rfl, (Below.refl _ _).alloc (Nat.le_refl _) _⟩
  by_cases h3 : k = 3
  · subst h3
    go_enter Tryz.func91, Tryz.ntmps91
    go_wp2
    go_ret
    exact ⟨rfl, (Below.refl _ _).alloc (Nat.le_refl _) _⟩
  by_cases h4 : k = 4
  · subst h4
    go_enter Tryz.func91, Tryz.ntmps91
    go_wp2
    go_ret
    exact ⟨rfl, (Below.refl _ _).alloc (Nat.le_refl _) _⟩
  by_cases h5 : k = 5
  · subst h5
    go_enter Tryz.func91, Tryz.ntmps91
    go_wp2
    go_ret
    exact ⟨rfl, (Below.refl _ _).alloc (Nat.le_refl _) _⟩
  have e : thing k n s = .iface 156 (.int .i64 k) := by simp [thing, h0, h1, h2, h3, h4, h5]
  rw [e]
  clear e
  have b0 : (k == 0) = false := by simpa using h0
  have b1 : (k == 1) = false := by simpa using h1
  have b2 : (k == 2) = false := by simpa using h2
  have b3 : (k == 3) = false := by simpa using h3
  have b4 : (k == 4) = false := by simpa using h4
  have b5 : (k == 5) = false := by simpa using h5
  clear h0 h1 h2 h3 h4 h5
  go_enter Tryz.func91, Tryz.ntmps91
  go_wp2
  go_ret
  exact ⟨rfl, (Below.refl _ _).alloc (Nat.le_refl _) _⟩

set_option maxHeartbeats 400000 in
theorem intValue_any (n : Int) (w : World) : Calls Tryz.prog 66 #[.int .i64 n] w fun e w' => e = .returned (.agg #[.int .i64 1, .int .i64 n, .string ⟨#[]⟩]) ∧ Below w.heap.size w w' := by
  go_enter Tryz.func66, Tryz.ntmps66
  go_wp2
  refine bodyPost_ret (v := .agg #[.int .i64 1, .int .i64 n, .string ⟨#[]⟩]) (by simp [results, Tryz.results66, go_sem]) rfl ⟨rfl, ?_⟩
  repeat (first | exact Below.refl _ _ | refine Below.alloc ?_ (by first | exact Nat.le_refl _ | (simp <;> omega)) _ | refine Below.setCell ?_ (by first | exact Nat.le_refl _ | (simp <;> omega)) _)

set_option maxHeartbeats 400000 in
theorem textValue_any (s : ByteArray) (w : World) : Calls Tryz.prog 129 #[.string s] w fun e w' => e = .returned (.agg #[.int .i64 3, .int .i64 0, .string s]) ∧ Below w.heap.size w w' := by
  go_enter Tryz.func129, Tryz.ntmps129
  go_wp2
  refine bodyPost_ret (v := .agg #[.int .i64 3, .int .i64 0, .string s]) (by simp [results, Tryz.results129, go_sem]) rfl ⟨rfl, ?_⟩
  repeat (first | exact Below.refl _ _ | refine Below.alloc ?_ (by first | exact Nat.le_refl _ | (simp <;> omega)) _ | refine Below.setCell ?_ (by first | exact Nat.le_refl _ | (simp <;> omega)) _)
end Go.Proofs.YtjdoljaailokmaaGreatDoor

namespace Go.Proofs.YtjdoljaailokmaaGreatDoor
open Go.RowKit Go.Extern.Stop Go.Stop Go.Extern

theorem lt_block {w : World} {g : Nat} {o : Obj} (h : w.heap[g]? = some o) : g < w.heap.size := by
  rcases Nat.lt_or_ge g w.heap.size with h' | h'
  · exact h'
  · rw [Array.getElem?_eq_none h'] at h; cases h
theorem isTypeOf (v : Value) (w : World) : (Extern.ReflectliteType.typeOf #[.iface 184 v]).run Tryz.prog w = .ok (.iface 172 (.agg #[.pointer (some ⟨3, 184, none⟩)])) w := by kernel_rfl
theorem isComparable (w : World) : ((Extern.ReflectliteType.method fun t => do Extern.Rtype.noPackHeld "Comparable" t; (fun a => Value.bool a.comparable) <$> typeInfo t) #[.agg #[.pointer (some ⟨3, 184, none⟩)]]).run Tryz.prog w = .ok (.bool true) w := by kernel_rfl
theorem isComp : (Tryz.prog.info? 184).map (·.comparable) = some true := by kernel_rfl
theorem isSize : (Tryz.prog.info? 208).map (·.size) = some 1 := by kernel_rfl
theorem noIsE (v : Value) (xT : TypeId) (w : World) : (Instr.typeAssert (.iface 184 v) xT 174 true).run Tryz.prog w = .ok (.tuple #[.nilIface, .bool false]) w := run_typeAssert_lacksB Tryz.underlying174 (by kernel_rfl) (by kernel_rfl) v xT w
theorem noUnwrapE (v : Value) (xT : TypeId) (w : World) : (Instr.typeAssert (.iface 184 v) xT 177 true).run Tryz.prog w = .ok (.tuple #[.nilIface, .bool false]) w := run_typeAssert_lacksB Tryz.underlying177 (by kernel_rfl) (by kernel_rfl) v xT w
theorem noUnwrapsE (v : Value) (xT : TypeId) (w : World) : (Instr.typeAssert (.iface 184 v) xT 179 true).run Tryz.prog w = .ok (.tuple #[.nilIface, .bool false]) w := run_typeAssert_lacksB Tryz.underlying179 (by kernel_rfl) (by kernel_rfl) v xT w
theorem noIsW (v : Value) (xT : TypeId) (w : World) : (Instr.typeAssert (.iface 150 v) xT 174 true).run Tryz.prog w = .ok (.tuple #[.nilIface, .bool false]) w := run_typeAssert_lacksB Tryz.underlying174 (by kernel_rfl) (by kernel_rfl) v xT w
theorem hasUnwrapW (v : Value) (xT : TypeId) (w : World) : (Instr.typeAssert (.iface 150 v) xT 177 true).run Tryz.prog w = .ok (.tuple #[.iface 150 v, .bool true]) w := run_typeAssert_hasB Tryz.underlying177 (by kernel_rfl) v xT w

theorem methodComparable (v : Value) (w : World) : (Go.method 323 172 v "Comparable").run Tryz.prog w = .ok (151, v) w := by kernel_rfl
theorem methodUnwrap (v : Value) (w : World) : (Go.method 323 150 v "Unwrap").run Tryz.prog w = .ok (131, v) w := by kernel_rfl

set_option maxRecDepth 100000 in
/-- errors.Is(t, x), t a trap that wraps x itself. -/
theorem is_trap_same (op : Int) (b : Addr) (w : World) :
    Calls Tryz.prog 103 #[.iface 150 (.agg #[.int .i64 op, .iface 184 (.pointer (some b))]), .iface 184 (.pointer (some b))] w fun e w' => e = .returned (.bool true) ∧ Below w.heap.size w w' := by
  obtain ⟨i, hi, hcmp⟩ := Option.map_eq_some_iff.1 isComp
  obtain ⟨j, hj, hjs⟩ := Option.map_eq_some_iff.1 isSize
  have h46 := @run_callFunc_extern Tryz.prog 107 _ Extern.ReflectliteType.typeOf Tryz.func107 (by kernel_rfl) (by kernel_rfl) (by kernel_rfl) (by kernel_rfl)
  have h92 := @run_callFunc_extern Tryz.prog 151 _ (Extern.ReflectliteType.method fun t => do Extern.Rtype.noPackHeld "Comparable" t; pure (.bool (← typeInfo t).comparable)) Tryz.func151 (by kernel_rfl) (by kernel_rfl) (by kernel_rfl) (by kernel_rfl)
  have tT := isTypeOf
  have cT := isComparable
  have nW := noIsW
  have uW := hasUnwrapW
  have mC := methodComparable
  have mU := methodUnwrap
  have heq := fun W => run_eql_iface_ptr_same (P := Tryz.prog) W b Tryz.underlying137 Tryz.underlying184 hi hcmp hj
  have hty := run_eql_iface_types (P := Tryz.prog) 150 184 (.agg #[.int .i64 op, .iface 184 (.pointer (some b))]) (.pointer (some b)) Tryz.underlying137 (by decide) w
  go_enter Tryz.func103, Tryz.ntmps103
  go_wp2
  refine wp_loop_rounds 2 ?_
  rw [rounds_succ]
  go_wp2
  rw [rounds_succ]
  go_wp2
  go_ret
  exact ⟨rfl, (Below.refl _ _).alloc (Nat.le_refl _) _⟩

set_option maxRecDepth 100000 in
/-- errors.Is(t, x), t a trap that wraps another error of errors.New's make. -/
theorem is_trap_other (op : Int) (a b : Addr) (ca cb : Array Value) (ta tb : TypeId) (w : World) (hne : a ≠ b) (ha : w.heap[a.block]? = some (.cells ca ta (0, 0))) (hb : w.heap[b.block]? = some (.cells cb tb (0, 0))) :
    Calls Tryz.prog 103 #[.iface 150 (.agg #[.int .i64 op, .iface 184 (.pointer (some a))]), .iface 184 (.pointer (some b))] w fun e w' => e = .returned (.bool false) ∧ Below w.heap.size w w' := by
  obtain ⟨i, hi, hcmp⟩ := Option.map_eq_some_iff.1 isComp
  obtain ⟨j, hj, hjs⟩ := Option.map_eq_some_iff.1 isSize
  have h46 := @run_callFunc_extern Tryz.prog 107 _ Extern.ReflectliteType.typeOf Tryz.func107 (by kernel_rfl) (by kernel_rfl) (by kernel_rfl) (by kernel_rfl)
  have h92 := @run_callFunc_extern Tryz.prog 151 _ (Extern.ReflectliteType.method fun t => do Extern.Rtype.noPackHeld "Comparable" t; pure (.bool (← typeInfo t).comparable)) Tryz.func151 (by kernel_rfl) (by kernel_rfl) (by kernel_rfl) (by kernel_rfl)
  have tT := isTypeOf
  have cT := isComparable
  have nW := noIsW
  have uW := hasUnwrapW
  have mC := methodComparable
  have mU := methodUnwrap
  have nE := noIsE
  have uE := noUnwrapE
  have vE := noUnwrapsE
  have heq := fun (W : World) (xa : W.heap[a.block]? = some (.cells ca ta (0, 0))) (xb : W.heap[b.block]? = some (.cells cb tb (0, 0))) => run_eql_iface_ptr_other (P := Tryz.prog) W Tryz.underlying137 Tryz.underlying184 hi hcmp hj (by rw [hjs]; decide) hne xa xb
  have heq1 := fun o => heq (w.alloc o) (by rw [Below.heap_alloc _ _ _ (lt_block ha)]; exact ha) (by rw [Below.heap_alloc _ _ _ (lt_block hb)]; exact hb)
  clear heq
  have hty := run_eql_iface_types (P := Tryz.prog) 150 184 (.agg #[.int .i64 op, .iface 184 (.pointer (some a))]) (.pointer (some b)) Tryz.underlying137 (by decide) w
  go_enter Tryz.func103, Tryz.ntmps103
  go_wp2
  refine wp_loop_rounds 2 ?_
  rw [rounds_succ]
  go_wp2
  rw [rounds_succ]
  go_wp2
  go_ret
  exact ⟨rfl, (Below.refl _ _).alloc (Nat.le_refl _) _⟩
end Go.Proofs.YtjdoljaailokmaaGreatDoor

namespace Go.Proofs.YtjdoljaailokmaaGreatDoor
open Go.RowKit Go.Extern.Stop Go.Stop Go.Extern

/-- The program's three errors: what its variables hold. -/
structure Errs (w : World) (a0 a1 a2 : Addr) : Prop where
  g0 : w.cell? ⟨0, 0, none⟩ = some (.iface 184 (.pointer (some a0)))
  g1 : w.cell? ⟨1, 0, none⟩ = some (.iface 184 (.pointer (some a1)))
  g2 : w.cell? ⟨2, 0, none⟩ = some (.iface 184 (.pointer (some a2)))
  b0 : ∃ c t, w.heap[a0.block]? = some (.cells c t (0, 0))
  b1 : ∃ c t, w.heap[a1.block]? = some (.cells c t (0, 0))
  b2 : ∃ c t, w.heap[a2.block]? = some (.cells c t (0, 0))
  n01 : a0 ≠ a1
  n02 : a0 ≠ a2
  n12 : a1 ≠ a2

theorem block_kept {w w' : World} {g : Nat} {o : Obj} (h : w.heap[g]? = some o) (hb : Below w.heap.size w w') : w'.heap[g]? = some o := by
  rw [hb.block g (lt_block h), h]

theorem Errs.later {w w' : World} {a0 a1 a2 : Addr} (h : Errs w a0 a1 a2) (hb : Below w.heap.size w w') : Errs w' a0 a1 a2 := by
  obtain ⟨c0, t0, x0⟩ := h.b0
  obtain ⟨c1, t1, x1⟩ := h.b1
  obtain ⟨c2, t2, x2⟩ := h.b2
  exact ⟨cell_later hb h.g0, cell_later hb h.g1, cell_later hb h.g2, ⟨c0, t0, block_kept x0 hb⟩, ⟨c1, t1, block_kept x1 hb⟩, ⟨c2, t2, block_kept x2 hb⟩, h.n01, h.n02, h.n12⟩

theorem block_cell {w : World} {g : Nat} {cs : Array Value} {t : TypeId} {fr : Nat × Nat} (h : w.heap[g]? = some (.cells cs t fr)) (i : Nat) : w.cell? ⟨g, i, none⟩ = cs[i]? := by simp [World.cell?, h]
theorem block_free {w : World} {g : Nat} {cs : Array Value} {t : TypeId} (h : w.heap[g]? = some (.cells cs t (0, 0))) (i : Nat) : w.frozen? ⟨g, i, none⟩ = false := by simp [World.frozen?, h]
theorem block_set {w : World} {g i : Nat} {cs : Array Value} {t : TypeId} {fr : Nat × Nat} (h : w.heap[g]? = some (.cells cs t fr)) (v : Value) : (w.setCell ⟨g, i, none⟩ v).heap[g]? = some (.cells (cs.setIfInBounds i v) t fr) := by
  rw [setCell_eq_setRow w g i cs t fr v h]
  exact setRow_heap w g _ _ t _ h
theorem block_new (w : World) (C : Array Value) (t : TypeId) : (w.alloc (.cells C t)).heap[w.heap.size]? = some (.cells C t (0, 0)) := by
  show (w.heap.push _)[w.heap.size]? = _
  simp
theorem stored3 {w : World} {g : Nat} {x0 x1 x2 a b c : Value} {t : TypeId} (h : w.heap[g]? = some (.cells #[x0, x1, x2] t (0, 0))) : (((w.setCell ⟨g, 0, none⟩ a).setCell ⟨g, 1, none⟩ b).setCell ⟨g, 2, none⟩ c).heap[g]? = some (.cells #[a, b, c] t (0, 0)) := by
  have := block_set (i := 2) (block_set (i := 1) (block_set (i := 0) h a) b) c
  simpa using this

/-- A trap as an error. -/
def trapE (op : Int) (a : Addr) : Value := .iface 150 (.agg #[.int .i64 op, .iface 184 (.pointer (some a))])

set_option maxHeartbeats 400000 in
theorem trapOf_0 (op : Int) (a0 a1 a2 : Addr) (w : World) (h : Errs w a0 a1 a2) : Calls Tryz.prog 98 #[trapE op a0] w fun e w' => e = .returned (.int .i64 1) ∧ Below w.heap.size w w' := by
  have g0 := h.g0
  unfold trapE
  go_enter Tryz.func98, Tryz.ntmps98
  go_wp2_with fail
  refine (is_trap_same _ _ _).mono ?_
  rintro e w1 ⟨rfl, hb⟩
  go_wp2
  go_ret
  exact ⟨rfl, hb⟩

set_option maxHeartbeats 400000 in
theorem trapOf_1 (op : Int) (a0 a1 a2 : Addr) (w : World) (h : Errs w a0 a1 a2) : Calls Tryz.prog 98 #[trapE op a1] w fun e w' => e = .returned (.int .i64 2) ∧ Below w.heap.size w w' := by
  have g0 := h.g0
  obtain ⟨c0, t0, x0⟩ := h.b0
  obtain ⟨c1, t1, x1⟩ := h.b1
  unfold trapE
  go_enter Tryz.func98, Tryz.ntmps98
  go_wp2_with fail
  refine (is_trap_other _ _ _ _ _ _ _ _ h.n01.symm x1 x0).mono ?_
  rintro e w1 ⟨rfl, hb⟩
  have g1 := (h.later hb).g1
  clear x0 x1 g0
  go_wp2_with fail
  refine (is_trap_same _ _ _).mono ?_
  rintro e w2 ⟨rfl, hb2⟩
  go_wp2
  go_ret
  exact ⟨rfl, hb.trans (hb2.mono hb.size)⟩

set_option maxHeartbeats 400000 in
theorem trapOf_2 (op : Int) (a0 a1 a2 : Addr) (w : World) (h : Errs w a0 a1 a2) : Calls Tryz.prog 98 #[trapE op a2] w fun e w' => e = .returned (.int .i64 3) ∧ Below w.heap.size w w' := by
  have g0 := h.g0
  obtain ⟨c0, t0, x0⟩ := h.b0
  obtain ⟨c2, t2, x2⟩ := h.b2
  unfold trapE
  go_enter Tryz.func98, Tryz.ntmps98
  go_wp2_with fail
  refine (is_trap_other _ _ _ _ _ _ _ _ h.n02.symm x2 x0).mono ?_
  rintro e w1 ⟨rfl, hb⟩
  have g1 := (h.later hb).g1
  obtain ⟨c1, t1, x1⟩ := (h.later hb).b1
  have x2' := block_kept x2 hb
  clear x0 x2 g0
  go_wp2_with fail
  refine (is_trap_other _ _ _ _ _ _ _ _ h.n12.symm x2' x1).mono ?_
  rintro e w2 ⟨rfl, hb2⟩
  have hb3 := hb.trans (hb2.mono hb.size)
  have g2 := (h.later hb3).g2
  clear x1 x2' g1
  go_wp2_with fail
  refine (is_trap_same _ _ _).mono ?_
  rintro e w3 ⟨rfl, hb4⟩
  go_wp2
  go_ret
  exact ⟨rfl, hb3.trans (hb4.mono hb3.size)⟩

/-- Which error has which number. -/
def trapAt (t : Int) (a0 a1 a2 : Addr) : Addr := if t = 1 then a0 else if t = 2 then a1 else a2

theorem trapOf_any (op t : Int) (a0 a1 a2 : Addr) (w : World) (h : Errs w a0 a1 a2) (h1 : 1 ≤ t) (h3 : t ≤ 3) : Calls Tryz.prog 98 #[trapE op (trapAt t a0 a1 a2)] w fun e w' => e = .returned (.int .i64 t) ∧ Below w.heap.size w w' := by
  rcases (show t = 1 ∨ t = 2 ∨ t = 3 by omega) with rfl | rfl | rfl
  · exact trapOf_0 op a0 a1 a2 w h
  · exact trapOf_1 op a0 a1 a2 w h
  · exact trapOf_2 op a0 a1 a2 w h

set_option maxHeartbeats 400000 in
theorem answered_trap (op t : Int) (a0 a1 a2 : Addr) (w : World) (h : Errs w a0 a1 a2) (h1 : 1 ≤ t) (h3 : t ≤ 3) :
    Calls Tryz.prog 89 #[.nilIface, trapE op (trapAt t a0 a1 a2)] w fun e w' => e = .returned (.tuple #[.agg #[.int .i64 0, .int .i64 0, .string ⟨#[]⟩], .int .i64 t]) ∧ Below w.heap.size w w' := by
  have hT := fun W x => trapOf_any op t a0 a1 a2 W x h1 h3
  unfold trapE at *
  go_enter Tryz.func89, Tryz.ntmps89
  go_wp2_with fail
  refine (hT _ (h.later ?_)).mono ?_
  · exact (Below.refl _ _).alloc (Nat.le_refl _) _
  rintro e w1 ⟨rfl, hb⟩
  have hk := block_kept (block_new w _ _) hb
  have hc := block_cell hk
  have hf := block_free hk
  have hB : Below w.heap.size w w1 := ((Below.refl _ _).alloc (Nat.le_refl _) _).trans (hb.mono (by simp))
  go_wp2
  have hz := block_cell (stored3 (a := .int .i64 0) (b := .int .i64 0) (c := .string ⟨#[]⟩) hk)
  have z0 := hz 0
  have z1 := hz 1
  have z2 := hz 2
  refine bodyPost_ret (v := .tuple #[.agg #[.int .i64 0, .int .i64 0, .string ⟨#[]⟩], .int .i64 t]) (by simp [results, Tryz.results89, go_sem, z0, z1, z2]) rfl ⟨rfl, ?_⟩
  exact ((hB.setCell (Nat.le_refl _) _).setCell (Nat.le_refl _) _).setCell (Nat.le_refl _) _
end Go.Proofs.YtjdoljaailokmaaGreatDoor

namespace Go.Proofs.YtjdoljaailokmaaGreatDoor
open Go.ChangeShapes Go.WideShapes Go.ChangeAt Go.RowKit Go.Joins

theorem gType : Tryz.prog.globalNamed "loop.example/g00094/impl.errType" = some 0 := by kernel_rfl
theorem gOver : Tryz.prog.globalNamed "loop.example/g00094/impl.errOver" = some 1 := by kernel_rfl
theorem gText : Tryz.prog.globalNamed "loop.example/g00094/impl.errText" = some 2 := by kernel_rfl
theorem gTypeT : (Tryz.prog.globals[0]?).map (·.type) = some 137 := by kernel_rfl
theorem gOverT : (Tryz.prog.globals[1]?).map (·.type) = some 137 := by kernel_rfl
theorem gTextT : (Tryz.prog.globals[2]?).map (·.type) = some 137 := by kernel_rfl
theorem cells208 : Tryz.prog.cellsOf 208 = 1 := by kernel_rfl
theorem cells9 : Tryz.prog.cellsOf 9 = 1 := by kernel_rfl
theorem star : "*" ++ "errors.errorString" = "*errors.errorString" := by decide
theorem row184 (u : TypeId) (h : Tryz.prog.typeName? 3 u = some "*errors.errorString") : u = 184 :=
  typeName_ptr_named (nm := "errors.errorString") (by rw [star]; kernel_rfl) (by kernel_rfl) (by decide) u (by rw [star]; exact h)

/-- Two cells that hold other texts are other cells. -/
theorem ne_of_texts {w : World} {a b : Addr} {s t : ByteArray} (ha : w.cell? a = some (.string s)) (hb : w.cell? b = some (.string t)) (h : s.data.toList ≠ t.data.toList) : a ≠ b := by
  rintro rfl
  rw [ha] at hb
  injection hb with hb
  injection hb with hb
  exact h (by rw [hb])

theorem errs_of_laid {W : World} (h : laidMetH Tryz.prog [("loop.example/g00094/impl.errType", Rows.laid_loop_example_g00094_impl_errType), ("loop.example/g00094/impl.errOver", Rows.laid_loop_example_g00094_impl_errOver), ("loop.example/g00094/impl.errText", Rows.laid_loop_example_g00094_impl_errText)] W) : ∃ a0 a1 a2, Errs W a0 a1 a2 := by
  rw [MakeChecks.laidMetH_plain _ _ _ (by kernel_rfl)] at h
  obtain ⟨a0, a1, s0, s1, c0, c1, t0, t1, hv0, hv1, hc0, hs0, hz0, hc1, hs1, hz1, hne, hb0, hb1⟩ := laid_sentinels2 h gType gTypeT gOver gOverT Tryz.underlying137 row184 Tryz.underlying184 Tryz.underlying208 rfl rfl Tryz.underlying9 cells208 cells9
  obtain ⟨a1', a2, s1', s2, c1', c2, t1', t2, hv1', hv2, hc1', hs1', hz1', hc2, hs2, hz2, hne', hb1', hb2⟩ := laid_sentinels2 h.tail gOver gOverT gText gTextT Tryz.underlying137 row184 Tryz.underlying184 Tryz.underlying208 rfl rfl Tryz.underlying9 cells208 cells9
  obtain rfl : a1' = a1 := by
    rw [hv1] at hv1'
    simpa using hv1'.symm
  refine ⟨a0, a1', a2, ?_, ?_, ?_, ⟨_, _, hb0⟩, ⟨_, _, hb1⟩, ⟨_, _, hb2⟩, hne, ne_of_texts hc0 hc2 (by rw [hs0, hs2]; decide), hne'⟩
  · simpa using World.var?_cell gType hv0 0
  · simpa using World.var?_cell gOver hv1 0
  · simpa using World.var?_cell gText hv2 0

theorem laidOut : laidOutB Tryz.prog = true := by kernel_rfl
theorem own : ownKnob Tryz.prog.godebug = none := by kernel_rfl
end Go.Proofs.YtjdoljaailokmaaGreatDoor
