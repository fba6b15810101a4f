/-
  Values: NotOf, of the program and of the document's model.
-/
import Derived.Test.YtlpbolchedngoabDoorE4
namespace Go.Proofs.YtlpbolchedngoabDoor
open Go.RowKit Go.Extern.Stop Go.Stop Go.Extern

theorem block_new_at (w : World) (C : Array Value) (t : TypeId) (g : Nat) (h : w.heap.size = g) : (w.alloc (.cells C t)).heap[g]? = some (.cells C t (0, 0)) := by
  subst h
  exact block_new w C t
theorem asBool_hit (v : Value) (w : World) : (Instr.typeAssert (.iface 42 v) 34 42 true).run Tryd.prog w = .ok (.tuple #[v, .bool true]) w := by kernel_rfl
theorem asBool_miss (k n : Int) (s : ByteArray) (h : k ≠ 2) (w : World) : (Instr.typeAssert (thing k n s) 34 42 true).run Tryd.prog w = .ok (.tuple #[.int .i64 0, .bool false]) w := by
  unfold thing
  rw [if_neg h]
  split
  · kernel_rfl
  split
  · kernel_rfl
  split
  · kernel_rfl
  split
  · kernel_rfl
  split
  · kernel_rfl
  · kernel_rfl
theorem methodValue42 (v : Value) (w : World) : (Go.method 224 42 v "loop.example/g00094/impl.value").run Tryd.prog w = .ok (35, v) w := by kernel_rfl

set_option maxRecDepth 100000 in
set_option maxHeartbeats 1000000 in
theorem answered_bool (n : Int) (w : World) :
    Calls Tryd.prog 10 #[.iface 42 (.int .i64 n), .nilIface] w fun e w' => e = .returned (.tuple #[.agg #[.int .i64 2, .int .i64 n, .string ⟨#[]⟩], .int .i64 0]) ∧ Below w.heap.size w w' := by
  have m := methodValue42
  go_enter Tryd.func10, Tryd.ntmps10
  go_wp2_with fail
  refine (boolValue_any _ _).mono ?_
  rintro e w1 ⟨rfl, hb⟩
  have hk := block_kept (block_new w _ _) hb
  have hc := block_cell hk
  have hf := block_free hk
  have hB : Below w.heap.size w w1 := ((Below.refl _ _).alloc (Nat.le_refl _) _).trans (hb.mono (by simp))
  go_wp2
  have hz := block_cell (stored3 (a := .int .i64 2) (b := .int .i64 n) (c := .string ⟨#[]⟩) hk)
  have z0 := hz 0
  have z1 := hz 1
  have z2 := hz 2
  refine bodyPost_ret (v := .tuple #[.agg #[.int .i64 2, .int .i64 n, .string ⟨#[]⟩], .int .i64 0]) (by simp [results, Tryd.results10, go_sem, z0, z1, z2]) rfl ⟨rfl, ?_⟩
  exact ((hB.setCell (Nat.le_refl _) _).setCell (Nat.le_refl _) _).setCell (Nat.le_refl _) _

set_option maxRecDepth 100000 in
set_option maxHeartbeats 1000000 in
theorem other_ok (n : Int) (w : World) :
    Calls Tryd.prog 11 #[.iface 42 (.int .i64 n)] w fun e w' => e = .returned (.tuple #[.iface 42 (.int .i64 (tr (n != 1))), .nilIface]) ∧ Below w.heap.size w w' := by
  have q := asBool_hit
  go_enter Tryd.func11, Tryd.ntmps11
  go_wp2_with fail
  refine (truthOf_any _ _).mono ?_
  rintro e w1 ⟨rfl, rfl⟩
  go_wp2
  go_ret2
  exact ⟨rfl, Below.refl _ _⟩

set_option maxRecDepth 100000 in
set_option maxHeartbeats 1000000 in
theorem other_type (k n : Int) (s : ByteArray) (a0 a1 a2 : Addr) (w : World) (h : Errs w a0 a1 a2) (hk : k ≠ 2) :
    Calls Tryd.prog 11 #[thing k n s] w fun e w' => e = .returned (.tuple #[.nilIface, trapE 16 a0]) ∧ Below w.heap.size w w' := by
  have g0 := h.g0
  have m := asBool_miss k n s hk
  go_enter Tryd.func11, Tryd.ntmps11
  go_wp2
  go_quiet (fail)
  go_wp2
  go_ret2
  exact ⟨rfl, below_draws (Below.refl _ _) _⟩

set_option maxRecDepth 100000 in
set_option maxHeartbeats 1000000 in
theorem iNot_ok (n : Int) (s : ByteArray) (w : World) :
    Calls Tryd.prog 7 #[.agg #[.int .i64 2, .int .i64 n, .string s]] w fun e w' => e = .returned (.tuple #[.agg #[.int .i64 2, .int .i64 (tr (n != 1)), .string ⟨#[]⟩], .int .i64 0]) ∧ Below w.heap.size w w' := by
  have hA : Below w.heap.size w ((w.alloc (.cells #[.int .i64 2, .int .i64 n, .string s] 25)).alloc (.cells #[.int .i64 0, .int .i64 0, .string ⟨#[]⟩] 25)) := ((Below.refl _ _).alloc (Nat.le_refl _) _).alloc (by simp) _
  have th : thing 2 n s = .iface 42 (.int .i64 n) := rfl
  go_enter Tryd.func7, Tryd.ntmps7
  go_wp2_with fail
  refine (thingOf_any _ _ _ _).mono ?_
  rintro e w1 ⟨rfl, hb1⟩
  rw [th]
  go_wp2_with fail
  refine (other_ok _ _).mono ?_
  rintro e w2 ⟨rfl, hb2⟩
  go_wp2_with fail
  refine (answered_bool _ _).mono ?_
  rintro e w3 ⟨rfl, hb3⟩
  have hb := hb1.trans ((hb2.trans (hb3.mono hb2.size)).mono hb1.size)
  have hk := block_kept (block_new_at _ _ _ (w.heap.size + 1) (by simp)) hb
  have hc := block_cell hk
  have hf := block_free hk
  have hB := hA.trans (hb.mono hA.size)
  clear hA hb1 hb2 hb3 hb
  go_wp2
  have zz := block_cell (stored3 (a := .int .i64 (2)) (b := .int .i64 (tr (n != 1))) (c := .string (⟨#[]⟩)) hk)
  have z0 := zz 0
  have z1 := zz 1
  have z2 := zz 2
  refine bodyPost_ret (v := .tuple #[.agg #[.int .i64 (2), .int .i64 (tr (n != 1)), .string (⟨#[]⟩)], .int .i64 (0)]) (by simp [results, Tryd.results7, go_sem, z0, z1, z2]) rfl ⟨rfl, ?_⟩
  exact ((hB.setCell (by simp) _).setCell (by simp) _).setCell (by simp) _

set_option maxRecDepth 100000 in
set_option maxHeartbeats 1000000 in
theorem iNot_type (k n : Int) (s : ByteArray) (a0 a1 a2 : Addr) (w : World) (h : Errs w a0 a1 a2) (hk2 : k ≠ 2) :
    Calls Tryd.prog 7 #[.agg #[.int .i64 k, .int .i64 n, .string s]] w fun e w' => e = .returned (.tuple #[.agg #[.int .i64 0, .int .i64 0, .string ⟨#[]⟩], .int .i64 1]) ∧ Below w.heap.size w w' := by
  have hA : Below w.heap.size w ((w.alloc (.cells #[.int .i64 k, .int .i64 n, .string s] 25)).alloc (.cells #[.int .i64 0, .int .i64 0, .string ⟨#[]⟩] 25)) := ((Below.refl _ _).alloc (Nat.le_refl _) _).alloc (by simp) _
  have hE := h.later hA
  go_enter Tryd.func7, Tryd.ntmps7
  go_wp2_with fail
  refine (thingOf_any _ _ _ _).mono ?_
  rintro e w1 ⟨rfl, hb1⟩
  have hE1 := hE.later hb1
  go_wp2_with fail
  refine (other_type _ _ _ a0 a1 a2 _ hE1 hk2).mono ?_
  rintro e w2 ⟨rfl, hb2⟩
  have hE2 := hE1.later hb2
  go_wp2_with fail
  refine (answered_trap 16 1 a0 a1 a2 _ hE2 (by omega) (by omega)).mono ?_
  rintro e w3 ⟨rfl, hb3⟩
  have hb := hb1.trans ((hb2.trans (hb3.mono hb2.size)).mono hb1.size)
  have hk := block_kept (block_new_at _ _ _ (w.heap.size + 1) (by simp)) hb
  have hc := block_cell hk
  have hf := block_free hk
  have hB := hA.trans (hb.mono hA.size)
  clear hA hb1 hb2 hb3 hb hE hE1 hE2
  go_wp2
  have zz := block_cell (stored3 (a := .int .i64 (0)) (b := .int .i64 (0)) (c := .string (⟨#[]⟩)) hk)
  have z0 := zz 0
  have z1 := zz 1
  have z2 := zz 2
  refine bodyPost_ret (v := .tuple #[.agg #[.int .i64 (0), .int .i64 (0), .string (⟨#[]⟩)], .int .i64 (1)]) (by simp [results, Tryd.results7, go_sem, z0, z1, z2]) rfl ⟨rfl, ?_⟩
  exact ((hB.setCell (by simp) _).setCell (by simp) _).setCell (by simp) _

set_option maxRecDepth 100000 in
set_option maxHeartbeats 1000000 in
theorem sNot_ok (n : Int) (s : ByteArray) (w : World) :
    Calls Tryd.prog 5 #[.agg #[.int .i64 2, .int .i64 n, .string s]] w fun e w' => e = .returned (.tuple #[.agg #[.int .i64 2, .int .i64 (tr (n != 1)), .string ⟨#[]⟩], .int .i64 0]) ∧ Below w.heap.size w w' := by
  have hA : Below w.heap.size w ((w.alloc (.cells #[.int .i64 2, .int .i64 n, .string s] 25)).alloc (.cells #[.int .i64 0, .int .i64 0, .string ⟨#[]⟩] 25)) := ((Below.refl _ _).alloc (Nat.le_refl _) _).alloc (by simp) _
  go_enter Tryd.func5, Tryd.ntmps5
  go_wp2_with fail
  refine (sBool_any _ _).mono ?_
  rintro e w1 ⟨rfl, hb⟩
  have hk := block_kept (block_new_at _ _ _ (w.heap.size + 1) (by simp)) hb
  have hc := block_cell hk
  have hf := block_free hk
  have hB := hA.trans (hb.mono hA.size)
  clear hA hb
  go_wp2
  have zz := block_cell (stored3 (a := .int .i64 (2)) (b := .int .i64 (tr (n != 1))) (c := .string (⟨#[]⟩)) hk)
  have z0 := zz 0
  have z1 := zz 1
  have z2 := zz 2
  refine bodyPost_ret (v := .tuple #[.agg #[.int .i64 (2), .int .i64 (tr (n != 1)), .string (⟨#[]⟩)], .int .i64 (0)]) (by simp [results, Tryd.results5, go_sem, z0, z1, z2]) rfl ⟨rfl, ?_⟩
  exact ((hB.setCell (by simp) _).setCell (by simp) _).setCell (by simp) _

set_option maxRecDepth 100000 in
set_option maxHeartbeats 1000000 in
theorem sNot_type (k n : Int) (s : ByteArray) (w : World) (hk2 : k ≠ 2) :
    Calls Tryd.prog 5 #[.agg #[.int .i64 k, .int .i64 n, .string s]] w fun e w' => e = .returned (.tuple #[.agg #[.int .i64 0, .int .i64 0, .string ⟨#[]⟩], .int .i64 1]) ∧ Below w.heap.size w w' := by
  go_enter Tryd.func5, Tryd.ntmps5
  go_wp2
  refine bodyPost_ret (v := .tuple #[.agg #[.int .i64 0, .int .i64 0, .string ⟨#[]⟩], .int .i64 1]) (by simp [results, Tryd.results5, go_sem]) rfl ⟨rfl, ?_⟩
  repeat (first | exact Below.refl _ _ | refine Below.alloc ?_ (by first | exact Nat.le_refl _ | (simp <;> omega)) _ | refine Below.setCell ?_ (by first | exact Nat.le_refl _ | (simp <;> omega)) _)
end Go.Proofs.YtlpbolchedngoabDoor
