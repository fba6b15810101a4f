/-
  Values: the program's own three errors in memory, a trap's number, and what an answer is of what came of two things.
-/
import Derived.Test.YtlpbolchedngoaaDoorE3
namespace Go.Proofs.YtlpbolchedngoaaDoor
open Go.RowKit Go.Extern.Stop Go.Stop Go.Extern

/-- The program's three errors: what its variables hold. -/
structure Errs (w : World) (a0 a1 a2 : Addr) : Prop where
  g0 : w.cell? ⟨0, 0, none⟩ = some (.iface 104 (.pointer (some a0)))
  g1 : w.cell? ⟨1, 0, none⟩ = some (.iface 104 (.pointer (some a1)))
  g2 : w.cell? ⟨2, 0, none⟩ = some (.iface 104 (.pointer (some a2)))
  b0 : ∃ c t, w.heap[a0.block]? = some (.cells c t (0, 0))
  b1 : ∃ c t, w.heap[a1.block]? = some (.cells c t (0, 0))
  b2 : ∃ c t, w.heap[a2.block]? = some (.cells c t (0, 0))
  n01 : a0 ≠ a1
  n02 : a0 ≠ a2
  n12 : a1 ≠ a2

theorem block_kept {w w' : World} {g : Nat} {o : Obj} (h : w.heap[g]? = some o) (hb : Below w.heap.size w w') : w'.heap[g]? = some o := by
  rw [hb.block g (lt_block h), h]

theorem Errs.later {w w' : World} {a0 a1 a2 : Addr} (h : Errs w a0 a1 a2) (hb : Below w.heap.size w w') : Errs w' a0 a1 a2 := by
  obtain ⟨c0, t0, x0⟩ := h.b0
  obtain ⟨c1, t1, x1⟩ := h.b1
  obtain ⟨c2, t2, x2⟩ := h.b2
  exact ⟨cell_later hb h.g0, cell_later hb h.g1, cell_later hb h.g2, ⟨c0, t0, block_kept x0 hb⟩, ⟨c1, t1, block_kept x1 hb⟩, ⟨c2, t2, block_kept x2 hb⟩, h.n01, h.n02, h.n12⟩

theorem block_cell {w : World} {g : Nat} {cs : Array Value} {t : TypeId} {fr : Nat × Nat} (h : w.heap[g]? = some (.cells cs t fr)) (i : Nat) : w.cell? ⟨g, i, none⟩ = cs[i]? := by simp [World.cell?, h]
theorem block_free {w : World} {g : Nat} {cs : Array Value} {t : TypeId} (h : w.heap[g]? = some (.cells cs t (0, 0))) (i : Nat) : w.frozen? ⟨g, i, none⟩ = false := by simp [World.frozen?, h]
theorem block_set {w : World} {g i : Nat} {cs : Array Value} {t : TypeId} {fr : Nat × Nat} (h : w.heap[g]? = some (.cells cs t fr)) (v : Value) : (w.setCell ⟨g, i, none⟩ v).heap[g]? = some (.cells (cs.setIfInBounds i v) t fr) := by
  rw [setCell_eq_setRow w g i cs t fr v h]
  exact setRow_heap w g _ _ t _ h
theorem block_new (w : World) (C : Array Value) (t : TypeId) : (w.alloc (.cells C t)).heap[w.heap.size]? = some (.cells C t (0, 0)) := by
  show (w.heap.push _)[w.heap.size]? = _
  simp
theorem stored3 {w : World} {g : Nat} {x0 x1 x2 a b c : Value} {t : TypeId} (h : w.heap[g]? = some (.cells #[x0, x1, x2] t (0, 0))) : (((w.setCell ⟨g, 0, none⟩ a).setCell ⟨g, 1, none⟩ b).setCell ⟨g, 2, none⟩ c).heap[g]? = some (.cells #[a, b, c] t (0, 0)) := by
  have := block_set (i := 2) (block_set (i := 1) (block_set (i := 0) h a) b) c
  simpa using this

/-- A trap as an error. -/
def trapE (op : Int) (a : Addr) : Value := .iface 66 (.agg #[.int .i64 op, .iface 104 (.pointer (some a))])

set_option maxHeartbeats 400000 in
theorem trapOf_0 (op : Int) (a0 a1 a2 : Addr) (w : World) (h : Errs w a0 a1 a2) : Calls Tryd.prog 38 #[trapE op a0] w fun e w' => e = .returned (.int .i64 1) ∧ Below w.heap.size w w' := by
  have g0 := h.g0
  unfold trapE
  go_enter Tryd.func38, Tryd.ntmps38
  go_wp2_with fail
  refine (is_trap_same _ _ _).mono ?_
  rintro e w1 ⟨rfl, hb⟩
  go_wp2
  go_ret
  exact ⟨rfl, hb⟩

set_option maxHeartbeats 400000 in
theorem trapOf_1 (op : Int) (a0 a1 a2 : Addr) (w : World) (h : Errs w a0 a1 a2) : Calls Tryd.prog 38 #[trapE op a1] w fun e w' => e = .returned (.int .i64 2) ∧ Below w.heap.size w w' := by
  have g0 := h.g0
  obtain ⟨c0, t0, x0⟩ := h.b0
  obtain ⟨c1, t1, x1⟩ := h.b1
  unfold trapE
  go_enter Tryd.func38, Tryd.ntmps38
  go_wp2_with fail
  refine (is_trap_other _ _ _ _ _ _ _ _ h.n01.symm x1 x0).mono ?_
  rintro e w1 ⟨rfl, hb⟩
  have g1 := (h.later hb).g1
  clear x0 x1 g0
  go_wp2_with fail
  refine (is_trap_same _ _ _).mono ?_
  rintro e w2 ⟨rfl, hb2⟩
  go_wp2
  go_ret
  exact ⟨rfl, hb.trans (hb2.mono hb.size)⟩

set_option maxHeartbeats 400000 in
theorem trapOf_2 (op : Int) (a0 a1 a2 : Addr) (w : World) (h : Errs w a0 a1 a2) : Calls Tryd.prog 38 #[trapE op a2] w fun e w' => e = .returned (.int .i64 3) ∧ Below w.heap.size w w' := by
  have g0 := h.g0
  obtain ⟨c0, t0, x0⟩ := h.b0
  obtain ⟨c2, t2, x2⟩ := h.b2
  unfold trapE
  go_enter Tryd.func38, Tryd.ntmps38
  go_wp2_with fail
  refine (is_trap_other _ _ _ _ _ _ _ _ h.n02.symm x2 x0).mono ?_
  rintro e w1 ⟨rfl, hb⟩
  have g1 := (h.later hb).g1
  obtain ⟨c1, t1, x1⟩ := (h.later hb).b1
  have x2' := block_kept x2 hb
  clear x0 x2 g0
  go_wp2_with fail
  refine (is_trap_other _ _ _ _ _ _ _ _ h.n12.symm x2' x1).mono ?_
  rintro e w2 ⟨rfl, hb2⟩
  have hb3 := hb.trans (hb2.mono hb.size)
  have g2 := (h.later hb3).g2
  clear x1 x2' g1
  go_wp2_with fail
  refine (is_trap_same _ _ _).mono ?_
  rintro e w3 ⟨rfl, hb4⟩
  go_wp2
  go_ret
  exact ⟨rfl, hb3.trans (hb4.mono hb3.size)⟩

/-- Which error has which number. -/
def trapAt (t : Int) (a0 a1 a2 : Addr) : Addr := if t = 1 then a0 else if t = 2 then a1 else a2

theorem trapOf_any (op t : Int) (a0 a1 a2 : Addr) (w : World) (h : Errs w a0 a1 a2) (h1 : 1 ≤ t) (h3 : t ≤ 3) : Calls Tryd.prog 38 #[trapE op (trapAt t a0 a1 a2)] w fun e w' => e = .returned (.int .i64 t) ∧ Below w.heap.size w w' := by
  rcases (show t = 1 ∨ t = 2 ∨ t = 3 by omega) with rfl | rfl | rfl
  · exact trapOf_0 op a0 a1 a2 w h
  · exact trapOf_1 op a0 a1 a2 w h
  · exact trapOf_2 op a0 a1 a2 w h

set_option maxHeartbeats 400000 in
theorem answered_trap (op t : Int) (a0 a1 a2 : Addr) (w : World) (h : Errs w a0 a1 a2) (h1 : 1 ≤ t) (h3 : t ≤ 3) :
    Calls Tryd.prog 25 #[.nilIface, trapE op (trapAt t a0 a1 a2)] w fun e w' => e = .returned (.tuple #[.agg #[.int .i64 0, .int .i64 0, .string ⟨#[]⟩], .int .i64 t]) ∧ Below w.heap.size w w' := by
  have hT := fun W x => trapOf_any op t a0 a1 a2 W x h1 h3
  unfold trapE at *
  go_enter Tryd.func25, Tryd.ntmps25
  go_wp2_with fail
  refine (hT _ (h.later ?_)).mono ?_
  · exact (Below.refl _ _).alloc (Nat.le_refl _) _
  rintro e w1 ⟨rfl, hb⟩
  have hk := block_kept (block_new w _ _) hb
  have hc := block_cell hk
  have hf := block_free hk
  have hB : Below w.heap.size w w1 := ((Below.refl _ _).alloc (Nat.le_refl _) _).trans (hb.mono (by simp))
  go_wp2
  have hz := block_cell (stored3 (a := .int .i64 0) (b := .int .i64 0) (c := .string ⟨#[]⟩) hk)
  have z0 := hz 0
  have z1 := hz 1
  have z2 := hz 2
  refine bodyPost_ret (v := .tuple #[.agg #[.int .i64 0, .int .i64 0, .string ⟨#[]⟩], .int .i64 t]) (by simp [results, Tryd.results25, go_sem, z0, z1, z2]) rfl ⟨rfl, ?_⟩
  exact ((hB.setCell (Nat.le_refl _) _).setCell (Nat.le_refl _) _).setCell (Nat.le_refl _) _
end Go.Proofs.YtlpbolchedngoaaDoor
