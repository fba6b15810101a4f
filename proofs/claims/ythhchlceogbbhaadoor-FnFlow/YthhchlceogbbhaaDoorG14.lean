/-
  The comparing functions of the laws (eq..) return true where both arguments read as the same data.
  A drawn region whose operations read, and whose callees may make new memory besides, is walked once, in the order of the text.
  What oneWay returns: whether the leaders are just the first instruction and there are no heads.
-/
import Derived.Test.YthhchlceogbbhaaDoorG2
import Derived.Deep.QuietTactic
import Derived.BigQuiet
import Derived.Deep.RegionWith
import Derived.Deep.Quiet
import Derived.Test.YthhchlceogbbhaaDoorL7
import Derived.ChangeKeysEq
import Derived.Laws.StructEq
namespace Go.Proofs.YthhchlceogbbhaaDoor
open Go.RowKit


end Go.Proofs.YthhchlceogbbhaaDoor

namespace Go.Proofs.YthhchlceogbbhaaDoor
open Go.RowKit

section
variable {P : Program} {ops : Array Oper} {C : World → Prop} {Q : Act → Prop} {a : Act} {o : Oper} {rest : List Oper}
theorem q_skip (hw : Region.wanted o (yielded ops a.tmps) = false) (h : wpQuiet P ops C Q rest (a.put o.dst undef)) : wpQuiet P ops C Q (o :: rest) a := by
  unfold wpQuiet
  rw [if_neg (by rw [hw]; exact Bool.false_ne_true)]
  exact h
theorem q_want {v : Value} (hw : Region.wanted o (yielded ops a.tmps) = true) (hv : ∀ w, C w → Oper.quietUpon P C w v ((execOp a.eval o).run P w)) (h : wpQuiet P ops C Q rest (a.put o.dst v)) : wpQuiet P ops C Q (o :: rest) a := by
  unfold wpQuiet
  rw [if_pos hw]
  exact ⟨v, hv, h⟩
end
theorem wp_below {P : Program} {id : Nat} {Q : Exit → Act → World → Prop} {a : Act} {w : World} {l : List Oper} (hm : P.follows .mixedOrders = true) (hB : Region.lexB .any l.toArray = true)
    (h : wpQuiet P l.toArray (fun w' => Below w.heap.size w w') (fun a' => ∀ w', Below w.heap.size w w' → Q .normal a' w') l a) : (Code.region id l.toArray true).wp P Q a w :=
  wp_region_quiet (C := fun w' => Below w.heap.size w w') hm hB (Below.refl _ _).drew (by simpa using h)
end Go.Proofs.YthhchlceogbbhaaDoor

namespace Go.Proofs.YthhchlceogbbhaaDoor
open Go.RowKit

theorem guard40 : Tryd.prog.eqGuardType Tryd.prog.depth 45 = false := by kernel_rfl

set_option maxRecDepth 100000 in
theorem eqIn40 (a b c e : Int) (W : World) : (Op.equalIn 10000 45 (.agg #[.int .u64 a, .int .u64 b]) (.agg #[.int .u64 c, .int .u64 e])).run Tryd.prog W = .ok (a == c && b == e) W := by
  have h : ∀ d : Nat, (Op.equalIn (d + 1 + 1) 45 (.agg #[.int .u64 a, .int .u64 b]) (.agg #[.int .u64 c, .int .u64 e])).run Tryd.prog W = .ok (a == c && b == e) W := fun d => by
    obtain ⟨i, hi⟩ : ∃ i, Tryd.prog.info? 43 = some i := by
      have h : (Tryd.prog.info? 43).isSome = true := by kernel_rfl
      exact Option.isSome_iff_exists.1 h
    rw [run_equalIn_array W (d + 1) _ _ (show Tryd.prog.underlying 45 = some (.array 2 43) by kernel_rfl) hi]
    have hc : Tryd.prog.cellsOf 43 = 1 := by kernel_rfl
    rw [hc]
    have p0 : ∀ (a b : Int) (W : World), (part 43 #[.int .u64 a, .int .u64 b] 0).run Tryd.prog W = .ok (.int .u64 a) W := fun _ _ _ => by kernel_rfl
    have p1 : ∀ (a b : Int) (W : World), (part 43 #[.int .u64 a, .int .u64 b] 1).run Tryd.prog W = .ok (.int .u64 b) W := fun _ _ _ => by kernel_rfl
    have e1 := run_equalIn_int (P := Tryd.prog) W d 43 .u64 .u64 a c Tryd.underlying43
    have e2 := run_equalIn_int (P := Tryd.prog) W d 43 .u64 .u64 b e Tryd.underlying43
    have hr : List.range 2 = [0, 1] := by decide
    rw [hr]
    cases h1 : (a == c) <;> cases h2 : (b == e) <;> rw [h1] at e1 <;> rw [h2] at e2 <;>
      simp [Op.eqItems, p0, p1, e1, e2]
  exact h 9998

set_option maxRecDepth 100000 in
set_option maxHeartbeats 2000000 in
theorem oneWay_any (a b c e : Int) (w : World) :
    Calls Tryd.prog 40 #[.agg #[.int .u64 a, .int .u64 b, .int .u64 c, .int .u64 e]] w fun r w' => r = .returned (.bool (decide (a = 1 ∧ b = 0 ∧ c = 0 ∧ e = 0))) ∧ Below w.heap.size w w' := by
  have hbA : Below w.heap.size w ((w.alloc (.cells #[.int .u64 a, .int .u64 b, .int .u64 c, .int .u64 e] 47)).alloc (.cells #[.int .u64 0, .int .u64 0] 45)) := ((Below.refl _ _).alloc (Nat.le_refl _) _).alloc (by simp) _
  have hM0 := block_old (block_new w #[.int .u64 a, .int .u64 b, .int .u64 c, .int .u64 e] 47) (.cells #[.int .u64 0, .int .u64 0] 45)
  have hR0 := block_new (w.alloc (.cells #[.int .u64 a, .int .u64 b, .int .u64 c, .int .u64 e] 47)) #[.int .u64 0, .int .u64 0] 45
  rw [World.size_alloc] at hR0
  obtain ⟨wz, hwz⟩ : ∃ wz, wz = (w.alloc (.cells #[.int .u64 a, .int .u64 b, .int .u64 c, .int .u64 e] 47)).alloc (.cells #[.int .u64 0, .int .u64 0] 45) := ⟨_, rfl⟩
  rw [← hwz] at hbA hM0 hR0
  have gd := guard40
  have e1 := eqIn40 a b 1 0
  have e2 := eqIn40 c e 0 0
  have HB : Hid (Below w.heap.size w wz) := hbA
  have HS : Hid (∀ w', Below wz.heap.size wz w' → (∀ i, w'.cell? ⟨w.heap.size, i, none⟩ = #[Value.int .u64 a, .int .u64 b, .int .u64 c, .int .u64 e][i]?) ∧ (∀ i, w'.cell? ⟨w.heap.size + 1, i, none⟩ = #[Value.int .u64 0, .int .u64 0][i]?)) := fun w' hb => ⟨block_cell (block_kept hM0 hb), block_cell (block_kept hR0 hb)⟩
  by_cases h1 : a = 1 ∧ b = 0
  case neg =>
    have t1 : (a == 1 && b == 0) = false := by
      cases h : (a == 1 && b == 0)
      · rfl
      · simp at h; exact absurd h h1
    rw [decide_eq_false (fun h => h1 ⟨h.1, h.2.1⟩)]
    rw [t1] at e1
    clear t1 h1
    go_enter Tryd.func40, Tryd.ntmps40
    go_wp2
    rw [← hwz]
    clear hM0 hR0 hbA hwz
    refine wp_below (by kernel_rfl) (by kernel_rfl) ?_
    iterate 3
      refine q_want (v := ?_) (by kernel_rfl) ?_ ?_
      rotate_left
      · intro w' hC
        obtain ⟨j0, j1⟩ := HS.out w' hC
        go_simp
        try with_reducible rfl
      try simp only [Act.put, List.setIfInBounds_toArray, List.set_cons_zero, List.set_cons_succ]
    refine q_want (v := .agg #[.int .u64 1, .int .u64 0]) (by kernel_rfl) ?_ ?_
    · intro w' hC
      go_simp
      refine (with_zero _).mono ?_
      rintro e w'' ⟨rfl, hb2⟩
      exact ⟨rfl, hC.trans (hb2.mono hC.size)⟩
    try simp only [Act.put, List.setIfInBounds_toArray, List.set_cons_zero, List.set_cons_succ]
    iterate 2
      refine q_want (v := ?_) (by kernel_rfl) ?_ ?_
      rotate_left
      · intro w' hC
        go_simp
        try with_reducible rfl
      try simp only [Act.put, List.setIfInBounds_toArray, List.set_cons_zero, List.set_cons_succ]
    iterate 4 go_big_quiet_skip
    iterate 2
      refine q_want (v := ?_) (by kernel_rfl) ?_ ?_
      rotate_left
      · intro w' hC
        go_simp
        try with_reducible rfl
      try simp only [Act.put, List.setIfInBounds_toArray, List.set_cons_zero, List.set_cons_succ]
    refine wpQuiet_nil ?_
    intro w2 q2
    go_wp2
    go_ret
    exact ⟨rfl, HB.out.trans (q2.mono HB.out.size)⟩
  obtain ⟨rfl, rfl⟩ := h1
  go_enter Tryd.func40, Tryd.ntmps40
  go_wp2
  rw [← hwz]
  clear hM0 hR0 hbA hwz
  refine wp_below (by kernel_rfl) (by kernel_rfl) ?_
  iterate 3
    refine q_want (v := ?_) (by kernel_rfl) ?_ ?_
    rotate_left
    · intro w' hC
      obtain ⟨j0, j1⟩ := HS.out w' hC
      go_simp
      try with_reducible rfl
    try simp only [Act.put, List.setIfInBounds_toArray, List.set_cons_zero, List.set_cons_succ]
  refine q_want (v := .agg #[.int .u64 1, .int .u64 0]) (by kernel_rfl) ?_ ?_
  · intro w' hC
    go_simp
    refine (with_zero _).mono ?_
    rintro e w'' ⟨rfl, hb2⟩
    exact ⟨rfl, hC.trans (hb2.mono hC.size)⟩
  try simp only [Act.put, List.setIfInBounds_toArray, List.set_cons_zero, List.set_cons_succ]
  iterate 2
    refine q_want (v := ?_) (by kernel_rfl) ?_ ?_
    rotate_left
    · intro w' hC
      go_simp
      try with_reducible rfl
    try simp only [Act.put, List.setIfInBounds_toArray, List.set_cons_zero, List.set_cons_succ]
  iterate 3
    refine q_want (v := ?_) (by kernel_rfl) ?_ ?_
    rotate_left
    · intro w' hC
      obtain ⟨j0, j1⟩ := HS.out w' hC
      go_simp
      try with_reducible rfl
    try simp only [Act.put, List.setIfInBounds_toArray, List.set_cons_zero, List.set_cons_succ]
  iterate 3
    refine q_want (v := ?_) (by kernel_rfl) ?_ ?_
    rotate_left
    · intro w' hC
      go_simp
      try with_reducible rfl
    try simp only [Act.put, List.setIfInBounds_toArray, List.set_cons_zero, List.set_cons_succ]
  refine wpQuiet_nil ?_
  intro w2 q2
  go_wp2
  go_ret
  exact ⟨ret_bool (by rw [Bool.eq_iff_iff]; simp), HB.out.trans (q2.mono HB.out.size)⟩
end Go.Proofs.YthhchlceogbbhaaDoor
