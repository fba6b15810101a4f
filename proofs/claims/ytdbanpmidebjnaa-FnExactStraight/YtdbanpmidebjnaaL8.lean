/-
  What oneWay returns: whether the leaders are just the first instruction and there are no heads.
-/
import Derived.Test.YtdbanpmidebjnaaL7
import Derived.Test.YtdbanpmidebjnaaYq
import Derived.ChangeKeysEq
import Derived.Laws.StructEq
namespace Go.Proofs.Ytdbanpmidebjnaa
open Go.RowKit

theorem guard40 : Try.prog.eqGuardType Try.prog.depth 40 = false := by kernel_rfl

set_option maxRecDepth 100000 in
theorem eqIn40 (a b c e : Int) (W : World) : (Op.equalIn 10000 40 (.agg #[.int .u64 a, .int .u64 b]) (.agg #[.int .u64 c, .int .u64 e])).run Try.prog W = .ok (a == c && b == e) W := by
  have h : ∀ d : Nat, (Op.equalIn (d + 1 + 1) 40 (.agg #[.int .u64 a, .int .u64 b]) (.agg #[.int .u64 c, .int .u64 e])).run Try.prog W = .ok (a == c && b == e) W := fun d => by
    obtain ⟨i, hi⟩ : ∃ i, Try.prog.info? 38 = some i := by
      have h : (Try.prog.info? 38).isSome = true := by kernel_rfl
      exact Option.isSome_iff_exists.1 h
    rw [run_equalIn_array W (d + 1) _ _ (show Try.prog.underlying 40 = some (.array 2 38) by kernel_rfl) hi]
    have hc : Try.prog.cellsOf 38 = 1 := by kernel_rfl
    rw [hc]
    have p0 : ∀ (a b : Int) (W : World), (part 38 #[.int .u64 a, .int .u64 b] 0).run Try.prog W = .ok (.int .u64 a) W := fun _ _ _ => by kernel_rfl
    have p1 : ∀ (a b : Int) (W : World), (part 38 #[.int .u64 a, .int .u64 b] 1).run Try.prog W = .ok (.int .u64 b) W := fun _ _ _ => by kernel_rfl
    have e1 := run_equalIn_int (P := Try.prog) W d 38 .u64 .u64 a c Try.underlying38
    have e2 := run_equalIn_int (P := Try.prog) W d 38 .u64 .u64 b e Try.underlying38
    have hr : List.range 2 = [0, 1] := by decide
    rw [hr]
    cases h1 : (a == c) <;> cases h2 : (b == e) <;> rw [h1] at e1 <;> rw [h2] at e2 <;>
      simp [Op.eqItems, p0, p1, e1, e2]
  exact h 9998

set_option maxRecDepth 100000 in
set_option maxHeartbeats 2000000 in
theorem oneWay_any (a b c e : Int) (w : World) :
    Calls Try.prog 27 #[.agg #[.int .u64 a, .int .u64 b, .int .u64 c, .int .u64 e]] w fun r w' => r = .returned (.bool (decide (a = 1 ∧ b = 0 ∧ c = 0 ∧ e = 0))) ∧ Below w.heap.size w w' := by
  have hbA : Below w.heap.size w ((w.alloc (.cells #[.int .u64 a, .int .u64 b, .int .u64 c, .int .u64 e] 42)).alloc (.cells #[.int .u64 0, .int .u64 0] 40)) := ((Below.refl _ _).alloc (Nat.le_refl _) _).alloc (by simp) _
  have hM0 := block_old (block_new w #[.int .u64 a, .int .u64 b, .int .u64 c, .int .u64 e] 42) (.cells #[.int .u64 0, .int .u64 0] 40)
  have hR0 := block_new (w.alloc (.cells #[.int .u64 a, .int .u64 b, .int .u64 c, .int .u64 e] 42)) #[.int .u64 0, .int .u64 0] 40
  rw [World.size_alloc] at hR0
  obtain ⟨wz, hwz⟩ : ∃ wz, wz = (w.alloc (.cells #[.int .u64 a, .int .u64 b, .int .u64 c, .int .u64 e] 42)).alloc (.cells #[.int .u64 0, .int .u64 0] 40) := ⟨_, rfl⟩
  rw [← hwz] at hbA hM0 hR0
  have gd := guard40
  have e1 := eqIn40 a b 1 0
  have e2 := eqIn40 c e 0 0
  have HB : Hid (Below w.heap.size w wz) := hbA
  have HS : Hid (∀ w', Below wz.heap.size wz w' → (∀ i, w'.cell? ⟨w.heap.size, i, none⟩ = #[Value.int .u64 a, .int .u64 b, .int .u64 c, .int .u64 e][i]?) ∧ (∀ i, w'.cell? ⟨w.heap.size + 1, i, none⟩ = #[Value.int .u64 0, .int .u64 0][i]?)) := fun w' hb => ⟨block_cell (block_kept hM0 hb), block_cell (block_kept hR0 hb)⟩
  by_cases h1 : a = 1 ∧ b = 0
  case neg =>
    have t1 : (a == 1 && b == 0) = false := by
      cases h : (a == 1 && b == 0)
      · rfl
      · simp at h; exact absurd h h1
    rw [decide_eq_false (fun h => h1 ⟨h.1, h.2.1⟩)]
    rw [t1] at e1
    clear t1 h1
    go_enter Try.func27, Try.ntmps27
    go_wp2
    rw [← hwz]
    clear hM0 hR0 hbA hwz
    refine wp_below (by kernel_rfl) (by kernel_rfl) ?_
    iterate 3
      refine q_want (v := ?_) (by kernel_rfl) ?_ ?_
      rotate_left
      · intro w' hC
        obtain ⟨j0, j1⟩ := HS.out w' hC
        go_simp
        try with_reducible rfl
      try simp only [Act.put, List.setIfInBounds_toArray, List.set_cons_zero, List.set_cons_succ]
    refine q_want (v := .agg #[.int .u64 1, .int .u64 0]) (by kernel_rfl) ?_ ?_
    · intro w' hC
      go_simp
      refine (with_zero _).mono ?_
      rintro e w'' ⟨rfl, hb2⟩
      exact ⟨rfl, hC.trans (hb2.mono hC.size)⟩
    try simp only [Act.put, List.setIfInBounds_toArray, List.set_cons_zero, List.set_cons_succ]
    iterate 2
      refine q_want (v := ?_) (by kernel_rfl) ?_ ?_
      rotate_left
      · intro w' hC
        go_simp
        try with_reducible rfl
      try simp only [Act.put, List.setIfInBounds_toArray, List.set_cons_zero, List.set_cons_succ]
    iterate 4 go_big_quiet_skip
    iterate 2
      refine q_want (v := ?_) (by kernel_rfl) ?_ ?_
      rotate_left
      · intro w' hC
        go_simp
        try with_reducible rfl
      try simp only [Act.put, List.setIfInBounds_toArray, List.set_cons_zero, List.set_cons_succ]
    refine wpQuiet_nil ?_
    intro w2 q2
    go_wp2
    go_ret
    exact ⟨rfl, HB.out.trans (q2.mono HB.out.size)⟩
  obtain ⟨rfl, rfl⟩ := h1
  go_enter Try.func27, Try.ntmps27
  go_wp2
  rw [← hwz]
  clear hM0 hR0 hbA hwz
  refine wp_below (by kernel_rfl) (by kernel_rfl) ?_
  iterate 3
    refine q_want (v := ?_) (by kernel_rfl) ?_ ?_
    rotate_left
    · intro w' hC
      obtain ⟨j0, j1⟩ := HS.out w' hC
      go_simp
      try with_reducible rfl
    try simp only [Act.put, List.setIfInBounds_toArray, List.set_cons_zero, List.set_cons_succ]
  refine q_want (v := .agg #[.int .u64 1, .int .u64 0]) (by kernel_rfl) ?_ ?_
  · intro w' hC
    go_simp
    refine (with_zero _).mono ?_
    rintro e w'' ⟨rfl, hb2⟩
    exact ⟨rfl, hC.trans (hb2.mono hC.size)⟩
  try simp only [Act.put, List.setIfInBounds_toArray, List.set_cons_zero, List.set_cons_succ]
  iterate 2
    refine q_want (v := ?_) (by kernel_rfl) ?_ ?_
    rotate_left
    · intro w' hC
      go_simp
      try with_reducible rfl
    try simp only [Act.put, List.setIfInBounds_toArray, List.set_cons_zero, List.set_cons_succ]
  iterate 3
    refine q_want (v := ?_) (by kernel_rfl) ?_ ?_
    rotate_left
    · intro w' hC
      obtain ⟨j0, j1⟩ := HS.out w' hC
      go_simp
      try with_reducible rfl
    try simp only [Act.put, List.setIfInBounds_toArray, List.set_cons_zero, List.set_cons_succ]
  iterate 3
    refine q_want (v := ?_) (by kernel_rfl) ?_ ?_
    rotate_left
    · intro w' hC
      go_simp
      try with_reducible rfl
    try simp only [Act.put, List.setIfInBounds_toArray, List.set_cons_zero, List.set_cons_succ]
  refine wpQuiet_nil ?_
  intro w2 q2
  go_wp2
  go_ret
  exact ⟨ret_bool (by rw [Bool.eq_iff_iff]; simp), HB.out.trans (q2.mono HB.out.size)⟩
end Go.Proofs.Ytdbanpmidebjnaa
