/-
  Values: AddOf, of the program and of the document's model.
-/
import Derived.Test.YtlpbolchedngoaaDoorE15
import Derived.Deep.RegionHeld3
namespace Go.Proofs.YtlpbolchedngoaaDoor
open Go.RowKit Go.Extern.Stop Go.Stop Go.Extern

set_option maxRecDepth 100000 in
set_option maxHeartbeats 4000000 in
theorem iAdd_any (k n k' n' : Int) (s s' : ByteArray) (a0 a1 a2 : Addr) (w : World) (h : Errs w a0 a1 a2) (hsx : (s.size : Int) ≤ 1048576) (hsy : (s'.size : Int) ≤ 1048576) :
    Calls Tryd.prog 10 #[.agg #[.int .i64 k, .int .i64 n, .string s], .agg #[.int .i64 k', .int .i64 n', .string s']] w fun e w' => e = .returned (.tuple #[.agg #[.int .i64 (ak (addT k n k' n' s s') (addK k)), .int .i64 (ak (addT k n k' n' s s') (addN k n n')), .string (sk (addT k n k' n' s s') (addS k s s'))], .int .i64 (addT k n k' n' s s')]) ∧ Below w.heap.size w w' := by
  obtain ⟨W0, hW0⟩ : ∃ W0, W0 = ((w.alloc (.cells #[.int .i64 k, .int .i64 n, .string s] 25)).alloc (.cells #[.int .i64 k', .int .i64 n', .string s'] 25)).alloc (.cells #[.int .i64 0, .int .i64 0, .string ⟨#[]⟩] 25) := ⟨_, rfl⟩
  have hz : W0.heap.size = w.heap.size + 3 := by rw [hW0]; simp
  have hB0 : Below w.heap.size w W0 := by rw [hW0]; exact (((Below.refl _ _).alloc (Nat.le_refl _) _).alloc (by simp) _).alloc (by simp; omega) _
  have hx : W0.heap[w.heap.size]? = some (.cells #[.int .i64 k, .int .i64 n, .string s] 25 (0, 0)) := by rw [hW0]; exact block_kept (block_kept (block_new w _ _) ((Below.refl _ _).alloc (Nat.le_refl _) _)) ((Below.refl _ _).alloc (Nat.le_refl _) _)
  have hy : W0.heap[w.heap.size + 1]? = some (.cells #[.int .i64 k', .int .i64 n', .string s'] 25 (0, 0)) := by rw [hW0]; exact block_kept (by simpa using block_new (w.alloc (.cells #[.int .i64 k, .int .i64 n, .string s] 25)) #[.int .i64 k', .int .i64 n', .string s'] 25) ((Below.refl _ _).alloc (Nat.le_refl _) _)
  have hr : W0.heap[w.heap.size + 1 + 1]? = some (.cells #[.int .i64 0, .int .i64 0, .string ⟨#[]⟩] 25 (0, 0)) := by rw [hW0]; simpa using block_new ((w.alloc (.cells #[.int .i64 k, .int .i64 n, .string s] 25)).alloc (.cells #[.int .i64 k', .int .i64 n', .string s'] 25)) #[.int .i64 0, .int .i64 0, .string ⟨#[]⟩] 25
  have hS : ∀ w', Below (w.heap.size + 2) W0 w' → w'.cell? ⟨w.heap.size, 0, none⟩ = some (.int .i64 k) ∧ w'.cell? ⟨w.heap.size, 1, none⟩ = some (.int .i64 n) ∧ w'.cell? ⟨w.heap.size, 2, none⟩ = some (.string s) ∧ w'.cell? ⟨w.heap.size + 1, 0, none⟩ = some (.int .i64 k') ∧ w'.cell? ⟨w.heap.size + 1, 1, none⟩ = some (.int .i64 n') ∧ w'.cell? ⟨w.heap.size + 1, 2, none⟩ = some (.string s') := fun w' hb =>
    ⟨by rw [hb.cell (by simp), block_cell hx]; rfl, by rw [hb.cell (by simp), block_cell hx]; rfl, by rw [hb.cell (by simp), block_cell hx]; rfl, by rw [hb.cell (by simp), block_cell hy]; rfl, by rw [hb.cell (by simp), block_cell hy]; rfl, by rw [hb.cell (by simp), block_cell hy]; rfl⟩
  have q : Below W0.heap.size W0 W0.drew := (Below.refl _ _).drew
  have hE := h.later hB0
  have HB : Hid (Below w.heap.size w W0) := hB0
  have HZ : Hid (W0.heap.size = w.heap.size + 3) := hz
  have HR : Hid (W0.heap[w.heap.size + 1 + 1]? = some (.cells #[.int .i64 0, .int .i64 0, .string ⟨#[]⟩] 25 (0, 0))) := hr
  have HS : Hid (∀ w', Below (w.heap.size + 2) W0 w' → w'.cell? ⟨w.heap.size, 0, none⟩ = some (.int .i64 k) ∧ w'.cell? ⟨w.heap.size, 1, none⟩ = some (.int .i64 n) ∧ w'.cell? ⟨w.heap.size, 2, none⟩ = some (.string s) ∧ w'.cell? ⟨w.heap.size + 1, 0, none⟩ = some (.int .i64 k') ∧ w'.cell? ⟨w.heap.size + 1, 1, none⟩ = some (.int .i64 n') ∧ w'.cell? ⟨w.heap.size + 1, 2, none⟩ = some (.string s')) := hS
  obtain ⟨j0, j1, j2, j3, j4, j5⟩ := hS W0 (Below.refl _ _)
  have HT : Hid (0 ≤ addT k n k' n' s s' ∧ addT k n k' n' s s' ≤ 3) := addT_bounds k n k' n' s s'
  have HX : Hid ((s.size : Int) ≤ 1048576) := hsx
  have HY : Hid ((s'.size : Int) ≤ 1048576) := hsy
  clear hsx hsy
  clear hB0 hz hr hS hx hy
  go_enter Tryd.func10, Tryd.ntmps10
  go_wp2
  rw [← hW0]
  clear hW0
  go_region_held3 (fun w' => w'.cell? ⟨w.heap.size, 0, none⟩ = some (.int .i64 k) ∧ w'.cell? ⟨w.heap.size, 1, none⟩ = some (.int .i64 n) ∧ w'.cell? ⟨w.heap.size, 2, none⟩ = some (.string s) ∧ w'.cell? ⟨w.heap.size + 1, 0, none⟩ = some (.int .i64 k') ∧ w'.cell? ⟨w.heap.size + 1, 1, none⟩ = some (.int .i64 n') ∧ w'.cell? ⟨w.heap.size + 1, 2, none⟩ = some (.string s'))
    (first
      | exact ⟨j0, j1, j2, j3, j4, j5⟩
      | exact HS.out _ (q.mono (by have := HZ.out; omega))
      | exact HS.out _ ((((q.mono (by have := HZ.out; omega)).setCell (by simp) _).setCell (by simp) _).setCell (by simp) _))
    (first
      | (go_at_call 27; refine (thingOf_any _ _ _ _).mono ?_; rintro e wa ⟨rfl, kd⟩; have q := q.trans (kd.mono q.size))
      | (go_at_call 26; refine (sum_any _ _ _ _ _ _ a0 a1 a2 _ (by exact hE.later q) HX.out HY.out).mono ?_; rintro e wb ⟨rfl, kd⟩; have q := q.trans (kd.mono q.size))
      | (go_at_call 25; refine (answered_any _ _ _ _ _ a0 a1 a2 _ (by exact hE.later q) HT.out.1 HT.out.2 (add_just k n n' s s')).mono ?_; rintro e wc ⟨rfl, kd⟩; have q := q.trans (kd.mono q.size); have hk := block_kept HR.out q; have hc := block_cell hk; have hf := block_free hk))
  go_wp2
  have zz := block_cell (stored3 (a := .int .i64 (ak (addT k n k' n' s s') (addK k))) (b := .int .i64 (ak (addT k n k' n' s s') (addN k n n'))) (c := .string (sk (addT k n k' n' s s') (addS k s s'))) hk)
  have z0 := zz 0
  have z1 := zz 1
  have z2 := zz 2
  refine bodyPost_ret (v := .tuple #[.agg #[.int .i64 (ak (addT k n k' n' s s') (addK k)), .int .i64 (ak (addT k n k' n' s s') (addN k n n')), .string (sk (addT k n k' n' s s') (addS k s s'))], .int .i64 (addT k n k' n' s s')]) (by simp [results, Tryd.results10, go_sem, z0, z1, z2]) rfl ⟨rfl, ?_⟩
  exact (((HB.out.trans (q.mono HB.out.size)).setCell (by simp; omega) _).setCell (by simp; omega) _).setCell (by simp; omega) _

theorem addT_num (k n k' n' : Int) (s s' : ByteArray) (h : ¬ (k = 3 ∧ k' = 3)) : addT k n k' n' s s' = numT k k' n n' (wrap64 (n + n')) := by
  unfold addT numT
  rw [if_neg h]

/-- What a sum of two values that are not two texts comes to. -/
theorem add_num (k n k' n' : Int) (s s' : ByteArray) (h : ¬ (k = 3 ∧ k' = 3)) : (.tuple #[.agg #[.int .i64 (ak (addT k n k' n' s s') (addK k)), .int .i64 (ak (addT k n k' n' s s') (addN k n n')), .string (sk (addT k n k' n' s s') (addS k s s'))], .int .i64 (addT k n k' n' s s')] : Value) = .tuple #[.agg #[.int .i64 (ak (numT k k' n n' (wrap64 (n + n'))) 1), .int .i64 (ak (numT k k' n n' (wrap64 (n + n'))) (wrap64 (n + n'))), .string (sk (numT k k' n n' (wrap64 (n + n'))) ⟨#[]⟩)], .int .i64 (numT k k' n n' (wrap64 (n + n')))] := by
  rw [addT_num k n k' n' s s' h]
  by_cases h3 : k = 3
  · subst h3
    rw [show numT 3 k' n n' (wrap64 (n + n')) = 1 by simp [numT]]
    rfl
  · simp [addK, addN, addS, h3]

set_option maxRecDepth 100000 in
set_option maxHeartbeats 1000000 in
theorem sAdd_num (k n k' n' : Int) (s s' : ByteArray) (w : World) (h : ¬ (k = 3 ∧ k' = 3)) :
    Calls Tryd.prog 13 #[.agg #[.int .i64 k, .int .i64 n, .string s], .agg #[.int .i64 k', .int .i64 n', .string s']] w fun e w' => e = .returned (.tuple #[.agg #[.int .i64 (ak (addT k n k' n' s s') (addK k)), .int .i64 (ak (addT k n k' n' s s') (addN k n n')), .string (sk (addT k n k' n' s s') (addS k s s'))], .int .i64 (addT k n k' n' s s')]) ∧ Below w.heap.size w w' := by
  rw [add_num k n k' n' s s' h]
  by_cases h3 : k = 3
  · subst h3
    have b : (k' == 3) = false := by simpa using h
    clear h
    show Calls Tryd.prog 13 _ w fun e w' => e = .returned (.tuple #[.agg #[.int .i64 (ak (numT 3 k' n n' (wrap64 (n + n'))) 1), .int .i64 (ak (numT 3 k' n n' (wrap64 (n + n'))) (wrap64 (n + n'))), .string (sk (numT 3 k' n n' (wrap64 (n + n'))) ⟨#[]⟩)], .int .i64 (numT 3 k' n n' (wrap64 (n + n')))]) ∧ Below w.heap.size w w'
    go_enter Tryd.func13, Tryd.ntmps13
    go_wp2_with fail
    refine (sNumbers_11 _ _ _ _ _ _ _).mono ?_
    rintro e w1 ⟨rfl, hb⟩
    have hk := block_kept (block_new_at _ _ _ (w.heap.size + 1 + 1) (by simp)) hb
    have hc := block_cell hk
    have hf := block_free hk
    have hB : Below w.heap.size w w1 := ((((Below.refl _ _).alloc (Nat.le_refl _) _).alloc (by simp) _).alloc (by simp; omega) _).trans (hb.mono (by simp; omega))
    clear hb
    go_wp2
    have zz := block_cell (stored3 (a := .int .i64 (ak (numT 3 k' n n' (wrap64 (n + n'))) 1)) (b := .int .i64 (ak (numT 3 k' n n' (wrap64 (n + n'))) (wrap64 (n + n')))) (c := .string (sk (numT 3 k' n n' (wrap64 (n + n'))) ⟨#[]⟩)) hk)
    have z0 := zz 0
    have z1 := zz 1
    have z2 := zz 2
    refine bodyPost_ret (v := .tuple #[.agg #[.int .i64 (ak (numT 3 k' n n' (wrap64 (n + n'))) 1), .int .i64 (ak (numT 3 k' n n' (wrap64 (n + n'))) (wrap64 (n + n'))), .string (sk (numT 3 k' n n' (wrap64 (n + n'))) ⟨#[]⟩)], .int .i64 (numT 3 k' n n' (wrap64 (n + n')))]) (by simp [results, Tryd.results13, go_sem, z0, z1, z2]) rfl ⟨rfl, ?_⟩
    exact ((hB.setCell (by simp; omega) _).setCell (by simp; omega) _).setCell (by simp; omega) _
  · have b : (k == 3) = false := by simpa using h3
    clear h h3
    show Calls Tryd.prog 13 _ w fun e w' => e = .returned (.tuple #[.agg #[.int .i64 (ak (numT k k' n n' (wrap64 (n + n'))) 1), .int .i64 (ak (numT k k' n n' (wrap64 (n + n'))) (wrap64 (n + n'))), .string (sk (numT k k' n n' (wrap64 (n + n'))) ⟨#[]⟩)], .int .i64 (numT k k' n n' (wrap64 (n + n')))]) ∧ Below w.heap.size w w'
    go_enter Tryd.func13, Tryd.ntmps13
    go_wp2_with fail
    refine (sNumbers_11 _ _ _ _ _ _ _).mono ?_
    rintro e w1 ⟨rfl, hb⟩
    have hk := block_kept (block_new_at _ _ _ (w.heap.size + 1 + 1) (by simp)) hb
    have hc := block_cell hk
    have hf := block_free hk
    have hB : Below w.heap.size w w1 := ((((Below.refl _ _).alloc (Nat.le_refl _) _).alloc (by simp) _).alloc (by simp; omega) _).trans (hb.mono (by simp; omega))
    clear hb
    go_wp2
    have zz := block_cell (stored3 (a := .int .i64 (ak (numT k k' n n' (wrap64 (n + n'))) 1)) (b := .int .i64 (ak (numT k k' n n' (wrap64 (n + n'))) (wrap64 (n + n')))) (c := .string (sk (numT k k' n n' (wrap64 (n + n'))) ⟨#[]⟩)) hk)
    have z0 := zz 0
    have z1 := zz 1
    have z2 := zz 2
    refine bodyPost_ret (v := .tuple #[.agg #[.int .i64 (ak (numT k k' n n' (wrap64 (n + n'))) 1), .int .i64 (ak (numT k k' n n' (wrap64 (n + n'))) (wrap64 (n + n'))), .string (sk (numT k k' n n' (wrap64 (n + n'))) ⟨#[]⟩)], .int .i64 (numT k k' n n' (wrap64 (n + n')))]) (by simp [results, Tryd.results13, go_sem, z0, z1, z2]) rfl ⟨rfl, ?_⟩
    exact ((hB.setCell (by simp; omega) _).setCell (by simp; omega) _).setCell (by simp; omega) _

set_option maxRecDepth 100000 in
set_option maxHeartbeats 1000000 in
theorem sAdd_any (k n k' n' : Int) (s s' : ByteArray) (w : World) (hy : (s'.size : Int) ≤ 1048576) :
    Calls Tryd.prog 13 #[.agg #[.int .i64 k, .int .i64 n, .string s], .agg #[.int .i64 k', .int .i64 n', .string s']] w fun e w' => e = .returned (.tuple #[.agg #[.int .i64 (ak (addT k n k' n' s s') (addK k)), .int .i64 (ak (addT k n k' n' s s') (addN k n n')), .string (sk (addT k n k' n' s s') (addS k s s'))], .int .i64 (addT k n k' n' s s')]) ∧ Below w.heap.size w w' := by
  by_cases h : k = 3 ∧ k' = 3
  · obtain ⟨rfl, rfl⟩ := h
    by_cases hl : (60 : Int) < (s.size : Int) + (s'.size : Int)
    · rw [show addT 3 n 3 n' s s' = 3 by simp [addT, hl]]
      show Calls Tryd.prog 13 _ w fun e w' => e = .returned (.tuple #[.agg #[.int .i64 0, .int .i64 0, .string ⟨#[]⟩], .int .i64 3]) ∧ Below w.heap.size w w'
      have l1 : (60 : Int) - (s'.size : Int) < (s.size : Int) := by omega
      clear hl
      go_enter Tryd.func13, Tryd.ntmps13
      go_wp2
      refine bodyPost_ret (v := .tuple #[.agg #[.int .i64 0, .int .i64 0, .string ⟨#[]⟩], .int .i64 3]) (by simp [results, Tryd.results13, go_sem]) rfl ⟨rfl, ?_⟩
      repeat (first | exact Below.refl _ _ | refine Below.alloc ?_ (by first | exact Nat.le_refl _ | (simp <;> omega)) _ | refine Below.setCell ?_ (by first | exact Nat.le_refl _ | (simp <;> omega)) _)
    · rw [show addT 3 n 3 n' s s' = 0 by simp [addT, hl]]
      show Calls Tryd.prog 13 _ w fun e w' => e = .returned (.tuple #[.agg #[.int .i64 3, .int .i64 0, .string (s ++ s')], .int .i64 0]) ∧ Below w.heap.size w w'
      have l1 : ¬ (60 : Int) - (s'.size : Int) < (s.size : Int) := by omega
      have l2 : ¬ 9223372036854775807 < s.size + s'.size := by omega
      clear hl
      go_enter Tryd.func13, Tryd.ntmps13
      go_wp2
      refine bodyPost_ret (v := .tuple #[.agg #[.int .i64 3, .int .i64 0, .string (s ++ s')], .int .i64 0]) (by simp [results, Tryd.results13, go_sem]) rfl ⟨rfl, ?_⟩
      repeat (first | exact Below.refl _ _ | refine Below.alloc ?_ (by first | exact Nat.le_refl _ | (simp <;> omega)) _ | refine Below.setCell ?_ (by first | exact Nat.le_refl _ | (simp <;> omega)) _)
  · exact sAdd_num k n k' n' s s' w h
end Go.Proofs.YtlpbolchedngoaaDoor
