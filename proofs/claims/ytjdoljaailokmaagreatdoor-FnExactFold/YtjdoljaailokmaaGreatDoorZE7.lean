/-
  Values: the program's SubOf and MulOf, whole.
-/
import Derived.Test.YtjdoljaailokmaaGreatDoorZE6
import Derived.Deep.RegionHeld3
namespace Go.Proofs.YtjdoljaailokmaaGreatDoor
open Go.RowKit Go.Extern.Stop Go.Stop Go.Extern

set_option maxRecDepth 100000 in
set_option maxHeartbeats 4000000 in
theorem iSub_any (k n k' n' : Int) (s s' : ByteArray) (a0 a1 a2 : Addr) (w : World) (h : Errs w a0 a1 a2) :
    Calls Tryz.prog 80 #[.agg #[.int .i64 k, .int .i64 n, .string s], .agg #[.int .i64 k', .int .i64 n', .string s']] w fun e w' => e = .returned (.tuple #[.agg #[.int .i64 (ak (numT k k' n n' (wrap64 (n - n'))) (1)), .int .i64 (ak (numT k k' n n' (wrap64 (n - n'))) (wrap64 (n - n'))), .string (sk (numT k k' n n' (wrap64 (n - n'))) (⟨#[]⟩))], .int .i64 (numT k k' n n' (wrap64 (n - n')))]) ∧ Below w.heap.size w w' := by
  obtain ⟨W0, hW0⟩ : ∃ W0, W0 = ((w.alloc (.cells #[.int .i64 k, .int .i64 n, .string s] 107)).alloc (.cells #[.int .i64 k', .int .i64 n', .string s'] 107)).alloc (.cells #[.int .i64 0, .int .i64 0, .string ⟨#[]⟩] 107) := ⟨_, rfl⟩
  have hz : W0.heap.size = w.heap.size + 3 := by rw [hW0]; simp
  have hB0 : Below w.heap.size w W0 := by rw [hW0]; exact (((Below.refl _ _).alloc (Nat.le_refl _) _).alloc (by simp) _).alloc (by simp; omega) _
  have hx : W0.heap[w.heap.size]? = some (.cells #[.int .i64 k, .int .i64 n, .string s] 107 (0, 0)) := by rw [hW0]; exact block_kept (block_kept (block_new w _ _) ((Below.refl _ _).alloc (Nat.le_refl _) _)) ((Below.refl _ _).alloc (Nat.le_refl _) _)
  have hy : W0.heap[w.heap.size + 1]? = some (.cells #[.int .i64 k', .int .i64 n', .string s'] 107 (0, 0)) := by rw [hW0]; exact block_kept (by simpa using block_new (w.alloc (.cells #[.int .i64 k, .int .i64 n, .string s] 107)) #[.int .i64 k', .int .i64 n', .string s'] 107) ((Below.refl _ _).alloc (Nat.le_refl _) _)
  have hr : W0.heap[w.heap.size + 1 + 1]? = some (.cells #[.int .i64 0, .int .i64 0, .string ⟨#[]⟩] 107 (0, 0)) := by rw [hW0]; simpa using block_new ((w.alloc (.cells #[.int .i64 k, .int .i64 n, .string s] 107)).alloc (.cells #[.int .i64 k', .int .i64 n', .string s'] 107)) #[.int .i64 0, .int .i64 0, .string ⟨#[]⟩] 107
  have hS : ∀ w', Below (w.heap.size + 2) W0 w' → w'.cell? ⟨w.heap.size, 0, none⟩ = some (.int .i64 k) ∧ w'.cell? ⟨w.heap.size, 1, none⟩ = some (.int .i64 n) ∧ w'.cell? ⟨w.heap.size, 2, none⟩ = some (.string s) ∧ w'.cell? ⟨w.heap.size + 1, 0, none⟩ = some (.int .i64 k') ∧ w'.cell? ⟨w.heap.size + 1, 1, none⟩ = some (.int .i64 n') ∧ w'.cell? ⟨w.heap.size + 1, 2, none⟩ = some (.string s') := fun w' hb =>
    ⟨by rw [hb.cell (by simp), block_cell hx]; rfl, by rw [hb.cell (by simp), block_cell hx]; rfl, by rw [hb.cell (by simp), block_cell hx]; rfl, by rw [hb.cell (by simp), block_cell hy]; rfl, by rw [hb.cell (by simp), block_cell hy]; rfl, by rw [hb.cell (by simp), block_cell hy]; rfl⟩
  have q : Below W0.heap.size W0 W0.drew := (Below.refl _ _).drew
  have hE := h.later hB0
  have HB : Hid (Below w.heap.size w W0) := hB0
  have HZ : Hid (W0.heap.size = w.heap.size + 3) := hz
  have HR : Hid (W0.heap[w.heap.size + 1 + 1]? = some (.cells #[.int .i64 0, .int .i64 0, .string ⟨#[]⟩] 107 (0, 0))) := hr
  have HS : Hid (∀ w', Below (w.heap.size + 2) W0 w' → w'.cell? ⟨w.heap.size, 0, none⟩ = some (.int .i64 k) ∧ w'.cell? ⟨w.heap.size, 1, none⟩ = some (.int .i64 n) ∧ w'.cell? ⟨w.heap.size, 2, none⟩ = some (.string s) ∧ w'.cell? ⟨w.heap.size + 1, 0, none⟩ = some (.int .i64 k') ∧ w'.cell? ⟨w.heap.size + 1, 1, none⟩ = some (.int .i64 n') ∧ w'.cell? ⟨w.heap.size + 1, 2, none⟩ = some (.string s')) := hS
  obtain ⟨j0, j1, j2, j3, j4, j5⟩ := hS W0 (Below.refl _ _)
  have HT : Hid (0 ≤ numT k k' n n' (wrap64 (n - n')) ∧ numT k k' n n' (wrap64 (n - n')) ≤ 3) := numT_bounds k k' n n' (wrap64 (n - n'))
  clear hB0 hz hr hS hx hy
  go_enter Tryz.func80, Tryz.ntmps80
  go_wp2
  rw [← hW0]
  clear hW0
  go_region_held3 (fun w' => w'.cell? ⟨w.heap.size, 0, none⟩ = some (.int .i64 k) ∧ w'.cell? ⟨w.heap.size, 1, none⟩ = some (.int .i64 n) ∧ w'.cell? ⟨w.heap.size, 2, none⟩ = some (.string s) ∧ w'.cell? ⟨w.heap.size + 1, 0, none⟩ = some (.int .i64 k') ∧ w'.cell? ⟨w.heap.size + 1, 1, none⟩ = some (.int .i64 n') ∧ w'.cell? ⟨w.heap.size + 1, 2, none⟩ = some (.string s'))
    (first
      | exact ⟨j0, j1, j2, j3, j4, j5⟩
      | exact HS.out _ (q.mono (by have := HZ.out; omega))
      | exact HS.out _ ((((q.mono (by have := HZ.out; omega)).setCell (by simp) _).setCell (by simp) _).setCell (by simp) _))
    (first
      | (go_at_call 91; refine (thingOf_any _ _ _ _).mono ?_; rintro e wa ⟨rfl, kd⟩; have q := q.trans (kd.mono q.size))
      | (go_at_call 92; refine (difference_any _ _ _ _ _ _ a0 a1 a2 _ (by exact hE.later q)).mono ?_; rintro e wb ⟨rfl, kd⟩; have q := q.trans (kd.mono q.size))
      | (go_at_call 89; refine (answered_any _ _ _ _ _ a0 a1 a2 _ (by exact hE.later q) HT.out.1 HT.out.2 (Or.inl ⟨rfl, rfl⟩)).mono ?_; rintro e wc ⟨rfl, kd⟩; have q := q.trans (kd.mono q.size); have hk := block_kept HR.out q; have hc := block_cell hk; have hf := block_free hk))
  go_wp2
  have zz := block_cell (stored3 (a := .int .i64 (ak (numT k k' n n' (wrap64 (n - n'))) (1))) (b := .int .i64 (ak (numT k k' n n' (wrap64 (n - n'))) (wrap64 (n - n')))) (c := .string (sk (numT k k' n n' (wrap64 (n - n'))) (⟨#[]⟩))) hk)
  have z0 := zz 0
  have z1 := zz 1
  have z2 := zz 2
  refine bodyPost_ret (v := .tuple #[.agg #[.int .i64 (ak (numT k k' n n' (wrap64 (n - n'))) (1)), .int .i64 (ak (numT k k' n n' (wrap64 (n - n'))) (wrap64 (n - n'))), .string (sk (numT k k' n n' (wrap64 (n - n'))) (⟨#[]⟩))], .int .i64 (numT k k' n n' (wrap64 (n - n')))]) (by simp [results, Tryz.results80, go_sem, z0, z1, z2]) rfl ⟨rfl, ?_⟩
  exact (((HB.out.trans (q.mono HB.out.size)).setCell (by simp; omega) _).setCell (by simp; omega) _).setCell (by simp; omega) _

set_option maxRecDepth 100000 in
set_option maxHeartbeats 4000000 in
theorem iMul_any (k n k' n' : Int) (s s' : ByteArray) (a0 a1 a2 : Addr) (w : World) (h : Errs w a0 a1 a2) :
    Calls Tryz.prog 81 #[.agg #[.int .i64 k, .int .i64 n, .string s], .agg #[.int .i64 k', .int .i64 n', .string s']] w fun e w' => e = .returned (.tuple #[.agg #[.int .i64 (ak (numT k k' n n' (wrap64 (n * n'))) (1)), .int .i64 (ak (numT k k' n n' (wrap64 (n * n'))) (wrap64 (n * n'))), .string (sk (numT k k' n n' (wrap64 (n * n'))) (⟨#[]⟩))], .int .i64 (numT k k' n n' (wrap64 (n * n')))]) ∧ Below w.heap.size w w' := by
  obtain ⟨W0, hW0⟩ : ∃ W0, W0 = ((w.alloc (.cells #[.int .i64 k, .int .i64 n, .string s] 107)).alloc (.cells #[.int .i64 k', .int .i64 n', .string s'] 107)).alloc (.cells #[.int .i64 0, .int .i64 0, .string ⟨#[]⟩] 107) := ⟨_, rfl⟩
  have hz : W0.heap.size = w.heap.size + 3 := by rw [hW0]; simp
  have hB0 : Below w.heap.size w W0 := by rw [hW0]; exact (((Below.refl _ _).alloc (Nat.le_refl _) _).alloc (by simp) _).alloc (by simp; omega) _
  have hx : W0.heap[w.heap.size]? = some (.cells #[.int .i64 k, .int .i64 n, .string s] 107 (0, 0)) := by rw [hW0]; exact block_kept (block_kept (block_new w _ _) ((Below.refl _ _).alloc (Nat.le_refl _) _)) ((Below.refl _ _).alloc (Nat.le_refl _) _)
  have hy : W0.heap[w.heap.size + 1]? = some (.cells #[.int .i64 k', .int .i64 n', .string s'] 107 (0, 0)) := by rw [hW0]; exact block_kept (by simpa using block_new (w.alloc (.cells #[.int .i64 k, .int .i64 n, .string s] 107)) #[.int .i64 k', .int .i64 n', .string s'] 107) ((Below.refl _ _).alloc (Nat.le_refl _) _)
  have hr : W0.heap[w.heap.size + 1 + 1]? = some (.cells #[.int .i64 0, .int .i64 0, .string ⟨#[]⟩] 107 (0, 0)) := by rw [hW0]; simpa using block_new ((w.alloc (.cells #[.int .i64 k, .int .i64 n, .string s] 107)).alloc (.cells #[.int .i64 k', .int .i64 n', .string s'] 107)) #[.int .i64 0, .int .i64 0, .string ⟨#[]⟩] 107
  have hS : ∀ w', Below (w.heap.size + 2) W0 w' → w'.cell? ⟨w.heap.size, 0, none⟩ = some (.int .i64 k) ∧ w'.cell? ⟨w.heap.size, 1, none⟩ = some (.int .i64 n) ∧ w'.cell? ⟨w.heap.size, 2, none⟩ = some (.string s) ∧ w'.cell? ⟨w.heap.size + 1, 0, none⟩ = some (.int .i64 k') ∧ w'.cell? ⟨w.heap.size + 1, 1, none⟩ = some (.int .i64 n') ∧ w'.cell? ⟨w.heap.size + 1, 2, none⟩ = some (.string s') := fun w' hb =>
    ⟨by rw [hb.cell (by simp), block_cell hx]; rfl, by rw [hb.cell (by simp), block_cell hx]; rfl, by rw [hb.cell (by simp), block_cell hx]; rfl, by rw [hb.cell (by simp), block_cell hy]; rfl, by rw [hb.cell (by simp), block_cell hy]; rfl, by rw [hb.cell (by simp), block_cell hy]; rfl⟩
  have q : Below W0.heap.size W0 W0.drew := (Below.refl _ _).drew
  have hE := h.later hB0
  have HB : Hid (Below w.heap.size w W0) := hB0
  have HZ : Hid (W0.heap.size = w.heap.size + 3) := hz
  have HR : Hid (W0.heap[w.heap.size + 1 + 1]? = some (.cells #[.int .i64 0, .int .i64 0, .string ⟨#[]⟩] 107 (0, 0))) := hr
  have HS : Hid (∀ w', Below (w.heap.size + 2) W0 w' → w'.cell? ⟨w.heap.size, 0, none⟩ = some (.int .i64 k) ∧ w'.cell? ⟨w.heap.size, 1, none⟩ = some (.int .i64 n) ∧ w'.cell? ⟨w.heap.size, 2, none⟩ = some (.string s) ∧ w'.cell? ⟨w.heap.size + 1, 0, none⟩ = some (.int .i64 k') ∧ w'.cell? ⟨w.heap.size + 1, 1, none⟩ = some (.int .i64 n') ∧ w'.cell? ⟨w.heap.size + 1, 2, none⟩ = some (.string s')) := hS
  obtain ⟨j0, j1, j2, j3, j4, j5⟩ := hS W0 (Below.refl _ _)
  have HT : Hid (0 ≤ numT k k' n n' (wrap64 (n * n')) ∧ numT k k' n n' (wrap64 (n * n')) ≤ 3) := numT_bounds k k' n n' (wrap64 (n * n'))
  clear hB0 hz hr hS hx hy
  go_enter Tryz.func81, Tryz.ntmps81
  go_wp2
  rw [← hW0]
  clear hW0
  go_region_held3 (fun w' => w'.cell? ⟨w.heap.size, 0, none⟩ = some (.int .i64 k) ∧ w'.cell? ⟨w.heap.size, 1, none⟩ = some (.int .i64 n) ∧ w'.cell? ⟨w.heap.size, 2, none⟩ = some (.string s) ∧ w'.cell? ⟨w.heap.size + 1, 0, none⟩ = some (.int .i64 k') ∧ w'.cell? ⟨w.heap.size + 1, 1, none⟩ = some (.int .i64 n') ∧ w'.cell? ⟨w.heap.size + 1, 2, none⟩ = some (.string s'))
    (first
      | exact ⟨j0, j1, j2, j3, j4, j5⟩
      | exact HS.out _ (q.mono (by have := HZ.out; omega))
      | exact HS.out _ ((((q.mono (by have := HZ.out; omega)).setCell (by simp) _).setCell (by simp) _).setCell (by simp) _))
    (first
      | (go_at_call 91; refine (thingOf_any _ _ _ _).mono ?_; rintro e wa ⟨rfl, kd⟩; have q := q.trans (kd.mono q.size))
      | (go_at_call 93; refine (product_any _ _ _ _ _ _ a0 a1 a2 _ (by exact hE.later q)).mono ?_; rintro e wb ⟨rfl, kd⟩; have q := q.trans (kd.mono q.size))
      | (go_at_call 89; refine (answered_any _ _ _ _ _ a0 a1 a2 _ (by exact hE.later q) HT.out.1 HT.out.2 (Or.inl ⟨rfl, rfl⟩)).mono ?_; rintro e wc ⟨rfl, kd⟩; have q := q.trans (kd.mono q.size); have hk := block_kept HR.out q; have hc := block_cell hk; have hf := block_free hk))
  go_wp2
  have zz := block_cell (stored3 (a := .int .i64 (ak (numT k k' n n' (wrap64 (n * n'))) (1))) (b := .int .i64 (ak (numT k k' n n' (wrap64 (n * n'))) (wrap64 (n * n')))) (c := .string (sk (numT k k' n n' (wrap64 (n * n'))) (⟨#[]⟩))) hk)
  have z0 := zz 0
  have z1 := zz 1
  have z2 := zz 2
  refine bodyPost_ret (v := .tuple #[.agg #[.int .i64 (ak (numT k k' n n' (wrap64 (n * n'))) (1)), .int .i64 (ak (numT k k' n n' (wrap64 (n * n'))) (wrap64 (n * n'))), .string (sk (numT k k' n n' (wrap64 (n * n'))) (⟨#[]⟩))], .int .i64 (numT k k' n n' (wrap64 (n * n')))]) (by simp [results, Tryz.results81, go_sem, z0, z1, z2]) rfl ⟨rfl, ?_⟩
  exact (((HB.out.trans (q.mono HB.out.size)).setCell (by simp; omega) _).setCell (by simp; omega) _).setCell (by simp; omega) _

end Go.Proofs.YtjdoljaailokmaaGreatDoor
