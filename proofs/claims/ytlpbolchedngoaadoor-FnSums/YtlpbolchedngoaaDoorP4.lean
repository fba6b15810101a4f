/-
  Values: SameOf, of the program and of the document's model.
-/
import Derived.Test.YtlpbolchedngoaaDoorE8
import Derived.Laws.StructEq
namespace Go.Proofs.YtlpbolchedngoaaDoor
open Go.RowKit

/-- Whether two values are the same in all three fields. -/
def sameB (k n k' n' : Int) (s s' : ByteArray) : Bool := decide (k = k') && decide (n = n') && (s.toList == s'.toList)

set_option maxRecDepth 100000 in
set_option maxHeartbeats 4000000 in
theorem iSame_any (k n k' n' : Int) (s s' : ByteArray) (w : World) :
    Calls Tryd.prog 16 #[.agg #[.int .i64 k, .int .i64 n, .string s], .agg #[.int .i64 k', .int .i64 n', .string s']] w fun e w' => e = .returned (.agg #[.int .i64 2, .int .i64 (tr (sameB k n k' n' s s')), .string ⟨#[]⟩]) ∧ Below w.heap.size w w' := by
  by_cases h1 : k = k'
  · subst h1
    by_cases h2 : n = n'
    · subst h2
      by_cases h3 : (s.toList == s'.toList) = true
      · rw [show sameB k n k n s s' = true by unfold sameB; rw [h3]; simp]
        go_enter Tryd.func16, Tryd.ntmps16
        go_wp2_with fail
        refine (truthOf_any _ _).mono ?_
        rintro e w1 ⟨rfl, rfl⟩
        go_wp2_with fail
        refine (boolValue_any _ _).mono ?_
        rintro e w1 ⟨rfl, hb⟩
        have hk := block_kept (block_new_at _ _ _ (w.heap.size + 1 + 1) (by simp)) hb
        have hc := block_cell hk
        have hf := block_free hk
        have hB : Below w.heap.size w w1 := ((((Below.refl _ _).alloc (Nat.le_refl _) _).alloc (by simp) _).alloc (by simp; omega) _).trans (hb.mono (by simp; omega))
        clear hb
        go_wp2
        have zz := block_cell (stored3 (a := .int .i64 2) (b := .int .i64 (tr true)) (c := .string ⟨#[]⟩) hk)
        have z0 := zz 0
        have z1 := zz 1
        have z2 := zz 2
        refine bodyPost_ret (v := .agg #[.int .i64 2, .int .i64 (tr true), .string ⟨#[]⟩]) (by simp [results, Tryd.results16, go_sem, z0, z1, z2]) rfl ⟨rfl, ?_⟩
        exact ((hB.setCell (by simp; omega) _).setCell (by simp; omega) _).setCell (by simp; omega) _
      · have h3' : (s.toList == s'.toList) = false := by simpa using h3
        rw [show sameB k n k n s s' = false by unfold sameB; rw [h3']; simp]
        clear h3
        go_enter Tryd.func16, Tryd.ntmps16
        go_wp2_with fail
        refine (truthOf_any _ _).mono ?_
        rintro e w1 ⟨rfl, rfl⟩
        go_wp2_with fail
        refine (boolValue_any _ _).mono ?_
        rintro e w1 ⟨rfl, hb⟩
        have hk := block_kept (block_new_at _ _ _ (w.heap.size + 1 + 1) (by simp)) hb
        have hc := block_cell hk
        have hf := block_free hk
        have hB : Below w.heap.size w w1 := ((((Below.refl _ _).alloc (Nat.le_refl _) _).alloc (by simp) _).alloc (by simp; omega) _).trans (hb.mono (by simp; omega))
        clear hb
        go_wp2
        have zz := block_cell (stored3 (a := .int .i64 2) (b := .int .i64 (tr false)) (c := .string ⟨#[]⟩) hk)
        have z0 := zz 0
        have z1 := zz 1
        have z2 := zz 2
        refine bodyPost_ret (v := .agg #[.int .i64 2, .int .i64 (tr false), .string ⟨#[]⟩]) (by simp [results, Tryd.results16, go_sem, z0, z1, z2]) rfl ⟨rfl, ?_⟩
        exact ((hB.setCell (by simp; omega) _).setCell (by simp; omega) _).setCell (by simp; omega) _
    · have b2 : (n == n') = false := by simpa using h2
      rw [show sameB k n k n' s s' = false by simp [sameB, h2]]
      clear h2
      go_enter Tryd.func16, Tryd.ntmps16
      go_wp2_with fail
      refine (truthOf_any _ _).mono ?_
      rintro e w1 ⟨rfl, rfl⟩
      go_wp2_with fail
      refine (boolValue_any _ _).mono ?_
      rintro e w1 ⟨rfl, hb⟩
      have hk := block_kept (block_new_at _ _ _ (w.heap.size + 1 + 1) (by simp)) hb
      have hc := block_cell hk
      have hf := block_free hk
      have hB : Below w.heap.size w w1 := ((((Below.refl _ _).alloc (Nat.le_refl _) _).alloc (by simp) _).alloc (by simp; omega) _).trans (hb.mono (by simp; omega))
      clear hb
      go_wp2
      have zz := block_cell (stored3 (a := .int .i64 2) (b := .int .i64 (tr false)) (c := .string ⟨#[]⟩) hk)
      have z0 := zz 0
      have z1 := zz 1
      have z2 := zz 2
      refine bodyPost_ret (v := .agg #[.int .i64 2, .int .i64 (tr false), .string ⟨#[]⟩]) (by simp [results, Tryd.results16, go_sem, z0, z1, z2]) rfl ⟨rfl, ?_⟩
      exact ((hB.setCell (by simp; omega) _).setCell (by simp; omega) _).setCell (by simp; omega) _
  · have b1 : (k == k') = false := by simpa using h1
    rw [show sameB k n k' n' s s' = false by simp [sameB, h1]]
    clear h1
    go_enter Tryd.func16, Tryd.ntmps16
    go_wp2_with fail
    refine (truthOf_any _ _).mono ?_
    rintro e w1 ⟨rfl, rfl⟩
    go_wp2_with fail
    refine (boolValue_any _ _).mono ?_
    rintro e w1 ⟨rfl, hb⟩
    have hk := block_kept (block_new_at _ _ _ (w.heap.size + 1 + 1) (by simp)) hb
    have hc := block_cell hk
    have hf := block_free hk
    have hB : Below w.heap.size w w1 := ((((Below.refl _ _).alloc (Nat.le_refl _) _).alloc (by simp) _).alloc (by simp; omega) _).trans (hb.mono (by simp; omega))
    clear hb
    go_wp2
    have zz := block_cell (stored3 (a := .int .i64 2) (b := .int .i64 (tr false)) (c := .string ⟨#[]⟩) hk)
    have z0 := zz 0
    have z1 := zz 1
    have z2 := zz 2
    refine bodyPost_ret (v := .agg #[.int .i64 2, .int .i64 (tr false), .string ⟨#[]⟩]) (by simp [results, Tryd.results16, go_sem, z0, z1, z2]) rfl ⟨rfl, ?_⟩
    exact ((hB.setCell (by simp; omega) _).setCell (by simp; omega) _).setCell (by simp; omega) _

set_option maxRecDepth 100000 in
set_option maxHeartbeats 4000000 in
theorem sSame_any (k n k' n' : Int) (s s' : ByteArray) (w : World) :
    Calls Tryd.prog 17 #[.agg #[.int .i64 k, .int .i64 n, .string s], .agg #[.int .i64 k', .int .i64 n', .string s']] w fun e w' => e = .returned (.agg #[.int .i64 2, .int .i64 (tr (sameB k n k' n' s s')), .string ⟨#[]⟩]) ∧ Below w.heap.size w w' := by
  by_cases h1 : k = k'
  · subst h1
    by_cases h2 : n = n'
    · subst h2
      by_cases h3 : (s.toList == s'.toList) = true
      · rw [show sameB k n k n s s' = true by unfold sameB; rw [h3]; simp]
        go_enter Tryd.func17, Tryd.ntmps17
        go_wp2_with fail
        refine (sBool_any _ _).mono ?_
        rintro e w1 ⟨rfl, hb⟩
        have hk := block_kept (block_new_at _ _ _ (w.heap.size + 1 + 1) (by simp)) hb
        have hc := block_cell hk
        have hf := block_free hk
        have hB : Below w.heap.size w w1 := ((((Below.refl _ _).alloc (Nat.le_refl _) _).alloc (by simp) _).alloc (by simp; omega) _).trans (hb.mono (by simp; omega))
        clear hb
        go_wp2
        have zz := block_cell (stored3 (a := .int .i64 2) (b := .int .i64 (tr true)) (c := .string ⟨#[]⟩) hk)
        have z0 := zz 0
        have z1 := zz 1
        have z2 := zz 2
        refine bodyPost_ret (v := .agg #[.int .i64 2, .int .i64 (tr true), .string ⟨#[]⟩]) (by simp [results, Tryd.results17, go_sem, z0, z1, z2]) rfl ⟨rfl, ?_⟩
        exact ((hB.setCell (by simp; omega) _).setCell (by simp; omega) _).setCell (by simp; omega) _
      · have h3' : (s.toList == s'.toList) = false := by simpa using h3
        rw [show sameB k n k n s s' = false by unfold sameB; rw [h3']; simp]
        clear h3
        go_enter Tryd.func17, Tryd.ntmps17
        go_wp2_with fail
        refine (sBool_any _ _).mono ?_
        rintro e w1 ⟨rfl, hb⟩
        have hk := block_kept (block_new_at _ _ _ (w.heap.size + 1 + 1) (by simp)) hb
        have hc := block_cell hk
        have hf := block_free hk
        have hB : Below w.heap.size w w1 := ((((Below.refl _ _).alloc (Nat.le_refl _) _).alloc (by simp) _).alloc (by simp; omega) _).trans (hb.mono (by simp; omega))
        clear hb
        go_wp2
        have zz := block_cell (stored3 (a := .int .i64 2) (b := .int .i64 (tr false)) (c := .string ⟨#[]⟩) hk)
        have z0 := zz 0
        have z1 := zz 1
        have z2 := zz 2
        refine bodyPost_ret (v := .agg #[.int .i64 2, .int .i64 (tr false), .string ⟨#[]⟩]) (by simp [results, Tryd.results17, go_sem, z0, z1, z2]) rfl ⟨rfl, ?_⟩
        exact ((hB.setCell (by simp; omega) _).setCell (by simp; omega) _).setCell (by simp; omega) _
    · have b2 : (n == n') = false := by simpa using h2
      rw [show sameB k n k n' s s' = false by simp [sameB, h2]]
      clear h2
      go_enter Tryd.func17, Tryd.ntmps17
      go_wp2_with fail
      refine (sBool_any _ _).mono ?_
      rintro e w1 ⟨rfl, hb⟩
      have hk := block_kept (block_new_at _ _ _ (w.heap.size + 1 + 1) (by simp)) hb
      have hc := block_cell hk
      have hf := block_free hk
      have hB : Below w.heap.size w w1 := ((((Below.refl _ _).alloc (Nat.le_refl _) _).alloc (by simp) _).alloc (by simp; omega) _).trans (hb.mono (by simp; omega))
      clear hb
      go_wp2
      have zz := block_cell (stored3 (a := .int .i64 2) (b := .int .i64 (tr false)) (c := .string ⟨#[]⟩) hk)
      have z0 := zz 0
      have z1 := zz 1
      have z2 := zz 2
      refine bodyPost_ret (v := .agg #[.int .i64 2, .int .i64 (tr false), .string ⟨#[]⟩]) (by simp [results, Tryd.results17, go_sem, z0, z1, z2]) rfl ⟨rfl, ?_⟩
      exact ((hB.setCell (by simp; omega) _).setCell (by simp; omega) _).setCell (by simp; omega) _
  · have b1 : (k == k') = false := by simpa using h1
    rw [show sameB k n k' n' s s' = false by simp [sameB, h1]]
    clear h1
    go_enter Tryd.func17, Tryd.ntmps17
    go_wp2_with fail
    refine (sBool_any _ _).mono ?_
    rintro e w1 ⟨rfl, hb⟩
    have hk := block_kept (block_new_at _ _ _ (w.heap.size + 1 + 1) (by simp)) hb
    have hc := block_cell hk
    have hf := block_free hk
    have hB : Below w.heap.size w w1 := ((((Below.refl _ _).alloc (Nat.le_refl _) _).alloc (by simp) _).alloc (by simp; omega) _).trans (hb.mono (by simp; omega))
    clear hb
    go_wp2
    have zz := block_cell (stored3 (a := .int .i64 2) (b := .int .i64 (tr false)) (c := .string ⟨#[]⟩) hk)
    have z0 := zz 0
    have z1 := zz 1
    have z2 := zz 2
    refine bodyPost_ret (v := .agg #[.int .i64 2, .int .i64 (tr false), .string ⟨#[]⟩]) (by simp [results, Tryd.results17, go_sem, z0, z1, z2]) rfl ⟨rfl, ?_⟩
    exact ((hB.setCell (by simp; omega) _).setCell (by simp; omega) _).setCell (by simp; omega) _

end Go.Proofs.YtlpbolchedngoaaDoor
