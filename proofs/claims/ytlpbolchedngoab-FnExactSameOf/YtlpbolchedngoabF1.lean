/-
  Values: SameOf, of the program and of the document's model.
-/
import Derived.Test.YtlpbolchedngoabE1
import Derived.Laws.StructEq
namespace Go.Proofs.Ytlpbolchedngoab
open Go.RowKit

theorem lt_block {w : World} {g : Nat} {o : Obj} (h : w.heap[g]? = some o) : g < w.heap.size := by
  rcases Nat.lt_or_ge g w.heap.size with h' | h'
  · exact h'
  · rw [Array.getElem?_eq_none h'] at h; cases h
theorem block_kept {w w' : World} {g : Nat} {o : Obj} (h : w.heap[g]? = some o) (hb : Below w.heap.size w w') : w'.heap[g]? = some o := by
  rw [hb.block g (lt_block h), h]
theorem block_cell {w : World} {g : Nat} {cs : Array Value} {t : TypeId} {fr : Nat × Nat} (h : w.heap[g]? = some (.cells cs t fr)) (i : Nat) : w.cell? ⟨g, i, none⟩ = cs[i]? := by simp [World.cell?, h]
theorem block_free {w : World} {g : Nat} {cs : Array Value} {t : TypeId} (h : w.heap[g]? = some (.cells cs t (0, 0))) (i : Nat) : w.frozen? ⟨g, i, none⟩ = false := by simp [World.frozen?, h]
theorem block_set {w : World} {g i : Nat} {cs : Array Value} {t : TypeId} {fr : Nat × Nat} (h : w.heap[g]? = some (.cells cs t fr)) (v : Value) : (w.setCell ⟨g, i, none⟩ v).heap[g]? = some (.cells (cs.setIfInBounds i v) t fr) := by
  rw [setCell_eq_setRow w g i cs t fr v h]
  exact setRow_heap w g _ _ t _ h
theorem block_new (w : World) (C : Array Value) (t : TypeId) : (w.alloc (.cells C t)).heap[w.heap.size]? = some (.cells C t (0, 0)) := by
  show (w.heap.push _)[w.heap.size]? = _
  simp
theorem block_new_at (w : World) (C : Array Value) (t : TypeId) (g : Nat) (h : w.heap.size = g) : (w.alloc (.cells C t)).heap[g]? = some (.cells C t (0, 0)) := by
  subst h
  exact block_new w C t
theorem block_new_drew (w : World) (C : Array Value) (t : TypeId) : (w.drew.alloc (.cells C t)).heap[w.heap.size]? = some (.cells C t (0, 0)) := block_new w.drew C t
theorem stored3 {w : World} {g : Nat} {x0 x1 x2 a b c : Value} {t : TypeId} (h : w.heap[g]? = some (.cells #[x0, x1, x2] t (0, 0))) : (((w.setCell ⟨g, 0, none⟩ a).setCell ⟨g, 1, none⟩ b).setCell ⟨g, 2, none⟩ c).heap[g]? = some (.cells #[a, b, c] t (0, 0)) := by
  have := block_set (i := 2) (block_set (i := 1) (block_set (i := 0) h a) b) c
  simpa using this

/-- Whether two values are the same in all three fields. -/
def sameB (k n k' n' : Int) (s s' : ByteArray) : Bool := decide (k = k') && decide (n = n') && (s.toList == s'.toList)

set_option maxRecDepth 100000 in
set_option maxHeartbeats 4000000 in
theorem iSame_any (k n k' n' : Int) (s s' : ByteArray) (w : World) :
    Calls Try.prog 8 #[.agg #[.int .i64 k, .int .i64 n, .string s], .agg #[.int .i64 k', .int .i64 n', .string s']] w fun e w' => e = .returned (.agg #[.int .i64 2, .int .i64 (tr (sameB k n k' n' s s')), .string ⟨#[]⟩]) ∧ Below w.heap.size w w' := by
  by_cases h1 : k = k'
  · subst h1
    by_cases h2 : n = n'
    · subst h2
      by_cases h3 : (s.toList == s'.toList) = true
      · rw [show sameB k n k n s s' = true by unfold sameB; rw [h3]; simp]
        go_enter Try.func8, Try.ntmps8
        go_wp2_with fail
        refine (truthOf_any _ _).mono ?_
        rintro e w1 ⟨rfl, rfl⟩
        go_wp2_with fail
        refine (boolValue_any _ _).mono ?_
        rintro e w1 ⟨rfl, hb⟩
        have hk := block_kept (block_new_at _ _ _ (w.heap.size + 1 + 1) (by simp)) hb
        have hc := block_cell hk
        have hf := block_free hk
        have hB : Below w.heap.size w w1 := ((((Below.refl _ _).alloc (Nat.le_refl _) _).alloc (by simp) _).alloc (by simp; omega) _).trans (hb.mono (by simp; omega))
        clear hb
        go_wp2
        have zz := block_cell (stored3 (a := .int .i64 2) (b := .int .i64 (tr true)) (c := .string ⟨#[]⟩) hk)
        have z0 := zz 0
        have z1 := zz 1
        have z2 := zz 2
        refine bodyPost_ret (v := .agg #[.int .i64 2, .int .i64 (tr true), .string ⟨#[]⟩]) (by simp [results, Try.results8, go_sem, z0, z1, z2]) rfl ⟨rfl, ?_⟩
        exact ((hB.setCell (by simp; omega) _).setCell (by simp; omega) _).setCell (by simp; omega) _
      · have h3' : (s.toList == s'.toList) = false := by simpa using h3
        rw [show sameB k n k n s s' = false by unfold sameB; rw [h3']; simp]
        clear h3
        go_enter Try.func8, Try.ntmps8
        go_wp2_with fail
        refine (truthOf_any _ _).mono ?_
        rintro e w1 ⟨rfl, rfl⟩
        go_wp2_with fail
        refine (boolValue_any _ _).mono ?_
        rintro e w1 ⟨rfl, hb⟩
        have hk := block_kept (block_new_at _ _ _ (w.heap.size + 1 + 1) (by simp)) hb
        have hc := block_cell hk
        have hf := block_free hk
        have hB : Below w.heap.size w w1 := ((((Below.refl _ _).alloc (Nat.le_refl _) _).alloc (by simp) _).alloc (by simp; omega) _).trans (hb.mono (by simp; omega))
        clear hb
        go_wp2
        have zz := block_cell (stored3 (a := .int .i64 2) (b := .int .i64 (tr false)) (c := .string ⟨#[]⟩) hk)
        have z0 := zz 0
        have z1 := zz 1
        have z2 := zz 2
        refine bodyPost_ret (v := .agg #[.int .i64 2, .int .i64 (tr false), .string ⟨#[]⟩]) (by simp [results, Try.results8, go_sem, z0, z1, z2]) rfl ⟨rfl, ?_⟩
        exact ((hB.setCell (by simp; omega) _).setCell (by simp; omega) _).setCell (by simp; omega) _
    · have b2 : (n == n') = false := by simpa using h2
      rw [show sameB k n k n' s s' = false by simp [sameB, h2]]
      clear h2
      go_enter Try.func8, Try.ntmps8
      go_wp2_with fail
      refine (truthOf_any _ _).mono ?_
      rintro e w1 ⟨rfl, rfl⟩
      go_wp2_with fail
      refine (boolValue_any _ _).mono ?_
      rintro e w1 ⟨rfl, hb⟩
      have hk := block_kept (block_new_at _ _ _ (w.heap.size + 1 + 1) (by simp)) hb
      have hc := block_cell hk
      have hf := block_free hk
      have hB : Below w.heap.size w w1 := ((((Below.refl _ _).alloc (Nat.le_refl _) _).alloc (by simp) _).alloc (by simp; omega) _).trans (hb.mono (by simp; omega))
      clear hb
      go_wp2
      have zz := block_cell (stored3 (a := .int .i64 2) (b := .int .i64 (tr false)) (c := .string ⟨#[]⟩) hk)
      have z0 := zz 0
      have z1 := zz 1
      have z2 := zz 2
      refine bodyPost_ret (v := .agg #[.int .i64 2, .int .i64 (tr false), .string ⟨#[]⟩]) (by simp [results, Try.results8, go_sem, z0, z1, z2]) rfl ⟨rfl, ?_⟩
      exact ((hB.setCell (by simp; omega) _).setCell (by simp; omega) _).setCell (by simp; omega) _
  · have b1 : (k == k') = false := by simpa using h1
    rw [show sameB k n k' n' s s' = false by simp [sameB, h1]]
    clear h1
    go_enter Try.func8, Try.ntmps8
    go_wp2_with fail
    refine (truthOf_any _ _).mono ?_
    rintro e w1 ⟨rfl, rfl⟩
    go_wp2_with fail
    refine (boolValue_any _ _).mono ?_
    rintro e w1 ⟨rfl, hb⟩
    have hk := block_kept (block_new_at _ _ _ (w.heap.size + 1 + 1) (by simp)) hb
    have hc := block_cell hk
    have hf := block_free hk
    have hB : Below w.heap.size w w1 := ((((Below.refl _ _).alloc (Nat.le_refl _) _).alloc (by simp) _).alloc (by simp; omega) _).trans (hb.mono (by simp; omega))
    clear hb
    go_wp2
    have zz := block_cell (stored3 (a := .int .i64 2) (b := .int .i64 (tr false)) (c := .string ⟨#[]⟩) hk)
    have z0 := zz 0
    have z1 := zz 1
    have z2 := zz 2
    refine bodyPost_ret (v := .agg #[.int .i64 2, .int .i64 (tr false), .string ⟨#[]⟩]) (by simp [results, Try.results8, go_sem, z0, z1, z2]) rfl ⟨rfl, ?_⟩
    exact ((hB.setCell (by simp; omega) _).setCell (by simp; omega) _).setCell (by simp; omega) _

set_option maxRecDepth 100000 in
set_option maxHeartbeats 4000000 in
theorem sSame_any (k n k' n' : Int) (s s' : ByteArray) (w : World) :
    Calls Try.prog 6 #[.agg #[.int .i64 k, .int .i64 n, .string s], .agg #[.int .i64 k', .int .i64 n', .string s']] w fun e w' => e = .returned (.agg #[.int .i64 2, .int .i64 (tr (sameB k n k' n' s s')), .string ⟨#[]⟩]) ∧ Below w.heap.size w w' := by
  by_cases h1 : k = k'
  · subst h1
    by_cases h2 : n = n'
    · subst h2
      by_cases h3 : (s.toList == s'.toList) = true
      · rw [show sameB k n k n s s' = true by unfold sameB; rw [h3]; simp]
        go_enter Try.func6, Try.ntmps6
        go_wp2_with fail
        refine (sBool_any _ _).mono ?_
        rintro e w1 ⟨rfl, hb⟩
        have hk := block_kept (block_new_at _ _ _ (w.heap.size + 1 + 1) (by simp)) hb
        have hc := block_cell hk
        have hf := block_free hk
        have hB : Below w.heap.size w w1 := ((((Below.refl _ _).alloc (Nat.le_refl _) _).alloc (by simp) _).alloc (by simp; omega) _).trans (hb.mono (by simp; omega))
        clear hb
        go_wp2
        have zz := block_cell (stored3 (a := .int .i64 2) (b := .int .i64 (tr true)) (c := .string ⟨#[]⟩) hk)
        have z0 := zz 0
        have z1 := zz 1
        have z2 := zz 2
        refine bodyPost_ret (v := .agg #[.int .i64 2, .int .i64 (tr true), .string ⟨#[]⟩]) (by simp [results, Try.results6, go_sem, z0, z1, z2]) rfl ⟨rfl, ?_⟩
        exact ((hB.setCell (by simp; omega) _).setCell (by simp; omega) _).setCell (by simp; omega) _
      · have h3' : (s.toList == s'.toList) = false := by simpa using h3
        rw [show sameB k n k n s s' = false by unfold sameB; rw [h3']; simp]
        clear h3
        go_enter Try.func6, Try.ntmps6
        go_wp2_with fail
        refine (sBool_any _ _).mono ?_
        rintro e w1 ⟨rfl, hb⟩
        have hk := block_kept (block_new_at _ _ _ (w.heap.size + 1 + 1) (by simp)) hb
        have hc := block_cell hk
        have hf := block_free hk
        have hB : Below w.heap.size w w1 := ((((Below.refl _ _).alloc (Nat.le_refl _) _).alloc (by simp) _).alloc (by simp; omega) _).trans (hb.mono (by simp; omega))
        clear hb
        go_wp2
        have zz := block_cell (stored3 (a := .int .i64 2) (b := .int .i64 (tr false)) (c := .string ⟨#[]⟩) hk)
        have z0 := zz 0
        have z1 := zz 1
        have z2 := zz 2
        refine bodyPost_ret (v := .agg #[.int .i64 2, .int .i64 (tr false), .string ⟨#[]⟩]) (by simp [results, Try.results6, go_sem, z0, z1, z2]) rfl ⟨rfl, ?_⟩
        exact ((hB.setCell (by simp; omega) _).setCell (by simp; omega) _).setCell (by simp; omega) _
    · have b2 : (n == n') = false := by simpa using h2
      rw [show sameB k n k n' s s' = false by simp [sameB, h2]]
      clear h2
      go_enter Try.func6, Try.ntmps6
      go_wp2_with fail
      refine (sBool_any _ _).mono ?_
      rintro e w1 ⟨rfl, hb⟩
      have hk := block_kept (block_new_at _ _ _ (w.heap.size + 1 + 1) (by simp)) hb
      have hc := block_cell hk
      have hf := block_free hk
      have hB : Below w.heap.size w w1 := ((((Below.refl _ _).alloc (Nat.le_refl _) _).alloc (by simp) _).alloc (by simp; omega) _).trans (hb.mono (by simp; omega))
      clear hb
      go_wp2
      have zz := block_cell (stored3 (a := .int .i64 2) (b := .int .i64 (tr false)) (c := .string ⟨#[]⟩) hk)
      have z0 := zz 0
      have z1 := zz 1
      have z2 := zz 2
      refine bodyPost_ret (v := .agg #[.int .i64 2, .int .i64 (tr false), .string ⟨#[]⟩]) (by simp [results, Try.results6, go_sem, z0, z1, z2]) rfl ⟨rfl, ?_⟩
      exact ((hB.setCell (by simp; omega) _).setCell (by simp; omega) _).setCell (by simp; omega) _
  · have b1 : (k == k') = false := by simpa using h1
    rw [show sameB k n k' n' s s' = false by simp [sameB, h1]]
    clear h1
    go_enter Try.func6, Try.ntmps6
    go_wp2_with fail
    refine (sBool_any _ _).mono ?_
    rintro e w1 ⟨rfl, hb⟩
    have hk := block_kept (block_new_at _ _ _ (w.heap.size + 1 + 1) (by simp)) hb
    have hc := block_cell hk
    have hf := block_free hk
    have hB : Below w.heap.size w w1 := ((((Below.refl _ _).alloc (Nat.le_refl _) _).alloc (by simp) _).alloc (by simp; omega) _).trans (hb.mono (by simp; omega))
    clear hb
    go_wp2
    have zz := block_cell (stored3 (a := .int .i64 2) (b := .int .i64 (tr false)) (c := .string ⟨#[]⟩) hk)
    have z0 := zz 0
    have z1 := zz 1
    have z2 := zz 2
    refine bodyPost_ret (v := .agg #[.int .i64 2, .int .i64 (tr false), .string ⟨#[]⟩]) (by simp [results, Try.results6, go_sem, z0, z1, z2]) rfl ⟨rfl, ?_⟩
    exact ((hB.setCell (by simp; omega) _).setCell (by simp; omega) _).setCell (by simp; omega) _

end Go.Proofs.Ytlpbolchedngoab
