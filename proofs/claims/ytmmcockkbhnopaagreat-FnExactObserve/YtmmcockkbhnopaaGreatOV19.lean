/-
  What Verify is to answer, and the heights of all functions in memory.
-/
import Derived.Test.YtmmcockkbhnopaaGreatOV18
namespace Go.Proofs.YtmmcockkbhnopaaGreat
open Go.RowKit

/-- What Verify is to answer. -/
def VPost (ts : List ByteArray) (fs : List Fn) (c f a : Int) : Prop := (modB ts fs = false ∧ c = 1 ∧ f = 0 ∧ a = 0) ∨ (modB ts fs = true ∧ Told fs c f a)
theorem VPost.one {ts : List ByteArray} {fs : List Fn} {c f a c' f' a' : Int} (h : VPost ts fs c f a) (h' : VPost ts fs c' f' a') : c = c' ∧ f = f' ∧ a = a' := by
  rcases h with ⟨h, rfl, rfl, rfl⟩ | ⟨h, ht⟩
  · rcases h' with ⟨-, rfl, rfl, rfl⟩ | ⟨h', -⟩
    · exact ⟨rfl, rfl, rfl⟩
    · rw [h] at h'; cases h'
  · rcases h' with ⟨h', -⟩ | ⟨-, ht'⟩
    · rw [h] at h'; cases h'
    · exact ht.one ht'

theorem clear_of {fs : List Fn} {code : List (Int × Int)} {d : List Int} {k : Nat} (hD : Done fs code d) (h : ∀ j, j < k → troubleB fs code d j = 0) : Clear fs code k := fun e he j hj => by
  obtain rfl := hD.one he
  exact h j hj

theorem three_set {W : World} {R : Nat} {x y z : Int} (h : W.heap[R]? = some (.cells #[.int .i64 0, .int .i64 0, .int .i64 0] 121 (0, 0))) : (((W.setCell ⟨R, 0, none⟩ (.int .i64 x)).setCell ⟨R, 1, none⟩ (.int .i64 y)).setCell ⟨R, 2, none⟩ (.int .i64 z)).heap[R]? = some (.cells #[.int .i64 x, .int .i64 y, .int .i64 z] 121 (0, 0)) := by
  have := block_set (i := 2) (block_set (i := 1) (block_set (i := 0) h (.int .i64 x)) (.int .i64 y)) (.int .i64 z)
  simpa using this


/-- A row of the heights of the first k functions. -/
def Hs (w : World) (base G k : Nat) (fs : List Fn) : Prop := base ≤ G ∧ ∃ cur : Array Value, w.heap[G]? = some (Obj.cells cur 156 (0, 0)) ∧ cur.size = fs.length ∧
  ∀ j (hj : j < fs.length), j < k → ∃ g d, cur[j]? = some (.slice (some ⟨g, 0, none⟩) fs[j].code.length fs[j].code.length) ∧ base ≤ g ∧ Done fs fs[j].code d ∧ Ht w g fs[j].code.length d
theorem Hs.mono {w w' : World} {base G k : Nat} {fs : List Fn} (h : Hs w base G k fs) (hb : Below w.heap.size w w') : Hs w' base G k fs := by
  obtain ⟨h0, cur, h1, h2, h3⟩ := h
  refine ⟨h0, cur, block_kept h1 hb, h2, fun j hj hk => ?_⟩
  obtain ⟨g, d, k1, k2, k3, k4⟩ := h3 j hj hk
  exact ⟨g, d, k1, k2, k3, k4.mono hb⟩
theorem Ht.other {w : World} {g cap G i : Nat} {d : List Int} {cur : Array Value} (h : Ht w g cap d) (hG : w.heap[G]? = some (Obj.cells cur 156 (0, 0))) (v : Value) : Ht (w.setCell ⟨G, i, none⟩ v) g cap d := by
  obtain ⟨c, h1, h2⟩ := h
  have hne : g ≠ G := by
    intro e
    subst e
    rw [h1] at hG
    simp at hG
  exact ⟨c, by rw [Below.heap_setCell _ _ _ _ hne]; exact h1, h2⟩
theorem Hs.put {w : World} {base G k g : Nat} {fs : List Fn} {d : List Int} (h : Hs w base G k fs) (hk : k < fs.length) (hg : base ≤ g) (hD : Done fs fs[k].code d) (hH : Ht w g fs[k].code.length d) :
    Hs (w.setCell ⟨G, k, none⟩ (.slice (some ⟨g, 0, none⟩) fs[k].code.length fs[k].code.length)) base G (k + 1) fs := by
  obtain ⟨h0, cur, h1, h2, h3⟩ := h
  refine ⟨h0, _, block_set h1 _, by simpa using h2, fun j hj hjk => ?_⟩
  by_cases e : j = k
  · subst e
    exact ⟨g, d, set_self _ (by omega), hg, hD, hH.other h1 _⟩
  · obtain ⟨g', d', k1, k2, k3, k4⟩ := h3 j hj (by omega)
    exact ⟨g', d', by rw [set_else _ e]; exact k1, k2, k3, k4.other h1 _⟩
theorem Hs.at {w : World} {base G k : Nat} {fs : List Fn} (h : Hs w base G k fs) {j : Nat} (hj : j < fs.length) (hk : j < k) : ∃ g d, w.cell? ⟨G, j, none⟩ = some (.slice (some ⟨g, 0, none⟩) fs[j].code.length fs[j].code.length) ∧ Done fs fs[j].code d ∧ Ht w g fs[j].code.length d := by
  obtain ⟨-, cur, h1, h2, h3⟩ := h
  obtain ⟨g, d, k1, -, k3, k4⟩ := h3 j hj hk
  exact ⟨g, d, by rw [block_cell h1]; exact k1, k3, k4⟩
theorem Hs.cell {w : World} {base G k : Nat} {fs : List Fn} (h : Hs w base G k fs) {j : Nat} (hj : j < fs.length) : ∃ v, w.cell? ⟨G, j, none⟩ = some v := by
  obtain ⟨-, cur, h1, h2, -⟩ := h
  exact ⟨cur[j], by rw [block_cell h1]; simp⟩
theorem Hs.free {w : World} {base G k : Nat} {fs : List Fn} (h : Hs w base G k fs) (j : Nat) : w.frozen? ⟨G, j, none⟩ = false := by
  obtain ⟨-, cur, h1, -, -⟩ := h
  exact block_free h1 j
theorem Hs.three {w : World} {base G k R : Nat} {fs : List Fn} {c : Array Value} {x y z : Value} (h : Hs w base G k fs) (hR : w.heap[R]? = some (Obj.cells c 121 (0, 0))) : Hs (((w.setCell ⟨R, 0, none⟩ x).setCell ⟨R, 1, none⟩ y).setCell ⟨R, 2, none⟩ z) base G k fs := by
  have one : ∀ g, (∀ c', w.heap[g]? ≠ some (Obj.cells c' 121 (0, 0))) → (((w.setCell ⟨R, 0, none⟩ x).setCell ⟨R, 1, none⟩ y).setCell ⟨R, 2, none⟩ z).heap[g]? = w.heap[g]? := fun g hg => by
    have hne : g ≠ R := by
      intro e
      subst e
      exact hg _ hR
    rw [Below.heap_setCell _ _ _ _ hne, Below.heap_setCell _ _ _ _ hne, Below.heap_setCell _ _ _ _ hne]
  obtain ⟨h0, cur, h1, h2, h3⟩ := h
  refine ⟨h0, cur, by rw [one G (by intro c' h; rw [h1] at h; simp at h)]; exact h1, h2, fun j hj hk => ?_⟩
  obtain ⟨g, d, k1, k2, k3, cc, k4, k5⟩ := h3 j hj hk
  exact ⟨g, d, k1, k2, k3, cc, by rw [one g (by intro c' h; rw [k4] at h; simp at h)]; exact k4, k5⟩
end Go.Proofs.YtmmcockkbhnopaaGreat
