/-
  Values: the law on sums, products, differences and order, for every argument.
-/
import Derived.Test.YtlpbolchedngoaaDoorP5
import Derived.Test.YtlpbolchedngoaaDoorE7
import Derived.Test.YtlpbolchedngoaaDoorE12
import Derived.Test.YtlpbolchedngoaaDoorE16a
namespace Go.Proofs.YtlpbolchedngoaaDoor
open Go.RowKit

theorem tr_range (b : Bool) : 0 ≤ tr b ∧ tr b ≤ 1 := by cases b <;> decide
theorem ak_range (t : Int) (b : Bool) : 0 ≤ ak t (tr b) ∧ ak t (tr b) ≤ 1 := by
  unfold ak
  have := tr_range b
  split <;> omega

def SumsFacts (a0 a1 a2 : Addr) (k n k' n' : Int) (s s' : ByteArray) (x0 x1 y0 y1 p0 p1 d0 d1 l0 l1 g0 g1 m1 x3 p3 d3 l3 : Int) (x2 y2 p2 d2 l2 g2 : ByteArray) : Prop :=
    (∀ W : World, Errs W a0 a1 a2 → Calls Tryd.prog 10 #[.agg #[.int .i64 k, .int .i64 n, .string s], .agg #[.int .i64 k', .int .i64 n', .string s']] W fun e w' => e = .returned (.tuple #[.agg #[.int .i64 x0, .int .i64 x1, .string x2], .int .i64 x3]) ∧ Below W.heap.size W w') ∧
    (∀ W : World, Errs W a0 a1 a2 → Calls Tryd.prog 10 #[.agg #[.int .i64 k', .int .i64 n', .string s'], .agg #[.int .i64 k, .int .i64 n, .string s]] W fun e w' => e = .returned (.tuple #[.agg #[.int .i64 y0, .int .i64 y1, .string y2], .int .i64 x3]) ∧ Below W.heap.size W w') ∧
    (∀ W : World, Errs W a0 a1 a2 → Calls Tryd.prog 11 #[.agg #[.int .i64 k, .int .i64 n, .string s], .agg #[.int .i64 k', .int .i64 n', .string s']] W fun e w' => e = .returned (.tuple #[.agg #[.int .i64 p0, .int .i64 p1, .string p2], .int .i64 p3]) ∧ Below W.heap.size W w') ∧
    (∀ W : World, Errs W a0 a1 a2 → Calls Tryd.prog 11 #[.agg #[.int .i64 k', .int .i64 n', .string s'], .agg #[.int .i64 k, .int .i64 n, .string s]] W fun e w' => e = .returned (.tuple #[.agg #[.int .i64 p0, .int .i64 p1, .string p2], .int .i64 p3]) ∧ Below W.heap.size W w') ∧
    (∀ W : World, Errs W a0 a1 a2 → Calls Tryd.prog 12 #[.agg #[.int .i64 x0, .int .i64 x1, .string x2], .agg #[.int .i64 k', .int .i64 n', .string s']] W fun e w' => e = .returned (.tuple #[.agg #[.int .i64 d0, .int .i64 d1, .string d2], .int .i64 d3]) ∧ Below W.heap.size W w') ∧
    (∀ W : World, Calls Tryd.prog 13 #[.agg #[.int .i64 k, .int .i64 n, .string s], .agg #[.int .i64 k', .int .i64 n', .string s']] W fun e w' => e = .returned (.tuple #[.agg #[.int .i64 x0, .int .i64 x1, .string x2], .int .i64 x3]) ∧ Below W.heap.size W w') ∧
    (∀ W : World, Calls Tryd.prog 14 #[.agg #[.int .i64 k, .int .i64 n, .string s], .agg #[.int .i64 k', .int .i64 n', .string s']] W fun e w' => e = .returned (.tuple #[.agg #[.int .i64 p0, .int .i64 p1, .string p2], .int .i64 p3]) ∧ Below W.heap.size W w') ∧
    (∀ W : World, Errs W a0 a1 a2 → Calls Tryd.prog 15 #[.agg #[.int .i64 k, .int .i64 n, .string s], .agg #[.int .i64 k', .int .i64 n', .string s']] W fun e w' => e = .returned (.tuple #[.agg #[.int .i64 l0, .int .i64 l1, .string l2], .int .i64 l3]) ∧ Below W.heap.size W w') ∧
    (∀ W : World, Errs W a0 a1 a2 → Calls Tryd.prog 15 #[.agg #[.int .i64 k', .int .i64 n', .string s'], .agg #[.int .i64 k, .int .i64 n, .string s]] W fun e w' => e = .returned (.tuple #[.agg #[.int .i64 g0, .int .i64 g1, .string g2], .int .i64 l3]) ∧ Below W.heap.size W w') ∧
    (∀ W : World, Calls Tryd.prog 16 #[.agg #[.int .i64 k, .int .i64 n, .string s], .agg #[.int .i64 k', .int .i64 n', .string s']] W fun e w' => e = .returned (.agg #[.int .i64 2, .int .i64 m1, .string ⟨#[]⟩]) ∧ Below W.heap.size W w') ∧
    (∀ W : World, Calls Tryd.prog 17 #[.agg #[.int .i64 k, .int .i64 n, .string s], .agg #[.int .i64 k', .int .i64 n', .string s']] W fun e w' => e = .returned (.agg #[.int .i64 2, .int .i64 m1, .string ⟨#[]⟩]) ∧ Below W.heap.size W w') ∧
    (∀ W : World, Calls Tryd.prog 16 #[.agg #[.int .i64 k', .int .i64 n', .string s'], .agg #[.int .i64 k, .int .i64 n, .string s]] W fun e w' => e = .returned (.agg #[.int .i64 2, .int .i64 m1, .string ⟨#[]⟩]) ∧ Below W.heap.size W w') ∧
    (∀ W : World, Calls Tryd.prog 18 #[.agg #[.int .i64 k, .int .i64 n, .string s], .agg #[.int .i64 k', .int .i64 n', .string s']] W fun e w' => e = .returned (.tuple #[.agg #[.int .i64 l0, .int .i64 l1, .string l2], .int .i64 l3]) ∧ Below W.heap.size W w') ∧
    (k = 1 → k' = 1 → s = ⟨#[]⟩ → s' = ⟨#[]⟩ → (x0 = y0 ∧ x1 = y1 ∧ x2 = y2) ∧ (x3 = 0 → d3 = 0 ∧ d0 = k ∧ d1 = n ∧ d2 = s)) ∧
    (l3 ≠ 0 → l0 = 0 ∧ l1 = 0 ∧ l2 = ⟨#[]⟩ ∧ g0 = 0 ∧ g1 = 0 ∧ g2 = ⟨#[]⟩) ∧
    (l3 = 0 → (k = 1 ∧ s = ⟨#[]⟩ ∧ s' = ⟨#[]⟩) ∨ (k = 3 ∧ n = 0 ∧ n' = 0) ∨ (k ≠ 1 ∧ k ≠ 3) → l1 + g1 + m1 = 1) ∧
    (0 ≤ l1 ∧ l1 ≤ 1 ∧ 0 ≤ g1 ∧ g1 ≤ 1 ∧ 0 ≤ m1 ∧ m1 ≤ 1)

theorem sums_facts (a0 a1 a2 : Addr) (k n k' n' : Int) (s s' : ByteArray) (hs : s.size ≤ 64) (hs' : s'.size ≤ 64) :
    ∃ (x0 x1 y0 y1 p0 p1 d0 d1 l0 l1 g0 g1 m1 x3 p3 d3 l3 : Int) (x2 y2 p2 d2 l2 g2 : ByteArray), SumsFacts a0 a1 a2 k n k' n' s s' x0 x1 y0 y1 p0 p1 d0 d1 l0 l1 g0 g1 m1 x3 p3 d3 l3 x2 y2 p2 d2 l2 g2 := by
  have z : (s.size : Int) ≤ 1048576 := by omega
  have z' : (s'.size : Int) ≤ 1048576 := by omega
  have H2 : ∀ W : World, Errs W a0 a1 a2 → Calls Tryd.prog 10 #[.agg #[.int .i64 k', .int .i64 n', .string s'], .agg #[.int .i64 k, .int .i64 n, .string s]] W fun e w' => e = .returned (.tuple #[.agg #[.int .i64 (ak (addT k n k' n' s s') (addK k')), .int .i64 (ak (addT k n k' n' s s') (addN k' n' n)), .string (sk (addT k n k' n' s s') (addS k' s' s))], .int .i64 (addT k n k' n' s s')]) ∧ Below W.heap.size W w' := by
    rw [addT_comm k n k' n' s s']
    exact fun W h => iAdd_any k' n' k n s' s a0 a1 a2 W h z' z
  have H4 : ∀ W : World, Errs W a0 a1 a2 → Calls Tryd.prog 11 #[.agg #[.int .i64 k', .int .i64 n', .string s'], .agg #[.int .i64 k, .int .i64 n, .string s]] W fun e w' => e = .returned (.tuple #[.agg #[.int .i64 (ak (numT k k' n n' (wrap64 (n * n'))) 1), .int .i64 (ak (numT k k' n n' (wrap64 (n * n'))) (wrap64 (n * n'))), .string (sk (numT k k' n n' (wrap64 (n * n'))) ⟨#[]⟩)], .int .i64 (numT k k' n n' (wrap64 (n * n')))]) ∧ Below W.heap.size W w' := by
    rw [mulT_comm k n k' n', Int.mul_comm n n']
    exact fun W h => iMul_any k' n' k n s' s a0 a1 a2 W h
  have H9 : ∀ W : World, Errs W a0 a1 a2 → Calls Tryd.prog 15 #[.agg #[.int .i64 k', .int .i64 n', .string s'], .agg #[.int .i64 k, .int .i64 n, .string s]] W fun e w' => e = .returned (.tuple #[.agg #[.int .i64 (ak (lessT k k') 2), .int .i64 (ak (lessT k k') (tr (lessB k' n' n s' s))), .string (sk (lessT k k') ⟨#[]⟩)], .int .i64 (lessT k k')]) ∧ Below W.heap.size W w' := by
    rw [lessT_comm k k']
    exact fun W h => iLess_any k' n' k n s' s a0 a1 a2 W h
  have H12 : ∀ W : World, Calls Tryd.prog 16 #[.agg #[.int .i64 k', .int .i64 n', .string s'], .agg #[.int .i64 k, .int .i64 n, .string s]] W fun e w' => e = .returned (.agg #[.int .i64 2, .int .i64 (tr (sameB k n k' n' s s')), .string ⟨#[]⟩]) ∧ Below W.heap.size W w' := by
    rw [sameB_comm k n k' n' s s']
    exact fun W => iSame_any k' n' k n s' s W
  refine ⟨ak (addT k n k' n' s s') (addK k), ak (addT k n k' n' s s') (addN k n n'), ak (addT k n k' n' s s') (addK k'), ak (addT k n k' n' s s') (addN k' n' n), ak (numT k k' n n' (wrap64 (n * n'))) 1, ak (numT k k' n n' (wrap64 (n * n'))) (wrap64 (n * n')), ak (numT (ak (addT k n k' n' s s') (addK k)) k' (ak (addT k n k' n' s s') (addN k n n')) n' (wrap64 (ak (addT k n k' n' s s') (addN k n n') - n'))) 1, ak (numT (ak (addT k n k' n' s s') (addK k)) k' (ak (addT k n k' n' s s') (addN k n n')) n' (wrap64 (ak (addT k n k' n' s s') (addN k n n') - n'))) (wrap64 (ak (addT k n k' n' s s') (addN k n n') - n')), ak (lessT k k') 2, ak (lessT k k') (tr (lessB k n n' s s')), ak (lessT k k') 2, ak (lessT k k') (tr (lessB k' n' n s' s)), tr (sameB k n k' n' s s'), addT k n k' n' s s', numT k k' n n' (wrap64 (n * n')), numT (ak (addT k n k' n' s s') (addK k)) k' (ak (addT k n k' n' s s') (addN k n n')) n' (wrap64 (ak (addT k n k' n' s s') (addN k n n') - n')), lessT k k', sk (addT k n k' n' s s') (addS k s s'), sk (addT k n k' n' s s') (addS k' s' s), sk (numT k k' n n' (wrap64 (n * n'))) ⟨#[]⟩, sk (numT (ak (addT k n k' n' s s') (addK k)) k' (ak (addT k n k' n' s s') (addN k n n')) n' (wrap64 (ak (addT k n k' n' s s') (addN k n n') - n'))) ⟨#[]⟩, sk (lessT k k') ⟨#[]⟩, sk (lessT k k') ⟨#[]⟩,
    fun W h => iAdd_any k n k' n' s s' a0 a1 a2 W h z z', H2, fun W h => iMul_any k n k' n' s s' a0 a1 a2 W h, H4,
    fun W h => iSub_any _ _ k' n' _ s' a0 a1 a2 W h, fun W => sAdd_any k n k' n' s s' W z', fun W => sMul_any k n k' n' s s' W,
    fun W h => iLess_any k n k' n' s s' a0 a1 a2 W h, H9, fun W => iSame_any k n k' n' s s' W, fun W => sSame_any k n k' n' s s' W, H12, fun W => sLess_any k n k' n' s s' W, ?_, ?_, ?_, ?_⟩
  · rintro rfl rfl rfl rfl
    have eT : addT 1 n 1 n' ⟨#[]⟩ ⟨#[]⟩ = rT n n' (wrap64 (n + n')) := rfl
    refine ⟨⟨rfl, ?_, rfl⟩, ?_⟩
    · show ak _ (wrap64 (n + n')) = ak _ (wrap64 (n' + n))
      rw [Int.add_comm n' n]
    · intro h0
      rw [eT] at h0 ⊢
      obtain ⟨b1, b2⟩ := sub_back h0
      rw [h0]
      have e1 : ak 0 (addN 1 n n') = wrap64 (n + n') := rfl
      have e0 : ak 0 (addK 1) = 1 := rfl
      rw [e1, e0]
      have e3 : numT 1 1 (wrap64 (n + n')) n' (wrap64 (wrap64 (n + n') - n')) = 0 := b2
      rw [e3, b1]
      exact ⟨rfl, rfl, rfl, rfl⟩
  · intro h
    have e : lessT k k' = 1 := by
      have h' : lessT k k' ≠ 0 := h
      revert h'
      unfold lessT
      split <;> simp
    rw [e]
    exact ⟨rfl, rfl, rfl, rfl, rfl, rfl⟩
  · intro h hc
    have h' : lessT k k' = 0 := h
    rw [h']
    have hk : (k = 1 ∧ k' = 1) ∨ (k = 3 ∧ k' = 3) := by
      revert h'
      unfold lessT
      split
      · intro _; assumption
      · simp
    show tr (lessB k n n' s s') + tr (lessB k' n' n s' s) + tr (sameB k n k' n' s s') = 1
    rcases hk with ⟨rfl, rfl⟩ | ⟨rfl, rfl⟩
    · rcases hc with ⟨-, rfl, rfl⟩ | ⟨q, -⟩ | ⟨q, -⟩
      · have e : sameB 1 n 1 n' ⟨#[]⟩ ⟨#[]⟩ = decide (n = n') := by simp [sameB]
        rw [e]
        exact three_ints n n'
      · omega
      · omega
    · rcases hc with ⟨q, -⟩ | ⟨-, rfl, rfl⟩ | ⟨-, q⟩
      · omega
      · have e : sameB 3 0 3 0 s s' = (s.toList == s'.toList) := by simp [sameB]
        rw [e]
        exact three_texts s.toList s'.toList
      · omega
  · have q1 := ak_range (lessT k k') (lessB k n n' s s')
    have q2 := ak_range (lessT k k') (lessB k' n' n s' s)
    have q3 := tr_range (sameB k n k' n' s s')
    exact ⟨q1.1, q1.2, q2.1, q2.2, q3.1, q3.2⟩
end Go.Proofs.YtlpbolchedngoaaDoor
