/-
  Values: what the law on sums, products, differences and order asks, on plain numbers and texts.
-/
import Derived.Test.YtlpbolchedngoaaDoorP4
import Derived.Test.YtlpbolchedngoaaDoorE15
namespace Go.Proofs.YtlpbolchedngoaaDoor
open Go.RowKit

theorem wrap_small {x : Int} (h1 : -9223372036854775808 ≤ x) (h2 : x ≤ 9223372036854775807) : wrap64 x = x := by
  simp only [wrap64]
  omega
theorem num_iff (n : Int) : num n = true ↔ -1000000000 ≤ n ∧ n ≤ 1000000000 := by simp [num]
theorem rT_comm (x y n : Int) : rT x y n = rT y x n := by simp only [rT, Bool.and_comm (num x) (num y)]
theorem rT_zero {x y n : Int} (h : rT x y n = 0) : num x = true ∧ num y = true ∧ num n = true := by
  unfold rT at h
  split at h
  · rename_i q
    simpa [Bool.and_eq_true, and_assoc] using q
  · omega
theorem addT_comm (k n k' n' : Int) (s s' : ByteArray) : addT k n k' n' s s' = addT k' n' k n s' s := by
  unfold addT
  rw [Int.add_comm n' n, rT_comm n' n, Int.add_comm (s'.size : Int) (s.size : Int)]
  simp only [And.comm]
theorem mulT_comm (k n k' n' : Int) : numT k k' n n' (wrap64 (n * n')) = numT k' k n' n (wrap64 (n' * n)) := by
  unfold numT
  rw [Int.mul_comm n' n, rT_comm n' n]
  simp only [And.comm]
theorem lessT_comm (k k' : Int) : lessT k k' = lessT k' k := by
  unfold lessT
  simp only [And.comm]
theorem beq_list_comm (a b : List UInt8) : (a == b) = (b == a) := by
  rw [Bool.eq_iff_iff]
  simp only [beq_iff_eq]
  exact eq_comm
theorem sameB_comm (k n k' n' : Int) (s s' : ByteArray) : sameB k n k' n' s s' = sameB k' n' k n s' s := by
  unfold sameB
  rw [beq_list_comm s.toList s'.toList, Bool.eq_iff_iff]
  simp only [Bool.and_eq_true, decide_eq_true_eq, @eq_comm _ k k', @eq_comm _ n n']

/-- A sum, less one of the two, is the other. -/
theorem sub_back {n n' : Int} (h : rT n n' (wrap64 (n + n')) = 0) : wrap64 (wrap64 (n + n') - n') = n ∧ rT (wrap64 (n + n')) n' (wrap64 (wrap64 (n + n') - n')) = 0 := by
  obtain ⟨h1, h2, h3⟩ := rT_zero h
  have e1 := (num_iff n).1 h1
  have e2 := (num_iff n').1 h2
  have w1 : wrap64 (n + n') = n + n' := wrap_small (by omega) (by omega)
  rw [w1] at h3 ⊢
  have w2 : wrap64 (n + n' - n') = n := by rw [show n + n' - n' = n by omega]; exact wrap_small (by omega) (by omega)
  rw [w2]
  exact ⟨rfl, by simp [rT, h1, h2, h3]⟩

theorem three_ints (n n' : Int) : tr (decide (n < n')) + tr (decide (n' < n)) + tr (decide (n = n')) = 1 := by
  unfold tr
  rcases Int.lt_trichotomy n n' with h | h | h
  · simp [h, Int.not_lt.2 (Int.le_of_lt h), Int.ne_of_lt h]
  · subst h; simp
  · simp [h, Int.not_lt.2 (Int.le_of_lt h), Int.ne_of_gt h]
theorem three_texts : ∀ (a b : List UInt8), tr (Op.bytesLess a b) + tr (Op.bytesLess b a) + tr (a == b) = 1
  | [], [] => rfl
  | [], _ :: _ => rfl
  | _ :: _, [] => rfl
  | x :: a, y :: b => by
    have ih := three_texts a b
    by_cases h : x = y
    · subst h
      have hx : ¬ x < x := UInt8.lt_irrefl x
      simpa [Op.bytesLess, hx] using ih
    · have h' : ¬ y = x := fun e => h e.symm
      by_cases h2 : x < y
      · have h3 : ¬ y < x := UInt8.lt_asymm h2
        simp [Op.bytesLess, h, h', h2, h3, tr]
      · have h3 : y < x := by
          have a1 : ¬ x.toNat < y.toNat := fun q => h2 (UInt8.lt_iff_toNat_lt.2 q)
          have a2 : x.toNat ≠ y.toNat := fun q => h (UInt8.toNat_inj.1 q)
          exact UInt8.lt_iff_toNat_lt.2 (by omega)
        simp [Op.bytesLess, h, h2, h3, tr]
end Go.Proofs.YtlpbolchedngoaaDoor
