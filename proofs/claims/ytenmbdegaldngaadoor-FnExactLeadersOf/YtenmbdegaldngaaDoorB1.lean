/-
  Words and their lowest bits.
-/
import Derived.Test.YtenmbdegaldngaaDoorL1
namespace Go.Proofs.YtenmbdegaldngaaDoor
open Go.RowKit

theorem low_form : ∀ (x : Nat), x ≠ 0 → ∃ k m, x = 2 ^ (k + 1) * m + 2 ^ k := by
  intro x
  induction x using Nat.strongRecOn with
  | _ x ih =>
    intro h
    by_cases h2 : x % 2 = 1
    · exact ⟨0, x / 2, by simp; omega⟩
    · obtain ⟨k, m, e⟩ := ih (x / 2) (by omega) (by omega)
      refine ⟨k + 1, m, ?_⟩
      have : x = 2 * (x / 2) := by omega
      rw [this, e, Nat.mul_add, Nat.pow_succ 2 (k + 1), Nat.pow_succ 2 k]
      rw [← Nat.mul_assoc, Nat.mul_comm 2 (2 ^ k * 2), Nat.mul_comm 2 (2 ^ k)]

theorem form_bit (k m j : Nat) : (2 ^ (k + 1) * m + 2 ^ k).testBit j = if j < k + 1 then decide (k = j) else m.testBit (j - (k + 1)) := by
  rw [Nat.testBit_two_pow_mul_add m (Nat.pow_lt_pow_right (by decide) (by omega)) j, Nat.testBit_two_pow]
theorem form_less (k m : Nat) : 2 ^ (k + 1) * m + 2 ^ k - 1 = 2 ^ (k + 1) * m + (2 ^ k - 1) := by
  have := Nat.two_pow_pos k
  omega
theorem form_bit1 (k m j : Nat) : (2 ^ (k + 1) * m + 2 ^ k - 1).testBit j = if j < k + 1 then decide (j < k) else m.testBit (j - (k + 1)) := by
  rw [form_less, Nat.testBit_two_pow_mul_add m (Nat.lt_of_le_of_lt (Nat.sub_le _ _) (Nat.pow_lt_pow_right (by decide) (by omega))) j, Nat.testBit_two_pow_sub_one]

/-- The lowest bit goes. -/
theorem clear_low (k m j : Nat) : ((2 ^ (k + 1) * m + 2 ^ k) &&& (2 ^ (k + 1) * m + 2 ^ k - 1)).testBit j = (decide (k < j) && (2 ^ (k + 1) * m + 2 ^ k).testBit j) := by
  rw [Nat.testBit_and, form_bit, form_bit1]
  by_cases h : j < k + 1
  · rw [if_pos h, if_pos h]
    by_cases e : k = j
    · subst e; simp
    · rw [decide_eq_false e]; simp
  · rw [if_neg h, if_neg h, decide_eq_true (show k < j by omega)]
    simp

/-- The lowest bit alone. -/
theorem keep_low {k m : Nat} (h : 2 ^ (k + 1) * m + 2 ^ k < 2 ^ 64) : (2 ^ (k + 1) * m + 2 ^ k) &&& (2 ^ 64 - (2 ^ (k + 1) * m + 2 ^ k)) = 2 ^ k := by
  have hp := Nat.two_pow_pos k
  have hk : k < 64 := by
    by_cases hk : k < 64
    · exact hk
    · have := Nat.pow_le_pow_right (n := 2) (by decide) (show 64 ≤ k by omega)
      omega
  obtain ⟨y, hy⟩ : ∃ y, y = 2 ^ (k + 1) * m + 2 ^ k - 1 := ⟨_, rfl⟩
  have hx : 2 ^ (k + 1) * m + 2 ^ k = y + 1 := by omega
  apply Nat.eq_of_testBit_eq
  intro j
  rw [Nat.testBit_and]
  have e1 : (2 ^ 64 - (2 ^ (k + 1) * m + 2 ^ k)).testBit j = (decide (j < 64) && !y.testBit j) := by
    rw [hx]
    exact Nat.testBit_two_pow_sub_succ (by omega) j
  rw [e1, form_bit, hy, form_bit1, Nat.testBit_two_pow]
  by_cases h : j < k + 1
  · rw [if_pos h, if_pos h, decide_eq_true (show j < 64 by omega)]
    by_cases e : k = j
    · subst e; simp
    · rw [decide_eq_false e]; simp
  · rw [if_neg h, if_neg h, decide_eq_false (show ¬ k = j by omega)]
    cases m.testBit (j - (k + 1)) <;> simp

theorem bits_and {a b : Nat} (ha : a < 2 ^ 64) (hb : b < 2 ^ 64) : bits .and .u64 (a : Int) (b : Int) = ((a &&& b : Nat) : Int) := by
  have hlt : a &&& b < 2 ^ 64 := Nat.lt_of_le_of_lt Nat.and_le_left ha
  simp only [bits]
  show IntKind.u64.wrap (((BitVec.ofInt 64 (a : Int)) &&& (BitVec.ofInt 64 (b : Int))).toNat : Int) = _
  rw [BitVec.ofInt_natCast, BitVec.ofInt_natCast, BitVec.toNat_and, BitVec.toNat_ofNat, BitVec.toNat_ofNat, Nat.mod_eq_of_lt ha, Nat.mod_eq_of_lt hb]
  exact wrap_word hlt

/-- The table's index of a word that has one bit. -/
def dbI (k : Nat) : Nat := (2 ^ k * 285870213051353865 % 2 ^ 64) / 2 ^ 58
/-- The table. -/
def dbT : List Nat := [0, 1, 56, 2, 57, 49, 28, 3, 61, 58, 42, 50, 38, 29, 17, 4, 62, 47, 59, 36, 45, 43, 51, 22, 53, 39, 33, 30, 24, 18, 12, 5, 63, 55, 48, 27, 60, 41, 37, 16, 46, 35, 44, 21, 52, 32, 23, 11, 54, 26, 40, 15, 34, 20, 31, 10, 25, 14, 19, 9, 13, 8, 7, 6]
theorem dbT_at : ∀ k, k < 64 → dbT[dbI k]? = some k := by decide +kernel
theorem dbI_lt (k : Nat) : dbI k < 64 := by
  unfold dbI
  have := Nat.mod_lt (2 ^ k * 285870213051353865) (show 0 < 2 ^ 64 by decide)
  omega
end Go.Proofs.YtenmbdegaldngaaDoor
