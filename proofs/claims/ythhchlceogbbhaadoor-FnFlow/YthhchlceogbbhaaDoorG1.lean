/-
  A set of bits as two words, and what bitSet.with returns.
  Words and their lowest bits.
-/
import Derived.Test.YthhchlceogbbhaaDoorMem
import Derived.Test.YthhchlceogbbhaaDoorProg
namespace Go.Proofs.YthhchlceogbbhaaDoor
open Go.RowKit

/-- A set with one place more. -/
def bw (s : Nat × Nat) (k : Nat) : Nat × Nat := if k < 64 then (s.1 ||| 2 ^ k, s.2) else (s.1, s.2 ||| 2 ^ (k - 64))
/-- Whether a place is in a set. -/
def bhas (s : Nat × Nat) (k : Nat) : Bool := if k < 64 then s.1.testBit k else s.2.testBit (k - 64)
/-- Both are words. -/
def bok (s : Nat × Nat) : Prop := s.1 < 2 ^ 64 ∧ s.2 < 2 ^ 64
/-- A set as a value. -/
def bv (s : Nat × Nat) : Value := .agg #[.int .u64 (s.1 : Int), .int .u64 (s.2 : Int)]

theorem bw_ok {s : Nat × Nat} {k : Nat} (h : bok s) (hk : k < 128) : bok (bw s k) := by
  unfold bw
  split
  · exact ⟨Nat.or_lt_two_pow h.1 (Nat.pow_lt_pow_right (by decide) (by omega)), h.2⟩
  · exact ⟨h.1, Nat.or_lt_two_pow h.2 (Nat.pow_lt_pow_right (by decide) (by omega))⟩
theorem bhas_bw {s : Nat × Nat} {k j : Nat} (_ : k < 128) (_ : j < 128) : bhas (bw s k) j = (bhas s j || decide (k = j)) := by
  unfold bw bhas
  by_cases h : k < 64
  · rw [if_pos h]
    by_cases h2 : j < 64
    · simp only [if_pos h2, Nat.testBit_or, Nat.testBit_two_pow]
    · simp only [if_neg h2]
      rw [decide_eq_false (by omega), Bool.or_false]
  · rw [if_neg h]
    by_cases h2 : j < 64
    · simp only [if_pos h2]
      rw [decide_eq_false (by omega), Bool.or_false]
    · simp only [if_neg h2, Nat.testBit_or, Nat.testBit_two_pow]
      congr 1
      apply decide_eq_decide.2
      omega
theorem bhas_zero (j : Nat) : bhas (0, 0) j = false := by simp [bhas]
theorem bset_ext {s t : Nat × Nat} (hs : bok s) (ht : bok t) (h : ∀ j, j < 128 → bhas s j = bhas t j) : s = t := by
  apply Prod.ext
  · apply Nat.eq_of_testBit_eq
    intro i
    by_cases hi : i < 64
    · have := h i (by omega)
      simpa [bhas, hi] using this
    · rw [Nat.testBit_lt_two_pow (Nat.lt_of_lt_of_le hs.1 (Nat.pow_le_pow_right (by decide) (by omega))), Nat.testBit_lt_two_pow (Nat.lt_of_lt_of_le ht.1 (Nat.pow_le_pow_right (by decide) (by omega)))]
  · apply Nat.eq_of_testBit_eq
    intro i
    by_cases hi : i < 64
    · have := h (i + 64) (by omega)
      have e : ¬ i + 64 < 64 := by omega
      simpa [bhas, e] using this
    · rw [Nat.testBit_lt_two_pow (Nat.lt_of_lt_of_le hs.2 (Nat.pow_le_pow_right (by decide) (by omega))), Nat.testBit_lt_two_pow (Nat.lt_of_lt_of_le ht.2 (Nat.pow_le_pow_right (by decide) (by omega)))]

theorem wrap_word {a : Nat} (h : a < 2 ^ 64) : IntKind.u64.wrap (a : Int) = (a : Int) := by
  rw [IntKind.wrap_u64]
  have h' : a < 18446744073709551616 := h
  omega
theorem wrap_pow {k : Nat} (h : k < 64) : IntKind.u64.wrap (2 ^ k) = ((2 ^ k : Nat) : Int) := by
  have := wrap_word (a := 2 ^ k) (Nat.pow_lt_pow_right (by decide) h)
  push_cast at this ⊢
  exact this
theorem bits_or {a b : Nat} (ha : a < 2 ^ 64) (hb : b < 2 ^ 64) : bits .or .u64 (a : Int) (b : Int) = ((a ||| b : Nat) : Int) := by
  have hlt := Nat.or_lt_two_pow ha hb
  simp only [bits]
  show IntKind.u64.wrap (((BitVec.ofInt 64 (a : Int)) ||| (BitVec.ofInt 64 (b : Int))).toNat : Int) = _
  rw [BitVec.ofInt_natCast, BitVec.ofInt_natCast, BitVec.toNat_or, BitVec.toNat_ofNat, BitVec.toNat_ofNat, Nat.mod_eq_of_lt ha, Nat.mod_eq_of_lt hb]
  exact wrap_word hlt

theorem bw_lo {x y k : Nat} (h : k < 64) : bw (x, y) k = (x ||| 2 ^ k, y) := if_pos h
theorem bw_hi {x y k : Nat} (h : ¬ k < 64) : bw (x, y) k = (x, y ||| 2 ^ (k - 64)) := if_neg h

set_option maxRecDepth 100000 in
set_option maxHeartbeats 1000000 in
theorem with_any (s : Nat × Nat) (k : Nat) (w : World) (hs : bok s) (hk : k < 128) :
    Calls Tryd.prog 35 #[bv s, .int .i64 (k : Int)] w fun e w' => e = .returned (bv (bw s k)) ∧ Below w.heap.size w w' := by
  obtain ⟨x, y⟩ := s
  by_cases h : k < 64
  · have HO : Hid (bits .or .u64 (x : Int) (IntKind.u64.wrap (2 ^ k)) = ((x ||| 2 ^ k : Nat) : Int)) := by
      show _ = _
      rw [wrap_pow h]; exact bits_or hs.1 (Nat.pow_lt_pow_right (by decide) h)
    rw [bw_lo h]
    unfold bv
    dsimp only
    have h1 : (k : Int) / 64 = 0 := by omega
    have h2 : k / 64 = 0 := by omega
    have h3 : (k : Int) % 64 = k := by omega
    have h4 : k % 64 = k := by omega
    go_enter Tryd.func35, Tryd.ntmps35
    go_wp2
    go_region
    go_wp2
    rw [HO.out]
    refine bodyPost_ret (v := .agg #[.int .u64 ((x ||| 2 ^ k : Nat) : Int), .int .u64 (y : Int)]) (by simp [results, Tryd.results35, go_sem]) rfl ⟨rfl, ?_⟩
    exact (((Below.refl _ _).alloc (Nat.le_refl _) _).alloc (by simp) _).drew
  · have HO : Hid (bits .or .u64 (y : Int) (IntKind.u64.wrap (2 ^ (k - 64))) = ((y ||| 2 ^ (k - 64) : Nat) : Int)) := by
      show _ = _
      rw [wrap_pow (by omega)]; exact bits_or hs.2 (Nat.pow_lt_pow_right (by decide) (by omega))
    rw [bw_hi h]
    unfold bv
    dsimp only
    have h1 : (k : Int) / 64 = 1 := by omega
    have h2 : k / 64 = 1 := by omega
    have h3 : (k : Int) % 64 = (k : Int) - 64 := by omega
    have h4 : k % 64 = k - 64 := by omega
    go_enter Tryd.func35, Tryd.ntmps35
    go_wp2
    go_region
    go_wp2
    rw [HO.out]
    refine bodyPost_ret (v := .agg #[.int .u64 (x : Int), .int .u64 ((y ||| 2 ^ (k - 64) : Nat) : Int)]) (by simp [results, Tryd.results35, go_sem]) rfl ⟨rfl, ?_⟩
    exact (((Below.refl _ _).alloc (Nat.le_refl _) _).alloc (by simp) _).drew
end Go.Proofs.YthhchlceogbbhaaDoor

namespace Go.Proofs.YthhchlceogbbhaaDoor
open Go.RowKit

theorem low_form : ∀ (x : Nat), x ≠ 0 → ∃ k m, x = 2 ^ (k + 1) * m + 2 ^ k := by
  intro x
  induction x using Nat.strongRecOn with
  | _ x ih =>
    intro h
    by_cases h2 : x % 2 = 1
    · exact ⟨0, x / 2, by simp; omega⟩
    · obtain ⟨k, m, e⟩ := ih (x / 2) (by omega) (by omega)
      refine ⟨k + 1, m, ?_⟩
      have : x = 2 * (x / 2) := by omega
      rw [this, e, Nat.mul_add, Nat.pow_succ 2 (k + 1), Nat.pow_succ 2 k]
      rw [← Nat.mul_assoc, Nat.mul_comm 2 (2 ^ k * 2), Nat.mul_comm 2 (2 ^ k)]

theorem form_bit (k m j : Nat) : (2 ^ (k + 1) * m + 2 ^ k).testBit j = if j < k + 1 then decide (k = j) else m.testBit (j - (k + 1)) := by
  rw [Nat.testBit_two_pow_mul_add m (Nat.pow_lt_pow_right (by decide) (by omega)) j, Nat.testBit_two_pow]
theorem form_less (k m : Nat) : 2 ^ (k + 1) * m + 2 ^ k - 1 = 2 ^ (k + 1) * m + (2 ^ k - 1) := by
  have := Nat.two_pow_pos k
  omega
theorem form_bit1 (k m j : Nat) : (2 ^ (k + 1) * m + 2 ^ k - 1).testBit j = if j < k + 1 then decide (j < k) else m.testBit (j - (k + 1)) := by
  rw [form_less, Nat.testBit_two_pow_mul_add m (Nat.lt_of_le_of_lt (Nat.sub_le _ _) (Nat.pow_lt_pow_right (by decide) (by omega))) j, Nat.testBit_two_pow_sub_one]

/-- The lowest bit goes. -/
theorem clear_low (k m j : Nat) : ((2 ^ (k + 1) * m + 2 ^ k) &&& (2 ^ (k + 1) * m + 2 ^ k - 1)).testBit j = (decide (k < j) && (2 ^ (k + 1) * m + 2 ^ k).testBit j) := by
  rw [Nat.testBit_and, form_bit, form_bit1]
  by_cases h : j < k + 1
  · rw [if_pos h, if_pos h]
    by_cases e : k = j
    · subst e; simp
    · rw [decide_eq_false e]; simp
  · rw [if_neg h, if_neg h, decide_eq_true (show k < j by omega)]
    simp

/-- The lowest bit alone. -/
theorem keep_low {k m : Nat} (h : 2 ^ (k + 1) * m + 2 ^ k < 2 ^ 64) : (2 ^ (k + 1) * m + 2 ^ k) &&& (2 ^ 64 - (2 ^ (k + 1) * m + 2 ^ k)) = 2 ^ k := by
  have hp := Nat.two_pow_pos k
  have hk : k < 64 := by
    by_cases hk : k < 64
    · exact hk
    · have := Nat.pow_le_pow_right (n := 2) (by decide) (show 64 ≤ k by omega)
      omega
  obtain ⟨y, hy⟩ : ∃ y, y = 2 ^ (k + 1) * m + 2 ^ k - 1 := ⟨_, rfl⟩
  have hx : 2 ^ (k + 1) * m + 2 ^ k = y + 1 := by omega
  apply Nat.eq_of_testBit_eq
  intro j
  rw [Nat.testBit_and]
  have e1 : (2 ^ 64 - (2 ^ (k + 1) * m + 2 ^ k)).testBit j = (decide (j < 64) && !y.testBit j) := by
    rw [hx]
    exact Nat.testBit_two_pow_sub_succ (by omega) j
  rw [e1, form_bit, hy, form_bit1, Nat.testBit_two_pow]
  by_cases h : j < k + 1
  · rw [if_pos h, if_pos h, decide_eq_true (show j < 64 by omega)]
    by_cases e : k = j
    · subst e; simp
    · rw [decide_eq_false e]; simp
  · rw [if_neg h, if_neg h, decide_eq_false (show ¬ k = j by omega)]
    cases m.testBit (j - (k + 1)) <;> simp

theorem bits_and {a b : Nat} (ha : a < 2 ^ 64) (hb : b < 2 ^ 64) : bits .and .u64 (a : Int) (b : Int) = ((a &&& b : Nat) : Int) := by
  have hlt : a &&& b < 2 ^ 64 := Nat.lt_of_le_of_lt Nat.and_le_left ha
  simp only [bits]
  show IntKind.u64.wrap (((BitVec.ofInt 64 (a : Int)) &&& (BitVec.ofInt 64 (b : Int))).toNat : Int) = _
  rw [BitVec.ofInt_natCast, BitVec.ofInt_natCast, BitVec.toNat_and, BitVec.toNat_ofNat, BitVec.toNat_ofNat, Nat.mod_eq_of_lt ha, Nat.mod_eq_of_lt hb]
  exact wrap_word hlt

/-- The table's index of a word that has one bit. -/
def dbI (k : Nat) : Nat := (2 ^ k * 285870213051353865 % 2 ^ 64) / 2 ^ 58
/-- The table. -/
def dbT : List Nat := [0, 1, 56, 2, 57, 49, 28, 3, 61, 58, 42, 50, 38, 29, 17, 4, 62, 47, 59, 36, 45, 43, 51, 22, 53, 39, 33, 30, 24, 18, 12, 5, 63, 55, 48, 27, 60, 41, 37, 16, 46, 35, 44, 21, 52, 32, 23, 11, 54, 26, 40, 15, 34, 20, 31, 10, 25, 14, 19, 9, 13, 8, 7, 6]
theorem dbT_at : ∀ k, k < 64 → dbT[dbI k]? = some k := by decide +kernel
theorem dbI_lt (k : Nat) : dbI k < 64 := by
  unfold dbI
  have := Nat.mod_lt (2 ^ k * 285870213051353865) (show 0 < 2 ^ 64 by decide)
  omega
end Go.Proofs.YthhchlceogbbhaaDoor
