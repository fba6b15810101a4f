/-
  What the document's numerals are.
-/
import Derived.Test.YtedjabgkdogkfaaDoorT1
import Derived.Lib.ItoaLen
namespace Go.Proofs.YtedjabgkdogkfaaDoor
open Go.RowKit

theorem decText_size (n : Nat) (h : n ≤ 9223372036854775807) : (⟨(Lib.decDigits n).toArray⟩ : ByteArray).size ≤ 21 := by
  have := Lib.itoa_length_le (n : Int) (by omega) (by omega)
  rw [Lib.itoa_nonneg] at this
  simpa [ByteArray.size] using this

set_option maxRecDepth 100000 in
set_option maxHeartbeats 1600000 in
theorem sDigits_pos : ∀ (f n : Nat), n ≤ f → n ≤ 9223372036854775807 → ∀ w : World, Calls Tryd.prog 22 #[.int .i64 n] w fun e w' => e = .returned (.string ⟨(Lib.decDigits n).toArray⟩) ∧ Below w.heap.size w w' := by
  intro f
  induction f with
  | zero =>
    intro n hn _ w
    exact sDigits_one n (by omega) w
  | succ f ih =>
    intro n hn hm w
    by_cases h10 : n < 10
    · exact sDigits_one n h10 w
    · have h10' : (10 : Int) ≤ (n : Int) := by omega
      have hrec := ih (n / 10) (by omega) (by omega)
      have hE : Lib.decDigits n = Lib.decDigits (n / 10) ++ [UInt8.ofNat (48 + n % 10)] := by rw [Lib.decDigits, dif_neg h10]
      rw [hE, bytes_append]
      have hnew := dig_new n
      clear ih hn hE h10
      simp only [Int.natCast_ediv, Int.cast_ofNat_Int] at hrec
      have hw1 : IntKind.i64.wrap ((n : Int) / 10) = (n : Int) / 10 := wrap_small _ (by omega) (by omega)
      have ht : (n : Int).tmod 10 = (n : Int) % 10 := Int.tmod_eq_emod_of_nonneg (by omega)
      have hw2 : IntKind.i64.wrap (48 + (n : Int) % 10) = 48 + (n : Int) % 10 := wrap_small _ (by omega) (by omega)
      have hw3 : IntKind.u8.wrap (48 + (n : Int) % 10) = 48 + (n : Int) % 10 := by
        have : IntKind.u8.wrap (48 + (n : Int) % 10) = (48 + (n : Int) % 10) % 256 := rfl
        rw [this]
        omega
      have hs1 : (⟨(Lib.decDigits (n / 10)).toArray⟩ : ByteArray).size ≤ 21 := decText_size _ (by omega)
      clear hm
      have hs2 : (⟨#[UInt8.ofNat (48 + n % 10)]⟩ : ByteArray).size ≤ 1 := Nat.le_refl _
      have hold : ∀ W' : World, Below (w.alloc (.cells #[.int .u8 (48 + (n : Int) % 10)] 5)).drew.heap.size (w.alloc (.cells #[.int .u8 (48 + (n : Int) % 10)] 5)).drew W' → (convert 33 9 (.slice (some ⟨w.heap.size, 0, none⟩) 1 1)).run Tryd.prog W' = .ok (.string ⟨#[UInt8.ofNat (48 + n % 10)]⟩) W' := fun W' hb => dig_old n (W := w) ((Below.refl _ _).drew.trans hb)
      have hnew2 := hold _ (Below.refl _ _)
      generalize (⟨(Lib.decDigits (n / 10)).toArray⟩ : ByteArray) = s1 at *
      generalize (⟨#[UInt8.ofNat (48 + n % 10)]⟩ : ByteArray) = s2 at *
      go_enter Tryd.func22, Tryd.ntmps22
      go_wp2_with fail
      go_region_with (go_at_call 22; refine (hrec _).mono ?_; rintro e w1 ⟨rfl, hb1⟩; first | have hold2 := hold _ hb1 | skip)
      all_goals clear hold
      all_goals go_wp2
      all_goals go_ret
      · have hb := (Below.refl w.heap.size w).drew.trans hb1
        exact ⟨rfl, hb.alloc hb.size _⟩
      · exact ⟨rfl, ((Below.refl w.heap.size w).alloc (Nat.le_refl _) (.cells #[.int .u8 (48 + (n : Int) % 10)] 5)).drew.trans (hb1.mono (by simp))⟩
      · exact ⟨rfl, ((Below.refl w.heap.size w).alloc (Nat.le_refl _) (.cells #[.int .u8 (48 + (n : Int) % 10)] 5)).drew.trans (hb1.mono (by simp))⟩

theorem minus_dig (m : Nat) : numText (-(m : Int)) = if m = 0 then numText 0 else ⟨#[45]⟩ ++ ⟨(Lib.decDigits m).toArray⟩ := by
  by_cases h : m = 0
  · subst h; rw [if_pos rfl]; rfl
  · rw [if_neg h]
    unfold numText
    rw [Lib.itoa_neg m (by omega), show (45 :: Lib.decDigits m) = [45] ++ Lib.decDigits m from rfl, bytes_append]
theorem pos_dig (m : Nat) : numText (m : Int) = ⟨(Lib.decDigits m).toArray⟩ := by unfold numText; rw [Lib.itoa_nonneg]

set_option maxRecDepth 100000 in
set_option maxHeartbeats 1600000 in
theorem sDigits_neg (m : Nat) (h0 : 1 ≤ m) (h1 : Hid (m ≤ 9223372036854775808)) (w : World) : Calls Tryd.prog 22 #[.int .i64 (-(m : Int))] w fun e w' => e = .returned (.string (numText (-(m : Int)))) ∧ Below w.heap.size w w' := by
  rw [minus_dig, if_neg (by omega)]
  have hneg : (-(m : Int)) < 0 := by omega
  by_cases h10 : m < 10
  · have hd : ¬ (-(m : Int)) < -9 := by omega
    have hrec := sDigits_one m h10
    have hs1 : (⟨(Lib.decDigits m).toArray⟩ : ByteArray).size ≤ 21 := decText_size _ (by omega)
    have hw1 : IntKind.i64.wrap (m : Int) = (m : Int) := wrap_small _ (by omega) (by omega)
    generalize (⟨(Lib.decDigits m).toArray⟩ : ByteArray) = s1 at *
    go_enter Tryd.func22, Tryd.ntmps22
    go_wp2_with (go_at_call 22; refine (hrec _).mono ?_; rintro e w1 ⟨rfl, hb1⟩)
    go_ret
    exact ⟨rfl, hb1⟩
  · have hd : (-(m : Int)) < -9 := by omega
    have hrec := sDigits_pos _ (m / 10) (Nat.le_refl _) (by have := h1.out; omega)
    have hrec2 := sDigits_one (m % 10) (by omega)
    have hs1 : (⟨(Lib.decDigits (m / 10)).toArray⟩ : ByteArray).size ≤ 21 := decText_size _ (by have := h1.out; omega)
    have hs2 : (⟨(Lib.decDigits (m % 10)).toArray⟩ : ByteArray).size ≤ 21 := decText_size _ (by omega)
    have hE : (⟨(Lib.decDigits m).toArray⟩ : ByteArray) = ⟨(Lib.decDigits (m / 10)).toArray⟩ ++ ⟨(Lib.decDigits (m % 10)).toArray⟩ := by
      rw [← bytes_append, Lib.decDigits, dif_neg h10, Lib.decDigits_one (show m % 10 < 10 by omega)]
    rw [hE]
    have hq : (-(m : Int)).tdiv 10 = -((m / 10 : Nat) : Int) := by rw [Int.neg_tdiv, Int.tdiv_eq_ediv_of_nonneg (by omega)]; rfl
    have hr : (-(m : Int)).tmod 10 = -((m % 10 : Nat) : Int) := by rw [Int.neg_tmod, Int.tmod_eq_emod_of_nonneg (by omega)]; rfl
    generalize (⟨(Lib.decDigits (m / 10)).toArray⟩ : ByteArray) = s1 at *
    generalize (⟨(Lib.decDigits (m % 10)).toArray⟩ : ByteArray) = s2 at *
    go_enter Tryd.func22, Tryd.ntmps22
    go_wp2_with fail
    rw [show wrap64 (-wrap64 (-((m : Int) / 10))) = ((m / 10 : Nat) : Int) by have := h1.out; unfold wrap64; omega]
    refine (hrec _).mono ?_
    rintro e w1 ⟨rfl, hb1⟩
    go_wp2_with fail
    simp only [Int.natCast_emod, Int.cast_ofNat_Int] at hrec2
    refine (hrec2 _).mono ?_
    rintro e w2 ⟨rfl, hb2⟩
    have hs3 : ((⟨#[45]⟩ : ByteArray) ++ s1).size ≤ 22 := by
      rw [ByteArray.size_append]
      have : (⟨#[45]⟩ : ByteArray).size = 1 := rfl
      omega
    have hasc : (⟨#[45]⟩ : ByteArray) ++ (s1 ++ s2) = ⟨#[45]⟩ ++ s1 ++ s2 := (ByteArray.append_assoc).symm
    clear hE
    go_wp2
    go_ret
    exact ⟨by rw [hasc]; rfl, hb1.trans (hb2.mono hb1.size)⟩

theorem sDigits_any (n : Int) (h0 : -9223372036854775808 ≤ n) (h1 : n ≤ 9223372036854775807) (w : World) : Calls Tryd.prog 22 #[.int .i64 n] w fun e w' => e = .returned (.string (numText n)) ∧ Below w.heap.size w w' := by
  by_cases hn : n < 0
  · obtain ⟨m, rfl⟩ : ∃ m : Nat, n = -(m : Int) := ⟨n.natAbs, by omega⟩
    exact sDigits_neg m (by omega) (show m ≤ 9223372036854775808 by omega) w
  · obtain ⟨m, rfl⟩ := Int.eq_ofNat_of_zero_le (show 0 ≤ n by omega)
    have := sDigits_pos _ m (Nat.le_refl _) (by omega) w
    rw [← pos_dig] at this
    exact this
theorem numText_size (n : Int) (h0 : -9223372036854775808 ≤ n) (h1 : n ≤ 9223372036854775807) : (numText n).size ≤ 21 := by
  have := Lib.itoa_length_le n h0 h1
  simpa [numText, ByteArray.size] using this
end Go.Proofs.YtedjabgkdogkfaaDoor
