/-
  What the document's l02Int gives, for every text: a number within bounds, and of a numeral its number.
-/
import Derived.Test.YtpmkfdinkomaiaaGreatDoorR2
set_option maxRecDepth 100000
namespace Go.Proofs.YtpmkfdinkomaiaaGreatDoor
open Go.RowKit

theorem dec_step {n : Nat} (h : ¬ n < 10) : Lib.decDigits n = Lib.decDigits (n / 10) ++ [UInt8.ofNat (48 + n % 10)] := by rw [Lib.decDigits, dif_neg h]
theorem dec_one {n : Nat} (h : n < 10) : Lib.decDigits n = [UInt8.ofNat (48 + n)] := by rw [Lib.decDigits, dif_pos h]
theorem dig_nat {m : Nat} (h : m < 10) : (UInt8.ofNat (48 + m)).toNat = 48 + m := by simp; omega
theorem digVal_dec : ∀ (n : Nat), digVal (Lib.decDigits n) = n := by
  intro n
  induction n using Nat.strongRecOn with
  | ind n ih =>
    by_cases h : n < 10
    · rw [dec_one h]
      have := dig_nat h
      simp only [digVal, List.foldl_cons, List.foldl_nil]
      omega
    · rw [dec_step h, digVal_snoc, ih (n / 10) (by omega)]
      have := dig_nat (show n % 10 < 10 by omega)
      omega
theorem dec_digs : ∀ (n : Nat), ∀ c ∈ Lib.decDigits n, 48 ≤ c.toNat ∧ c.toNat ≤ 57 := by
  intro n
  induction n using Nat.strongRecOn with
  | ind n ih =>
    by_cases h : n < 10
    · rw [dec_one h]
      have := dig_nat h
      intro c hc
      rw [List.mem_singleton.1 hc]
      omega
    · rw [dec_step h]
      have := dig_nat (show n % 10 < 10 by omega)
      intro c hc
      rcases List.mem_append.1 hc with hc | hc
      · exact ih (n / 10) (by omega) c hc
      · rw [List.mem_singleton.1 hc]
        omega
theorem dec_len : ∀ (k n : Nat), n < 10 ^ (k + 1) → (Lib.decDigits n).length ≤ k + 1 := by
  intro k
  induction k with
  | zero => intro n h; rw [dec_one (by omega)]; simp
  | succ k ih =>
    intro n h
    by_cases h1 : n < 10
    · rw [dec_one h1]; simp
    · rw [dec_step h1]
      have := ih (n / 10) (by rw [Nat.pow_succ] at h; omega)
      simp
      omega
theorem dec_head : ∀ (n : Nat), 1 ≤ n → ∃ c l, Lib.decDigits n = c :: l ∧ c.toNat ≠ 48 := by
  intro n
  induction n using Nat.strongRecOn with
  | ind n ih =>
    intro hn
    by_cases h : n < 10
    · rw [dec_one h]
      exact ⟨_, [], rfl, by rw [dig_nat h]; omega⟩
    · obtain ⟨c, l, e, hc⟩ := ih (n / 10) (by omega) (by omega)
      rw [dec_step h, e]
      exact ⟨c, l ++ [_], rfl, hc⟩

theorem dec_len10 {n : Nat} (h : n ≤ 1000000000) : (Lib.decDigits n).length ≤ 10 := dec_len 9 n (by omega)
theorem dec_pos (n : Nat) : 0 < (Lib.decDigits n).length := by
  by_cases h : n < 10
  · rw [dec_one h]; simp
  · rw [dec_step h]; simp

theorem dec_good {n : Nat} {neg : Bool} (h : n ≤ 1000000000) (hneg : neg = true → 1 ≤ n) : ¬ BadInt neg ⟨(Lib.decDigits n).toArray⟩ := by
  have hl := dec_len10 h
  have hp := dec_pos n
  have hsz : (⟨(Lib.decDigits n).toArray⟩ : ByteArray).size = (Lib.decDigits n).length := by simp [ByteArray.size]
  rintro (h1 | h1 | ⟨h1, h2⟩ | ⟨h1, h2⟩ | ⟨k, hk, h2⟩)
  · omega
  · omega
  · have hn : 1 ≤ n := by
      rcases Nat.eq_zero_or_pos n with h0 | h0
      · subst h0
        rw [dec_one (by omega)] at h1
        exact absurd h1 (by decide)
      · exact h0
    obtain ⟨c, l, e, hc⟩ := dec_head n hn
    have h3 : (Lib.decDigits n)[0]'hp = 48 := h2
    simp only [e, List.getElem_cons_zero] at h3
    rw [h3] at hc
    exact hc rfl
  · obtain ⟨c, l, e, hc⟩ := dec_head n (hneg h1)
    have h3 : Lib.decDigits n = [48] := by
      have := congrArg (fun b : ByteArray => b.data.toList) h2
      simpa using this
    rw [e] at h3
    injection h3 with h4
    rw [h4] at hc
    exact hc rfl
  · have hk' : k < (Lib.decDigits n).length := by omega
    have := dec_digs n _ (List.getElem_mem hk')
    have e : (⟨(Lib.decDigits n).toArray⟩ : ByteArray)[k] = (Lib.decDigits n)[k] := rfl
    rw [e] at h2
    omega

theorem digVal_bound : ∀ (m : Nat) (l : List UInt8), l.length = m → (∀ c ∈ l, 48 ≤ c.toNat ∧ c.toNat ≤ 57) → 0 ≤ digVal l ∧ digVal l < 10 ^ m := by
  intro m
  induction m with
  | zero => intro l h _; rw [List.eq_nil_of_length_eq_zero h]; decide
  | succ m ih =>
    intro l hl h
    rcases List.eq_nil_or_concat l with rfl | ⟨l', c, rfl⟩
    · simp at hl
    · have h1 := ih l' (by simpa using hl) fun d hd => h d (by simp [hd])
      have h2 := h c (by simp)
      rw [List.concat_eq_append, digVal_snoc, Int.pow_succ]
      omega

theorem IntRead.bound {neg : Bool} {t : ByteArray} {n : Int} {b : Bool} (h : IntRead neg t n b) : -10000000000 < n ∧ n < 10000000000 := by
  rcases h with ⟨-, rfl, -⟩ | ⟨-, h2, h3, h4⟩
  · decide
  · have hb := digVal_bound t.size t.data.toList (by rw [Array.length_toList]; rfl) (fun c hc => by
      obtain ⟨k, hk, rfl⟩ := List.getElem_of_mem hc
      rw [Array.length_toList] at hk
      exact h4 k hk)
    have hp := pow10_le h3
    cases neg
    · simp at h2; omega
    · simp at h2; omega
theorem IntRead.dec {neg : Bool} {m : Nat} {n : Int} {b : Bool} (h : IntRead neg ⟨(Lib.decDigits m).toArray⟩ n b) (hm : m ≤ 1000000000) (hneg : neg = true → 1 ≤ m) : n = if neg then -(m : Int) else m := by
  rcases h with ⟨-, -, h⟩ | ⟨-, h2, -, -⟩
  · exact absurd h (dec_good hm hneg)
  · rw [h2]
    simp only [digVal_dec]

/-- A number within bounds; of a numeral its number. -/
def NumOf (s : ByteArray) (n : Int) : Prop := (-10000000000 < n ∧ n < 10000000000) ∧ ∀ v : Int, Fits v → s = numText v → n = v
def SIntPost (s : ByteArray) (w : World) (e : Ending) (w' : World) : Prop := ∃ n b, e = .returned (.tuple #[.int .i64 n, .bool b]) ∧ NumOf s n ∧ w' = w

theorem numText_pos (u : Nat) : numText (u : Int) = ⟨(Lib.decDigits u).toArray⟩ := by unfold numText; rw [Lib.itoa_nonneg]
theorem numText_neg (u : Nat) (h : 1 ≤ u) : numText (-(u : Int)) = ⟨(45 :: Lib.decDigits u).toArray⟩ := by unfold numText; rw [Lib.itoa_neg u h]

theorem sInt_any (s : ByteArray) (w : World) (hs : s.size ≤ 1048576) : Calls Tryz.prog 33 #[.string s] w (SIntPost s w) := by
  have key : ∀ v : Int, Fits v → (∃ u : Nat, u ≤ 1000000000 ∧ v = u) ∨ ∃ u : Nat, 1 ≤ u ∧ u ≤ 1000000000 ∧ v = -(u : Int) := by
    intro v ⟨h1, h2⟩
    by_cases h : 0 ≤ v
    · exact Or.inl ⟨v.toNat, by omega, by omega⟩
    · exact Or.inr ⟨(-v).toNat, by omega, by omega, by omega⟩
  by_cases h0 : s.size = 0
  · refine (sInt_pos0 s w h0).mono ?_
    rintro e w' ⟨n, b, rfl, hr, rfl⟩
    refine ⟨n, b, rfl, ⟨hr.bound, fun v hv hsv => ?_⟩, rfl⟩
    exfalso
    rcases key v hv with ⟨u, hu, rfl⟩ | ⟨u, hu1, hu, rfl⟩
    · rw [hsv, numText_pos] at h0
      have := dec_pos u
      have e : (⟨(Lib.decDigits u).toArray⟩ : ByteArray).size = (Lib.decDigits u).length := by simp [ByteArray.size]
      omega
    · rw [hsv, numText_neg u hu1] at h0
      simp [ByteArray.size] at h0
  have h0' : 0 < s.size := by omega
  by_cases hm : s[0] = 45
  · refine (sInt_neg s w hs h0' hm).mono ?_
    rintro e w' ⟨n, b, rfl, hr, rfl⟩
    refine ⟨n, b, rfl, ⟨hr.bound, fun v hv hsv => ?_⟩, rfl⟩
    rcases key v hv with ⟨u, hu, rfl⟩ | ⟨u, hu1, hu, rfl⟩
    · exfalso
      rw [numText_pos] at hsv
      subst hsv
      have h2 := dec_digs u ((Lib.decDigits u)[0]'(dec_pos u)) (List.getElem_mem _)
      have h3 : (Lib.decDigits u)[0]'(dec_pos u) = 45 := hm
      rw [h3] at h2
      exact absurd h2.1 (by decide)
    · rw [numText_neg u hu1] at hsv
      have e1 : s.extract 1 s.size = ⟨(Lib.decDigits u).toArray⟩ := by
        rw [← extract_toList, hsv]
        simp [ByteArray.size]
      rw [e1] at hr
      simpa using hr.dec hu fun _ => hu1
  · refine (sInt_pos s w hs h0' hm).mono ?_
    rintro e w' ⟨n, b, rfl, hr, rfl⟩
    refine ⟨n, b, rfl, ⟨hr.bound, fun v hv hsv => ?_⟩, rfl⟩
    rcases key v hv with ⟨u, hu, rfl⟩ | ⟨u, hu1, hu, rfl⟩
    · rw [numText_pos] at hsv
      subst hsv
      simpa using hr.dec hu (by simp)
    · exfalso
      rw [numText_neg u hu1] at hsv
      subst hsv
      exact hm rfl
end Go.Proofs.YtpmkfdinkomaiaaGreatDoor
