/-
  What strconv.Atoi gives the program, for every text: of a numeral its number; and its other helpers.
-/
import Derived.Test.YtpmkfdinkomaiaaGreatDoorR4
import Derived.Test.YtpmkfdinkomaiaaGreatDoorShelfC
import Derived.Lib.SmallJoins
namespace Go.Proofs.YtpmkfdinkomaiaaGreatDoor
open Go.RowKit

theorem parse_snoc : ∀ (l : List UInt8) (acc u : Nat) (c : UInt8), Lib.parseUint10 acc l = .ok u → u < 1844674407370955161 → 48 ≤ c.toNat → c.toNat ≤ 57 → Lib.parseUint10 acc (l ++ [c]) = .ok (u * 10 + (c.toNat - 48)) := by
  intro l
  induction l with
  | nil =>
    intro acc u c h hu h1 h2
    simp only [Lib.parseUint10] at h
    injection h with h
    subst h
    rw [List.nil_append, Lib.parseUint10, if_pos ⟨h1, h2⟩, if_neg (by omega), if_neg (by omega)]
    rfl
  | cons b l ih =>
    intro acc u c h hu h1 h2
    rw [List.cons_append, Lib.parseUint10]
    rw [Lib.parseUint10] at h
    split at h
    · rename_i hb
      rw [if_pos hb]
      split at h
      · cases h
      · rename_i hc
        rw [if_neg hc]
        split at h
        · cases h
        · rename_i hd
          rw [if_neg hd]
          exact ih _ u c h hu h1 h2
    · cases h
theorem parse_dec : ∀ (n : Nat), n ≤ 1000000000 → Lib.parseUint10 0 (Lib.decDigits n) = .ok n := by
  intro n
  induction n using Nat.strongRecOn with
  | ind n ih =>
    intro hn
    by_cases h : n < 10
    · have hd := dig_nat h
      rw [dec_one h, Lib.parseUint10, if_pos (by omega), if_neg (by omega), if_neg (by omega), hd]
      simp [Lib.parseUint10]
    · have hd := dig_nat (show n % 10 < 10 by omega)
      rw [dec_step h, parse_snoc _ 0 (n / 10) _ (ih (n / 10) (by omega) (by omega)) (by omega) (by omega) (by omega), hd]
      congr 1
      omega
theorem mag_dec {n : Nat} (hn : n ≤ 1000000000) : Lib.parseMag (Lib.decDigits n) = .ok n := by
  have := dec_pos n
  unfold Lib.parseMag
  rw [if_neg (by intro e; rw [e] at this; simp at this), parse_dec n hn]
theorem atoi_num {v : Int} (h : Fits v) : Lib.atoiAll (numText v).data.toList = .ok v := by
  obtain ⟨h1, h2⟩ := h
  by_cases h0 : 0 ≤ v
  · obtain ⟨u, rfl⟩ : ∃ u : Nat, v = u := ⟨v.toNat, by omega⟩
    rw [numText_pos]
    have hp := dec_pos u
    have hm := mag_dec (n := u) (by omega)
    have hdg := dec_digs u
    cases hd : Lib.decDigits u with
    | nil => rw [hd] at hp; simp at hp
    | cons c r =>
      have hc := hdg c (by rw [hd]; simp)
      rw [hd] at hm
      show Lib.atoiAll (c :: r) = _
      simp only [Lib.atoiAll]
      rw [if_neg (by omega), hm]
      simp only
      rw [if_neg (by omega), if_neg (by omega), if_neg (by omega)]
  · obtain ⟨u, rfl⟩ : ∃ u : Nat, v = -(u : Int) := ⟨(-v).toNat, by omega⟩
    rw [numText_neg u (by omega)]
    have hm := mag_dec (n := u) (by omega)
    show Lib.atoiAll (45 :: Lib.decDigits u) = _
    simp only [Lib.atoiAll]
    have e45 : UInt8.toNat 45 = 45 := rfl
    rw [if_pos (Or.inr e45), hm]
    simp only
    rw [if_neg (fun h => h.1 e45), if_neg (by omega), if_pos e45]

/-- The variables of the library that the program's reader asks for. -/
structure Vars (w : World) : Prop where
  cut : ∃ m, w.cell? ⟨1, 0, none⟩ = some (.int .i64 m)
  syn : ∃ tp p, w.var? Tryz.prog "strconv.ErrSyntax" = some #[.iface tp p]
  rng : ∃ tp p, w.var? Tryz.prog "strconv.ErrRange" = some #[.iface tp p]

theorem gSyn : Tryz.prog.globalNamed "strconv.ErrSyntax" = some 3 := by kernel_rfl
theorem gRng : Tryz.prog.globalNamed "strconv.ErrRange" = some 4 := by kernel_rfl
theorem Vars.below {w w' : World} (h : Vars w) (hb : Below w.heap.size w w') : Vars w' := by
  obtain ⟨⟨m, h1⟩, ⟨t2, p2, h2⟩, ⟨t3, p3, h3⟩⟩ := h
  exact ⟨⟨m, cell_later hb h1⟩, ⟨t2, p2, Joins.var_stays gSyn h2 hb (Nat.le_refl _)⟩, ⟨t3, p3, Joins.var_stays gRng h3 hb (Nat.le_refl _)⟩⟩

def AtoiPost (s : ByteArray) (w : World) (e : Ending) (w' : World) : Prop :=
  ((∃ v, e = .returned (.tuple #[.int .i64 v, .nilIface]) ∧ ∀ u, Fits u → s = numText u → v = u) ∨ (∃ v N, e = .returned (.tuple #[.int .i64 v, .iface 118 (.pointer (some ⟨N, 0, none⟩))]) ∧ ∀ u, Fits u → s ≠ numText u)) ∧ Below w.heap.size w w'

theorem iAtoi_any (s : ByteArray) (w : World) (hs : s.size ≤ 1048576) (hv : Vars w) : Calls Tryz.prog 63 #[.string s] w (AtoiPost s w) := by
  cases h : Lib.atoiAll s.data.toList with
  | ok v =>
    refine (Tryz.strconv_Atoi_ok s (by omega) v h w).mono ?_
    rintro e w' ⟨rfl, hw⟩
    refine ⟨Or.inl ⟨v, rfl, fun u hu hsu => ?_⟩, ?_⟩
    · rw [hsu, atoi_num hu] at h
      injection h with h
      exact h.symm
    · rcases hw with rfl | ⟨t, rfl⟩
      · exact Below.refl _ _
      · exact Lib.bytesWorld_below _ _ _
  | «syntax» =>
    obtain ⟨tp, p, hvar⟩ := hv.syn
    refine (Tryz.strconv_Atoi_syntax_var s (by omega) h tp p w hvar).mono ?_
    rintro e w' ⟨N, rfl, -, -, hb⟩
    refine ⟨Or.inr ⟨0, N, rfl, fun u hu hsu => ?_⟩, hb⟩
    rw [hsu, atoi_num hu] at h
    cases h
  | range =>
    obtain ⟨tp, p, hvar⟩ := hv.rng
    refine (Tryz.strconv_Atoi_range_var s (by omega) h tp p w hvar).mono ?_
    rintro e w' ⟨N, rfl, -, -, hb⟩
    refine ⟨Or.inr ⟨_, N, rfl, fun u hu hsu => ?_⟩, hb⟩
    rw [hsu, atoi_num hu] at h
    cases h

set_option maxHeartbeats 400000 in
theorem clone_any (s : ByteArray) (w : World) (hs : s.size ≤ 1048576) : Calls Tryz.prog 60 #[.string s] w fun e w' => e = .returned (.string s) ∧ Below w.heap.size w w' := by
  go_enter Tryz.func60, Tryz.ntmps60
  go_wp2_with (go_at_call 77; refine (Tryz.stringslite_Clone s _ (by omega)).mono ?_; rintro e w1 ⟨rfl, hb⟩)
  go_ret
  exact ⟨rfl, hb⟩
end Go.Proofs.YtpmkfdinkomaiaaGreatDoor
