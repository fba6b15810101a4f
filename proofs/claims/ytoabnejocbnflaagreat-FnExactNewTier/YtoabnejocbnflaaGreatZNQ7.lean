/-
  Values: valueIn of the program, whole.
  Values: ValueOk of the document's model.
-/
import Derived.Test.YtoabnejocbnflaaGreatZX2
import Derived.Test.YtoabnejocbnflaaGreatZX2b
import Derived.Test.YtoabnejocbnflaaGreatZX3
import Derived.Test.YtoabnejocbnflaaGreatZX3b
import Derived.Test.YtoabnejocbnflaaGreatZX4
import Derived.Test.YtoabnejocbnflaaGreatZX4c
import Derived.Test.YtoabnejocbnflaaGreatZX4b
namespace Go.Proofs.YtoabnejocbnflaaGreat
open Go.RowKit

/-- Whether a value is as the document's table says. -/
def valB (k n : Int) (s : ByteArray) (nf : Nat) (r : Int) : Bool :=
  if k = 0 then decide (n = 0) && decide (s = ⟨#[]⟩) else if k = 1 then num n && decide (s = ⟨#[]⟩) else if k = 2 then (decide (n = 0) || decide (n = 1)) && decide (s = ⟨#[]⟩)
  else if k = 3 then decide (n = 0) && textB s else if k = 4 then (decide (0 ≤ n) && decide (n < r)) && decide (s = ⟨#[]⟩) else if k = 5 then (decide (0 ≤ n) && decide (n < (nf : Int))) && decide (s = ⟨#[]⟩) else false

theorem iIn_any (k n : Int) (s : ByteArray) (r : Int) (a1 a2 : Option Addr) (nt c1 nf c2 : Nat) (w : World) (hsz : s.size ≤ 1048576) :
    Calls Tryz.prog 76 #[.agg #[.slice a1 nt c1, .slice a2 nf c2], .agg #[.int .i64 k, .int .i64 n, .string s], .int .i64 r] w fun e w' => e = .returned (.bool (valB k n s nf r)) ∧ Below w.heap.size w w' := by
  by_cases h0 : k = 0
  · subst h0
    by_cases hn : n = 0
    · subst hn
      by_cases he : s = ⟨#[]⟩
      · subst he
        rw [show valB 0 0 ⟨#[]⟩ nf r = true by simp [valB]]
        exact iIn_nil_yes r a1 a2 nt c1 nf c2 w
      · rw [show valB 0 0 s nf r = false by simp [valB, he]]
        exact iIn_nil_ne s r a1 a2 nt c1 nf c2 w he
    · rw [show valB 0 n s nf r = false by simp [valB, hn]]
      exact iIn_nil_nn n s r a1 a2 nt c1 nf c2 w hn
  by_cases h1 : k = 1
  · subst h1
    by_cases he : s = ⟨#[]⟩
    · subst he
      by_cases hb : (num n) = true
      · rw [show valB 1 n ⟨#[]⟩ nf r = true by simp only [valB]; rw [hb]; simp]
        exact iIn_int_yes n r a1 a2 nt c1 nf c2 w hb
      · have hb' : (num n) = false := by simpa using hb
        rw [show valB 1 n ⟨#[]⟩ nf r = false by simp only [valB]; rw [hb']; simp]
        exact iIn_int_no n r a1 a2 nt c1 nf c2 w hb'
    · rw [show valB 1 n s nf r = false by simp [valB, he]]
      exact iIn_int_ne n s r a1 a2 nt c1 nf c2 w he
  by_cases h2 : k = 2
  · subst h2
    by_cases he : s = ⟨#[]⟩
    · subst he
      by_cases hb : (decide (n = 0) || decide (n = 1)) = true
      · rw [show valB 2 n ⟨#[]⟩ nf r = true by simp only [valB]; rw [hb]; simp]
        exact iIn_bool_yes n r a1 a2 nt c1 nf c2 w hb
      · have hb' : (decide (n = 0) || decide (n = 1)) = false := by simpa using hb
        rw [show valB 2 n ⟨#[]⟩ nf r = false by simp only [valB]; rw [hb']; simp]
        exact iIn_bool_no n r a1 a2 nt c1 nf c2 w hb'
    · rw [show valB 2 n s nf r = false by simp [valB, he]]
      exact iIn_bool_ne n s r a1 a2 nt c1 nf c2 w he
  by_cases h3 : k = 3
  · subst h3
    by_cases hn : n = 0
    · subst hn
      by_cases hb : textB s = true
      · rw [show valB 3 0 s nf r = true by simp [valB, hb]]
        exact iIn_text_yes s r a1 a2 nt c1 nf c2 w hsz hb
      · have hb' : textB s = false := by simpa using hb
        rw [show valB 3 0 s nf r = false by simp [valB, hb']]
        exact iIn_text_no s r a1 a2 nt c1 nf c2 w hsz hb'
    · rw [show valB 3 n s nf r = false by simp [valB, hn]]
      exact iIn_text_nn n s r a1 a2 nt c1 nf c2 w hn
  by_cases h4 : k = 4
  · subst h4
    by_cases he : s = ⟨#[]⟩
    · subst he
      by_cases hb : (decide (0 ≤ n) && decide (n < r)) = true
      · rw [show valB 4 n ⟨#[]⟩ nf r = true by simp only [valB]; rw [hb]; simp]
        exact iIn_rec_yes n r a1 a2 nt c1 nf c2 w hb
      · have hb' : (decide (0 ≤ n) && decide (n < r)) = false := by simpa using hb
        rw [show valB 4 n ⟨#[]⟩ nf r = false by simp only [valB]; rw [hb']; simp]
        exact iIn_rec_no n r a1 a2 nt c1 nf c2 w hb'
    · rw [show valB 4 n s nf r = false by simp [valB, he]]
      exact iIn_rec_ne n s r a1 a2 nt c1 nf c2 w he
  by_cases h5 : k = 5
  · subst h5
    by_cases he : s = ⟨#[]⟩
    · subst he
      by_cases hb : (decide (0 ≤ n) && decide (n < (nf : Int))) = true
      · rw [show valB 5 n ⟨#[]⟩ nf r = true by simp only [valB]; rw [hb]; simp]
        exact iIn_fun_yes n r a1 a2 nt c1 nf c2 w hb
      · have hb' : (decide (0 ≤ n) && decide (n < (nf : Int))) = false := by simpa using hb
        rw [show valB 5 n ⟨#[]⟩ nf r = false by simp only [valB]; rw [hb']; simp]
        exact iIn_fun_no n r a1 a2 nt c1 nf c2 w hb'
    · rw [show valB 5 n s nf r = false by simp [valB, he]]
      exact iIn_fun_ne n s r a1 a2 nt c1 nf c2 w he
  rw [show valB k n s nf r = false by simp [valB, h0, h1, h2, h3, h4, h5]]
  by_cases hn : n = 0
  · subst hn
    by_cases he : s = ⟨#[]⟩
    · subst he
      exact iIn_no_no k r a1 a2 nt c1 nf c2 w h0 h1 h2 h3 h4 h5
    · exact iIn_no_ne k s r a1 a2 nt c1 nf c2 w h0 h1 h2 h3 h4 h5 he
  · exact iIn_no_nn k n s r a1 a2 nt c1 nf c2 w h0 h1 h2 h3 h4 h5 hn
end Go.Proofs.YtoabnejocbnflaaGreat

namespace Go.Proofs.YtoabnejocbnflaaGreat
open Go.RowKit

set_option maxRecDepth 100000 in
set_option maxHeartbeats 2000000 in
theorem sOk_ne (k n : Int) (s : ByteArray) (r : Int) (a1 a2 : Option Addr) (nt c1 nf c2 : Nat) (w : World) (h3 : k ≠ 3) (hne : s ≠ ⟨#[]⟩) :
    Calls Tryz.prog 45 #[.agg #[.slice a1 nt c1, .slice a2 nf c2], .agg #[.int .i64 k, .int .i64 n, .string s], .int .i64 r] w fun e w' => e = .returned (.bool (false)) ∧ Below w.heap.size w w' := by
  have hA : ∀ x y, Below w.heap.size w ((w.alloc x).alloc y) := fun _ _ => ((Below.refl _ _).alloc (Nat.le_refl _) _).alloc (by simp) _
  have e1 := (not_empty hne).1
  have e2 := (not_empty hne).2
  have e3 : (s.toList != ([] : List UInt8)) = true := by simp [bne, e2]
  have b3 : (k != 3) = true := by simpa using h3
  clear hne h3
  go_enter Tryz.func45, Tryz.ntmps45
  go_wp2
  go_ret
  exact ⟨rfl, hA _ _⟩

set_option maxRecDepth 100000 in
set_option maxHeartbeats 2000000 in
theorem sOk_nil (n : Int) (r : Int) (a1 a2 : Option Addr) (nt c1 nf c2 : Nat) (w : World) :
    Calls Tryz.prog 45 #[.agg #[.slice a1 nt c1, .slice a2 nf c2], .agg #[.int .i64 0, .int .i64 n, .string ⟨#[]⟩], .int .i64 r] w fun e w' => e = .returned (.bool (decide (n = 0))) ∧ Below w.heap.size w w' := by
  have hA : ∀ x y, Below w.heap.size w ((w.alloc x).alloc y) := fun _ _ => ((Below.refl _ _).alloc (Nat.le_refl _) _).alloc (by simp) _
  go_enter Tryz.func45, Tryz.ntmps45
  go_wp2
  go_ret
  exact ⟨ret_bool (by rw [Bool.eq_iff_iff]; simp), hA _ _⟩

set_option maxRecDepth 100000 in
set_option maxHeartbeats 2000000 in
theorem sOk_int (n : Int) (r : Int) (a1 a2 : Option Addr) (nt c1 nf c2 : Nat) (w : World) :
    Calls Tryz.prog 45 #[.agg #[.slice a1 nt c1, .slice a2 nf c2], .agg #[.int .i64 1, .int .i64 n, .string ⟨#[]⟩], .int .i64 r] w fun e w' => e = .returned (.bool (num n)) ∧ Below w.heap.size w w' := by
  have hA : ∀ x y, Below w.heap.size w ((w.alloc x).alloc y) := fun _ _ => ((Below.refl _ _).alloc (Nat.le_refl _) _).alloc (by simp) _
  go_enter Tryz.func45, Tryz.ntmps45
  go_wp2_with fail
  refine (sNum_any _ _).mono ?_
  rintro e w1 ⟨rfl, rfl⟩
  go_wp2
  go_ret
  exact ⟨rfl, hA _ _⟩

set_option maxRecDepth 100000 in
set_option maxHeartbeats 2000000 in
theorem sOk_bool (n : Int) (r : Int) (a1 a2 : Option Addr) (nt c1 nf c2 : Nat) (w : World) :
    Calls Tryz.prog 45 #[.agg #[.slice a1 nt c1, .slice a2 nf c2], .agg #[.int .i64 2, .int .i64 n, .string ⟨#[]⟩], .int .i64 r] w fun e w' => e = .returned (.bool (decide (n = 0) || decide (n = 1))) ∧ Below w.heap.size w w' := by
  have hA : ∀ x y, Below w.heap.size w ((w.alloc x).alloc y) := fun _ _ => ((Below.refl _ _).alloc (Nat.le_refl _) _).alloc (by simp) _
  go_enter Tryz.func45, Tryz.ntmps45
  go_wp2_with fail
  refine (between_any _ _ _ _).mono ?_
  rintro e w1 ⟨rfl, rfl⟩
  go_wp2
  go_ret
  exact ⟨ret_bool (by rw [Bool.eq_iff_iff]; simp; omega), hA _ _⟩

set_option maxRecDepth 100000 in
set_option maxHeartbeats 2000000 in
theorem sOk_text0 (s : ByteArray) (r : Int) (a1 a2 : Option Addr) (nt c1 nf c2 : Nat) (w : World) (hsz : s.size ≤ 1048576) :
    Calls Tryz.prog 45 #[.agg #[.slice a1 nt c1, .slice a2 nf c2], .agg #[.int .i64 3, .int .i64 0, .string s], .int .i64 r] w fun e w' => e = .returned (.bool (textB s)) ∧ Below w.heap.size w w' := by
  have hA : ∀ x y, Below w.heap.size w ((w.alloc x).alloc y) := fun _ _ => ((Below.refl _ _).alloc (Nat.le_refl _) _).alloc (by simp) _
  go_enter Tryz.func45, Tryz.ntmps45
  go_wp2_with fail
  refine (l01Text_any _ _ hsz).mono ?_
  rintro e w1 ⟨rfl, rfl⟩
  go_wp2
  go_ret
  exact ⟨rfl, hA _ _⟩

set_option maxRecDepth 100000 in
set_option maxHeartbeats 2000000 in
theorem sOk_textn (n : Int) (s : ByteArray) (r : Int) (a1 a2 : Option Addr) (nt c1 nf c2 : Nat) (w : World) (hn : n ≠ 0) :
    Calls Tryz.prog 45 #[.agg #[.slice a1 nt c1, .slice a2 nf c2], .agg #[.int .i64 3, .int .i64 n, .string s], .int .i64 r] w fun e w' => e = .returned (.bool (false)) ∧ Below w.heap.size w w' := by
  have hA : ∀ x y, Below w.heap.size w ((w.alloc x).alloc y) := fun _ _ => ((Below.refl _ _).alloc (Nat.le_refl _) _).alloc (by simp) _
  have b0 : (n == 0) = false := by simpa using hn
  clear hn
  go_enter Tryz.func45, Tryz.ntmps45
  go_wp2
  go_ret
  exact ⟨rfl, hA _ _⟩

set_option maxRecDepth 100000 in
set_option maxHeartbeats 2000000 in
theorem sOk_rec (n : Int) (r : Int) (a1 a2 : Option Addr) (nt c1 nf c2 : Nat) (w : World) :
    Calls Tryz.prog 45 #[.agg #[.slice a1 nt c1, .slice a2 nf c2], .agg #[.int .i64 4, .int .i64 n, .string ⟨#[]⟩], .int .i64 r] w fun e w' => e = .returned (.bool (decide (0 ≤ n) && decide (n < r))) ∧ Below w.heap.size w w' := by
  have hA : ∀ x y, Below w.heap.size w ((w.alloc x).alloc y) := fun _ _ => ((Below.refl _ _).alloc (Nat.le_refl _) _).alloc (by simp) _
  by_cases h1 : 0 ≤ n
  · by_cases h2 : n < r
    all_goals
      go_enter Tryz.func45, Tryz.ntmps45
      go_wp2
      go_ret
      exact ⟨ret_bool (by rw [Bool.eq_iff_iff]; simp; omega), hA _ _⟩
  ·
    go_enter Tryz.func45, Tryz.ntmps45
    go_wp2
    go_ret
    exact ⟨ret_bool (by rw [Bool.eq_iff_iff]; simp; omega), hA _ _⟩

set_option maxRecDepth 100000 in
set_option maxHeartbeats 2000000 in
theorem sOk_fun (n : Int) (r : Int) (a1 a2 : Option Addr) (nt c1 nf c2 : Nat) (w : World) (hnf : nf ≤ 1048576) :
    Calls Tryz.prog 45 #[.agg #[.slice a1 nt c1, .slice a2 nf c2], .agg #[.int .i64 5, .int .i64 n, .string ⟨#[]⟩], .int .i64 r] w fun e w' => e = .returned (.bool (decide (0 ≤ n) && decide (n < (nf : Int)))) ∧ Below w.heap.size w w' := by
  have hA : ∀ x y, Below w.heap.size w ((w.alloc x).alloc y) := fun _ _ => ((Below.refl _ _).alloc (Nat.le_refl _) _).alloc (by simp) _
  go_enter Tryz.func45, Tryz.ntmps45
  go_wp2_with fail
  refine (between_any _ _ _ _).mono ?_
  rintro e w1 ⟨rfl, rfl⟩
  go_wp2
  go_ret
  exact ⟨ret_bool (by rw [Bool.eq_iff_iff]; simp; omega), hA _ _⟩

set_option maxRecDepth 100000 in
set_option maxHeartbeats 2000000 in
theorem sOk_no (k n : Int) (r : Int) (a1 a2 : Option Addr) (nt c1 nf c2 : Nat) (w : World) (h0 : k ≠ 0) (h1 : k ≠ 1) (h2 : k ≠ 2) (h3 : k ≠ 3) (h4 : k ≠ 4) (h5 : k ≠ 5) :
    Calls Tryz.prog 45 #[.agg #[.slice a1 nt c1, .slice a2 nf c2], .agg #[.int .i64 k, .int .i64 n, .string ⟨#[]⟩], .int .i64 r] w fun e w' => e = .returned (.bool (false)) ∧ Below w.heap.size w w' := by
  have hA : ∀ x y, Below w.heap.size w ((w.alloc x).alloc y) := fun _ _ => ((Below.refl _ _).alloc (Nat.le_refl _) _).alloc (by simp) _
  have b0 : (k == 0) = false := by simpa using h0
  have b1 : (k == 1) = false := by simpa using h1
  have b2 : (k == 2) = false := by simpa using h2
  have b3 : (k == 3) = false := by simpa using h3
  have c3 : (k != 3) = true := by simpa using h3
  have b4 : (k == 4) = false := by simpa using h4
  have b5 : (k == 5) = false := by simpa using h5
  clear h0 h1 h2 h3 h4 h5
  go_enter Tryz.func45, Tryz.ntmps45
  go_wp2
  go_ret
  exact ⟨rfl, hA _ _⟩

theorem sOk_any (k n : Int) (s : ByteArray) (r : Int) (a1 a2 : Option Addr) (nt c1 nf c2 : Nat) (w : World) (hnf : nf ≤ 1048576) (hsz : s.size ≤ 1048576) :
    Calls Tryz.prog 45 #[.agg #[.slice a1 nt c1, .slice a2 nf c2], .agg #[.int .i64 k, .int .i64 n, .string s], .int .i64 r] w fun e w' => e = .returned (.bool (valB k n s nf r)) ∧ Below w.heap.size w w' := by
  by_cases h3 : k = 3
  · subst h3
    by_cases hn : n = 0
    · subst hn
      rw [show valB 3 0 s nf r = textB s by simp [valB]]
      exact sOk_text0 s r a1 a2 nt c1 nf c2 w hsz
    · rw [show valB 3 n s nf r = false by simp [valB, hn]]
      exact sOk_textn n s r a1 a2 nt c1 nf c2 w hn
  by_cases he : s = ⟨#[]⟩
  · subst he
    by_cases h0 : k = 0
    · subst h0
      rw [show valB 0 n ⟨#[]⟩ nf r = decide (n = 0) by simp [valB]]
      exact sOk_nil n r a1 a2 nt c1 nf c2 w
    by_cases h1 : k = 1
    · subst h1
      rw [show valB 1 n ⟨#[]⟩ nf r = num n by simp [valB]]
      exact sOk_int n r a1 a2 nt c1 nf c2 w
    by_cases h2 : k = 2
    · subst h2
      rw [show valB 2 n ⟨#[]⟩ nf r = (decide (n = 0) || decide (n = 1)) by simp [valB]]
      exact sOk_bool n r a1 a2 nt c1 nf c2 w
    by_cases h4 : k = 4
    · subst h4
      rw [show valB 4 n ⟨#[]⟩ nf r = (decide (0 ≤ n) && decide (n < r)) by simp [valB]]
      exact sOk_rec n r a1 a2 nt c1 nf c2 w
    by_cases h5 : k = 5
    · subst h5
      rw [show valB 5 n ⟨#[]⟩ nf r = (decide (0 ≤ n) && decide (n < (nf : Int))) by simp [valB]]
      exact sOk_fun n r a1 a2 nt c1 nf c2 w hnf
    · rw [show valB k n ⟨#[]⟩ nf r = false by simp [valB, h0, h1, h2, h3, h4, h5]]
      exact sOk_no k n r a1 a2 nt c1 nf c2 w h0 h1 h2 h3 h4 h5
  · rw [show valB k n s nf r = false by simp [valB, he, h3]]
    exact sOk_ne k n s r a1 a2 nt c1 nf c2 w h3 he

end Go.Proofs.YtoabnejocbnflaaGreat
