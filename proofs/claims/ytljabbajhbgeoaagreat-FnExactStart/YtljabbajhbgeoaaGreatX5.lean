/-
  Values: valueIn of the program, whole.
-/
import Derived.Test.YtljabbajhbgeoaaGreatX2
import Derived.Test.YtljabbajhbgeoaaGreatX2b
import Derived.Test.YtljabbajhbgeoaaGreatX3
import Derived.Test.YtljabbajhbgeoaaGreatX3b
import Derived.Test.YtljabbajhbgeoaaGreatX4
import Derived.Test.YtljabbajhbgeoaaGreatX4c
import Derived.Test.YtljabbajhbgeoaaGreatX4b
namespace Go.Proofs.YtljabbajhbgeoaaGreat
open Go.RowKit

/-- Whether a value is as the document's table says. -/
def valB (k n : Int) (s : ByteArray) (nf : Nat) (r : Int) : Bool :=
  if k = 0 then decide (n = 0) && decide (s = ⟨#[]⟩) else if k = 1 then num n && decide (s = ⟨#[]⟩) else if k = 2 then (decide (n = 0) || decide (n = 1)) && decide (s = ⟨#[]⟩)
  else if k = 3 then decide (n = 0) && textB s else if k = 4 then (decide (0 ≤ n) && decide (n < r)) && decide (s = ⟨#[]⟩) else if k = 5 then (decide (0 ≤ n) && decide (n < (nf : Int))) && decide (s = ⟨#[]⟩) else false

theorem iIn_any (k n : Int) (s : ByteArray) (r : Int) (a1 a2 : Option Addr) (nt c1 nf c2 : Nat) (w : World) (hsz : s.size ≤ 1048576) :
    Calls Tryz.prog 51 #[.agg #[.slice a1 nt c1, .slice a2 nf c2], .agg #[.int .i64 k, .int .i64 n, .string s], .int .i64 r] w fun e w' => e = .returned (.bool (valB k n s nf r)) ∧ Below w.heap.size w w' := by
  by_cases h0 : k = 0
  · subst h0
    by_cases hn : n = 0
    · subst hn
      by_cases he : s = ⟨#[]⟩
      · subst he
        rw [show valB 0 0 ⟨#[]⟩ nf r = true by simp [valB]]
        exact iIn_nil_yes r a1 a2 nt c1 nf c2 w
      · rw [show valB 0 0 s nf r = false by simp [valB, he]]
        exact iIn_nil_ne s r a1 a2 nt c1 nf c2 w he
    · rw [show valB 0 n s nf r = false by simp [valB, hn]]
      exact iIn_nil_nn n s r a1 a2 nt c1 nf c2 w hn
  by_cases h1 : k = 1
  · subst h1
    by_cases he : s = ⟨#[]⟩
    · subst he
      by_cases hb : (num n) = true
      · rw [show valB 1 n ⟨#[]⟩ nf r = true by simp only [valB]; rw [hb]; simp]
        exact iIn_int_yes n r a1 a2 nt c1 nf c2 w hb
      · have hb' : (num n) = false := by simpa using hb
        rw [show valB 1 n ⟨#[]⟩ nf r = false by simp only [valB]; rw [hb']; simp]
        exact iIn_int_no n r a1 a2 nt c1 nf c2 w hb'
    · rw [show valB 1 n s nf r = false by simp [valB, he]]
      exact iIn_int_ne n s r a1 a2 nt c1 nf c2 w he
  by_cases h2 : k = 2
  · subst h2
    by_cases he : s = ⟨#[]⟩
    · subst he
      by_cases hb : (decide (n = 0) || decide (n = 1)) = true
      · rw [show valB 2 n ⟨#[]⟩ nf r = true by simp only [valB]; rw [hb]; simp]
        exact iIn_bool_yes n r a1 a2 nt c1 nf c2 w hb
      · have hb' : (decide (n = 0) || decide (n = 1)) = false := by simpa using hb
        rw [show valB 2 n ⟨#[]⟩ nf r = false by simp only [valB]; rw [hb']; simp]
        exact iIn_bool_no n r a1 a2 nt c1 nf c2 w hb'
    · rw [show valB 2 n s nf r = false by simp [valB, he]]
      exact iIn_bool_ne n s r a1 a2 nt c1 nf c2 w he
  by_cases h3 : k = 3
  · subst h3
    by_cases hn : n = 0
    · subst hn
      by_cases hb : textB s = true
      · rw [show valB 3 0 s nf r = true by simp [valB, hb]]
        exact iIn_text_yes s r a1 a2 nt c1 nf c2 w hsz hb
      · have hb' : textB s = false := by simpa using hb
        rw [show valB 3 0 s nf r = false by simp [valB, hb']]
        exact iIn_text_no s r a1 a2 nt c1 nf c2 w hsz hb'
    · rw [show valB 3 n s nf r = false by simp [valB, hn]]
      exact iIn_text_nn n s r a1 a2 nt c1 nf c2 w hn
  by_cases h4 : k = 4
  · subst h4
    by_cases he : s = ⟨#[]⟩
    · subst he
      by_cases hb : (decide (0 ≤ n) && decide (n < r)) = true
      · rw [show valB 4 n ⟨#[]⟩ nf r = true by simp only [valB]; rw [hb]; simp]
        exact iIn_rec_yes n r a1 a2 nt c1 nf c2 w hb
      · have hb' : (decide (0 ≤ n) && decide (n < r)) = false := by simpa using hb
        rw [show valB 4 n ⟨#[]⟩ nf r = false by simp only [valB]; rw [hb']; simp]
        exact iIn_rec_no n r a1 a2 nt c1 nf c2 w hb'
    · rw [show valB 4 n s nf r = false by simp [valB, he]]
      exact iIn_rec_ne n s r a1 a2 nt c1 nf c2 w he
  by_cases h5 : k = 5
  · subst h5
    by_cases he : s = ⟨#[]⟩
    · subst he
      by_cases hb : (decide (0 ≤ n) && decide (n < (nf : Int))) = true
      · rw [show valB 5 n ⟨#[]⟩ nf r = true by simp only [valB]; rw [hb]; simp]
        exact iIn_fun_yes n r a1 a2 nt c1 nf c2 w hb
      · have hb' : (decide (0 ≤ n) && decide (n < (nf : Int))) = false := by simpa using hb
        rw [show valB 5 n ⟨#[]⟩ nf r = false by simp only [valB]; rw [hb']; simp]
        exact iIn_fun_no n r a1 a2 nt c1 nf c2 w hb'
    · rw [show valB 5 n s nf r = false by simp [valB, he]]
      exact iIn_fun_ne n s r a1 a2 nt c1 nf c2 w he
  rw [show valB k n s nf r = false by simp [valB, h0, h1, h2, h3, h4, h5]]
  by_cases hn : n = 0
  · subst hn
    by_cases he : s = ⟨#[]⟩
    · subst he
      exact iIn_no_no k r a1 a2 nt c1 nf c2 w h0 h1 h2 h3 h4 h5
    · exact iIn_no_ne k s r a1 a2 nt c1 nf c2 w h0 h1 h2 h3 h4 h5 he
  · exact iIn_no_nn k n s r a1 a2 nt c1 nf c2 w h0 h1 h2 h3 h4 h5 hn
end Go.Proofs.YtljabbajhbgeoaaGreat
