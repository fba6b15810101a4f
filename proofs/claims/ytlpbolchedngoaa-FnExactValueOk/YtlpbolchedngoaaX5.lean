/-
  Values: ValueOk of the document's model, and of the program, whole.
-/
import Derived.Test.YtlpbolchedngoaaX2
import Derived.Test.YtlpbolchedngoaaX2b
import Derived.Test.YtlpbolchedngoaaX3
import Derived.Test.YtlpbolchedngoaaX3b
import Derived.Test.YtlpbolchedngoaaX4
import Derived.Test.YtlpbolchedngoaaX4b
namespace Go.Proofs.Ytlpbolchedngoaa
open Go.RowKit

/-- Whether a value is as the document's table says. -/
def valB (k n : Int) (s : ByteArray) (nf : Nat) (r : Int) : Bool :=
  if k = 0 then decide (n = 0) && decide (s = ⟨#[]⟩) else if k = 1 then num n && decide (s = ⟨#[]⟩) else if k = 2 then (decide (n = 0) || decide (n = 1)) && decide (s = ⟨#[]⟩)
  else if k = 3 then decide (n = 0) && textB s else if k = 4 then (decide (0 ≤ n) && decide (n < r)) && decide (s = ⟨#[]⟩) else if k = 5 then (decide (0 ≤ n) && decide (n < (nf : Int))) && decide (s = ⟨#[]⟩) else false

theorem iValueOk_any (k n : Int) (s : ByteArray) (r : Int) (a1 a2 : Option Addr) (ts : List ByteArray) (fs : List Fn) (c1 c2 : Nat) (w : World) (hs : Small ts fs) (hm : StrsAt w 0 a1 ts) (hf : FnsAt w 0 a2 fs) (hsz : s.size ≤ 1048576) :
    Calls Try.prog 9 #[.agg #[.slice a1 ts.length c1, .slice a2 fs.length c2], .agg #[.int .i64 k, .int .i64 n, .string s], .int .i64 r] w fun e w' => e = .returned (.bool (modB ts fs && valB k n s fs.length r)) ∧ Below w.heap.size w w' := by
  by_cases h0 : k = 0
  · subst h0
    by_cases hn : n = 0
    · subst hn
      by_cases he : s = ⟨#[]⟩
      · subst he
        rw [show (modB ts fs && valB 0 0 ⟨#[]⟩ fs.length r) = modB ts fs by simp [valB]]
        exact iOk_nil_yes r a1 a2 ts fs c1 c2 w hs hm hf
      · rw [show (modB ts fs && valB 0 0 s fs.length r) = false by simp [valB, he]]
        exact iOk_nil_ne s r a1 a2 ts fs c1 c2 w he
    · rw [show (modB ts fs && valB 0 n s fs.length r) = false by simp [valB, hn]]
      exact iOk_nil_nn n s r a1 a2 ts fs c1 c2 w hn
  by_cases h1 : k = 1
  · subst h1
    by_cases he : s = ⟨#[]⟩
    · subst he
      by_cases hb : (num n) = true
      · rw [show (modB ts fs && valB 1 n ⟨#[]⟩ fs.length r) = modB ts fs by simp only [valB]; rw [hb]; simp]
        exact iOk_int_yes n r a1 a2 ts fs c1 c2 w hs hm hf hb
      · have hb' : (num n) = false := by simpa using hb
        rw [show (modB ts fs && valB 1 n ⟨#[]⟩ fs.length r) = false by simp only [valB]; rw [hb']; simp]
        exact iOk_int_no n r a1 a2 ts fs c1 c2 w hb'
    · rw [show (modB ts fs && valB 1 n s fs.length r) = false by simp [valB, he]]
      exact iOk_int_ne n s r a1 a2 ts fs c1 c2 w he
  by_cases h2 : k = 2
  · subst h2
    by_cases he : s = ⟨#[]⟩
    · subst he
      by_cases hb : (decide (n = 0) || decide (n = 1)) = true
      · rw [show (modB ts fs && valB 2 n ⟨#[]⟩ fs.length r) = modB ts fs by simp only [valB]; rw [hb]; simp]
        exact iOk_bool_yes n r a1 a2 ts fs c1 c2 w hs hm hf hb
      · have hb' : (decide (n = 0) || decide (n = 1)) = false := by simpa using hb
        rw [show (modB ts fs && valB 2 n ⟨#[]⟩ fs.length r) = false by simp only [valB]; rw [hb']; simp]
        exact iOk_bool_no n r a1 a2 ts fs c1 c2 w hb'
    · rw [show (modB ts fs && valB 2 n s fs.length r) = false by simp [valB, he]]
      exact iOk_bool_ne n s r a1 a2 ts fs c1 c2 w he
  by_cases h3 : k = 3
  · subst h3
    by_cases hn : n = 0
    · subst hn
      by_cases hb : textB s = true
      · rw [show (modB ts fs && valB 3 0 s fs.length r) = modB ts fs by simp [valB, hb]]
        exact iOk_text_yes s r a1 a2 ts fs c1 c2 w hs hm hf hsz hb
      · have hb' : textB s = false := by simpa using hb
        rw [show (modB ts fs && valB 3 0 s fs.length r) = false by simp [valB, hb']]
        exact iOk_text_no s r a1 a2 ts fs c1 c2 w hsz hb'
    · rw [show (modB ts fs && valB 3 n s fs.length r) = false by simp [valB, hn]]
      exact iOk_text_nn n s r a1 a2 ts fs c1 c2 w hn
  by_cases h4 : k = 4
  · subst h4
    by_cases he : s = ⟨#[]⟩
    · subst he
      by_cases hb : (decide (0 ≤ n) && decide (n < r)) = true
      · rw [show (modB ts fs && valB 4 n ⟨#[]⟩ fs.length r) = modB ts fs by simp only [valB]; rw [hb]; simp]
        exact iOk_rec_yes n r a1 a2 ts fs c1 c2 w hs hm hf hb
      · have hb' : (decide (0 ≤ n) && decide (n < r)) = false := by simpa using hb
        rw [show (modB ts fs && valB 4 n ⟨#[]⟩ fs.length r) = false by simp only [valB]; rw [hb']; simp]
        exact iOk_rec_no n r a1 a2 ts fs c1 c2 w hb'
    · rw [show (modB ts fs && valB 4 n s fs.length r) = false by simp [valB, he]]
      exact iOk_rec_ne n s r a1 a2 ts fs c1 c2 w he
  by_cases h5 : k = 5
  · subst h5
    by_cases he : s = ⟨#[]⟩
    · subst he
      by_cases hb : (decide (0 ≤ n) && decide (n < (fs.length : Int))) = true
      · rw [show (modB ts fs && valB 5 n ⟨#[]⟩ fs.length r) = modB ts fs by simp only [valB]; rw [hb]; simp]
        exact iOk_fun_yes n r a1 a2 ts fs c1 c2 w hs hm hf hb
      · have hb' : (decide (0 ≤ n) && decide (n < (fs.length : Int))) = false := by simpa using hb
        rw [show (modB ts fs && valB 5 n ⟨#[]⟩ fs.length r) = false by simp only [valB]; rw [hb']; simp]
        exact iOk_fun_no n r a1 a2 ts fs c1 c2 w hb'
    · rw [show (modB ts fs && valB 5 n s fs.length r) = false by simp [valB, he]]
      exact iOk_fun_ne n s r a1 a2 ts fs c1 c2 w he
  rw [show (modB ts fs && valB k n s fs.length r) = false by simp [valB, h0, h1, h2, h3, h4, h5]]
  by_cases hn : n = 0
  · subst hn
    by_cases he : s = ⟨#[]⟩
    · subst he
      exact iOk_no_no k r a1 a2 ts fs c1 c2 w h0 h1 h2 h3 h4 h5
    · exact iOk_no_ne k s r a1 a2 ts fs c1 c2 w h0 h1 h2 h3 h4 h5 he
  · exact iOk_no_nn k n s r a1 a2 ts fs c1 c2 w h0 h1 h2 h3 h4 h5 hn
end Go.Proofs.Ytlpbolchedngoaa
