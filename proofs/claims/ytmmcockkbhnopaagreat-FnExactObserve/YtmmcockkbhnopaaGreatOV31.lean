/-
  Values: valueIn of the program, whole.
  Values: ValueOk of the document's model.
  Lists of values: impl.allIn and spec.l05Values tell whether all are ok.
  When a frame may stand where it does, on plain data; how a truth is told.
  What VmOk asks, on plain data; lists of texts, roomOk and valuesOk of the program.
-/
import Derived.Test.YtmmcockkbhnopaaGreatOV22
import Derived.Test.YtmmcockkbhnopaaGreatOV23
import Derived.Test.YtmmcockkbhnopaaGreatOV24
import Derived.Test.YtmmcockkbhnopaaGreatOV25
import Derived.Test.YtmmcockkbhnopaaGreatOV26
import Derived.Test.YtmmcockkbhnopaaGreatOV27
import Derived.Test.YtmmcockkbhnopaaGreatOV28
import Derived.Test.YtmmcockkbhnopaaGreatOV29
import Derived.Deep.RegionHeld3
import Derived.Test.YtmmcockkbhnopaaGreatOV19
import Derived.Test.YtmmcockkbhnopaaGreatOV30
namespace Go.Proofs.YtmmcockkbhnopaaGreat
open Go.RowKit

/-- Whether a value is as the document's table says. -/
def valB (k n : Int) (s : ByteArray) (nf : Nat) (r : Int) : Bool :=
  if k = 0 then decide (n = 0) && decide (s = ⟨#[]⟩) else if k = 1 then num n && decide (s = ⟨#[]⟩) else if k = 2 then (decide (n = 0) || decide (n = 1)) && decide (s = ⟨#[]⟩)
  else if k = 3 then decide (n = 0) && textB s else if k = 4 then (decide (0 ≤ n) && decide (n < r)) && decide (s = ⟨#[]⟩) else if k = 5 then (decide (0 ≤ n) && decide (n < (nf : Int))) && decide (s = ⟨#[]⟩) else false

theorem iIn_any (k n : Int) (s : ByteArray) (r : Int) (a1 a2 : Option Addr) (nt c1 nf c2 : Nat) (w : World) (hsz : s.size ≤ 1048576) :
    Calls Tryz.prog 108 #[.agg #[.slice a1 nt c1, .slice a2 nf c2], .agg #[.int .i64 k, .int .i64 n, .string s], .int .i64 r] w fun e w' => e = .returned (.bool (valB k n s nf r)) ∧ Below w.heap.size w w' := by
  by_cases h0 : k = 0
  · subst h0
    by_cases hn : n = 0
    · subst hn
      by_cases he : s = ⟨#[]⟩
      · subst he
        rw [show valB 0 0 ⟨#[]⟩ nf r = true by simp [valB]]
        exact iIn_nil_yes r a1 a2 nt c1 nf c2 w
      · rw [show valB 0 0 s nf r = false by simp [valB, he]]
        exact iIn_nil_ne s r a1 a2 nt c1 nf c2 w he
    · rw [show valB 0 n s nf r = false by simp [valB, hn]]
      exact iIn_nil_nn n s r a1 a2 nt c1 nf c2 w hn
  by_cases h1 : k = 1
  · subst h1
    by_cases he : s = ⟨#[]⟩
    · subst he
      by_cases hb : (num n) = true
      · rw [show valB 1 n ⟨#[]⟩ nf r = true by simp only [valB]; rw [hb]; simp]
        exact iIn_int_yes n r a1 a2 nt c1 nf c2 w hb
      · have hb' : (num n) = false := by simpa using hb
        rw [show valB 1 n ⟨#[]⟩ nf r = false by simp only [valB]; rw [hb']; simp]
        exact iIn_int_no n r a1 a2 nt c1 nf c2 w hb'
    · rw [show valB 1 n s nf r = false by simp [valB, he]]
      exact iIn_int_ne n s r a1 a2 nt c1 nf c2 w he
  by_cases h2 : k = 2
  · subst h2
    by_cases he : s = ⟨#[]⟩
    · subst he
      by_cases hb : (decide (n = 0) || decide (n = 1)) = true
      · rw [show valB 2 n ⟨#[]⟩ nf r = true by simp only [valB]; rw [hb]; simp]
        exact iIn_bool_yes n r a1 a2 nt c1 nf c2 w hb
      · have hb' : (decide (n = 0) || decide (n = 1)) = false := by simpa using hb
        rw [show valB 2 n ⟨#[]⟩ nf r = false by simp only [valB]; rw [hb']; simp]
        exact iIn_bool_no n r a1 a2 nt c1 nf c2 w hb'
    · rw [show valB 2 n s nf r = false by simp [valB, he]]
      exact iIn_bool_ne n s r a1 a2 nt c1 nf c2 w he
  by_cases h3 : k = 3
  · subst h3
    by_cases hn : n = 0
    · subst hn
      by_cases hb : textB s = true
      · rw [show valB 3 0 s nf r = true by simp [valB, hb]]
        exact iIn_text_yes s r a1 a2 nt c1 nf c2 w hsz hb
      · have hb' : textB s = false := by simpa using hb
        rw [show valB 3 0 s nf r = false by simp [valB, hb']]
        exact iIn_text_no s r a1 a2 nt c1 nf c2 w hsz hb'
    · rw [show valB 3 n s nf r = false by simp [valB, hn]]
      exact iIn_text_nn n s r a1 a2 nt c1 nf c2 w hn
  by_cases h4 : k = 4
  · subst h4
    by_cases he : s = ⟨#[]⟩
    · subst he
      by_cases hb : (decide (0 ≤ n) && decide (n < r)) = true
      · rw [show valB 4 n ⟨#[]⟩ nf r = true by simp only [valB]; rw [hb]; simp]
        exact iIn_rec_yes n r a1 a2 nt c1 nf c2 w hb
      · have hb' : (decide (0 ≤ n) && decide (n < r)) = false := by simpa using hb
        rw [show valB 4 n ⟨#[]⟩ nf r = false by simp only [valB]; rw [hb']; simp]
        exact iIn_rec_no n r a1 a2 nt c1 nf c2 w hb'
    · rw [show valB 4 n s nf r = false by simp [valB, he]]
      exact iIn_rec_ne n s r a1 a2 nt c1 nf c2 w he
  by_cases h5 : k = 5
  · subst h5
    by_cases he : s = ⟨#[]⟩
    · subst he
      by_cases hb : (decide (0 ≤ n) && decide (n < (nf : Int))) = true
      · rw [show valB 5 n ⟨#[]⟩ nf r = true by simp only [valB]; rw [hb]; simp]
        exact iIn_fun_yes n r a1 a2 nt c1 nf c2 w hb
      · have hb' : (decide (0 ≤ n) && decide (n < (nf : Int))) = false := by simpa using hb
        rw [show valB 5 n ⟨#[]⟩ nf r = false by simp only [valB]; rw [hb']; simp]
        exact iIn_fun_no n r a1 a2 nt c1 nf c2 w hb'
    · rw [show valB 5 n s nf r = false by simp [valB, he]]
      exact iIn_fun_ne n s r a1 a2 nt c1 nf c2 w he
  rw [show valB k n s nf r = false by simp [valB, h0, h1, h2, h3, h4, h5]]
  by_cases hn : n = 0
  · subst hn
    by_cases he : s = ⟨#[]⟩
    · subst he
      exact iIn_no_no k r a1 a2 nt c1 nf c2 w h0 h1 h2 h3 h4 h5
    · exact iIn_no_ne k s r a1 a2 nt c1 nf c2 w h0 h1 h2 h3 h4 h5 he
  · exact iIn_no_nn k n s r a1 a2 nt c1 nf c2 w h0 h1 h2 h3 h4 h5 hn
end Go.Proofs.YtmmcockkbhnopaaGreat

namespace Go.Proofs.YtmmcockkbhnopaaGreat
open Go.RowKit

set_option maxRecDepth 100000 in
set_option maxHeartbeats 2000000 in
theorem sOk_ne (k n : Int) (s : ByteArray) (r : Int) (a1 a2 : Option Addr) (nt c1 nf c2 : Nat) (w : World) (h3 : k ≠ 3) (hne : s ≠ ⟨#[]⟩) :
    Calls Tryz.prog 58 #[.agg #[.slice a1 nt c1, .slice a2 nf c2], .agg #[.int .i64 k, .int .i64 n, .string s], .int .i64 r] w fun e w' => e = .returned (.bool (false)) ∧ Below w.heap.size w w' := by
  have hA : ∀ x y, Below w.heap.size w ((w.alloc x).alloc y) := fun _ _ => ((Below.refl _ _).alloc (Nat.le_refl _) _).alloc (by simp) _
  have e1 := (not_empty hne).1
  have e2 := (not_empty hne).2
  have e3 : (s.toList != ([] : List UInt8)) = true := by simp [bne, e2]
  have b3 : (k != 3) = true := by simpa using h3
  clear hne h3
  go_enter Tryz.func58, Tryz.ntmps58
  go_wp2
  go_ret
  exact ⟨rfl, hA _ _⟩

set_option maxRecDepth 100000 in
set_option maxHeartbeats 2000000 in
theorem sOk_nil (n : Int) (r : Int) (a1 a2 : Option Addr) (nt c1 nf c2 : Nat) (w : World) :
    Calls Tryz.prog 58 #[.agg #[.slice a1 nt c1, .slice a2 nf c2], .agg #[.int .i64 0, .int .i64 n, .string ⟨#[]⟩], .int .i64 r] w fun e w' => e = .returned (.bool (decide (n = 0))) ∧ Below w.heap.size w w' := by
  have hA : ∀ x y, Below w.heap.size w ((w.alloc x).alloc y) := fun _ _ => ((Below.refl _ _).alloc (Nat.le_refl _) _).alloc (by simp) _
  go_enter Tryz.func58, Tryz.ntmps58
  go_wp2
  go_ret
  exact ⟨ret_bool (by rw [Bool.eq_iff_iff]; simp), hA _ _⟩

set_option maxRecDepth 100000 in
set_option maxHeartbeats 2000000 in
theorem sOk_int (n : Int) (r : Int) (a1 a2 : Option Addr) (nt c1 nf c2 : Nat) (w : World) :
    Calls Tryz.prog 58 #[.agg #[.slice a1 nt c1, .slice a2 nf c2], .agg #[.int .i64 1, .int .i64 n, .string ⟨#[]⟩], .int .i64 r] w fun e w' => e = .returned (.bool (num n)) ∧ Below w.heap.size w w' := by
  have hA : ∀ x y, Below w.heap.size w ((w.alloc x).alloc y) := fun _ _ => ((Below.refl _ _).alloc (Nat.le_refl _) _).alloc (by simp) _
  go_enter Tryz.func58, Tryz.ntmps58
  go_wp2_with fail
  refine (sNum_any _ _).mono ?_
  rintro e w1 ⟨rfl, rfl⟩
  go_wp2
  go_ret
  exact ⟨rfl, hA _ _⟩

set_option maxRecDepth 100000 in
set_option maxHeartbeats 2000000 in
theorem sOk_bool (n : Int) (r : Int) (a1 a2 : Option Addr) (nt c1 nf c2 : Nat) (w : World) :
    Calls Tryz.prog 58 #[.agg #[.slice a1 nt c1, .slice a2 nf c2], .agg #[.int .i64 2, .int .i64 n, .string ⟨#[]⟩], .int .i64 r] w fun e w' => e = .returned (.bool (decide (n = 0) || decide (n = 1))) ∧ Below w.heap.size w w' := by
  have hA : ∀ x y, Below w.heap.size w ((w.alloc x).alloc y) := fun _ _ => ((Below.refl _ _).alloc (Nat.le_refl _) _).alloc (by simp) _
  go_enter Tryz.func58, Tryz.ntmps58
  go_wp2_with fail
  refine (between_any _ _ _ _).mono ?_
  rintro e w1 ⟨rfl, rfl⟩
  go_wp2
  go_ret
  exact ⟨ret_bool (by rw [Bool.eq_iff_iff]; simp; omega), hA _ _⟩

set_option maxRecDepth 100000 in
set_option maxHeartbeats 2000000 in
theorem sOk_text0 (s : ByteArray) (r : Int) (a1 a2 : Option Addr) (nt c1 nf c2 : Nat) (w : World) (hsz : s.size ≤ 1048576) :
    Calls Tryz.prog 58 #[.agg #[.slice a1 nt c1, .slice a2 nf c2], .agg #[.int .i64 3, .int .i64 0, .string s], .int .i64 r] w fun e w' => e = .returned (.bool (textB s)) ∧ Below w.heap.size w w' := by
  have hA : ∀ x y, Below w.heap.size w ((w.alloc x).alloc y) := fun _ _ => ((Below.refl _ _).alloc (Nat.le_refl _) _).alloc (by simp) _
  go_enter Tryz.func58, Tryz.ntmps58
  go_wp2_with fail
  refine (l01Text_any _ _ hsz).mono ?_
  rintro e w1 ⟨rfl, rfl⟩
  go_wp2
  go_ret
  exact ⟨rfl, hA _ _⟩

set_option maxRecDepth 100000 in
set_option maxHeartbeats 2000000 in
theorem sOk_textn (n : Int) (s : ByteArray) (r : Int) (a1 a2 : Option Addr) (nt c1 nf c2 : Nat) (w : World) (hn : n ≠ 0) :
    Calls Tryz.prog 58 #[.agg #[.slice a1 nt c1, .slice a2 nf c2], .agg #[.int .i64 3, .int .i64 n, .string s], .int .i64 r] w fun e w' => e = .returned (.bool (false)) ∧ Below w.heap.size w w' := by
  have hA : ∀ x y, Below w.heap.size w ((w.alloc x).alloc y) := fun _ _ => ((Below.refl _ _).alloc (Nat.le_refl _) _).alloc (by simp) _
  have b0 : (n == 0) = false := by simpa using hn
  clear hn
  go_enter Tryz.func58, Tryz.ntmps58
  go_wp2
  go_ret
  exact ⟨rfl, hA _ _⟩

set_option maxRecDepth 100000 in
set_option maxHeartbeats 2000000 in
theorem sOk_rec (n : Int) (r : Int) (a1 a2 : Option Addr) (nt c1 nf c2 : Nat) (w : World) :
    Calls Tryz.prog 58 #[.agg #[.slice a1 nt c1, .slice a2 nf c2], .agg #[.int .i64 4, .int .i64 n, .string ⟨#[]⟩], .int .i64 r] w fun e w' => e = .returned (.bool (decide (0 ≤ n) && decide (n < r))) ∧ Below w.heap.size w w' := by
  have hA : ∀ x y, Below w.heap.size w ((w.alloc x).alloc y) := fun _ _ => ((Below.refl _ _).alloc (Nat.le_refl _) _).alloc (by simp) _
  by_cases h1 : 0 ≤ n
  · by_cases h2 : n < r
    all_goals
      go_enter Tryz.func58, Tryz.ntmps58
      go_wp2
      go_ret
      exact ⟨ret_bool (by rw [Bool.eq_iff_iff]; simp; omega), hA _ _⟩
  ·
    go_enter Tryz.func58, Tryz.ntmps58
    go_wp2
    go_ret
    exact ⟨ret_bool (by rw [Bool.eq_iff_iff]; simp; omega), hA _ _⟩

set_option maxRecDepth 100000 in
set_option maxHeartbeats 2000000 in
theorem sOk_fun (n : Int) (r : Int) (a1 a2 : Option Addr) (nt c1 nf c2 : Nat) (w : World) (hnf : nf ≤ 1048576) :
    Calls Tryz.prog 58 #[.agg #[.slice a1 nt c1, .slice a2 nf c2], .agg #[.int .i64 5, .int .i64 n, .string ⟨#[]⟩], .int .i64 r] w fun e w' => e = .returned (.bool (decide (0 ≤ n) && decide (n < (nf : Int)))) ∧ Below w.heap.size w w' := by
  have hA : ∀ x y, Below w.heap.size w ((w.alloc x).alloc y) := fun _ _ => ((Below.refl _ _).alloc (Nat.le_refl _) _).alloc (by simp) _
  go_enter Tryz.func58, Tryz.ntmps58
  go_wp2_with fail
  refine (between_any _ _ _ _).mono ?_
  rintro e w1 ⟨rfl, rfl⟩
  go_wp2
  go_ret
  exact ⟨ret_bool (by rw [Bool.eq_iff_iff]; simp; omega), hA _ _⟩

set_option maxRecDepth 100000 in
set_option maxHeartbeats 2000000 in
theorem sOk_no (k n : Int) (r : Int) (a1 a2 : Option Addr) (nt c1 nf c2 : Nat) (w : World) (h0 : k ≠ 0) (h1 : k ≠ 1) (h2 : k ≠ 2) (h3 : k ≠ 3) (h4 : k ≠ 4) (h5 : k ≠ 5) :
    Calls Tryz.prog 58 #[.agg #[.slice a1 nt c1, .slice a2 nf c2], .agg #[.int .i64 k, .int .i64 n, .string ⟨#[]⟩], .int .i64 r] w fun e w' => e = .returned (.bool (false)) ∧ Below w.heap.size w w' := by
  have hA : ∀ x y, Below w.heap.size w ((w.alloc x).alloc y) := fun _ _ => ((Below.refl _ _).alloc (Nat.le_refl _) _).alloc (by simp) _
  have b0 : (k == 0) = false := by simpa using h0
  have b1 : (k == 1) = false := by simpa using h1
  have b2 : (k == 2) = false := by simpa using h2
  have b3 : (k == 3) = false := by simpa using h3
  have c3 : (k != 3) = true := by simpa using h3
  have b4 : (k == 4) = false := by simpa using h4
  have b5 : (k == 5) = false := by simpa using h5
  clear h0 h1 h2 h3 h4 h5
  go_enter Tryz.func58, Tryz.ntmps58
  go_wp2
  go_ret
  exact ⟨rfl, hA _ _⟩

theorem sOk_any (k n : Int) (s : ByteArray) (r : Int) (a1 a2 : Option Addr) (nt c1 nf c2 : Nat) (w : World) (hnf : nf ≤ 1048576) (hsz : s.size ≤ 1048576) :
    Calls Tryz.prog 58 #[.agg #[.slice a1 nt c1, .slice a2 nf c2], .agg #[.int .i64 k, .int .i64 n, .string s], .int .i64 r] w fun e w' => e = .returned (.bool (valB k n s nf r)) ∧ Below w.heap.size w w' := by
  by_cases h3 : k = 3
  · subst h3
    by_cases hn : n = 0
    · subst hn
      rw [show valB 3 0 s nf r = textB s by simp [valB]]
      exact sOk_text0 s r a1 a2 nt c1 nf c2 w hsz
    · rw [show valB 3 n s nf r = false by simp [valB, hn]]
      exact sOk_textn n s r a1 a2 nt c1 nf c2 w hn
  by_cases he : s = ⟨#[]⟩
  · subst he
    by_cases h0 : k = 0
    · subst h0
      rw [show valB 0 n ⟨#[]⟩ nf r = decide (n = 0) by simp [valB]]
      exact sOk_nil n r a1 a2 nt c1 nf c2 w
    by_cases h1 : k = 1
    · subst h1
      rw [show valB 1 n ⟨#[]⟩ nf r = num n by simp [valB]]
      exact sOk_int n r a1 a2 nt c1 nf c2 w
    by_cases h2 : k = 2
    · subst h2
      rw [show valB 2 n ⟨#[]⟩ nf r = (decide (n = 0) || decide (n = 1)) by simp [valB]]
      exact sOk_bool n r a1 a2 nt c1 nf c2 w
    by_cases h4 : k = 4
    · subst h4
      rw [show valB 4 n ⟨#[]⟩ nf r = (decide (0 ≤ n) && decide (n < r)) by simp [valB]]
      exact sOk_rec n r a1 a2 nt c1 nf c2 w
    by_cases h5 : k = 5
    · subst h5
      rw [show valB 5 n ⟨#[]⟩ nf r = (decide (0 ≤ n) && decide (n < (nf : Int))) by simp [valB]]
      exact sOk_fun n r a1 a2 nt c1 nf c2 w hnf
    · rw [show valB k n ⟨#[]⟩ nf r = false by simp [valB, h0, h1, h2, h3, h4, h5]]
      exact sOk_no k n r a1 a2 nt c1 nf c2 w h0 h1 h2 h3 h4 h5
  · rw [show valB k n s nf r = false by simp [valB, he, h3]]
    exact sOk_ne k n s r a1 a2 nt c1 nf c2 w h3 he

end Go.Proofs.YtmmcockkbhnopaaGreat

namespace Go.Proofs.YtmmcockkbhnopaaGreat
open Go.RowKit

def okB (nf : Nat) (r : Int) (v : Vl) : Bool := valB v.k v.n v.s nf r
def valsB (vs : List Vl) (nf : Nat) (r : Int) : Bool := vs.all (okB nf r)

set_option maxRecDepth 100000 in
set_option maxHeartbeats 1000000 in
theorem lit_any (k n : Int) (s : ByteArray) (r : Int) (a1 a2 : Option Addr) (nt c1 nf c2 Mb Rb : Nat) (w : World) (hM : w.heap[Mb]? = some (.cells #[.slice a1 nt c1, .slice a2 nf c2] 40 (0, 0))) (hR : w.heap[Rb]? = some (.cells #[.int .i64 r] 3 (0, 0))) (hsz : s.size ≤ 1048576) :
    Calls Tryz.prog 132 #[.agg #[.int .i64 k, .int .i64 n, .string s], .pointer (some ⟨Mb, 0, none⟩), .pointer (some ⟨Rb, 0, none⟩)] w fun e w' => e = .returned (.bool (!valB k n s nf r)) ∧ Below w.heap.size w w' := by
  have hbA : Below w.heap.size w (w.alloc (.cells #[.int .i64 k, .int .i64 n, .string s] 45)) := (Below.refl _ _).alloc (Nat.le_refl _) _
  have x1 := block_cell (block_old hM (.cells #[.int .i64 k, .int .i64 n, .string s] 45))
  have x2 := block_cell (block_old hR (.cells #[.int .i64 k, .int .i64 n, .string s] 45))
  go_enter Tryz.func132, Tryz.ntmps132
  go_wp2_with fail
  refine (iIn_any _ _ _ _ _ _ _ _ _ _ _ hsz).mono ?_
  rintro e w1 ⟨rfl, hb⟩
  clear x1 x2
  go_wp2
  go_ret
  exact ⟨rfl, hbA.trans (hb.mono hbA.size)⟩

/-- What IndexFunc is to answer: a number that is at least 0 just where not all are ok. -/
def IxPost (b : Bool) (e : Ending) : Prop := ∃ i : Int, e = .returned (.int .i64 i) ∧ (0 ≤ i ↔ b = false)

set_option maxRecDepth 100000 in
set_option maxHeartbeats 1000000 in
theorem firstBad_any (a : Option Addr) (vs : List Vl) (cap : Nat) (r : Int) (a1 a2 : Option Addr) (nt c1 nf c2 Mb Rb : Nat) (w : World) (hM : w.heap[Mb]? = some (.cells #[.slice a1 nt c1, .slice a2 nf c2] 40 (0, 0))) (hR : w.heap[Rb]? = some (.cells #[.int .i64 r] 3 (0, 0))) (hs : ValsSmall vs) (hm : ValsAt w 0 a vs) :
    Calls Tryz.prog 144 #[.slice a vs.length cap, .func (.func 132) #[] #[.pointer (some ⟨Mb, 0, none⟩), .pointer (some ⟨Rb, 0, none⟩)]] w fun e w' => IxPost (valsB vs nf r) e ∧ Below w.heap.size w w' := by
  obtain ⟨hn, hc⟩ := hs
  go_enter Tryz.func144, Tryz.ntmps144
  go_wp2
  go_loopw [8] (fun i wr => ∃ (k : Nat), k ≤ vs.length ∧ i = .int .i64 k ∧ Hid ((vs.take k).all (okB nf r) = true) ∧ Below w.heap.size w wr) (fun i _ => vs.length - (intOf i).toNat)
  case atStart => exact ⟨0, by omega, rfl, rfl, Below.refl _ _⟩
  case round =>
    obtain ⟨k, hk, rfl, hall, hb⟩ := hrel
    by_cases hlt : k < vs.length
    · obtain ⟨b, off, rfl, -, d1, d2, d3⟩ := hm k hlt
      have d1' := cell_later hb d1
      have d2' := cell_later hb d2
      have d3' := cell_later hb d3
      clear d1 d2 d3
      have hck := hc vs[k] (List.getElem_mem hlt)
      have hMk := block_kept hM hb
      have hRk := block_kept hR hb
      go_wp2_with fail
      refine (lit_any _ _ _ r a1 a2 nt c1 nf c2 Mb Rb _ hMk hRk hck).mono ?_
      rintro e w1 ⟨rfl, hb1⟩
      have hB := hb.trans (hb1.mono hb.size)
      clear d1' d2' d3' hMk hRk hb1
      by_cases ho : valB vs[k].k vs[k].n vs[k].s nf r = true
      · have HO : Hid (valB vs[k].k vs[k].n vs[k].s nf r = true) := ho
        go_wp2
        go_roundw
        case rel => exact ⟨k + 1, by omega, by go_num, all_take hlt hall.out HO.out, hB⟩
        case measure => simp [intOf]; omega
      · have ho' : valB vs[k].k vs[k].n vs[k].s nf r = false := by simpa using ho
        have HO : Hid (valB vs[k].k vs[k].n vs[k].s nf r = false) := ho'
        clear ho
        go_wp2
        go_ret
        exact ⟨⟨(k : Int), rfl, by rw [show valsB vs nf r = false from all_no hlt HO.out]; simp⟩, hB⟩
    · go_wp2
      go_ret
      exact ⟨⟨-1, rfl, by rw [show valsB vs nf r = true from all_end (by omega) hall.out]; simp⟩, hb⟩

set_option maxRecDepth 100000 in
set_option maxHeartbeats 1000000 in
theorem hasBad_any (a : Option Addr) (vs : List Vl) (cap : Nat) (r : Int) (a1 a2 : Option Addr) (nt c1 nf c2 Mb Rb : Nat) (w : World) (hM : w.heap[Mb]? = some (.cells #[.slice a1 nt c1, .slice a2 nf c2] 40 (0, 0))) (hR : w.heap[Rb]? = some (.cells #[.int .i64 r] 3 (0, 0))) (hs : ValsSmall vs) (hm : ValsAt w 0 a vs) :
    Calls Tryz.prog 131 #[.slice a vs.length cap, .func (.func 132) #[] #[.pointer (some ⟨Mb, 0, none⟩), .pointer (some ⟨Rb, 0, none⟩)]] w fun e w' => e = .returned (.bool (!valsB vs nf r)) ∧ Below w.heap.size w w' := by
  go_enter Tryz.func131, Tryz.ntmps131
  go_wp2_with fail
  refine (firstBad_any a vs cap r a1 a2 nt c1 nf c2 Mb Rb _ hM hR hs hm).mono ?_
  rintro e w1 ⟨⟨i, rfl, hi⟩, hb⟩
  have HI : Hid (0 ≤ i ↔ valsB vs nf r = false) := hi
  clear hi
  go_wp2
  go_ret
  exact ⟨ret_bool (by rw [Bool.eq_iff_iff]; simpa using HI.out), hb⟩

set_option maxRecDepth 100000 in
set_option maxHeartbeats 1000000 in
theorem allIn_any (a : Option Addr) (vs : List Vl) (cap : Nat) (r : Int) (a1 a2 : Option Addr) (nt c1 nf c2 : Nat) (w : World) (hs : ValsSmall vs) (hm : ValsAt w 0 a vs) :
    Calls Tryz.prog 107 #[.agg #[.slice a1 nt c1, .slice a2 nf c2], .slice a vs.length cap, .int .i64 r] w fun e w' => e = .returned (.bool (valsB vs nf r)) ∧ Below w.heap.size w w' := by
  have hmf : ∀ (fn : Go.Fn) (first cap : Array Value) (w : World), (Instr.makeFunc fn first cap).run Tryz.prog w = .ok (.func fn first cap) w := fun _ _ _ _ => rfl
  have hbA : Below w.heap.size w ((w.alloc (.cells #[.slice a1 nt c1, .slice a2 nf c2] 40)).alloc (.cells #[.int .i64 r] 3)) := ((Below.refl _ _).alloc (Nat.le_refl _) _).alloc (by simp) _
  have hM := block_old (block_new w #[.slice a1 nt c1, .slice a2 nf c2] 40) (.cells #[.int .i64 r] 3)
  have hR := block_new (w.alloc (.cells #[.slice a1 nt c1, .slice a2 nf c2] 40)) #[.int .i64 r] 3
  simp only [World.size_alloc] at hR
  go_enter Tryz.func107, Tryz.ntmps107
  go_wp2_with fail
  refine (hasBad_any a vs cap r a1 a2 nt c1 nf c2 _ _ _ hM hR hs (hm.mono hbA)).mono ?_
  rintro e w1 ⟨rfl, hb⟩
  go_wp2
  go_ret
  exact ⟨ret_bool (by simp), hbA.trans (hb.mono hbA.size)⟩

set_option maxRecDepth 100000 in
set_option maxHeartbeats 2000000 in
theorem sValues_any (a : Option Addr) (vs : List Vl) (cap : Nat) (r : Int) (a1 a2 : Option Addr) (nt c1 nf c2 : Nat) (w : World) (hnf : nf ≤ 1048576) (hs : ValsSmall vs) (hm : ValsAt w 0 a vs) :
    Calls Tryz.prog 59 #[.agg #[.slice a1 nt c1, .slice a2 nf c2], .slice a vs.length cap, .int .i64 r] w fun e w' => e = .returned (.bool (valsB vs nf r)) ∧ Below w.heap.size w w' := by
  obtain ⟨hn, hc⟩ := hs
  have hbA : Below w.heap.size w (w.alloc (.cells #[.slice a1 nt c1, .slice a2 nf c2] 40)) := (Below.refl _ _).alloc (Nat.le_refl _) _
  have hM0 := block_new w #[.slice a1 nt c1, .slice a2 nf c2] 40
  go_enter Tryz.func59, Tryz.ntmps59
  go_wp2
  go_loopw [7] (fun i wr => ∃ (k : Nat), k ≤ vs.length ∧ i = .int .i64 k ∧ Hid ((vs.take k).all (okB nf r) = true) ∧ wr.heap[w.heap.size]? = some (.cells #[.slice a1 nt c1, .slice a2 nf c2] 40 (0, 0)) ∧ Below w.heap.size w wr) (fun i _ => vs.length - (intOf i).toNat)
  case atStart => exact ⟨0, by omega, rfl, rfl, hM0, hbA⟩
  case round =>
    obtain ⟨k, hk, rfl, hall, hM, hb⟩ := hrel
    clear hM0 hbA
    by_cases hlt : k < vs.length
    · obtain ⟨b, off, rfl, -, d1, d2, d3⟩ := hm k hlt
      have hck := hc vs[k] (List.getElem_mem hlt)
      have d1' := cell_later hb d1
      have d2' := cell_later hb d2
      have d3' := cell_later hb d3
      clear d1 d2 d3
      have hS : ∀ w', Below wr.heap.size wr w' → w'.cell? ⟨w.heap.size, 0, none⟩ = some (.slice a1 nt c1) ∧ w'.cell? ⟨w.heap.size, 1, none⟩ = some (.slice a2 nf c2) ∧ w'.cell? ⟨b, off + k * 3, none⟩ = some (.int .i64 vs[k].k) ∧ w'.cell? ⟨b, off + k * 3 + 1, none⟩ = some (.int .i64 vs[k].n) ∧ w'.cell? ⟨b, off + k * 3 + 2, none⟩ = some (.string vs[k].s) := fun w' hb =>
        ⟨by rw [block_cell (block_kept hM hb)]; rfl, by rw [block_cell (block_kept hM hb)]; rfl, cell_later hb d1', cell_later hb d2', cell_later hb d3'⟩
      have HS : Hid (∀ w', Below wr.heap.size wr w' → w'.cell? ⟨w.heap.size, 0, none⟩ = some (.slice a1 nt c1) ∧ w'.cell? ⟨w.heap.size, 1, none⟩ = some (.slice a2 nf c2) ∧ w'.cell? ⟨b, off + k * 3, none⟩ = some (.int .i64 vs[k].k) ∧ w'.cell? ⟨b, off + k * 3 + 1, none⟩ = some (.int .i64 vs[k].n) ∧ w'.cell? ⟨b, off + k * 3 + 2, none⟩ = some (.string vs[k].s)) := hS
      obtain ⟨j0, j1, j2, j3, j4⟩ := hS wr (Below.refl _ _)
      have q : Below wr.heap.size wr wr.drew := (Below.refl _ _).drew
      have HB : Hid (Below w.heap.size w wr) := hb
      have HM : Hid (wr.heap[w.heap.size]? = some (.cells #[.slice a1 nt c1, .slice a2 nf c2] 40 (0, 0))) := hM
      clear hS hb hM d1' d2' d3'
      by_cases ho : valB vs[k].k vs[k].n vs[k].s nf r = true
      · have HO : Hid (valB vs[k].k vs[k].n vs[k].s nf r = true) := ho
        have hob : (!valB vs[k].k vs[k].n vs[k].s nf r) = false := by rw [ho]; rfl
        go_wp2
        go_region_held3 (fun w' => w'.cell? ⟨w.heap.size, 0, none⟩ = some (.slice a1 nt c1) ∧ w'.cell? ⟨w.heap.size, 1, none⟩ = some (.slice a2 nf c2) ∧ w'.cell? ⟨b, off + k * 3, none⟩ = some (.int .i64 vs[k].k) ∧ w'.cell? ⟨b, off + k * 3 + 1, none⟩ = some (.int .i64 vs[k].n) ∧ w'.cell? ⟨b, off + k * 3 + 2, none⟩ = some (.string vs[k].s))
          (first | exact ⟨j0, j1, j2, j3, j4⟩ | exact HS.out _ q)
          (first
            | (go_at_call 58; refine (sOk_any _ _ _ _ _ _ _ _ _ _ _ hnf hck).mono ?_; rintro e w5 ⟨rfl, kd⟩; have q := q.trans (kd.mono q.size)))
        have hM5 := block_kept HM.out q
        have hB5 := HB.out.trans (q.mono HB.out.size)
        clear HM HB HS j0 j1 j2 j3 j4 q kd
        go_wp2
        go_roundw
        case rel => exact ⟨k + 1, by omega, by go_num, all_take hlt hall.out HO.out, hM5, hB5⟩
        case measure => simp [intOf]; omega
      · have ho' : valB vs[k].k vs[k].n vs[k].s nf r = false := by simpa using ho
        have HO : Hid (valB vs[k].k vs[k].n vs[k].s nf r = false) := ho'
        have hob : (!valB vs[k].k vs[k].n vs[k].s nf r) = true := by rw [ho']; rfl
        clear ho
        go_wp2
        go_region_held3 (fun w' => w'.cell? ⟨w.heap.size, 0, none⟩ = some (.slice a1 nt c1) ∧ w'.cell? ⟨w.heap.size, 1, none⟩ = some (.slice a2 nf c2) ∧ w'.cell? ⟨b, off + k * 3, none⟩ = some (.int .i64 vs[k].k) ∧ w'.cell? ⟨b, off + k * 3 + 1, none⟩ = some (.int .i64 vs[k].n) ∧ w'.cell? ⟨b, off + k * 3 + 2, none⟩ = some (.string vs[k].s))
          (first | exact ⟨j0, j1, j2, j3, j4⟩ | exact HS.out _ q)
          (first
            | (go_at_call 58; refine (sOk_any _ _ _ _ _ _ _ _ _ _ _ hnf hck).mono ?_; rintro e w5 ⟨rfl, kd⟩; have q := q.trans (kd.mono q.size)))
        have hM5 := block_kept HM.out q
        have hB5 := HB.out.trans (q.mono HB.out.size)
        clear HM HB HS j0 j1 j2 j3 j4 q kd
        go_wp2
        go_ret
        exact ⟨ret_bool (show valsB vs nf r = false from all_no hlt HO.out).symm, hB5⟩
    · go_wp2
      go_ret
      exact ⟨ret_bool (show valsB vs nf r = true from all_end (by omega) hall.out).symm, hb⟩
end Go.Proofs.YtmmcockkbhnopaaGreat

namespace Go.Proofs.YtmmcockkbhnopaaGreat
open Go.RowKit

open Classical in
/-- The heights of a function: those that rounds come to. -/
noncomputable def dep (fs : List Fn) (code : List (Int × Int)) : List Int := if h : ∃ d, Done fs code d then h.choose else []
theorem dep_of {fs : List Fn} {code : List (Int × Int)} {d : List Int} (h : Done fs code d) : dep fs code = d := by
  have hx : ∃ d, Done fs code d := ⟨d, h⟩
  unfold dep
  rw [dif_pos hx]
  exact hx.choose_spec.one h

def fnAt (fs : List Fn) (f : Int) : Fn := fs.getD f.toNat ⟨0, 0, []⟩
theorem fnAt_of {fs : List Fn} {i : Nat} (h : i < fs.length) : fnAt fs (i : Int) = fs[i] := by
  unfold fnAt
  rw [Int.toNat_natCast, List.getD_eq_getElem?_getD, List.getElem?_eq_getElem h]
  rfl
noncomputable def ht (fs : List Fn) (f pc : Int) : Int := (dep fs (fnAt fs f).code).getD pc.toNat (-1)
def opAt (fs : List Fn) (f pc : Int) : Int := ((fnAt fs f).code.getD pc.toNat (0, 0)).1
theorem ht_of {fs : List Fn} {i p : Nat} (h : i < fs.length) {d : List Int} (hD : Done fs fs[i].code d) (hp : p < d.length) : ht fs (i : Int) (p : Int) = d[p] := by
  unfold ht
  rw [fnAt_of h, dep_of hD, Int.toNat_natCast, List.getD_eq_getElem?_getD, List.getElem?_eq_getElem hp]
  rfl
theorem opAt_of {fs : List Fn} {i p : Nat} (h : i < fs.length) (hp : p < fs[i].code.length) : opAt fs (i : Int) (p : Int) = fs[i].code[p].1 := by
  unfold opAt
  rw [fnAt_of h, Int.toNat_natCast, List.getD_eq_getElem?_getD, List.getElem?_eq_getElem hp]
  rfl

/-- A frame of function f at pc with nl locals and a stack of ns values may stand. -/
def Fits (fs : List Fn) (f pc nl ns : Int) (last : Bool) : Prop := 0 ≤ f ∧ f < (fs.length : Int) ∧ nl = (fnAt fs f).locals ∧ 0 ≤ pc ∧ pc < ((fnAt fs f).code.length : Int) ∧ 0 ≤ ht fs f pc ∧
  ((last = true ∧ ns = ht fs f pc) ∨ (last = false ∧ 1 ≤ pc ∧ 0 ≤ ht fs f (pc - 1) ∧ (opAt fs f (pc - 1) = 23 ∨ opAt fs f (pc - 1) = 24) ∧ ns = ht fs f pc - 1))

/-- A truth is told. -/
def Says (P : Prop) (e : Ending) : Prop := ∃ b : Bool, e = .returned (.bool b) ∧ (b = true ↔ P)
theorem Says.no {P : Prop} {e : Ending} (he : e = .returned (.bool false)) (h : ¬ P) : Says P e := ⟨false, he, by simpa using h⟩
theorem Says.yes {P : Prop} {e : Ending} (he : e = .returned (.bool true)) (h : P) : Says P e := ⟨true, he, by simpa using h⟩

section
variable {fs : List Fn} {i p : Nat} {nl ns : Int} {last : Bool} {d : List Int}
theorem fits_fn {f pc : Int} (h : f < 0 ∨ (fs.length : Int) ≤ f) : ¬ Fits fs f pc nl ns last := fun ⟨h1, h2, _⟩ => by omega
theorem fits_locals {pc : Int} (hi : i < fs.length) (h : nl ≠ fs[i].locals) : ¬ Fits fs i pc nl ns last := fun ⟨_, _, h3, _⟩ => by rw [fnAt_of hi] at h3; exact h h3
theorem fits_pc {pc : Int} (hi : i < fs.length) (h : pc < 0 ∨ (fs[i].code.length : Int) ≤ pc) : ¬ Fits fs i pc nl ns last := fun ⟨_, _, _, h4, h5, _⟩ => by rw [fnAt_of hi] at h5; omega
theorem fits_none (hi : i < fs.length) (hD : Done fs fs[i].code d) (hp : p < d.length) (h : d[p] < 0) : ¬ Fits fs i p nl ns last := fun ⟨_, _, _, _, _, h6, _⟩ => by rw [ht_of hi hD hp] at h6; omega
theorem fits_last (hi : i < fs.length) (hD : Done fs fs[i].code d) (hp : p < d.length) (hl : d.length = fs[i].code.length) (hn : nl = fs[i].locals) (h : 0 ≤ d[p]) : Fits fs i p nl ns true ↔ ns = d[p] := by
  unfold Fits
  rw [ht_of hi hD hp, fnAt_of hi]
  constructor
  · rintro ⟨-, -, -, -, -, -, ⟨-, h⟩ | ⟨h, -⟩⟩
    · exact h
    · cases h
  · intro e
    exact ⟨by omega, by omega, hn, by omega, by omega, h, .inl ⟨rfl, e⟩⟩
theorem fits_first : ¬ Fits fs i ((0 : Nat) : Int) nl ns false := by
  rintro ⟨-, -, -, -, -, -, ⟨h, -⟩ | ⟨-, h, -⟩⟩
  · cases h
  · omega
theorem fits_other (hi : i < fs.length) (hD : Done fs fs[i].code d) (hp : p + 1 < d.length) (hl : d.length = fs[i].code.length) (hn : nl = fs[i].locals) (h : 0 ≤ d[p + 1]) :
    Fits fs i ((p + 1 : Nat) : Int) nl ns false ↔ (0 ≤ d[p] ∧ (fs[i].code[p].1 = 23 ∨ fs[i].code[p].1 = 24) ∧ ns = d[p + 1] - 1) := by
  unfold Fits
  rw [ht_of hi hD hp, show ((p + 1 : Nat) : Int) - 1 = (p : Int) by omega, ht_of hi hD (by omega), opAt_of hi (by omega), fnAt_of hi]
  constructor
  · rintro ⟨-, -, -, -, -, -, ⟨h, -⟩ | ⟨-, -, h1, h2, h3⟩⟩
    · cases h
    · exact ⟨h1, h2, h3⟩
  · rintro ⟨h1, h2, h3⟩
    exact ⟨by omega, by omega, hn, by omega, by omega, h, .inr ⟨rfl, by omega, h1, h2, h3⟩⟩
end
end Go.Proofs.YtmmcockkbhnopaaGreat
namespace Go.Proofs.YtmmcockkbhnopaaGreat
open Go.RowKit

def fewB (r : List Vl) : Bool := decide (r.length ≤ 6)
def Room (d : VmD) : Prop := (d.heap.length : Int) ≤ d.made ∧ d.made ≤ 120 ∧ d.heap.all fewB = true ∧ d.out.length ≤ 200 ∧ 0 ≤ d.steps ∧ d.steps ≤ 50000 ∧ d.out.all textB = true
def frVals (nf : Nat) (r : Int) (f : Fr) : Bool := valsB f.locals nf r && valsB f.stack nf r
def reVals (nf : Nat) (r : Int) (l : List Vl) : Bool := valsB l nf r
def Vals (nf : Nat) (d : VmD) : Prop := d.frames.all (frVals nf d.heap.length) = true ∧ d.heap.all (reVals nf d.heap.length) = true ∧ okB nf d.heap.length d.value = true
def Frames (fs : List Fn) (d : VmD) : Prop := (d.status = 1 ∧ d.frames.length = 0 ∧ d.trap = 0) ∨
  (((d.status = 0 ∧ d.trap = 0) ∨ (d.status = 2 ∧ 1 ≤ d.trap ∧ d.trap ≤ 8)) ∧ 1 ≤ d.frames.length ∧ d.frames.length ≤ 24 ∧ (d.value.k = 0 ∧ d.value.n = 0 ∧ d.value.s = ⟨#[]⟩) ∧
    ∀ i (h : i < d.frames.length), Fits fs d.frames[i].fn d.frames[i].pc d.frames[i].locals.length d.frames[i].stack.length (decide ((i : Int) = (d.frames.length : Int) - 1)))

set_option maxRecDepth 100000 in
set_option maxHeartbeats 1000000 in
theorem litT_any (s : ByteArray) (w : World) (hs : s.size ≤ 1048576) :
    Calls Tryz.prog 102 #[.string s] w fun e w' => e = .returned (.bool (!textB s)) ∧ w' = w := by
  go_enter Tryz.func102, Tryz.ntmps102
  go_wp2_with fail
  refine (textOk_any s _ hs).mono ?_
  rintro e w1 ⟨rfl, hw⟩
  rw [hw]
  go_wp2
  go_ret
  exact ⟨rfl, rfl⟩

set_option maxRecDepth 100000 in
set_option maxHeartbeats 1000000 in
theorem firstBadT_any (a : Option Addr) (ss : List ByteArray) (cap : Nat) (w : World) (hn : ss.length ≤ 1048576) (hc : ∀ s ∈ ss, s.size ≤ 1048576) (hm : StrsAt w 0 a ss) :
    Calls Tryz.prog 128 #[.slice a ss.length cap, .func (.func 102) #[] #[]] w fun e w' => IxPost (ss.all textB) e ∧ Below w.heap.size w w' := by
  go_enter Tryz.func128, Tryz.ntmps128
  go_wp2
  go_loopw [8] (fun i wr => ∃ (k : Nat), k ≤ ss.length ∧ i = .int .i64 k ∧ Hid ((ss.take k).all textB = true) ∧ Below w.heap.size w wr) (fun i _ => ss.length - (intOf i).toNat)
  case atStart => exact ⟨0, by omega, rfl, rfl, Below.refl _ _⟩
  case round =>
    obtain ⟨k, hk, rfl, hall, hb⟩ := hrel
    by_cases hlt : k < ss.length
    · obtain ⟨b, off, rfl, -, d1⟩ := hm k hlt
      have d1' := cell_later hb d1
      clear d1
      have hck := hc ss[k] (List.getElem_mem hlt)
      by_cases ho : textB ss[k] = true
      · have HO : Hid (textB ss[k] = true) := ho
        go_wp2_with (go_at_call 102; refine (litT_any _ _ hck).mono ?_; rintro e w1 ⟨rfl, hw⟩; rw [hw, ho]; clear hw w1)
        go_roundw
        case rel => exact ⟨k + 1, by omega, by go_num, all_take hlt hall.out HO.out, hb⟩
        case measure => simp [intOf]; omega
      · have ho' : textB ss[k] = false := by simpa using ho
        have HO : Hid (textB ss[k] = false) := ho'
        clear ho
        go_wp2_with (go_at_call 102; refine (litT_any _ _ hck).mono ?_; rintro e w1 ⟨rfl, hw⟩; rw [hw, ho']; clear hw w1)
        go_ret
        exact ⟨⟨(k : Int), rfl, by rw [show ss.all textB = false from all_no hlt HO.out]; simp⟩, hb⟩
    · go_wp2
      go_ret
      exact ⟨⟨-1, rfl, by rw [show ss.all textB = true from all_end (by omega) hall.out]; simp⟩, hb⟩

set_option maxRecDepth 100000 in
set_option maxHeartbeats 1000000 in
theorem hasBadT_any (a : Option Addr) (ss : List ByteArray) (cap : Nat) (w : World) (hn : ss.length ≤ 1048576) (hc : ∀ s ∈ ss, s.size ≤ 1048576) (hm : StrsAt w 0 a ss) :
    Calls Tryz.prog 101 #[.slice a ss.length cap, .func (.func 102) #[] #[]] w fun e w' => e = .returned (.bool (!ss.all textB)) ∧ Below w.heap.size w w' := by
  go_enter Tryz.func101, Tryz.ntmps101
  go_wp2_with fail
  refine (firstBadT_any a ss cap _ hn hc hm).mono ?_
  rintro e w1 ⟨⟨i, rfl, hi⟩, hb⟩
  have HI : Hid (0 ≤ i ↔ ss.all textB = false) := hi
  clear hi
  go_wp2
  go_ret
  exact ⟨ret_bool (by rw [Bool.eq_iff_iff]; simpa using HI.out), hb⟩
end Go.Proofs.YtmmcockkbhnopaaGreat
