/-
  Values: a value as the program's own kind of thing, what is named by its kind, and whether that is as the document's table says.
  Values: two facts on memory and on the empty text.
  What impl.heightsOfAll and impl.Verify return, for every module within the stated sizes.
-/
import Derived.Test.YtmmcockkbhnopaaGreatOV17
import Derived.Test.YtmmcockkbhnopaaGreatOV8
import Derived.Laws.StructEq
import Derived.Test.YtmmcockkbhnopaaGreatOV20
import Derived.Test.YtmmcockkbhnopaaGreatOV19
import Derived.Deep.RegionHeld3
namespace Go.Proofs.YtmmcockkbhnopaaGreat
open Go.RowKit

/-- A number of the machine. -/
def num (n : Int) : Bool := decide (-1000000000 ≤ n) && decide (n ≤ 1000000000)

set_option maxHeartbeats 400000 in
theorem sNum_any (n : Int) (w : World) : Calls Tryz.prog 92 #[.int .i64 n] w fun e w' => e = .returned (.bool (num n)) ∧ w' = w := by
  go_enter Tryz.func92, Tryz.ntmps92
  go_wp2_with fail
  refine (between_any _ _ _ _).mono ?_
  rintro e w1 ⟨rfl, rfl⟩
  go_wp2
  go_ret
  exact ⟨rfl, rfl⟩

set_option maxHeartbeats 400000 in
theorem toValue_any (k n : Int) (s : ByteArray) (w : World) :
    Calls Tryz.prog 35 #[.agg #[.int .i64 k, .int .i64 n, .string s]] w fun e w' => e = .returned (.agg #[.int .i64 k, .int .i64 n, .string s]) ∧ Below w.heap.size w w' := by
  go_enter Tryz.func35, Tryz.ntmps35
  go_wp2
  refine bodyPost_ret (v := .agg #[.int .i64 k, .int .i64 n, .string s]) (by simp [results, Tryz.results35, go_sem]) rfl ⟨rfl, ?_⟩
  repeat (first | exact Below.refl _ _ | refine Below.alloc ?_ (by first | exact Nat.le_refl _ | (simp <;> omega)) _ | refine Below.setCell ?_ (by first | exact Nat.le_refl _ | (simp <;> omega)) _)

set_option maxHeartbeats 400000 in
theorem szVal_any (k n l : Int) (s : ByteArray) (w : World) (h0 : 0 ≤ l) (h1 : l ≤ 1048576) (hs : s.size ≤ maxLen) :
    Calls Tryz.prog 26 #[.agg #[.int .i64 k, .int .i64 n, .string s], .int .i64 l] w fun e w' => e = .returned (.int .i64 (if l < (s.size : Int) then -1 else l - (s.size : Int))) ∧ Below w.heap.size w w' := by
  unfold maxLen at hs
  by_cases h : l < (s.size : Int)
  · rw [if_pos h]
    go_enter Tryz.func26, Tryz.ntmps26
    go_wp2
    go_ret
    exact ⟨rfl, (Below.refl _ _).alloc (Nat.le_refl _) _⟩
  · rw [if_neg h]
    go_enter Tryz.func26, Tryz.ntmps26
    go_wp2
    go_ret
    exact ⟨rfl, (Below.refl _ _).alloc (Nat.le_refl _) _⟩

/-- A value as a thing: an interface value, by its kind. -/
def thing (k n : Int) (s : ByteArray) : Value :=
  if k = 0 then .iface 216 (.agg #[]) else if k = 1 then .iface 217 (.int .i64 n) else if k = 2 then .iface 218 (.int .i64 n) else if k = 3 then .iface 219 (.string s)
  else if k = 4 then .iface 220 (.int .i64 n) else if k = 5 then .iface 221 (.int .i64 n) else .iface 222 (.int .i64 k)

set_option maxHeartbeats 1000000 in
theorem thingOf_any (k n : Int) (s : ByteArray) (w : World) :
    Calls Tryz.prog 133 #[.agg #[.int .i64 k, .int .i64 n, .string s]] w fun e w' => e = .returned (thing k n s) ∧ Below w.heap.size w w' := by
  by_cases h0 : k = 0
  · subst h0
    go_enter Tryz.func133, Tryz.ntmps133
    go_wp2
    go_ret
    exact ⟨rfl, (Below.refl _ _).alloc (Nat.le_refl _) _⟩
  by_cases h1 : k = 1
  · subst h1
    go_enter Tryz.func133, Tryz.ntmps133
    go_wp2
    go_ret
    exact ⟨rfl, (Below.refl _ _).alloc (Nat.le_refl _) _⟩
  by_cases h2 : k = 2
  · subst h2
    go_enter Tryz.func133, Tryz.ntmps133
    go_wp2
    go_ret
    exact ⟨rfl, (Below.refl _ _).alloc (Nat.le_refl _) _⟩
  by_cases h3 : k = 3
  · subst h3
    go_enter Tryz.func133, Tryz.ntmps133
    go_wp2
    go_ret
    exact ⟨rfl, (Below.refl _ _).alloc (Nat.le_refl _) _⟩
  by_cases h4 : k = 4
  · subst h4
    go_enter Tryz.func133, Tryz.ntmps133
    go_wp2
    go_ret
    exact ⟨rfl, (Below.refl _ _).alloc (Nat.le_refl _) _⟩
  by_cases h5 : k = 5
  · subst h5
    go_enter Tryz.func133, Tryz.ntmps133
    go_wp2
    go_ret
    exact ⟨rfl, (Below.refl _ _).alloc (Nat.le_refl _) _⟩
  have e : thing k n s = .iface 222 (.int .i64 k) := by simp [thing, h0, h1, h2, h3, h4, h5]
  rw [e]
  clear e
  have b0 : (k == 0) = false := by simpa using h0
  have b1 : (k == 1) = false := by simpa using h1
  have b2 : (k == 2) = false := by simpa using h2
  have b3 : (k == 3) = false := by simpa using h3
  have b4 : (k == 4) = false := by simpa using h4
  have b5 : (k == 5) = false := by simpa using h5
  clear h0 h1 h2 h3 h4 h5
  go_enter Tryz.func133, Tryz.ntmps133
  go_wp2
  go_ret
  exact ⟨rfl, (Below.refl _ _).alloc (Nat.le_refl _) _⟩

set_option maxRecDepth 100000 in
set_option maxHeartbeats 1000000 in
theorem value_nil  (w : World) : Calls Tryz.prog 189 #[.agg #[]] w fun e w' => e = .returned (.agg #[.int .i64 0, .int .i64 0, .string ⟨#[]⟩]) ∧ Below w.heap.size w w' := by
  go_enter Tryz.func189, Tryz.ntmps189
  go_wp2
  refine bodyPost_ret (v := .agg #[.int .i64 0, .int .i64 0, .string ⟨#[]⟩]) (by simp [results, Tryz.results189, go_sem]) rfl ⟨rfl, ?_⟩
  repeat (first | exact Below.refl _ _ | refine Below.alloc ?_ (by first | exact Nat.le_refl _ | (simp <;> omega)) _ | refine Below.setCell ?_ (by first | exact Nat.le_refl _ | (simp <;> omega)) _)

set_option maxRecDepth 100000 in
set_option maxHeartbeats 1000000 in
theorem value_int (n : Int) (w : World) : Calls Tryz.prog 192 #[.int .i64 n] w fun e w' => e = .returned (.agg #[.int .i64 1, .int .i64 n, .string ⟨#[]⟩]) ∧ Below w.heap.size w w' := by
  go_enter Tryz.func192, Tryz.ntmps192
  go_wp2
  refine bodyPost_ret (v := .agg #[.int .i64 1, .int .i64 n, .string ⟨#[]⟩]) (by simp [results, Tryz.results192, go_sem]) rfl ⟨rfl, ?_⟩
  repeat (first | exact Below.refl _ _ | refine Below.alloc ?_ (by first | exact Nat.le_refl _ | (simp <;> omega)) _ | refine Below.setCell ?_ (by first | exact Nat.le_refl _ | (simp <;> omega)) _)

set_option maxRecDepth 100000 in
set_option maxHeartbeats 1000000 in
theorem value_bool (n : Int) (w : World) : Calls Tryz.prog 195 #[.int .i64 n] w fun e w' => e = .returned (.agg #[.int .i64 2, .int .i64 n, .string ⟨#[]⟩]) ∧ Below w.heap.size w w' := by
  go_enter Tryz.func195, Tryz.ntmps195
  go_wp2
  refine bodyPost_ret (v := .agg #[.int .i64 2, .int .i64 n, .string ⟨#[]⟩]) (by simp [results, Tryz.results195, go_sem]) rfl ⟨rfl, ?_⟩
  repeat (first | exact Below.refl _ _ | refine Below.alloc ?_ (by first | exact Nat.le_refl _ | (simp <;> omega)) _ | refine Below.setCell ?_ (by first | exact Nat.le_refl _ | (simp <;> omega)) _)

set_option maxRecDepth 100000 in
set_option maxHeartbeats 1000000 in
theorem value_text (s : ByteArray) (w : World) : Calls Tryz.prog 198 #[.string s] w fun e w' => e = .returned (.agg #[.int .i64 3, .int .i64 0, .string s]) ∧ Below w.heap.size w w' := by
  go_enter Tryz.func198, Tryz.ntmps198
  go_wp2
  refine bodyPost_ret (v := .agg #[.int .i64 3, .int .i64 0, .string s]) (by simp [results, Tryz.results198, go_sem]) rfl ⟨rfl, ?_⟩
  repeat (first | exact Below.refl _ _ | refine Below.alloc ?_ (by first | exact Nat.le_refl _ | (simp <;> omega)) _ | refine Below.setCell ?_ (by first | exact Nat.le_refl _ | (simp <;> omega)) _)

set_option maxRecDepth 100000 in
set_option maxHeartbeats 1000000 in
theorem value_rec (n : Int) (w : World) : Calls Tryz.prog 201 #[.int .i64 n] w fun e w' => e = .returned (.agg #[.int .i64 4, .int .i64 n, .string ⟨#[]⟩]) ∧ Below w.heap.size w w' := by
  go_enter Tryz.func201, Tryz.ntmps201
  go_wp2
  refine bodyPost_ret (v := .agg #[.int .i64 4, .int .i64 n, .string ⟨#[]⟩]) (by simp [results, Tryz.results201, go_sem]) rfl ⟨rfl, ?_⟩
  repeat (first | exact Below.refl _ _ | refine Below.alloc ?_ (by first | exact Nat.le_refl _ | (simp <;> omega)) _ | refine Below.setCell ?_ (by first | exact Nat.le_refl _ | (simp <;> omega)) _)

set_option maxRecDepth 100000 in
set_option maxHeartbeats 1000000 in
theorem value_fun (n : Int) (w : World) : Calls Tryz.prog 204 #[.int .i64 n] w fun e w' => e = .returned (.agg #[.int .i64 5, .int .i64 n, .string ⟨#[]⟩]) ∧ Below w.heap.size w w' := by
  go_enter Tryz.func204, Tryz.ntmps204
  go_wp2
  refine bodyPost_ret (v := .agg #[.int .i64 5, .int .i64 n, .string ⟨#[]⟩]) (by simp [results, Tryz.results204, go_sem]) rfl ⟨rfl, ?_⟩
  repeat (first | exact Below.refl _ _ | refine Below.alloc ?_ (by first | exact Nat.le_refl _ | (simp <;> omega)) _ | refine Below.setCell ?_ (by first | exact Nat.le_refl _ | (simp <;> omega)) _)

set_option maxRecDepth 100000 in
set_option maxHeartbeats 1000000 in
theorem value_no (k : Int) (w : World) : Calls Tryz.prog 207 #[.int .i64 k] w fun e w' => e = .returned (.agg #[.int .i64 k, .int .i64 0, .string ⟨#[]⟩]) ∧ Below w.heap.size w w' := by
  go_enter Tryz.func207, Tryz.ntmps207
  go_wp2
  refine bodyPost_ret (v := .agg #[.int .i64 k, .int .i64 0, .string ⟨#[]⟩]) (by simp [results, Tryz.results207, go_sem]) rfl ⟨rfl, ?_⟩
  repeat (first | exact Below.refl _ _ | refine Below.alloc ?_ (by first | exact Nat.le_refl _ | (simp <;> omega)) _ | refine Below.setCell ?_ (by first | exact Nat.le_refl _ | (simp <;> omega)) _)

set_option maxRecDepth 100000 in
set_option maxHeartbeats 1000000 in
theorem okIn_nil  (a1 a2 : Option Addr) (nt c1 nf c2 : Nat) (r : Int) (w : World) : Calls Tryz.prog 187 #[.agg #[], .agg #[.slice a1 nt c1, .slice a2 nf c2], .int .i64 r] w fun e w' => e = .returned (.bool (true)) ∧ Below w.heap.size w w' := by
  go_enter Tryz.func187, Tryz.ntmps187
  go_wp2
  go_ret
  exact ⟨rfl, ((Below.refl _ _).alloc (Nat.le_refl _) _).alloc (by simp) _⟩

set_option maxRecDepth 100000 in
set_option maxHeartbeats 1000000 in
theorem okIn_int (n : Int) (a1 a2 : Option Addr) (nt c1 nf c2 : Nat) (r : Int) (w : World) : Calls Tryz.prog 190 #[.int .i64 n, .agg #[.slice a1 nt c1, .slice a2 nf c2], .int .i64 r] w fun e w' => e = .returned (.bool (num n)) ∧ Below w.heap.size w w' := by
  have hB : Below w.heap.size w (w.alloc (.cells #[.slice a1 nt c1, .slice a2 nf c2] 40)) := (Below.refl _ _).alloc (Nat.le_refl _) _
  by_cases h1 : -1000000000 ≤ n
  · by_cases h2 : n ≤ 1000000000
    all_goals
      go_enter Tryz.func190, Tryz.ntmps190
      go_wp2
      go_ret
      exact ⟨ret_bool (by rw [Bool.eq_iff_iff]; simp [num]; omega), hB⟩
  · go_enter Tryz.func190, Tryz.ntmps190
    go_wp2
    go_ret
    exact ⟨ret_bool (by rw [Bool.eq_iff_iff]; simp [num]; omega), hB⟩

set_option maxRecDepth 100000 in
set_option maxHeartbeats 1000000 in
theorem okIn_bool (n : Int) (a1 a2 : Option Addr) (nt c1 nf c2 : Nat) (r : Int) (w : World) : Calls Tryz.prog 193 #[.int .i64 n, .agg #[.slice a1 nt c1, .slice a2 nf c2], .int .i64 r] w fun e w' => e = .returned (.bool (decide (n = 0) || decide (n = 1))) ∧ Below w.heap.size w w' := by
  have hB : Below w.heap.size w (w.alloc (.cells #[.slice a1 nt c1, .slice a2 nf c2] 40)) := (Below.refl _ _).alloc (Nat.le_refl _) _
  by_cases h1 : n = 0
  · subst h1
    go_enter Tryz.func193, Tryz.ntmps193
    go_wp2
    go_ret
    exact ⟨rfl, hB⟩
  · have b1 : (n == 0) = false := by simpa using h1
    by_cases h2 : n = 1
    · subst h2
      go_enter Tryz.func193, Tryz.ntmps193
      go_wp2
      go_ret
      exact ⟨rfl, hB⟩
    · have b2 : (n == 1) = false := by simpa using h2
      rw [show (decide (n = 0) || decide (n = 1)) = false by simp [h1, h2]]
      clear h1 h2
      go_enter Tryz.func193, Tryz.ntmps193
      go_wp2
      go_ret
      exact ⟨rfl, hB⟩

set_option maxRecDepth 100000 in
set_option maxHeartbeats 1000000 in
theorem okIn_text (s : ByteArray) (hs : s.size ≤ 1048576) (a1 a2 : Option Addr) (nt c1 nf c2 : Nat) (r : Int) (w : World) : Calls Tryz.prog 196 #[.string s, .agg #[.slice a1 nt c1, .slice a2 nf c2], .int .i64 r] w fun e w' => e = .returned (.bool (textB s)) ∧ Below w.heap.size w w' := by
  have hB : Below w.heap.size w (w.alloc (.cells #[.slice a1 nt c1, .slice a2 nf c2] 40)) := (Below.refl _ _).alloc (Nat.le_refl _) _
  go_enter Tryz.func196, Tryz.ntmps196
  go_wp2_with fail
  refine (textOk_any _ _ hs).mono ?_
  rintro e w1 ⟨rfl, rfl⟩
  go_wp2
  go_ret
  exact ⟨rfl, hB⟩

set_option maxRecDepth 100000 in
set_option maxHeartbeats 1000000 in
theorem okIn_rec (n : Int) (a1 a2 : Option Addr) (nt c1 nf c2 : Nat) (r : Int) (w : World) : Calls Tryz.prog 199 #[.int .i64 n, .agg #[.slice a1 nt c1, .slice a2 nf c2], .int .i64 r] w fun e w' => e = .returned (.bool (decide (0 ≤ n) && decide (n < r))) ∧ Below w.heap.size w w' := by
  have hB : Below w.heap.size w (w.alloc (.cells #[.slice a1 nt c1, .slice a2 nf c2] 40)) := (Below.refl _ _).alloc (Nat.le_refl _) _
  by_cases h1 : 0 ≤ n
  · by_cases h2 : n < r
    all_goals
      go_enter Tryz.func199, Tryz.ntmps199
      go_wp2
      go_ret
      exact ⟨ret_bool (by rw [Bool.eq_iff_iff]; simp; omega), hB⟩
  · go_enter Tryz.func199, Tryz.ntmps199
    go_wp2
    go_ret
    exact ⟨ret_bool (by rw [Bool.eq_iff_iff]; simp; omega), hB⟩

set_option maxRecDepth 100000 in
set_option maxHeartbeats 1000000 in
theorem okIn_fun (n : Int) (a1 a2 : Option Addr) (nt c1 nf c2 : Nat) (r : Int) (w : World) : Calls Tryz.prog 202 #[.int .i64 n, .agg #[.slice a1 nt c1, .slice a2 nf c2], .int .i64 r] w fun e w' => e = .returned (.bool (decide (0 ≤ n) && decide (n < (nf : Int)))) ∧ Below w.heap.size w w' := by
  have hB : Below w.heap.size w (w.alloc (.cells #[.slice a1 nt c1, .slice a2 nf c2] 40)) := (Below.refl _ _).alloc (Nat.le_refl _) _
  by_cases h1 : 0 ≤ n
  · by_cases h2 : n < (nf : Int)
    all_goals
      go_enter Tryz.func202, Tryz.ntmps202
      go_wp2
      go_ret
      exact ⟨ret_bool (by rw [Bool.eq_iff_iff]; simp; omega), hB⟩
  · go_enter Tryz.func202, Tryz.ntmps202
    go_wp2
    go_ret
    exact ⟨ret_bool (by rw [Bool.eq_iff_iff]; simp; omega), hB⟩

set_option maxRecDepth 100000 in
set_option maxHeartbeats 1000000 in
theorem okIn_no (k : Int) (a1 a2 : Option Addr) (nt c1 nf c2 : Nat) (r : Int) (w : World) : Calls Tryz.prog 205 #[.int .i64 k, .agg #[.slice a1 nt c1, .slice a2 nf c2], .int .i64 r] w fun e w' => e = .returned (.bool (false)) ∧ Below w.heap.size w w' := by
  have hB : Below w.heap.size w (w.alloc (.cells #[.slice a1 nt c1, .slice a2 nf c2] 40)) := (Below.refl _ _).alloc (Nat.le_refl _) _
  go_enter Tryz.func205, Tryz.ntmps205
  go_wp2
  go_ret
  exact ⟨rfl, hB⟩

end Go.Proofs.YtmmcockkbhnopaaGreat
namespace Go.Proofs.YtmmcockkbhnopaaGreat
open Go.RowKit

theorem block_new_at (w : World) (C : Array Value) (t : TypeId) (g : Nat) (h : w.heap.size = g) : (w.alloc (.cells C t)).heap[g]? = some (.cells C t (0, 0)) := by
  subst h
  exact block_new w C t
theorem not_empty {s : ByteArray} (h : s ≠ ⟨#[]⟩) : (([] : List UInt8) == s.toList) = false ∧ (s.toList == ([] : List UInt8)) = false := by
  have h' : s.toList ≠ [] := by
    intro e
    apply h
    apply ByteArray.ext
    have : s.data.toList = [] := by simpa [ByteArray.toList_eq] using e
    simpa using this
  constructor
  · rw [beq_eq_false_iff_ne]; exact Ne.symm h'
  · rw [beq_eq_false_iff_ne]; exact h'

end Go.Proofs.YtmmcockkbhnopaaGreat

namespace Go.Proofs.YtmmcockkbhnopaaGreat
open Go.RowKit

theorem info156 : (Tryz.prog.info? 156).map (fun i => (i.zero, i.size, i.bytes)) = some (some (.slice none 0 0), 1, 24) := by kernel_rfl

/-- What heightsOfAll is to answer. -/
def APost (ts : List ByteArray) (fs : List Fn) (base : Nat) (w' : World) (e : Ending) : Prop := ∃ v c f a, e = .returned (.tuple #[v, .agg #[.int .i64 c, .int .i64 f, .int .i64 a]]) ∧ VPost ts fs c f a ∧ (c = 0 → ∃ G, v = .slice (some ⟨G, 0, none⟩) fs.length fs.length ∧ Hs w' base G fs.length fs)

set_option maxRecDepth 100000 in
set_option maxHeartbeats 4000000 in
theorem iAll_any (a1 a2 : Option Addr) (c1 c2 : Nat) (ts : List ByteArray) (fs : List Fn) (w : World) (hs : Small ts fs) (hm : StrsAt w 0 a1 ts) (hm2 : FnsAt w 0 a2 fs) :
    Calls Tryz.prog 69 #[.agg #[.slice a1 ts.length c1, .slice a2 fs.length c2]] w fun e w' => APost ts fs w.heap.size w' e ∧ Below w.heap.size w w' := by
  obtain ⟨i0, hi, hz0, hz1, hz2⟩ := info_parts info156
  have hn := hs.funcs
  have hbA : Below w.heap.size w ((w.alloc (.cells #[.slice a1 ts.length c1, .slice a2 fs.length c2] 40)).alloc (.cells #[.int .i64 0, .int .i64 0, .int .i64 0] 121)) := ((Below.refl _ _).alloc (Nat.le_refl _) _).alloc (by simp) _
  have hM0 := block_old (block_new w #[.slice a1 ts.length c1, .slice a2 fs.length c2] 40) (.cells #[.int .i64 0, .int .i64 0, .int .i64 0] 121)
  have hR0 := block_new (w.alloc (.cells #[.slice a1 ts.length c1, .slice a2 fs.length c2] 40)) #[.int .i64 0, .int .i64 0, .int .i64 0] 121
  rw [World.size_alloc] at hR0
  go_enter Tryz.func69, Tryz.ntmps69
  go_wp2_with fail
  refine (iModuleOk_any _ _ ts fs _ _ _ hs (hm.mono hbA) (hm2.mono hbA)).mono ?_
  rintro e w1 ⟨rfl, hb⟩
  have hM1 := block_kept hM0 hb
  have hR1 := block_kept hR0 hb
  have hb1 : Below w.heap.size w w1 := hbA.trans (hb.mono (by simp; omega))
  have y1 := block_cell hM1
  have r1 := block_cell hR1
  have r2 := block_free hR1
  clear hbA hM0 hR0 hb
  by_cases hok : modB ts fs = true
  · have HO : Hid (modB ts fs = true) := hok
    have FF : ∀ k (hk : k < fs.length), Fine fs fs[k].code := fun k hk => fine_of hok hk
    go_wp2_with (first | (at_make; refine wpList_make_full _ rfl _ _ 123 rfl w1.heap.size 156 i0 (.slice none 0 0) 1 Tryz.underlying123 hi hz0 hz1 _ _ _ _ fs.length rfl rfl rfl rfl (by rw [hz2]; omega) (by unfold maxLen; omega) (Nat.le_refl _) ?_; intro w2 hown hgrow; have hbm : Below w1.heap.size w1 w2 := (Below.refl _ _).grown hgrow (Nat.le_refl _) (by intro k hk; cases hk); have hM2 := block_kept hM1 hbm; have y2 := block_cell hM2))
    have hR2 := block_kept hR1 hbm
    have hb2 := hb1.trans (hbm.mono hb1.size)
    obtain ⟨cur0, hblk, hsz⟩ := made_block hown
    have hH0 : Hs w2 w.heap.size w1.heap.size 0 fs := ⟨hb1.size, cur0, hblk, by omega, fun _ _ h => absurd h (Nat.not_lt_zero _)⟩
    clear hok r1 r2 y1 y2 hown hgrow hi hz0 hz1 hz2 hblk hsz hM1 hR1 hbm
    have HZ1 : Hid (w.heap.size ≤ w1.heap.size) := hb1.size
    go_loopw [20] (fun i wr => ∃ (k : Nat), k ≤ fs.length ∧ i = .int .i64 k ∧ Hid (∀ q (hq : q < fs.length), q < k → Clear fs fs[q].code fs[q].code.length) ∧ Hs wr w.heap.size w1.heap.size k fs ∧ wr.heap[w.heap.size]? = some (.cells #[.slice a1 ts.length c1, .slice a2 fs.length c2] 40 (0, 0)) ∧ wr.heap[w.heap.size + 1]? = some (.cells #[.int .i64 0, .int .i64 0, .int .i64 0] 121 (0, 0)) ∧ Below w.heap.size w wr) (fun i _ => fs.length - (intOf i).toNat)
    case atStart => exact ⟨0, by omega, rfl, fun _ _ h => absurd h (Nat.not_lt_zero _), hH0, hM2, hR2, hb2⟩
    case round =>
      obtain ⟨k, hk, rfl, hcl, hHs, hM, hR, hb⟩ := hrel
      obtain ⟨wo, rfl⟩ : ∃ wo, wo = wr := ⟨_, rfl⟩
      clear hM2 hR2 hb2 hH0 hb1
      by_cases hlt : k < fs.length
      · have F := FF k hlt
        have hmost := F.most
        obtain ⟨b, off, ca, cc, rfl, -, d1, d2, d3, d4⟩ := hm2 k hlt
        have d1' := cell_later hb d1
        have d2' := cell_later hb d2
        have d3' := cell_later hb d3
        clear d1 d2 d3
        obtain ⟨wx, hwx⟩ : ∃ wx, wx = wo.alloc (.cells #[.int .i64 fs[k].params, .int .i64 fs[k].locals, .slice ca fs[k].code.length cc] 116) := ⟨_, rfl⟩
        have hkx : Below wo.heap.size wo wx := by rw [hwx]; exact (Below.refl _ _).alloc (Nat.le_refl _) _
        have hXx : wx.heap[wo.heap.size]? = some (.cells #[.int .i64 fs[k].params, .int .i64 fs[k].locals, .slice ca fs[k].code.length cc] 116 (0, 0)) := by rw [hwx]; exact block_new _ _ _
        have hMx := block_kept hM hkx
        have hRx := block_kept hR hkx
        have hHx := hHs.mono hkx
        have hbx : Below w.heap.size w wx := hb.trans (hkx.mono hb.size)
        have HWX : Hid (wx = wo.alloc (.cells #[.int .i64 fs[k].params, .int .i64 fs[k].locals, .slice ca fs[k].code.length cc] 116)) := hwx
        have y0 := block_cell (block_old hM (.cells #[.int .i64 fs[k].params, .int .i64 fs[k].locals, .slice ca fs[k].code.length cc] 116))
        have z0 := block_cell (block_new wo #[.int .i64 fs[k].params, .int .i64 fs[k].locals, .slice ca fs[k].code.length cc] 116)
        clear hwx hkx
        go_wp2_with fail
        rw [← HWX.out]
        refine (iHeights_any _ _ _ _ _ _ _ fs fs[k].code _ (hm2.mono hbx) (d4.mono hbx) F).mono ?_
        rintro e w2 ⟨g, d, rfl, hg, hD, hH, k2⟩
        have P := hD.hts F
        have hM2 := block_kept hMx k2
        have hR2 := block_kept hRx k2
        have hX2 := block_kept hXx k2
        have hHs2 := hHx.mono k2
        have hb2 : Below w.heap.size w w2 := hbx.trans (k2.mono hbx.size)
        have hgw : w.heap.size ≤ g := Nat.le_trans hbx.size hg
        have hGk := hHs2.put hlt hgw hD hH
        obtain ⟨vg, hvg⟩ := hHs2.cell hlt
        have hfz := hHs2.free k
        have hne1 : w.heap.size ≠ w1.heap.size := by
          obtain ⟨-, cur, h1, -⟩ := hHs2
          intro e; rw [← e, hM2] at h1; simp at h1
        have hne2 : w.heap.size + 1 ≠ w1.heap.size := by
          obtain ⟨-, cur, h1, -⟩ := hHs2
          intro e; rw [← e, hR2] at h1; simp at h1
        have hne3 : wo.heap.size ≠ w1.heap.size := by
          obtain ⟨-, cur, h1, -⟩ := hHs2
          intro e; rw [← e, hX2] at h1; simp at h1
        obtain ⟨wy, hwy⟩ : ∃ wy, wy = w2.setCell ⟨w1.heap.size, k, none⟩ (.slice (some ⟨g, 0, none⟩) fs[k].code.length fs[k].code.length) := ⟨_, rfl⟩
        have hM3 : wy.heap[w.heap.size]? = some (.cells #[.slice a1 ts.length c1, .slice (some ⟨b, off, none⟩) fs.length c2] 40 (0, 0)) := by rw [hwy, Below.heap_setCell _ _ _ _ hne1]; exact hM2
        have hR3 : wy.heap[w.heap.size + 1]? = some (.cells #[.int .i64 0, .int .i64 0, .int .i64 0] 121 (0, 0)) := by rw [hwy, Below.heap_setCell _ _ _ _ hne2]; exact hR2
        have hX3 : wy.heap[wo.heap.size]? = some (.cells #[.int .i64 fs[k].params, .int .i64 fs[k].locals, .slice ca fs[k].code.length cc] 116 (0, 0)) := by rw [hwy, Below.heap_setCell _ _ _ _ hne3]; exact hX2
        have hH3 : Ht wy g fs[k].code.length d := by
          obtain ⟨-, cur, h1, -⟩ := hHs2
          rw [hwy]; exact hH.other h1 _
        have hc3 : wy.cell? ⟨w1.heap.size, k, none⟩ = some (.slice (some ⟨g, 0, none⟩) fs[k].code.length fs[k].code.length) := by
          obtain ⟨-, cur, h1, h2, -⟩ := hHs2
          rw [hwy, block_cell (block_set h1 _)]; exact set_self _ (by omega)
        have hb3 : Below w.heap.size w wy := by rw [hwy]; exact hb2.setCell HZ1.out _
        rw [← hwy] at hGk
        have v2 := block_cell hX2
        have v3 := block_cell hX3
        clear hMx hRx hXx hbx k2 d1' d2' d3' hM hR hb y0 z0 hHs hHx hM2 hR2 hH hb2 hHs2 hne1 hne2
        have HN3 : Hid (wo.heap.size ≠ w1.heap.size) := hne3
        clear hX2
        go_wp2_with fail
        try rw [← hwy]
        clear v2 v3 hvg hfz hwy hne3
        go_loopw [35] (fun i ws => ∃ (j : Nat), j ≤ fs[k].code.length ∧ i = .int .i64 j ∧ Hid (∀ q, q < j → troubleB fs fs[k].code d q = 0) ∧ Ht ws g fs[k].code.length d ∧ Hs ws w.heap.size w1.heap.size (k + 1) fs ∧ ws.cell? ⟨w1.heap.size, k, none⟩ = some (.slice (some ⟨g, 0, none⟩) fs[k].code.length fs[k].code.length) ∧ ws.heap[w.heap.size]? = some (.cells #[.slice a1 ts.length c1, .slice (some ⟨b, off, none⟩) fs.length c2] 40 (0, 0)) ∧ ws.heap[w.heap.size + 1]? = some (.cells #[.int .i64 0, .int .i64 0, .int .i64 0] 121 (0, 0)) ∧ ws.heap[wo.heap.size]? = some (.cells #[.int .i64 fs[k].params, .int .i64 fs[k].locals, .slice ca fs[k].code.length cc] 116 (0, 0)) ∧ Below w.heap.size w ws) (fun i _ => fs[k].code.length - (intOf i).toNat)
        case atStart => exact ⟨0, by omega, rfl, fun _ h => absurd h (Nat.not_lt_zero _), hH3, hGk, hc3, hM3, hR3, hX3, hb3⟩
        case round =>
          obtain ⟨j, hj, rfl, hno, hH4, hG4, hc4, hM4, hR4, hX4, hb4⟩ := hrel
          obtain ⟨ws, rfl⟩ : ∃ ws, ws = wr := ⟨_, rfl⟩
          clear hH3 hGk hc3 hM3 hR3 hX3 hb3
          by_cases hlj : j < fs[k].code.length
          · have hS : ∀ w', Below ws.heap.size ws w' → w'.cell? ⟨w.heap.size, 0, none⟩ = some (.slice a1 ts.length c1) ∧ w'.cell? ⟨w.heap.size, 1, none⟩ = some (.slice (some ⟨b, off, none⟩) fs.length c2) ∧ w'.cell? ⟨wo.heap.size, 2, none⟩ = some (.slice ca fs[k].code.length cc) ∧ w'.cell? ⟨w1.heap.size, k, none⟩ = some (.slice (some ⟨g, 0, none⟩) fs[k].code.length fs[k].code.length) := fun w' hb =>
              ⟨by rw [block_cell (block_kept hM4 hb)]; rfl, by rw [block_cell (block_kept hM4 hb)]; rfl, by rw [block_cell (block_kept hX4 hb)]; rfl, cell_later hb hc4⟩
            have HS : Hid (∀ w', Below ws.heap.size ws w' → w'.cell? ⟨w.heap.size, 0, none⟩ = some (.slice a1 ts.length c1) ∧ w'.cell? ⟨w.heap.size, 1, none⟩ = some (.slice (some ⟨b, off, none⟩) fs.length c2) ∧ w'.cell? ⟨wo.heap.size, 2, none⟩ = some (.slice ca fs[k].code.length cc) ∧ w'.cell? ⟨w1.heap.size, k, none⟩ = some (.slice (some ⟨g, 0, none⟩) fs[k].code.length fs[k].code.length)) := hS
            obtain ⟨j0, j1, j2, j3⟩ := hS ws (Below.refl _ _)
            have q : Below ws.heap.size ws ws.drew := (Below.refl _ _).drew
            have HB : Hid (Below w.heap.size w ws) := hb4
            have HM : Hid (ws.heap[w.heap.size]? = some (.cells #[.slice a1 ts.length c1, .slice (some ⟨b, off, none⟩) fs.length c2] 40 (0, 0))) := hM4
            have HR : Hid (ws.heap[w.heap.size + 1]? = some (.cells #[.int .i64 0, .int .i64 0, .int .i64 0] 121 (0, 0))) := hR4
            have HX : Hid (ws.heap[wo.heap.size]? = some (.cells #[.int .i64 fs[k].params, .int .i64 fs[k].locals, .slice ca fs[k].code.length cc] 116 (0, 0))) := hX4
            clear hS hb4 hM4 hR4 hX4 hc4
            go_wp2
            go_region_held3 (fun w' => w'.cell? ⟨w.heap.size, 0, none⟩ = some (.slice a1 ts.length c1) ∧ w'.cell? ⟨w.heap.size, 1, none⟩ = some (.slice (some ⟨b, off, none⟩) fs.length c2) ∧ w'.cell? ⟨wo.heap.size, 2, none⟩ = some (.slice ca fs[k].code.length cc) ∧ w'.cell? ⟨w1.heap.size, k, none⟩ = some (.slice (some ⟨g, 0, none⟩) fs[k].code.length fs[k].code.length))
              (first | exact ⟨j0, j1, j2, j3⟩ | exact HS.out _ q)
              (first
                | (go_at_call 100; refine (trouble_any _ _ _ _ _ _ _ fs fs[k].code d g _ j _ (by exact hm2.mono (HB.out.trans (q.mono HB.out.size))) (by exact d4.mono (HB.out.trans (q.mono HB.out.size))) F P (by exact hH4.mono q) hlj).mono ?_; rintro e w5 ⟨rfl, kd⟩; have q := q.trans (kd.mono q.size)))
            have hM5 := block_kept HM.out q
            have hR5 := block_kept HR.out q
            have hX5 := block_kept HX.out q
            have hH5 := hH4.mono q
            have hG5 := hG4.mono q
            have hb5 : Below w.heap.size w w5 := HB.out.trans (q.mono HB.out.size)
            have hc5 := (HS.out _ q).2.2.2
            clear HM HR HX HB HS j0 j1 j2 j3 hH4 hG4 kd q
            by_cases hz : troubleB fs fs[k].code d j = 0
            · have HZ : Hid (troubleB fs fs[k].code d j = 0) := hz
              go_wp2
              go_roundw
              case rel => exact ⟨j + 1, by omega, by go_num, fun q hq => (by
                by_cases e : q = j
                · subst e; exact HZ.out
                · exact hno.out q (by omega)), hH5, hG5, hc5, hM5, hR5, hX5, hb5⟩
              case measure => simp [intOf]; omega
            · have HZ : Hid (¬ troubleB fs fs[k].code d j = 0) := hz
              have bz : (troubleB fs fs[k].code d j != 0) = true := by simpa using hz
              have r4 := block_cell hR5
              have q4 := block_free hR5
              clear hz
              go_wp2
              have rr := block_cell (three_set (x := (troubleB fs fs[k].code d j)) (y := (k : Int)) (z := (j : Int)) hR5)
              refine bodyPost_ret (v := .tuple #[.slice none 0 0, .agg #[.int .i64 (troubleB fs fs[k].code d j), .int .i64 (k : Int), .int .i64 (j : Int)]]) (by simp [results, Tryz.results69, go_sem, rr]) rfl ⟨⟨_, (troubleB fs fs[k].code d j), (k : Int), (j : Int), rfl, .inr ⟨HO.out, .inr ⟨k, hlt, j, d, rfl, rfl, hlj, hD, rfl, HZ.out, clear_of hD hno.out, hcl.out⟩⟩, fun h => absurd h HZ.out⟩, ?_⟩
              exact ((hb5.setCell (by simp) _).setCell (by simp) _).setCell (by simp) _
          · have hjn : j = fs[k].code.length := by omega
            subst hjn
            go_wp2
            go_roundw
            case rel => exact ⟨k + 1, by omega, by go_num, fun q hq hqk => (by
                by_cases e : q = k
                · subst e; exact clear_of hD hno.out
                · exact hcl.out q hq (by omega)), hG4, hM4, hR4, hb4⟩
            case measure => simp [intOf]; omega
      · have hkn : k = fs.length := by omega
        subst hkn
        have r4 := block_cell hR
        have q4 := block_free hR
        go_wp2
        have rr := block_cell (three_set (x := 0) (y := 0) (z := 0) hR)
        have hbz : Below (w.heap.size + 2) wo (((wo.setCell ⟨w.heap.size + 1, 0, none⟩ (.int .i64 0)).setCell ⟨w.heap.size + 1, 1, none⟩ (.int .i64 0)).setCell ⟨w.heap.size + 1, 2, none⟩ (.int .i64 0)) → True := fun _ => trivial
        clear hbz
        refine bodyPost_ret (v := .tuple #[.slice (some ⟨w1.heap.size, 0, none⟩) fs.length fs.length, .agg #[.int .i64 0, .int .i64 0, .int .i64 0]]) (by simp [results, Tryz.results69, go_sem, rr]) rfl ⟨⟨_, 0, 0, 0, rfl, .inr ⟨HO.out, .inl ⟨rfl, rfl, rfl, fun q hq => hcl.out q hq (by omega)⟩⟩, fun _ => ⟨_, rfl, ?_⟩⟩, ?_⟩
        · exact hHs.three hR
        · exact ((hb.setCell (by simp) _).setCell (by simp) _).setCell (by simp) _
  · have hok' : modB ts fs = false := by simpa using hok
    have HO : Hid (modB ts fs = false) := hok'
    clear hok
    go_wp2
    have rr := block_cell (three_set (x := 1) (y := 0) (z := 0) hR1)
    refine bodyPost_ret (v := .tuple #[.slice none 0 0, .agg #[.int .i64 1, .int .i64 0, .int .i64 0]]) (by simp [results, Tryz.results69, go_sem, rr]) rfl ⟨⟨_, 1, 0, 0, rfl, .inl ⟨HO.out, rfl, rfl, rfl⟩, fun h => absurd h (by decide)⟩, ?_⟩
    exact ((hb1.setCell (by simp) _).setCell (by simp) _).setCell (by simp) _

set_option maxRecDepth 100000 in
set_option maxHeartbeats 2000000 in
theorem iVerify_any (a1 a2 : Option Addr) (c1 c2 : Nat) (ts : List ByteArray) (fs : List Fn) (w : World) (hs : Small ts fs) (hm : StrsAt w 0 a1 ts) (hm2 : FnsAt w 0 a2 fs) :
    Calls Tryz.prog 67 #[.agg #[.slice a1 ts.length c1, .slice a2 fs.length c2]] w fun e w' => ∃ c f a, e = .returned (.agg #[.int .i64 c, .int .i64 f, .int .i64 a]) ∧ VPost ts fs c f a ∧ Below w.heap.size w w' := by
  have hbA : Below w.heap.size w ((w.alloc (.cells #[.slice a1 ts.length c1, .slice a2 fs.length c2] 40)).alloc (.cells #[.int .i64 0, .int .i64 0, .int .i64 0] 121)) := ((Below.refl _ _).alloc (Nat.le_refl _) _).alloc (by simp) _
  have hR0 := block_new (w.alloc (.cells #[.slice a1 ts.length c1, .slice a2 fs.length c2] 40)) #[.int .i64 0, .int .i64 0, .int .i64 0] 121
  rw [World.size_alloc] at hR0
  go_enter Tryz.func67, Tryz.ntmps67
  go_wp2_with fail
  refine (iAll_any _ _ _ _ ts fs _ hs (hm.mono hbA) (hm2.mono hbA)).mono ?_
  rintro e w1 ⟨⟨v, c, f, a, rfl, hV, -⟩, hb⟩
  have hR1 := block_kept hR0 hb
  have hB1 := hbA.trans (hb.mono hbA.size)
  have hR2 := block_old hR1 (.cells #[.int .i64 c, .int .i64 f, .int .i64 a] 121)
  have r1 := block_cell hR2
  have r2 := block_free hR2
  clear hbA hR0 hb
  go_wp2
  have rr := block_cell (three_set (x := c) (y := f) (z := a) hR2)
  refine bodyPost_ret (v := .agg #[.int .i64 c, .int .i64 f, .int .i64 a]) (by simp [results, Tryz.results67, go_sem, rr]) rfl ⟨c, f, a, rfl, hV, ?_⟩
  exact (((hB1.alloc hB1.size _).setCell (by simp) _).setCell (by simp) _).setCell (by simp) _
end Go.Proofs.YtmmcockkbhnopaaGreat
