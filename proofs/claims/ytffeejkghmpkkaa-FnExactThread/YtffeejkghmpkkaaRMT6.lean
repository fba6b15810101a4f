/-
  Jumps that are led on, on plain data.
  DERIVED: THE SHELF's CONTRACTS AT THIS DUMP, IN PLAIN WORDS (tools/lay-plain.mjs out of 'TryShelf.lean', which tools/lay-shelf.mjs wrote): THE SAME DECLARATIONS UNDER THE SAME NAMES: 'import', 'namespace', 'open', 'def', 'theorem' AND NOTHING ELSE: no command of the shelf's: FOR A HAND-IN. Each laying: the table of numbers ('.._ren') and one theorem, a field a fact of the dump's own or the kernel's comparison; each contract: ONE APPLICATION.
-/
import Derived.Test.YtffeejkghmpkkaaRCT1
import Derived.Shelf.Small.Wraps
import Derived.Shelf.LaysM
import Derived.Shelf.Strconv.Clone
import Derived.Ground.Names2Prog
import Derived.Shelf.Slices.SearchI
import Derived.Shelf.Slices.Empties
import Derived.Test.YtffeejkghmpkkaaProg
namespace Go.Proofs.Ytffeejkghmpkkaa

/-- The jump at a place led on by one, where it leads to a jump. -/
def hopC (at' : Nat) (code : List (Int × Int)) : List (Int × Int) :=
  if Jop (code.getD at' (0, 0)).1 ∧ (code.getD (code.getD at' (0, 0)).2.toNat (0, 0)).1 = 17 then code.set at' ((code.getD at' (0, 0)).1, (code.getD (code.getD at' (0, 0)).2.toNat (0, 0)).2) else code
def hopN (at' : Nat) : Nat → List (Int × Int) → List (Int × Int)
  | 0, code => code
  | k + 1, code => hopC at' (hopN at' k code)
/-- The first jumps led on. -/
def thrTo (code : List (Int × Int)) : Nat → List (Int × Int)
  | 0 => code
  | k + 1 => hopN k 120 (thrTo code k)
def thrOf (code : List (Int × Int)) : List (Int × Int) := thrTo code code.length

/-- Jumps lead somewhere. -/
def JIn (n : Nat) (code : List (Int × Int)) : Prop := code.length = n ∧ ∀ i, i < n → Jop (code.getD i (0, 0)).1 → 0 ≤ (code.getD i (0, 0)).2 ∧ (code.getD i (0, 0)).2 < n

theorem getD_setP {l : List (Int × Int)} {n i : Nat} {v : Int × Int} : (l.set n v).getD i (0, 0) = if i = n ∧ n < l.length then v else l.getD i (0, 0) := by
  rw [List.getD_eq_getElem?_getD, List.getD_eq_getElem?_getD]
  by_cases e : i = n
  · subst e
    by_cases hl : i < l.length
    · simp [hl]
    · rw [if_neg (by simp; omega), List.getElem?_eq_none (by simpa using hl), List.getElem?_eq_none (by simpa using hl)]
  · rw [if_neg (by simp [e]), List.getElem?_set_ne (fun x => e x.symm)]
theorem hopC_len (at' : Nat) (code : List (Int × Int)) : (hopC at' code).length = code.length := by
  unfold hopC; split <;> simp
theorem hopC_in {n at' : Nat} {code : List (Int × Int)} (h : JIn n code) : JIn n (hopC at' code) := by
  refine ⟨(hopC_len _ _).trans h.1, fun i hi hj => ?_⟩
  unfold hopC at hj ⊢
  split
  · rename_i hc
    rw [if_pos hc] at hj
    rw [getD_setP] at hj ⊢
    split
    · rename_i he
      have hlt : at' < n := by rw [← h.1]; exact he.2
      have h1 := h.2 at' hlt hc.1
      exact h.2 (code.getD at' (0, 0)).2.toNat (by omega) (.inl hc.2)
    · rename_i he
      rw [if_neg he] at hj
      exact h.2 i hi hj
  · rename_i hc
    rw [if_neg hc] at hj
    exact h.2 i hi hj
theorem hopN_in {n at' : Nat} {code : List (Int × Int)} (h : JIn n code) (k : Nat) : JIn n (hopN at' k code) := by
  induction k with
  | zero => exact h
  | succ k ih => exact hopC_in ih
theorem thrTo_in {n : Nat} {code : List (Int × Int)} (h : JIn n code) (k : Nat) : JIn n (thrTo code k) := by
  induction k with
  | zero => exact h
  | succ k ih => exact hopN_in ih 120
theorem hopC_no {at' : Nat} {code : List (Int × Int)} (h : ¬ (Jop (code.getD at' (0, 0)).1 ∧ (code.getD (code.getD at' (0, 0)).2.toNat (0, 0)).1 = 17)) : hopC at' code = code := if_neg h
theorem hopC_yes {at' : Nat} {code : List (Int × Int)} (h : Jop (code.getD at' (0, 0)).1 ∧ (code.getD (code.getD at' (0, 0)).2.toNat (0, 0)).1 = 17) : hopC at' code = code.set at' ((code.getD at' (0, 0)).1, (code.getD (code.getD at' (0, 0)).2.toNat (0, 0)).2) := if_pos h
theorem hopC_out {at' : Nat} {code : List (Int × Int)} (h : code.length ≤ at') : hopC at' code = code := by
  unfold hopC
  split
  · rw [List.set_eq_of_length_le h]
  · rfl
/-- It leads to a jump to itself. -/
theorem hopC_self {at' : Nat} {code : List (Int × Int)} (h : (code.getD (code.getD at' (0, 0)).2.toNat (0, 0)).2 = (code.getD at' (0, 0)).2) : hopC at' code = code := by
  unfold hopC
  split
  · rw [h]
    rcases Nat.lt_or_ge at' code.length with a | a
    · rw [getD_code a]; exact List.set_getElem_self a
    · rw [List.set_eq_of_length_le a]
  · rfl
theorem hopN_stay {at' : Nat} {code : List (Int × Int)} {k : Nat} (h : hopC at' (hopN at' k code) = hopN at' k code) (j : Nat) : hopN at' (k + j) code = hopN at' k code := by
  induction j with
  | zero => rfl
  | succ j ih => show hopC at' (hopN at' (k + j) code) = _; rw [ih, h]
theorem hopN_end {at' : Nat} {code : List (Int × Int)} {k n : Nat} (hk : k ≤ n) (h : hopC at' (hopN at' k code) = hopN at' k code) : hopN at' n code = hopN at' k code := by
  have := hopN_stay h (n - k)
  rwa [show k + (n - k) = n by omega] at this
theorem hopN_out {at' : Nat} {code : List (Int × Int)} (h : code.length ≤ at') (k : Nat) : hopN at' k code = code := by
  have := hopN_end (at' := at') (code := code) (k := 0) (n := k) (Nat.zero_le _) (hopC_out h)
  exact this
theorem thrTo_len (code : List (Int × Int)) (k : Nat) : (thrTo code k).length = code.length := by
  have hn : ∀ at' j (l : List (Int × Int)), (hopN at' j l).length = l.length := by
    intro at' j l
    induction j with
    | zero => rfl
    | succ j ih => exact (hopC_len _ _).trans ih
  induction k with
  | zero => rfl
  | succ k ih => exact (hn _ _ _).trans ih
theorem thrTo_more {code : List (Int × Int)} {n : Nat} (h : code.length ≤ n) : thrTo code n = thrOf code := by
  have : ∀ j, thrTo code (code.length + j) = thrOf code := by
    intro j
    induction j with
    | zero => rfl
    | succ j ih =>
      show hopN (code.length + j) 120 (thrTo code (code.length + j)) = _
      rw [hopN_out (by rw [thrTo_len]; omega), ih]
  have := this (n - code.length)
  rwa [show code.length + (n - code.length) = n by omega] at this
end Go.Proofs.Ytffeejkghmpkkaa

namespace Go.Proofs
open Go.Shelf
def Try.laysM316_ren : Go.Shelf.Ren := ⟨fun | 316 => 56 | n => n, fun | 9 => 9 | 3 => 3 | 4 => 4 | 37 => 94 | 0 => 0 | 127 => 100 | 5 => 5 | n => n, fun | n => n⟩
theorem Try.laysM316 : Go.Proofs.LaysM.n316 Try.prog Try.laysM316_ren := {
  mixed := by kernel_rfl
  f316 := Try.func56.trans (congrArg some (by kernel_rfl))
  t0 := Try.underlying0
  a0 := Try.isAgg0
  z0 := Try.sizeOf0
  v0 := Try.zeroValue0
  t3 := Try.underlying3
  a3 := Try.isAgg3
  z3 := Try.sizeOf3
  v3 := Try.zeroValue3
  t4 := Try.underlying4
  a4 := Try.isAgg4
  z4 := Try.sizeOf4
  v4 := Try.zeroValue4
  t9 := Try.underlying9
  a9 := Try.isAgg9
  z9 := Try.sizeOf9
  v9 := Try.zeroValue9
  t37 := Try.underlying94
  a37 := Try.isAgg94
  z37 := Try.sizeOf94
  v37 := Try.zeroValue94
  t127 := Try.underlying100
  a127 := Try.isAgg100
  z127 := Try.sizeOf100
  v127 := Try.zeroValue100
  t5 := Try.underlying5
  a5 := Try.isAgg5
  z5 := Try.sizeOf5
  v5 := Try.zeroValue5
  i0 := by kernel_rfl
  i3 := by kernel_rfl
  i4 := by kernel_rfl
  i5 := by kernel_rfl
  i9 := by kernel_rfl
  i37 := by kernel_rfl
  i127 := by kernel_rfl }
open Go.RowKit in
/-- internal/stringslite.Clone (what strings.Clone calls): "Clone returns a fresh copy of s.": THE SAME BYTES. Of what was there nothing has turned (a new row is laid, and frozen, where s is not empty). (LAID: no walk: one application.) -/
theorem Try.stringslite_Clone (s : ByteArray) (w : World) (hlim : s.size ≤ 281474976710656) :
    Calls Try.prog 56 #[.string s] w fun e w' => e = .returned (.string s) ∧ Below w.heap.size w w' := Any.stringslite_Clone Try.laysM316 s w hlim
def Try.laysNm225_ren : Go.Shelf.Ren := ⟨fun | 25 => 71 | 31 => 78 | 32 => 79 | 37 => 82 | n => n, fun | 22 => 38 | 3 => 3 | 4 => 4 | 40 => 101 | 0 => 0 | n => n, fun | n => n⟩
theorem Try.laysNm225 : Go.Proofs.Lays2.n25 Try.prog Try.laysNm225_ren := {
  mixed := by kernel_rfl
  f25 := Try.func71.trans (congrArg some (by kernel_rfl))
  f31 := Try.func78.trans (congrArg some (by kernel_rfl))
  f32 := Try.func79.trans (congrArg some (by kernel_rfl))
  f37 := Try.func82.trans (congrArg some (by kernel_rfl))
  t0 := Try.underlying0
  a0 := Try.isAgg0
  z0 := Try.sizeOf0
  v0 := Try.zeroValue0
  t3 := Try.underlying3
  a3 := Try.isAgg3
  z3 := Try.sizeOf3
  v3 := Try.zeroValue3
  t4 := Try.underlying4
  a4 := Try.isAgg4
  z4 := Try.sizeOf4
  v4 := Try.zeroValue4
  t22 := Try.underlying38
  a22 := Try.isAgg38
  z22 := Try.sizeOf38
  v22 := Try.zeroValue38
  t40 := Try.underlying101
  a40 := Try.isAgg101
  z40 := Try.sizeOf101
  v40 := Try.zeroValue101 }
open Go.RowKit Go.Lib in
/-- slices.BinarySearch at []int: "BinarySearch searches for target in a sorted slice and returns the earliest position where target is found, or the position where target would appear in the sort order; it also returns a bool saying whether the target is really found in the slice. The slice must be sorted in increasing order.": OF A SORTED SLICE IT RETURNS how many elements are less than the target, and whether the target is among the elements; the world is as it was but for the count of draws. 'zs': what the cells behind the slice's address hold; 'zs.take n': its elements. (Of a slice that is not sorted: no contract here.) (LAID: no walk: one application.) -/
theorem Try.slices_BinarySearch_int (b off n c : Nat) (zs : List Int) (x : Int) (w : World) (hz : n ≤ zs.length) (hbig : n < 4611686018427387904) (hc : ∀ j, j < zs.length → w.cell? ⟨b, off + j, none⟩ = some (.int .i64 (zs.getD j 0))) (hs : (zs.take n).Pairwise (· ≤ ·)) :
    Calls Try.prog 71 #[.slice (some ⟨b, off, none⟩) n c, .int .i64 x] w fun e w' => e = .returned (.tuple #[.int .i64 ((zs.take n).countP (· < x) : Nat), .bool ((zs.take n).contains x)]) ∧ ∃ q, w' = w.drewN q := Any.slices_BinarySearch_int Try.laysNm225 b off n c zs x w hz hbig hc hs
open Go.RowKit Go.Lib in
/-- slices.BinarySearch at []int of no element: position 0, not found; the world is as it was. (LAID: no walk: one application.) -/
theorem Try.slices_BinarySearch_int_empty (a : Option Addr) (c : Nat) (x : Int) (w : World) :
    Calls Try.prog 71 #[.slice a 0 c, .int .i64 x] w fun e w' => e = .returned (.tuple #[.int .i64 0, .bool false]) ∧ w' = w := Any.slices_BinarySearch_int_empty Try.laysNm225 a c x w
end Go.Proofs
