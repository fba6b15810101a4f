/-
  A set of bits as two words, and what bitSet.with returns.
  What the size functions of the laws (sz..) and spec.l01Between return, for every argument within the stated sizes.
-/
import Derived.Test.YtjdoljaailokmaaGreatDoorZFQ2
import Derived.Test.YtjdoljaailokmaaGreatDoorProg
import Derived.WalkKit
import Derived.WalkSpells
import Derived.WalkLawsBesides
import Derived.Deep.QuietTactic
import Derived.BigQuiet
import Derived.Deep.RegionWith
namespace Go.Proofs.YtjdoljaailokmaaGreatDoor
open Go.RowKit

/-- A set with one place more. -/
def bw (s : Nat × Nat) (k : Nat) : Nat × Nat := if k < 64 then (s.1 ||| 2 ^ k, s.2) else (s.1, s.2 ||| 2 ^ (k - 64))
/-- Whether a place is in a set. -/
def bhas (s : Nat × Nat) (k : Nat) : Bool := if k < 64 then s.1.testBit k else s.2.testBit (k - 64)
/-- Both are words. -/
def bok (s : Nat × Nat) : Prop := s.1 < 2 ^ 64 ∧ s.2 < 2 ^ 64
/-- A set as a value. -/
def bv (s : Nat × Nat) : Value := .agg #[.int .u64 (s.1 : Int), .int .u64 (s.2 : Int)]

theorem bw_ok {s : Nat × Nat} {k : Nat} (h : bok s) (hk : k < 128) : bok (bw s k) := by
  unfold bw
  split
  · exact ⟨Nat.or_lt_two_pow h.1 (Nat.pow_lt_pow_right (by decide) (by omega)), h.2⟩
  · exact ⟨h.1, Nat.or_lt_two_pow h.2 (Nat.pow_lt_pow_right (by decide) (by omega))⟩
theorem bhas_bw {s : Nat × Nat} {k j : Nat} (_ : k < 128) (_ : j < 128) : bhas (bw s k) j = (bhas s j || decide (k = j)) := by
  unfold bw bhas
  by_cases h : k < 64
  · rw [if_pos h]
    by_cases h2 : j < 64
    · simp only [if_pos h2, Nat.testBit_or, Nat.testBit_two_pow]
    · simp only [if_neg h2]
      rw [decide_eq_false (by omega), Bool.or_false]
  · rw [if_neg h]
    by_cases h2 : j < 64
    · simp only [if_pos h2]
      rw [decide_eq_false (by omega), Bool.or_false]
    · simp only [if_neg h2, Nat.testBit_or, Nat.testBit_two_pow]
      congr 1
      apply decide_eq_decide.2
      omega
theorem bhas_zero (j : Nat) : bhas (0, 0) j = false := by simp [bhas]
theorem bset_ext {s t : Nat × Nat} (hs : bok s) (ht : bok t) (h : ∀ j, j < 128 → bhas s j = bhas t j) : s = t := by
  apply Prod.ext
  · apply Nat.eq_of_testBit_eq
    intro i
    by_cases hi : i < 64
    · have := h i (by omega)
      simpa [bhas, hi] using this
    · rw [Nat.testBit_lt_two_pow (Nat.lt_of_lt_of_le hs.1 (Nat.pow_le_pow_right (by decide) (by omega))), Nat.testBit_lt_two_pow (Nat.lt_of_lt_of_le ht.1 (Nat.pow_le_pow_right (by decide) (by omega)))]
  · apply Nat.eq_of_testBit_eq
    intro i
    by_cases hi : i < 64
    · have := h (i + 64) (by omega)
      have e : ¬ i + 64 < 64 := by omega
      simpa [bhas, e] using this
    · rw [Nat.testBit_lt_two_pow (Nat.lt_of_lt_of_le hs.2 (Nat.pow_le_pow_right (by decide) (by omega))), Nat.testBit_lt_two_pow (Nat.lt_of_lt_of_le ht.2 (Nat.pow_le_pow_right (by decide) (by omega)))]

theorem wrap_word {a : Nat} (h : a < 2 ^ 64) : IntKind.u64.wrap (a : Int) = (a : Int) := by
  rw [IntKind.wrap_u64]
  have h' : a < 18446744073709551616 := h
  omega
theorem wrap_pow {k : Nat} (h : k < 64) : IntKind.u64.wrap (2 ^ k) = ((2 ^ k : Nat) : Int) := by
  have := wrap_word (a := 2 ^ k) (Nat.pow_lt_pow_right (by decide) h)
  push_cast at this ⊢
  exact this
theorem bits_or {a b : Nat} (ha : a < 2 ^ 64) (hb : b < 2 ^ 64) : bits .or .u64 (a : Int) (b : Int) = ((a ||| b : Nat) : Int) := by
  have hlt := Nat.or_lt_two_pow ha hb
  simp only [bits]
  show IntKind.u64.wrap (((BitVec.ofInt 64 (a : Int)) ||| (BitVec.ofInt 64 (b : Int))).toNat : Int) = _
  rw [BitVec.ofInt_natCast, BitVec.ofInt_natCast, BitVec.toNat_or, BitVec.toNat_ofNat, BitVec.toNat_ofNat, Nat.mod_eq_of_lt ha, Nat.mod_eq_of_lt hb]
  exact wrap_word hlt

theorem bw_lo {x y k : Nat} (h : k < 64) : bw (x, y) k = (x ||| 2 ^ k, y) := if_pos h
theorem bw_hi {x y k : Nat} (h : ¬ k < 64) : bw (x, y) k = (x, y ||| 2 ^ (k - 64)) := if_neg h

set_option maxRecDepth 100000 in
set_option maxHeartbeats 1000000 in
theorem with_any (s : Nat × Nat) (k : Nat) (w : World) (hs : bok s) (hk : k < 128) :
    Calls Tryz.prog 63 #[bv s, .int .i64 (k : Int)] w fun e w' => e = .returned (bv (bw s k)) ∧ Below w.heap.size w w' := by
  obtain ⟨x, y⟩ := s
  by_cases h : k < 64
  · have HO : Hid (bits .or .u64 (x : Int) (IntKind.u64.wrap (2 ^ k)) = ((x ||| 2 ^ k : Nat) : Int)) := by
      show _ = _
      rw [wrap_pow h]; exact bits_or hs.1 (Nat.pow_lt_pow_right (by decide) h)
    rw [bw_lo h]
    unfold bv
    dsimp only
    have h1 : (k : Int) / 64 = 0 := by omega
    have h2 : k / 64 = 0 := by omega
    have h3 : (k : Int) % 64 = k := by omega
    have h4 : k % 64 = k := by omega
    go_enter Tryz.func63, Tryz.ntmps63
    go_wp2
    go_region
    go_wp2
    rw [HO.out]
    refine bodyPost_ret (v := .agg #[.int .u64 ((x ||| 2 ^ k : Nat) : Int), .int .u64 (y : Int)]) (by simp [results, Tryz.results63, go_sem]) rfl ⟨rfl, ?_⟩
    exact (((Below.refl _ _).alloc (Nat.le_refl _) _).alloc (by simp) _).drew
  · have HO : Hid (bits .or .u64 (y : Int) (IntKind.u64.wrap (2 ^ (k - 64))) = ((y ||| 2 ^ (k - 64) : Nat) : Int)) := by
      show _ = _
      rw [wrap_pow (by omega)]; exact bits_or hs.2 (Nat.pow_lt_pow_right (by decide) (by omega))
    rw [bw_hi h]
    unfold bv
    dsimp only
    have h1 : (k : Int) / 64 = 1 := by omega
    have h2 : k / 64 = 1 := by omega
    have h3 : (k : Int) % 64 = (k : Int) - 64 := by omega
    have h4 : k % 64 = k - 64 := by omega
    go_enter Tryz.func63, Tryz.ntmps63
    go_wp2
    go_region
    go_wp2
    rw [HO.out]
    refine bodyPost_ret (v := .agg #[.int .u64 (x : Int), .int .u64 ((y ||| 2 ^ (k - 64) : Nat) : Int)]) (by simp [results, Tryz.results63, go_sem]) rfl ⟨rfl, ?_⟩
    exact (((Below.refl _ _).alloc (Nat.le_refl _) _).alloc (by simp) _).drew
end Go.Proofs.YtjdoljaailokmaaGreatDoor

namespace Go.Proofs.YtjdoljaailokmaaGreatDoor
open Go.RowKit

theorem below_draws {B : Nat} {a w : World} (h : Below B a w) (n : Nat) : Below B a (w.drewN n) := h.trans ⟨rfl, rfl, rfl, Nat.le_refl _, fun _ _ => rfl⟩

set_option maxHeartbeats 400000 in
theorem between_any (n lo hi : Int) (w : World) :
    Calls Tryz.prog 56 #[.int .i64 n, .int .i64 lo, .int .i64 hi] w fun e w' => e = .returned (.bool (decide (lo ≤ n) && decide (n ≤ hi))) ∧ w' = w := by
  by_cases h1 : lo ≤ n
  · by_cases h2 : n ≤ hi
    all_goals
      go_enter Tryz.func56, Tryz.ntmps56
      go_wp2
      go_ret
      exact ⟨ret_bool (by rw [Bool.eq_iff_iff]; simp; omega), rfl⟩
  · go_enter Tryz.func56, Tryz.ntmps56
    go_wp2
    go_ret
    exact ⟨ret_bool (by rw [Bool.eq_iff_iff]; simp; omega), rfl⟩

set_option maxHeartbeats 400000 in
theorem szInsS_any (a : Option Addr) (n cap : Nat) (left : Int) (w : World) (h0 : 0 ≤ left) (h1 : left ≤ 1048576) (hn : n ≤ maxLen) :
    Calls Tryz.prog 51 #[.slice a n cap, .int .i64 left] w fun e w' => e = .returned (.int .i64 (if left < n then -1 else left - n)) ∧ w' = w := by
  unfold maxLen at hn
  by_cases h : left < n
  all_goals
    go_enter Tryz.func51, Tryz.ntmps51
    go_wp2
    go_ret
    exact ⟨ret_int (by omega), rfl⟩

set_option maxHeartbeats 400000 in
theorem szFunc_any (p l : Int) (a : Option Addr) (n cap : Nat) (left : Int) (w : World) (h0 : 0 ≤ left) (h1 : left ≤ 1048576) (hn : n ≤ maxLen) :
    Calls Tryz.prog 28 #[.agg #[.int .i64 p, .int .i64 l, .slice a n cap], .int .i64 left] w fun e w' => e = .returned (.int .i64 (if left < n then -1 else left - n)) ∧ Below w.heap.size w w' := by
  by_cases h : left < n
  all_goals
    go_enter Tryz.func28, Tryz.ntmps28
    go_wp2_with (go_at_call 51; refine (szInsS_any _ _ _ _ _ h0 h1 hn).mono ?_; rintro e w' ⟨rfl, rfl⟩)
    go_ret
    exact ⟨ret_int (by omega), (Below.refl _ _).alloc (Nat.le_refl _) _⟩

theorem take_succ_mem {α : Type} {l : List α} {k : Nat} (h : k < l.length) {p : α → Prop} (h1 : ∀ x ∈ l.take k, p x) (h2 : p l[k]) : ∀ x ∈ l.take (k + 1), p x := by
  intro x hx
  rw [List.take_succ_eq_append_getElem h] at hx
  rcases List.mem_append.1 hx with hx | hx
  · exact h1 x hx
  · rw [List.mem_singleton.1 hx]; exact h2

set_option maxHeartbeats 400000 in
theorem szFuncS_any (a : Option Addr) (fs : List Fn) (cap : Nat) (left : Int) (w : World) (h0 : 0 ≤ left) (h1 : left ≤ 1048576) (hn : fs.length ≤ maxLen) (hc : ∀ f ∈ fs, f.code.length ≤ maxLen) (hm : FnsAt w 0 a fs) :
    Calls Tryz.prog 12 #[.slice a fs.length cap, .int .i64 left] w fun e w' => ∃ r : Int, e = .returned (.int .i64 r) ∧ r ≤ left ∧ (0 ≤ r → fs.length ≤ 1048576 ∧ ∀ f ∈ fs, f.code.length ≤ 1048576) ∧ Below w.heap.size w w' := by
  unfold maxLen at hn
  by_cases h : left < fs.length
  · go_enter Tryz.func12, Tryz.ntmps12
    go_wp2
    go_ret
    exact ⟨-1, rfl, by omega, by omega, Below.refl _ _⟩
  · go_enter Tryz.func12, Tryz.ntmps12
    go_wp2
    go_loopw [1, 5] (fun l i wr => ∃ (k : Nat) (q : Int), k ≤ fs.length ∧ i = .int .i64 k ∧ l = .int .i64 q ∧ 0 ≤ q ∧ q ≤ left - fs.length ∧ (∀ f ∈ fs.take k, f.code.length ≤ 1048576) ∧ Below w.heap.size w wr) (fun _ i _ => fs.length - (intOf i).toNat)
    case atStart => exact ⟨0, _, by omega, rfl, rfl, by omega, by omega, by simp, Below.refl _ _⟩
    case round =>
      obtain ⟨k, q, hk, rfl, rfl, hq0, hq1, hall, hb⟩ := hrel
      by_cases hlt : k < fs.length
      · obtain ⟨b, off, ca, cc, rfl, -, c1, c2, c3, -⟩ := hm k hlt
        have c1' := cell_later hb c1
        have c2' := cell_later hb c2
        have c3' := cell_later hb c3
        clear c1 c2 c3
        have hck := hc fs[k] (List.getElem_mem hlt)
        by_cases hs : q < fs[k].code.length
        · go_wp2_with (go_at_call 28; refine (szFunc_any _ _ _ _ _ _ _ hq0 (by omega) hck).mono ?_; rintro e w' ⟨rfl, hb'⟩)
          go_ret
          exact ⟨_, rfl, by omega, by omega, hb.trans (hb'.mono hb.size)⟩
        · go_wp2_with (go_at_call 28; refine (szFunc_any _ _ _ _ _ _ _ hq0 (by omega) hck).mono ?_; rintro e w' ⟨rfl, hb'⟩)
          go_roundw
          case rel => exact ⟨k + 1, q - fs[k].code.length, by omega, by go_num, by rw [if_neg (by omega)], by omega, by omega, take_succ_mem hlt hall (by omega), hb.trans (hb'.mono hb.size)⟩
          case measure => simp [intOf]; omega
      · go_wp2
        go_ret
        exact ⟨q, rfl, by omega, fun _ => ⟨by omega, by rwa [List.take_of_length_le (by omega)] at hall⟩, hb⟩

set_option maxHeartbeats 400000 in
theorem szStringS_any (a : Option Addr) (ss : List ByteArray) (cap : Nat) (left : Int) (w : World) (h0 : 0 ≤ left) (h1 : left ≤ 1048576) (hn : ss.length ≤ maxLen) (hc : ∀ s ∈ ss, s.size ≤ maxLen) (hm : StrsAt w 0 a ss) :
    Calls Tryz.prog 11 #[.slice a ss.length cap, .int .i64 left] w fun e w' => ∃ r : Int, e = .returned (.int .i64 r) ∧ r ≤ left ∧ (0 ≤ r → ss.length ≤ 1048576 ∧ ∀ s ∈ ss, s.size ≤ 1048576) ∧ Below w.heap.size w w' := by
  unfold maxLen at hn
  by_cases h : left < ss.length
  · go_enter Tryz.func11, Tryz.ntmps11
    go_wp2
    go_ret
    exact ⟨-1, rfl, by omega, by omega, Below.refl _ _⟩
  · go_enter Tryz.func11, Tryz.ntmps11
    go_wp2
    go_loopw [1, 5] (fun l i wr => ∃ (k : Nat) (q : Int), k ≤ ss.length ∧ i = .int .i64 k ∧ l = .int .i64 q ∧ 0 ≤ q ∧ q ≤ left - ss.length ∧ (∀ s ∈ ss.take k, s.size ≤ 1048576) ∧ Below w.heap.size w wr) (fun _ i _ => ss.length - (intOf i).toNat)
    case atStart => exact ⟨0, _, by omega, rfl, rfl, by omega, by omega, by simp, Below.refl _ _⟩
    case round =>
      obtain ⟨k, q, hk, rfl, rfl, hq0, hq1, hall, hb⟩ := hrel
      by_cases hlt : k < ss.length
      · obtain ⟨b, off, rfl, -, c1⟩ := hm k hlt
        have c1' := cell_later hb c1
        clear c1
        have hck := hc ss[k] (List.getElem_mem hlt)
        unfold maxLen at hck
        by_cases hs : q < ss[k].size
        · go_wp2
          go_ret
          exact ⟨_, rfl, by omega, by omega, hb⟩
        · go_wp2
          go_roundw
          case rel => exact ⟨k + 1, q - ss[k].size, by omega, by go_num, rfl, by omega, by omega, take_succ_mem hlt hall (by omega), hb⟩
          case measure => simp [intOf]; omega
      · go_wp2
        go_ret
        exact ⟨q, rfl, by omega, fun _ => ⟨by omega, by rwa [List.take_of_length_le (by omega)] at hall⟩, hb⟩

set_option maxHeartbeats 400000 in
theorem szModule_any (a a2 : Option Addr) (ts : List ByteArray) (fs : List Fn) (cap cap2 : Nat) (w : World) (hn : ts.length ≤ maxLen) (hc : ∀ s ∈ ts, s.size ≤ maxLen) (hm : StrsAt w 0 a ts)
    (hn2 : fs.length ≤ maxLen) (hc2 : ∀ f ∈ fs, f.code.length ≤ maxLen) (hm2 : FnsAt w 0 a2 fs) :
    Calls Tryz.prog 4 #[.agg #[.slice a ts.length cap, .slice a2 fs.length cap2], .int .i64 1048576] w fun e w' => ∃ r : Int, e = .returned (.int .i64 r) ∧ (0 ≤ r → Small ts fs) ∧ Below w.heap.size w w' := by
  go_enter Tryz.func4, Tryz.ntmps4
  go_wp2_with fail
  refine (szStringS_any a ts cap 1048576 _ (by omega) (by omega) hn hc (hm.mono ((Below.refl _ _).alloc (Nat.le_refl _) _))).mono ?_
  rintro e w1 ⟨r, rfl, hr, hs, hb⟩
  have hb1 : Below w.heap.size w w1 := ((Below.refl _ _).alloc (Nat.le_refl _) _).trans (hb.mono (by simp))
  obtain ⟨hx, hf⟩ : w1.cell? ⟨w.heap.size, 0, none⟩ = some (.slice a ts.length cap) ∧ w1.cell? ⟨w.heap.size, 1, none⟩ = some (.slice a2 fs.length cap2) := by
    constructor
    · exact cell_later hb (cell_new _ _ _ 0)
    · exact cell_later hb (cell_new _ _ _ 1)
  by_cases h0 : r < 0
  · go_wp2_with fail
    go_ret
    exact ⟨_, rfl, by omega, hb1⟩
  · go_wp2_with fail
    refine (szFuncS_any a2 fs cap2 r _ (by omega) (by omega) hn2 hc2 (hm2.mono hb1)).mono ?_
    rintro e w2 ⟨r2, rfl, hr2, hs2, hb2⟩
    have hb3 : Below w.heap.size w w2 := hb1.trans (hb2.mono hb1.size)
    by_cases h2 : r2 < 0
    · go_wp2_with fail
      go_ret
      exact ⟨_, rfl, by omega, hb3⟩
    · go_wp2_with fail
      go_ret
      exact ⟨_, rfl, fun _ => ⟨(hs (by omega)).1, (hs (by omega)).2, (hs2 (by omega)).1, (hs2 (by omega)).2⟩, hb3⟩
end Go.Proofs.YtjdoljaailokmaaGreatDoor
