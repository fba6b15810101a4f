/-
  Plain predicates that say which cells of memory hold a list of texts, of instructions, of functions; they stay true where nothing that was there is written.
  A set of bits as two words, and what bitSet.with returns.
  Words and their lowest bits.
  What bits.TrailingZeros64 returns, where its table is laid.
  What the size functions of the laws (sz..) and spec.l01Between return, for every argument within the stated sizes.
  States of the machine as plain data, and which cells of memory hold them.
  The comparing functions of the laws (eq..) return true where both arguments read as the same data.
  From the form in which an argument is read to the predicates of the text Mem.
  Sites as plain data: which cells of memory hold them; what the laws' sizing, copying and comparing functions return of them; how an argument is read.
  Code as plain data, and which cells of memory hold it.
  The small functions that sites are asked with, of both sides.
  When a text, an instruction, a function and a module are ok, as functions on plain data, and what is known of them.
  What spec.l01Text, impl.textOk and impl.argBounds return, for every argument within the stated sizes.
-/
import Derived.WalkKit
import Derived.WalkSpells
import Derived.Test.YtoimokjohmhnaaaGreatDoorProg
import Derived.WalkLawsBesides
import Derived.Deep.QuietTactic
import Derived.BigQuiet
import Derived.Deep.RegionWith
import Derived.Deep.Slices
import Derived.Deep.SlicePairs
import Derived.Deep.Strs
import Derived.OpenShut
import Derived.Lib.SmallJoins
import Derived.Deep.RegionHeld3
namespace Go.Proofs.YtoimokjohmhnaaaGreatDoor
open Go.RowKit

/-- A function of a module as plain data. -/
structure Fn where
  params : Int
  locals : Int
  code : List (Int × Int)

theorem ret_int {k : IntKind} {a b : Int} (h : a = b) : Ending.returned (.int k a) = .returned (.int k b) := by rw [h]
theorem ret_bool {a b : Bool} (h : a = b) : Ending.returned (.bool a) = .returned (.bool b) := by rw [h]

theorem cell_new (w : World) (C : Array Value) (t : TypeId) (j : Nat) : (w.alloc (.cells C t)).cell? ⟨w.heap.size, j, none⟩ = C[j]? := World.cell?_alloc_mark w C t (0, 0) j

/-- The cells of a list of strings, in blocks from 'lo' on. -/
def StrsAt (w : World) (lo : Nat) (a : Option Addr) (ss : List ByteArray) : Prop :=
  ∀ i (h : i < ss.length), ∃ b off, a = some ⟨b, off, none⟩ ∧ lo ≤ b ∧ w.cell? ⟨b, off + i, none⟩ = some (.string ss[i])

/-- The cells of a list of instructions. -/
def CodeAt (w : World) (lo : Nat) (a : Option Addr) (xs : List (Int × Int)) : Prop :=
  ∀ i (h : i < xs.length), ∃ b off, a = some ⟨b, off, none⟩ ∧ lo ≤ b ∧ w.cell? ⟨b, off + i * 2, none⟩ = some (.int .i64 xs[i].1) ∧ w.cell? ⟨b, off + i * 2 + 1, none⟩ = some (.int .i64 xs[i].2)

/-- The cells of a list of functions. -/
def FnsAt (w : World) (lo : Nat) (a : Option Addr) (fs : List Fn) : Prop :=
  ∀ i (h : i < fs.length), ∃ b off ca cc, a = some ⟨b, off, none⟩ ∧ lo ≤ b ∧ w.cell? ⟨b, off + i * 3, none⟩ = some (.int .i64 fs[i].params) ∧
    w.cell? ⟨b, off + i * 3 + 1, none⟩ = some (.int .i64 fs[i].locals) ∧ w.cell? ⟨b, off + i * 3 + 2, none⟩ = some (.slice ca fs[i].code.length cc) ∧ CodeAt w lo ca fs[i].code

theorem StrsAt.mono {w w' : World} {lo : Nat} {a : Option Addr} {ss : List ByteArray} (h : StrsAt w lo a ss) (hb : Below w.heap.size w w') : StrsAt w' lo a ss := by
  intro i hi
  obtain ⟨b, off, h1, h2, h3⟩ := h i hi
  exact ⟨b, off, h1, h2, cell_later hb h3⟩

theorem CodeAt.mono {w w' : World} {lo : Nat} {a : Option Addr} {xs : List (Int × Int)} (h : CodeAt w lo a xs) (hb : Below w.heap.size w w') : CodeAt w' lo a xs := by
  intro i hi
  obtain ⟨b, off, h1, h2, h3, h4⟩ := h i hi
  exact ⟨b, off, h1, h2, cell_later hb h3, cell_later hb h4⟩

theorem FnsAt.mono {w w' : World} {lo : Nat} {a : Option Addr} {fs : List Fn} (h : FnsAt w lo a fs) (hb : Below w.heap.size w w') : FnsAt w' lo a fs := by
  intro i hi
  obtain ⟨b, off, ca, cc, h1, h2, h3, h4, h5, h6⟩ := h i hi
  exact ⟨b, off, ca, cc, h1, h2, cell_later hb h3, cell_later hb h4, cell_later hb h5, h6.mono hb⟩

/-- The block of a slice that 'make' laid. -/
theorem made_block {w1 : World} {base e size g n : Nat} {xs : List Value} (h : w1.ownsRow base e size (.slice (some ⟨g, 0, none⟩) n n) n xs) : ∃ cur, w1.heap[g]? = some (.cells cur e (0, 0)) ∧ cur.size = n * size := by
  rcases h.2 with ⟨hv, -⟩ | ⟨g', cap, cur, hv, -, hh, -, -, hs, -⟩
  · cases hv
  · cases hv
    exact ⟨cur, hh, hs⟩

theorem block_cell {w : World} {g : Nat} {cs : Array Value} {t : TypeId} {fr : Nat × Nat} (h : w.heap[g]? = some (.cells cs t fr)) (i : Nat) : w.cell? ⟨g, i, none⟩ = cs[i]? := by simp [World.cell?, h]
theorem block_free {w : World} {g : Nat} {cs : Array Value} {t : TypeId} (h : w.heap[g]? = some (.cells cs t (0, 0))) (i : Nat) : w.frozen? ⟨g, i, none⟩ = false := by simp [World.frozen?, h]
theorem block_set {w : World} {g i : Nat} {cs : Array Value} {t : TypeId} {fr : Nat × Nat} (h : w.heap[g]? = some (.cells cs t fr)) (v : Value) : (w.setCell ⟨g, i, none⟩ v).heap[g]? = some (.cells (cs.setIfInBounds i v) t fr) := by
  rw [setCell_eq_setRow w g i cs t fr v h]
  exact setRow_heap w g _ _ t _ h

theorem block_kept {w w' : World} {g : Nat} {o : Obj} (h : w.heap[g]? = some o) (hb : Below w.heap.size w w') : w'.heap[g]? = some o := by
  have hlt : g < w.heap.size := by
    rcases Nat.lt_or_ge g w.heap.size with h' | h'
    · exact h'
    · rw [Array.getElem?_eq_none h'] at h; cases h
  rw [hb.block g hlt, h]

theorem set_self {cur : Array Value} {k : Nat} (v : Value) (h : k < cur.size) : (cur.setIfInBounds k v)[k]? = some v := by simp [h]
theorem set_else {cur : Array Value} {k j : Nat} (v : Value) (h : j ≠ k) : (cur.setIfInBounds k v)[j]? = cur[j]? := Array.getElem?_setIfInBounds_ne (fun x => h x.symm)

theorem block_new (w : World) (C : Array Value) (t : TypeId) : (w.alloc (.cells C t)).heap[w.heap.size]? = some (.cells C t (0, 0)) := by
  show (w.heap.push _)[w.heap.size]? = _
  simp
theorem block_old {w : World} {g : Nat} {o : Obj} (h : w.heap[g]? = some o) (x : Obj) : (w.alloc x).heap[g]? = some o := block_kept h ((Below.refl _ _).alloc (Nat.le_refl _) x)

/-- From block 'lo' on the two worlds are one. -/
def Above (lo : Nat) (w w' : World) : Prop := ∀ k, lo ≤ k → k < w.heap.size → w'.heap[k]? = w.heap[k]?
theorem Above.refl (lo : Nat) (w : World) : Above lo w w := fun _ _ _ => rfl
theorem Above.setCell {lo : Nat} {w w' : World} (h : Above lo w w') {p : Addr} (hp : p.block < lo) (v : Value) : Above lo w (w'.setCell p v) := fun k hk hs => by
  rw [Below.heap_setCell _ _ _ _ (by omega)]; exact h k hk hs
theorem Above.cell {lo : Nat} {w w' : World} (h : Above lo w w') {b off : Nat} {v : Value} (hb : lo ≤ b) (hc : w.cell? ⟨b, off, none⟩ = some v) : w'.cell? ⟨b, off, none⟩ = some v := by
  rw [World.cell?_of_block (w := w) (h b hb (World.block_lt_of_cell? w _ hc))]; exact hc
theorem StrsAt.above {w w' : World} {lo : Nat} {a : Option Addr} {ss : List ByteArray} (h : StrsAt w lo a ss) (hb : Above lo w w') : StrsAt w' lo a ss := by
  intro i hi
  obtain ⟨b, off, h1, h2, h3⟩ := h i hi
  exact ⟨b, off, h1, h2, hb.cell h2 h3⟩
theorem CodeAt.above {w w' : World} {lo : Nat} {a : Option Addr} {xs : List (Int × Int)} (h : CodeAt w lo a xs) (hb : Above lo w w') : CodeAt w' lo a xs := by
  intro i hi
  obtain ⟨b, off, h1, h2, h3, h4⟩ := h i hi
  exact ⟨b, off, h1, h2, hb.cell h2 h3, hb.cell h2 h4⟩
theorem FnsAt.above {w w' : World} {lo : Nat} {a : Option Addr} {fs : List Fn} (h : FnsAt w lo a fs) (hb : Above lo w w') : FnsAt w' lo a fs := by
  intro i hi
  obtain ⟨b, off, ca, cc, h1, h2, h3, h4, h5, h6⟩ := h i hi
  exact ⟨b, off, ca, cc, h1, h2, hb.cell h2 h3, hb.cell h2 h4, hb.cell h2 h5, h6.above hb⟩
theorem StrsAt.low {w : World} {lo lo' : Nat} {a : Option Addr} {ss : List ByteArray} (h : StrsAt w lo a ss) (hl : lo' ≤ lo) : StrsAt w lo' a ss := fun i hi => by
  obtain ⟨b, off, h1, h2, h3⟩ := h i hi
  exact ⟨b, off, h1, by omega, h3⟩
theorem CodeAt.low {w : World} {lo lo' : Nat} {a : Option Addr} {xs : List (Int × Int)} (h : CodeAt w lo a xs) (hl : lo' ≤ lo) : CodeAt w lo' a xs := fun i hi => by
  obtain ⟨b, off, h1, h2, h3, h4⟩ := h i hi
  exact ⟨b, off, h1, by omega, h3, h4⟩
theorem FnsAt.low {w : World} {lo lo' : Nat} {a : Option Addr} {fs : List Fn} (h : FnsAt w lo a fs) (hl : lo' ≤ lo) : FnsAt w lo' a fs := fun i hi => by
  obtain ⟨b, off, ca, cc, h1, h2, h3, h4, h5, h6⟩ := h i hi
  exact ⟨b, off, ca, cc, h1, by omega, h3, h4, h5, h6.low hl⟩

/-- What the guard of a law leaves: nothing is longer than 1048576. -/
structure Small (ts : List ByteArray) (fs : List Fn) : Prop where
  texts : ts.length ≤ 1048576
  text : ∀ s ∈ ts, s.size ≤ 1048576
  funcs : fs.length ≤ 1048576
  code : ∀ f ∈ fs, f.code.length ≤ 1048576
end Go.Proofs.YtoimokjohmhnaaaGreatDoor

namespace Go.Proofs.YtoimokjohmhnaaaGreatDoor
open Go.RowKit

/-- A set with one place more. -/
def bw (s : Nat × Nat) (k : Nat) : Nat × Nat := if k < 64 then (s.1 ||| 2 ^ k, s.2) else (s.1, s.2 ||| 2 ^ (k - 64))
/-- Whether a place is in a set. -/
def bhas (s : Nat × Nat) (k : Nat) : Bool := if k < 64 then s.1.testBit k else s.2.testBit (k - 64)
/-- Both are words. -/
def bok (s : Nat × Nat) : Prop := s.1 < 2 ^ 64 ∧ s.2 < 2 ^ 64
/-- A set as a value. -/
def bv (s : Nat × Nat) : Value := .agg #[.int .u64 (s.1 : Int), .int .u64 (s.2 : Int)]

theorem bw_ok {s : Nat × Nat} {k : Nat} (h : bok s) (hk : k < 128) : bok (bw s k) := by
  unfold bw
  split
  · exact ⟨Nat.or_lt_two_pow h.1 (Nat.pow_lt_pow_right (by decide) (by omega)), h.2⟩
  · exact ⟨h.1, Nat.or_lt_two_pow h.2 (Nat.pow_lt_pow_right (by decide) (by omega))⟩
theorem bhas_bw {s : Nat × Nat} {k j : Nat} (_ : k < 128) (_ : j < 128) : bhas (bw s k) j = (bhas s j || decide (k = j)) := by
  unfold bw bhas
  by_cases h : k < 64
  · rw [if_pos h]
    by_cases h2 : j < 64
    · simp only [if_pos h2, Nat.testBit_or, Nat.testBit_two_pow]
    · simp only [if_neg h2]
      rw [decide_eq_false (by omega), Bool.or_false]
  · rw [if_neg h]
    by_cases h2 : j < 64
    · simp only [if_pos h2]
      rw [decide_eq_false (by omega), Bool.or_false]
    · simp only [if_neg h2, Nat.testBit_or, Nat.testBit_two_pow]
      congr 1
      apply decide_eq_decide.2
      omega
theorem bhas_zero (j : Nat) : bhas (0, 0) j = false := by simp [bhas]
theorem bset_ext {s t : Nat × Nat} (hs : bok s) (ht : bok t) (h : ∀ j, j < 128 → bhas s j = bhas t j) : s = t := by
  apply Prod.ext
  · apply Nat.eq_of_testBit_eq
    intro i
    by_cases hi : i < 64
    · have := h i (by omega)
      simpa [bhas, hi] using this
    · rw [Nat.testBit_lt_two_pow (Nat.lt_of_lt_of_le hs.1 (Nat.pow_le_pow_right (by decide) (by omega))), Nat.testBit_lt_two_pow (Nat.lt_of_lt_of_le ht.1 (Nat.pow_le_pow_right (by decide) (by omega)))]
  · apply Nat.eq_of_testBit_eq
    intro i
    by_cases hi : i < 64
    · have := h (i + 64) (by omega)
      have e : ¬ i + 64 < 64 := by omega
      simpa [bhas, e] using this
    · rw [Nat.testBit_lt_two_pow (Nat.lt_of_lt_of_le hs.2 (Nat.pow_le_pow_right (by decide) (by omega))), Nat.testBit_lt_two_pow (Nat.lt_of_lt_of_le ht.2 (Nat.pow_le_pow_right (by decide) (by omega)))]

theorem wrap_word {a : Nat} (h : a < 2 ^ 64) : IntKind.u64.wrap (a : Int) = (a : Int) := by
  rw [IntKind.wrap_u64]
  have h' : a < 18446744073709551616 := h
  omega
theorem wrap_pow {k : Nat} (h : k < 64) : IntKind.u64.wrap (2 ^ k) = ((2 ^ k : Nat) : Int) := by
  have := wrap_word (a := 2 ^ k) (Nat.pow_lt_pow_right (by decide) h)
  push_cast at this ⊢
  exact this
theorem bits_or {a b : Nat} (ha : a < 2 ^ 64) (hb : b < 2 ^ 64) : bits .or .u64 (a : Int) (b : Int) = ((a ||| b : Nat) : Int) := by
  have hlt := Nat.or_lt_two_pow ha hb
  simp only [bits]
  show IntKind.u64.wrap (((BitVec.ofInt 64 (a : Int)) ||| (BitVec.ofInt 64 (b : Int))).toNat : Int) = _
  rw [BitVec.ofInt_natCast, BitVec.ofInt_natCast, BitVec.toNat_or, BitVec.toNat_ofNat, BitVec.toNat_ofNat, Nat.mod_eq_of_lt ha, Nat.mod_eq_of_lt hb]
  exact wrap_word hlt

theorem bw_lo {x y k : Nat} (h : k < 64) : bw (x, y) k = (x ||| 2 ^ k, y) := if_pos h
theorem bw_hi {x y k : Nat} (h : ¬ k < 64) : bw (x, y) k = (x, y ||| 2 ^ (k - 64)) := if_neg h

set_option maxRecDepth 100000 in
set_option maxHeartbeats 1000000 in
theorem with_any (s : Nat × Nat) (k : Nat) (w : World) (hs : bok s) (hk : k < 128) :
    Calls Tryz.prog 165 #[bv s, .int .i64 (k : Int)] w fun e w' => e = .returned (bv (bw s k)) ∧ Below w.heap.size w w' := by
  obtain ⟨x, y⟩ := s
  by_cases h : k < 64
  · have HO : Hid (bits .or .u64 (x : Int) (IntKind.u64.wrap (2 ^ k)) = ((x ||| 2 ^ k : Nat) : Int)) := by
      show _ = _
      rw [wrap_pow h]; exact bits_or hs.1 (Nat.pow_lt_pow_right (by decide) h)
    rw [bw_lo h]
    unfold bv
    dsimp only
    have h1 : (k : Int) / 64 = 0 := by omega
    have h2 : k / 64 = 0 := by omega
    have h3 : (k : Int) % 64 = k := by omega
    have h4 : k % 64 = k := by omega
    go_enter Tryz.func165, Tryz.ntmps165
    go_wp2
    go_region
    go_wp2
    rw [HO.out]
    refine bodyPost_ret (v := .agg #[.int .u64 ((x ||| 2 ^ k : Nat) : Int), .int .u64 (y : Int)]) (by simp [results, Tryz.results165, go_sem]) rfl ⟨rfl, ?_⟩
    exact (((Below.refl _ _).alloc (Nat.le_refl _) _).alloc (by simp) _).drew
  · have HO : Hid (bits .or .u64 (y : Int) (IntKind.u64.wrap (2 ^ (k - 64))) = ((y ||| 2 ^ (k - 64) : Nat) : Int)) := by
      show _ = _
      rw [wrap_pow (by omega)]; exact bits_or hs.2 (Nat.pow_lt_pow_right (by decide) (by omega))
    rw [bw_hi h]
    unfold bv
    dsimp only
    have h1 : (k : Int) / 64 = 1 := by omega
    have h2 : k / 64 = 1 := by omega
    have h3 : (k : Int) % 64 = (k : Int) - 64 := by omega
    have h4 : k % 64 = k - 64 := by omega
    go_enter Tryz.func165, Tryz.ntmps165
    go_wp2
    go_region
    go_wp2
    rw [HO.out]
    refine bodyPost_ret (v := .agg #[.int .u64 (x : Int), .int .u64 ((y ||| 2 ^ (k - 64) : Nat) : Int)]) (by simp [results, Tryz.results165, go_sem]) rfl ⟨rfl, ?_⟩
    exact (((Below.refl _ _).alloc (Nat.le_refl _) _).alloc (by simp) _).drew
end Go.Proofs.YtoimokjohmhnaaaGreatDoor

namespace Go.Proofs.YtoimokjohmhnaaaGreatDoor
open Go.RowKit

theorem low_form : ∀ (x : Nat), x ≠ 0 → ∃ k m, x = 2 ^ (k + 1) * m + 2 ^ k := by
  intro x
  induction x using Nat.strongRecOn with
  | _ x ih =>
    intro h
    by_cases h2 : x % 2 = 1
    · exact ⟨0, x / 2, by simp; omega⟩
    · obtain ⟨k, m, e⟩ := ih (x / 2) (by omega) (by omega)
      refine ⟨k + 1, m, ?_⟩
      have : x = 2 * (x / 2) := by omega
      rw [this, e, Nat.mul_add, Nat.pow_succ 2 (k + 1), Nat.pow_succ 2 k]
      rw [← Nat.mul_assoc, Nat.mul_comm 2 (2 ^ k * 2), Nat.mul_comm 2 (2 ^ k)]

theorem form_bit (k m j : Nat) : (2 ^ (k + 1) * m + 2 ^ k).testBit j = if j < k + 1 then decide (k = j) else m.testBit (j - (k + 1)) := by
  rw [Nat.testBit_two_pow_mul_add m (Nat.pow_lt_pow_right (by decide) (by omega)) j, Nat.testBit_two_pow]
theorem form_less (k m : Nat) : 2 ^ (k + 1) * m + 2 ^ k - 1 = 2 ^ (k + 1) * m + (2 ^ k - 1) := by
  have := Nat.two_pow_pos k
  omega
theorem form_bit1 (k m j : Nat) : (2 ^ (k + 1) * m + 2 ^ k - 1).testBit j = if j < k + 1 then decide (j < k) else m.testBit (j - (k + 1)) := by
  rw [form_less, Nat.testBit_two_pow_mul_add m (Nat.lt_of_le_of_lt (Nat.sub_le _ _) (Nat.pow_lt_pow_right (by decide) (by omega))) j, Nat.testBit_two_pow_sub_one]

/-- The lowest bit goes. -/
theorem clear_low (k m j : Nat) : ((2 ^ (k + 1) * m + 2 ^ k) &&& (2 ^ (k + 1) * m + 2 ^ k - 1)).testBit j = (decide (k < j) && (2 ^ (k + 1) * m + 2 ^ k).testBit j) := by
  rw [Nat.testBit_and, form_bit, form_bit1]
  by_cases h : j < k + 1
  · rw [if_pos h, if_pos h]
    by_cases e : k = j
    · subst e; simp
    · rw [decide_eq_false e]; simp
  · rw [if_neg h, if_neg h, decide_eq_true (show k < j by omega)]
    simp

/-- The lowest bit alone. -/
theorem keep_low {k m : Nat} (h : 2 ^ (k + 1) * m + 2 ^ k < 2 ^ 64) : (2 ^ (k + 1) * m + 2 ^ k) &&& (2 ^ 64 - (2 ^ (k + 1) * m + 2 ^ k)) = 2 ^ k := by
  have hp := Nat.two_pow_pos k
  have hk : k < 64 := by
    by_cases hk : k < 64
    · exact hk
    · have := Nat.pow_le_pow_right (n := 2) (by decide) (show 64 ≤ k by omega)
      omega
  obtain ⟨y, hy⟩ : ∃ y, y = 2 ^ (k + 1) * m + 2 ^ k - 1 := ⟨_, rfl⟩
  have hx : 2 ^ (k + 1) * m + 2 ^ k = y + 1 := by omega
  apply Nat.eq_of_testBit_eq
  intro j
  rw [Nat.testBit_and]
  have e1 : (2 ^ 64 - (2 ^ (k + 1) * m + 2 ^ k)).testBit j = (decide (j < 64) && !y.testBit j) := by
    rw [hx]
    exact Nat.testBit_two_pow_sub_succ (by omega) j
  rw [e1, form_bit, hy, form_bit1, Nat.testBit_two_pow]
  by_cases h : j < k + 1
  · rw [if_pos h, if_pos h, decide_eq_true (show j < 64 by omega)]
    by_cases e : k = j
    · subst e; simp
    · rw [decide_eq_false e]; simp
  · rw [if_neg h, if_neg h, decide_eq_false (show ¬ k = j by omega)]
    cases m.testBit (j - (k + 1)) <;> simp

theorem bits_and {a b : Nat} (ha : a < 2 ^ 64) (hb : b < 2 ^ 64) : bits .and .u64 (a : Int) (b : Int) = ((a &&& b : Nat) : Int) := by
  have hlt : a &&& b < 2 ^ 64 := Nat.lt_of_le_of_lt Nat.and_le_left ha
  simp only [bits]
  show IntKind.u64.wrap (((BitVec.ofInt 64 (a : Int)) &&& (BitVec.ofInt 64 (b : Int))).toNat : Int) = _
  rw [BitVec.ofInt_natCast, BitVec.ofInt_natCast, BitVec.toNat_and, BitVec.toNat_ofNat, BitVec.toNat_ofNat, Nat.mod_eq_of_lt ha, Nat.mod_eq_of_lt hb]
  exact wrap_word hlt

/-- The table's index of a word that has one bit. -/
def dbI (k : Nat) : Nat := (2 ^ k * 285870213051353865 % 2 ^ 64) / 2 ^ 58
/-- The table. -/
def dbT : List Nat := [0, 1, 56, 2, 57, 49, 28, 3, 61, 58, 42, 50, 38, 29, 17, 4, 62, 47, 59, 36, 45, 43, 51, 22, 53, 39, 33, 30, 24, 18, 12, 5, 63, 55, 48, 27, 60, 41, 37, 16, 46, 35, 44, 21, 52, 32, 23, 11, 54, 26, 40, 15, 34, 20, 31, 10, 25, 14, 19, 9, 13, 8, 7, 6]
theorem dbT_at : ∀ k, k < 64 → dbT[dbI k]? = some k := by decide +kernel
theorem dbI_lt (k : Nat) : dbI k < 64 := by
  unfold dbI
  have := Nat.mod_lt (2 ^ k * 285870213051353865) (show 0 < 2 ^ 64 by decide)
  omega
end Go.Proofs.YtoimokjohmhnaaaGreatDoor

namespace Go.Proofs.YtoimokjohmhnaaaGreatDoor
open Go.RowKit

/-- The table lies. -/
def DB (W : World) : Prop := ∀ i, i < 64 → W.cell? ⟨1, i, none⟩ = some (.int .u8 ((dbT[i]?.getD 0 : Nat) : Int))
theorem DB.mono {W W' : World} (h : DB W) (hb : Below W.heap.size W W') : DB W' := fun i hi => cell_later hb (h i hi)

set_option maxRecDepth 100000 in
set_option maxHeartbeats 1000000 in
theorem tz_walk (x y z q k : Nat) (W : World) (hx0 : ((x : Int) == 0) = false) (hn : IntKind.u64.wrap (-(x : Int)) = (y : Int)) (ha : bits .and .u64 (x : Int) (y : Int) = (z : Int))
    (hw : IntKind.u64.wrap ((z : Int) * 285870213051353865) / 288230376151711744 = (q : Int)) (hq : q < 64) (c1 : W.cell? ⟨1, q, none⟩ = some (.int .u8 (k : Int))) (hk : k < 64) :
    Calls Tryz.prog 212 #[.int .u64 (x : Int)] W fun e W' => e = .returned (.int .i64 (k : Int)) ∧ W' = W := by
  go_enter Tryz.func212, Tryz.ntmps212
  go_wp2
  go_ret
  exact ⟨rfl, rfl⟩

theorem form_lt {k m : Nat} (h : 2 ^ (k + 1) * m + 2 ^ k < 2 ^ 64) : k < 64 := by
  by_cases hk : k < 64
  · exact hk
  · have := Nat.pow_le_pow_right (n := 2) (by decide) (show 64 ≤ k by omega)
    omega
theorem wrap_neg {x : Nat} (h0 : x ≠ 0) (h : x < 18446744073709551616) : IntKind.u64.wrap (-(x : Int)) = ((18446744073709551616 - x : Nat) : Int) := by
  rw [IntKind.wrap_u64]; omega
theorem wrap_db (z : Nat) : IntKind.u64.wrap ((z : Int) * 285870213051353865) / 288230376151711744 = (((z * 285870213051353865 % 18446744073709551616) / 288230376151711744 : Nat) : Int) := by
  rw [IntKind.wrap_u64]; omega
theorem dbI_eq (k : Nat) : (2 ^ k * 285870213051353865 % 18446744073709551616) / 288230376151711744 = dbI k := rfl
theorem sub_lt {x : Nat} (h0 : x ≠ 0) (h : x < 18446744073709551616) : 18446744073709551616 - x < 18446744073709551616 := by omega

theorem tz_any (x k m : Nat) (W : World) (hx : x = 2 ^ (k + 1) * m + 2 ^ k) (hlt : x < 2 ^ 64) (hD : DB W) :
    Calls Tryz.prog 212 #[.int .u64 (x : Int)] W fun e W' => e = .returned (.int .i64 (k : Int)) ∧ W' = W := by
  have hk : k < 64 := form_lt (m := m) (by rw [← hx]; exact hlt)
  have hx0 : x ≠ 0 := by
    have := Nat.two_pow_pos k
    omega
  have hx1 : ¬ (x : Int) = 0 := by omega
  have hlt' : x < 18446744073709551616 := hlt
  refine tz_walk x (18446744073709551616 - x) (2 ^ k) (dbI k) k W (by simpa using hx1) (wrap_neg hx0 hlt') ?_ (by rw [wrap_db, dbI_eq]) (dbI_lt k) (by rw [hD _ (dbI_lt k), dbT_at k hk]; rfl) hk
  rw [bits_and hlt (sub_lt hx0 hlt')]
  have := keep_low (k := k) (m := m) (by rw [← hx]; exact hlt)
  rw [← hx] at this
  exact congrArg _ this
end Go.Proofs.YtoimokjohmhnaaaGreatDoor

namespace Go.Proofs.YtoimokjohmhnaaaGreatDoor
open Go.RowKit

theorem below_draws {B : Nat} {a w : World} (h : Below B a w) (n : Nat) : Below B a (w.drewN n) := h.trans ⟨rfl, rfl, rfl, Nat.le_refl _, fun _ _ => rfl⟩

set_option maxHeartbeats 400000 in
theorem between_any (n lo hi : Int) (w : World) :
    Calls Tryz.prog 58 #[.int .i64 n, .int .i64 lo, .int .i64 hi] w fun e w' => e = .returned (.bool (decide (lo ≤ n) && decide (n ≤ hi))) ∧ w' = w := by
  by_cases h1 : lo ≤ n
  · by_cases h2 : n ≤ hi
    all_goals
      go_enter Tryz.func58, Tryz.ntmps58
      go_wp2
      go_ret
      exact ⟨ret_bool (by rw [Bool.eq_iff_iff]; simp; omega), rfl⟩
  · go_enter Tryz.func58, Tryz.ntmps58
    go_wp2
    go_ret
    exact ⟨ret_bool (by rw [Bool.eq_iff_iff]; simp; omega), rfl⟩

set_option maxHeartbeats 400000 in
theorem szInsS_any (a : Option Addr) (n cap : Nat) (left : Int) (w : World) (h0 : 0 ≤ left) (h1 : left ≤ 1048576) (hn : n ≤ maxLen) :
    Calls Tryz.prog 138 #[.slice a n cap, .int .i64 left] w fun e w' => e = .returned (.int .i64 (if left < n then -1 else left - n)) ∧ w' = w := by
  unfold maxLen at hn
  by_cases h : left < n
  all_goals
    go_enter Tryz.func138, Tryz.ntmps138
    go_wp2
    go_ret
    exact ⟨ret_int (by omega), rfl⟩

set_option maxHeartbeats 400000 in
theorem szFunc_any (p l : Int) (a : Option Addr) (n cap : Nat) (left : Int) (w : World) (h0 : 0 ≤ left) (h1 : left ≤ 1048576) (hn : n ≤ maxLen) :
    Calls Tryz.prog 83 #[.agg #[.int .i64 p, .int .i64 l, .slice a n cap], .int .i64 left] w fun e w' => e = .returned (.int .i64 (if left < n then -1 else left - n)) ∧ Below w.heap.size w w' := by
  by_cases h : left < n
  all_goals
    go_enter Tryz.func83, Tryz.ntmps83
    go_wp2_with (go_at_call 138; refine (szInsS_any _ _ _ _ _ h0 h1 hn).mono ?_; rintro e w' ⟨rfl, rfl⟩)
    go_ret
    exact ⟨ret_int (by omega), (Below.refl _ _).alloc (Nat.le_refl _) _⟩

theorem take_succ_mem {α : Type} {l : List α} {k : Nat} (h : k < l.length) {p : α → Prop} (h1 : ∀ x ∈ l.take k, p x) (h2 : p l[k]) : ∀ x ∈ l.take (k + 1), p x := by
  intro x hx
  rw [List.take_succ_eq_append_getElem h] at hx
  rcases List.mem_append.1 hx with hx | hx
  · exact h1 x hx
  · rw [List.mem_singleton.1 hx]; exact h2

set_option maxHeartbeats 400000 in
theorem szFuncS_any (a : Option Addr) (fs : List Fn) (cap : Nat) (left : Int) (w : World) (h0 : 0 ≤ left) (h1 : left ≤ 1048576) (hn : fs.length ≤ maxLen) (hc : ∀ f ∈ fs, f.code.length ≤ maxLen) (hm : FnsAt w 0 a fs) :
    Calls Tryz.prog 39 #[.slice a fs.length cap, .int .i64 left] w fun e w' => ∃ r : Int, e = .returned (.int .i64 r) ∧ r ≤ left ∧ (0 ≤ r → fs.length ≤ 1048576 ∧ ∀ f ∈ fs, f.code.length ≤ 1048576) ∧ Below w.heap.size w w' := by
  unfold maxLen at hn
  by_cases h : left < fs.length
  · go_enter Tryz.func39, Tryz.ntmps39
    go_wp2
    go_ret
    exact ⟨-1, rfl, by omega, by omega, Below.refl _ _⟩
  · go_enter Tryz.func39, Tryz.ntmps39
    go_wp2
    go_loopw [1, 5] (fun l i wr => ∃ (k : Nat) (q : Int), k ≤ fs.length ∧ i = .int .i64 k ∧ l = .int .i64 q ∧ 0 ≤ q ∧ q ≤ left - fs.length ∧ (∀ f ∈ fs.take k, f.code.length ≤ 1048576) ∧ Below w.heap.size w wr) (fun _ i _ => fs.length - (intOf i).toNat)
    case atStart => exact ⟨0, _, by omega, rfl, rfl, by omega, by omega, by simp, Below.refl _ _⟩
    case round =>
      obtain ⟨k, q, hk, rfl, rfl, hq0, hq1, hall, hb⟩ := hrel
      by_cases hlt : k < fs.length
      · obtain ⟨b, off, ca, cc, rfl, -, c1, c2, c3, -⟩ := hm k hlt
        have c1' := cell_later hb c1
        have c2' := cell_later hb c2
        have c3' := cell_later hb c3
        clear c1 c2 c3
        have hck := hc fs[k] (List.getElem_mem hlt)
        by_cases hs : q < fs[k].code.length
        · go_wp2_with (go_at_call 83; refine (szFunc_any _ _ _ _ _ _ _ hq0 (by omega) hck).mono ?_; rintro e w' ⟨rfl, hb'⟩)
          go_ret
          exact ⟨_, rfl, by omega, by omega, hb.trans (hb'.mono hb.size)⟩
        · go_wp2_with (go_at_call 83; refine (szFunc_any _ _ _ _ _ _ _ hq0 (by omega) hck).mono ?_; rintro e w' ⟨rfl, hb'⟩)
          go_roundw
          case rel => exact ⟨k + 1, q - fs[k].code.length, by omega, by go_num, by rw [if_neg (by omega)], by omega, by omega, take_succ_mem hlt hall (by omega), hb.trans (hb'.mono hb.size)⟩
          case measure => simp [intOf]; omega
      · go_wp2
        go_ret
        exact ⟨q, rfl, by omega, fun _ => ⟨by omega, by rwa [List.take_of_length_le (by omega)] at hall⟩, hb⟩

set_option maxHeartbeats 400000 in
theorem szStringS_any (a : Option Addr) (ss : List ByteArray) (cap : Nat) (left : Int) (w : World) (h0 : 0 ≤ left) (h1 : left ≤ 1048576) (hn : ss.length ≤ maxLen) (hc : ∀ s ∈ ss, s.size ≤ maxLen) (hm : StrsAt w 0 a ss) :
    Calls Tryz.prog 38 #[.slice a ss.length cap, .int .i64 left] w fun e w' => ∃ r : Int, e = .returned (.int .i64 r) ∧ r ≤ left ∧ (0 ≤ r → ss.length ≤ 1048576 ∧ ∀ s ∈ ss, s.size ≤ 1048576) ∧ Below w.heap.size w w' := by
  unfold maxLen at hn
  by_cases h : left < ss.length
  · go_enter Tryz.func38, Tryz.ntmps38
    go_wp2
    go_ret
    exact ⟨-1, rfl, by omega, by omega, Below.refl _ _⟩
  · go_enter Tryz.func38, Tryz.ntmps38
    go_wp2
    go_loopw [1, 5] (fun l i wr => ∃ (k : Nat) (q : Int), k ≤ ss.length ∧ i = .int .i64 k ∧ l = .int .i64 q ∧ 0 ≤ q ∧ q ≤ left - ss.length ∧ (∀ s ∈ ss.take k, s.size ≤ 1048576) ∧ Below w.heap.size w wr) (fun _ i _ => ss.length - (intOf i).toNat)
    case atStart => exact ⟨0, _, by omega, rfl, rfl, by omega, by omega, by simp, Below.refl _ _⟩
    case round =>
      obtain ⟨k, q, hk, rfl, rfl, hq0, hq1, hall, hb⟩ := hrel
      by_cases hlt : k < ss.length
      · obtain ⟨b, off, rfl, -, c1⟩ := hm k hlt
        have c1' := cell_later hb c1
        clear c1
        have hck := hc ss[k] (List.getElem_mem hlt)
        unfold maxLen at hck
        by_cases hs : q < ss[k].size
        · go_wp2
          go_ret
          exact ⟨_, rfl, by omega, by omega, hb⟩
        · go_wp2
          go_roundw
          case rel => exact ⟨k + 1, q - ss[k].size, by omega, by go_num, rfl, by omega, by omega, take_succ_mem hlt hall (by omega), hb⟩
          case measure => simp [intOf]; omega
      · go_wp2
        go_ret
        exact ⟨q, rfl, by omega, fun _ => ⟨by omega, by rwa [List.take_of_length_le (by omega)] at hall⟩, hb⟩

set_option maxHeartbeats 400000 in
theorem szModule_any (a a2 : Option Addr) (ts : List ByteArray) (fs : List Fn) (cap cap2 : Nat) (w : World) (hn : ts.length ≤ maxLen) (hc : ∀ s ∈ ts, s.size ≤ maxLen) (hm : StrsAt w 0 a ts)
    (hn2 : fs.length ≤ maxLen) (hc2 : ∀ f ∈ fs, f.code.length ≤ maxLen) (hm2 : FnsAt w 0 a2 fs) :
    Calls Tryz.prog 6 #[.agg #[.slice a ts.length cap, .slice a2 fs.length cap2], .int .i64 1048576] w fun e w' => ∃ r : Int, e = .returned (.int .i64 r) ∧ (0 ≤ r → Small ts fs) ∧ Below w.heap.size w w' := by
  go_enter Tryz.func6, Tryz.ntmps6
  go_wp2_with fail
  refine (szStringS_any a ts cap 1048576 _ (by omega) (by omega) hn hc (hm.mono ((Below.refl _ _).alloc (Nat.le_refl _) _))).mono ?_
  rintro e w1 ⟨r, rfl, hr, hs, hb⟩
  have hb1 : Below w.heap.size w w1 := ((Below.refl _ _).alloc (Nat.le_refl _) _).trans (hb.mono (by simp))
  obtain ⟨hx, hf⟩ : w1.cell? ⟨w.heap.size, 0, none⟩ = some (.slice a ts.length cap) ∧ w1.cell? ⟨w.heap.size, 1, none⟩ = some (.slice a2 fs.length cap2) := by
    constructor
    · exact cell_later hb (cell_new _ _ _ 0)
    · exact cell_later hb (cell_new _ _ _ 1)
  by_cases h0 : r < 0
  · go_wp2_with fail
    go_ret
    exact ⟨_, rfl, by omega, hb1⟩
  · go_wp2_with fail
    refine (szFuncS_any a2 fs cap2 r _ (by omega) (by omega) hn2 hc2 (hm2.mono hb1)).mono ?_
    rintro e w2 ⟨r2, rfl, hr2, hs2, hb2⟩
    have hb3 : Below w.heap.size w w2 := hb1.trans (hb2.mono hb1.size)
    by_cases h2 : r2 < 0
    · go_wp2_with fail
      go_ret
      exact ⟨_, rfl, by omega, hb3⟩
    · go_wp2_with fail
      go_ret
      exact ⟨_, rfl, fun _ => ⟨(hs (by omega)).1, (hs (by omega)).2, (hs2 (by omega)).1, (hs2 (by omega)).2⟩, hb3⟩
end Go.Proofs.YtoimokjohmhnaaaGreatDoor

namespace Go.Proofs.YtoimokjohmhnaaaGreatDoor
open Go.RowKit

/-- A value as plain data: kind, number, text. -/
structure Vl where
  k : Int
  n : Int
  s : ByteArray

structure Fr where
  fn : Int
  pc : Int
  locals : List Vl
  stack : List Vl

structure VmD where
  frames : List Fr
  heap : List (List Vl)
  made : Int
  out : List ByteArray
  status : Int
  trap : Int
  value : Vl
  steps : Int

/-- The cells of a list of values. -/
def ValsAt (w : World) (lo : Nat) (a : Option Addr) (vs : List Vl) : Prop :=
  ∀ i (h : i < vs.length), ∃ b off, a = some ⟨b, off, none⟩ ∧ lo ≤ b ∧ w.cell? ⟨b, off + i * 3, none⟩ = some (.int .i64 vs[i].k) ∧ w.cell? ⟨b, off + i * 3 + 1, none⟩ = some (.int .i64 vs[i].n) ∧ w.cell? ⟨b, off + i * 3 + 2, none⟩ = some (.string vs[i].s)

/-- The cells of a list of frames. -/
def FrsAt (w : World) (lo : Nat) (a : Option Addr) (fr : List Fr) : Prop :=
  ∀ i (h : i < fr.length), ∃ b off la lc sa sc, a = some ⟨b, off, none⟩ ∧ lo ≤ b ∧ w.cell? ⟨b, off + i * 4, none⟩ = some (.int .i64 fr[i].fn) ∧ w.cell? ⟨b, off + i * 4 + 1, none⟩ = some (.int .i64 fr[i].pc) ∧
    w.cell? ⟨b, off + i * 4 + 2, none⟩ = some (.slice la fr[i].locals.length lc) ∧ w.cell? ⟨b, off + i * 4 + 3, none⟩ = some (.slice sa fr[i].stack.length sc) ∧ ValsAt w lo la fr[i].locals ∧ ValsAt w lo sa fr[i].stack

/-- The cells of a list of records. -/
def RecsAt (w : World) (lo : Nat) (a : Option Addr) (rs : List (List Vl)) : Prop :=
  ∀ i (h : i < rs.length), ∃ b off fa fc, a = some ⟨b, off, none⟩ ∧ lo ≤ b ∧ w.cell? ⟨b, off + i, none⟩ = some (.slice fa rs[i].length fc) ∧ ValsAt w lo fa rs[i]

theorem ValsAt.mono {w w' : World} {lo : Nat} {a : Option Addr} {vs : List Vl} (h : ValsAt w lo a vs) (hb : Below w.heap.size w w') : ValsAt w' lo a vs := by
  intro i hi
  obtain ⟨b, off, h1, h2, h3, h4, h5⟩ := h i hi
  exact ⟨b, off, h1, h2, cell_later hb h3, cell_later hb h4, cell_later hb h5⟩
theorem FrsAt.mono {w w' : World} {lo : Nat} {a : Option Addr} {fr : List Fr} (h : FrsAt w lo a fr) (hb : Below w.heap.size w w') : FrsAt w' lo a fr := by
  intro i hi
  obtain ⟨b, off, la, lc, sa, sc, h1, h2, h3, h4, h5, h6, h7, h8⟩ := h i hi
  exact ⟨b, off, la, lc, sa, sc, h1, h2, cell_later hb h3, cell_later hb h4, cell_later hb h5, cell_later hb h6, h7.mono hb, h8.mono hb⟩
theorem RecsAt.mono {w w' : World} {lo : Nat} {a : Option Addr} {rs : List (List Vl)} (h : RecsAt w lo a rs) (hb : Below w.heap.size w w') : RecsAt w' lo a rs := by
  intro i hi
  obtain ⟨b, off, fa, fc, h1, h2, h3, h4⟩ := h i hi
  exact ⟨b, off, fa, fc, h1, h2, cell_later hb h3, h4.mono hb⟩
theorem ValsAt.above {w w' : World} {lo : Nat} {a : Option Addr} {vs : List Vl} (h : ValsAt w lo a vs) (hb : Above lo w w') : ValsAt w' lo a vs := by
  intro i hi
  obtain ⟨b, off, h1, h2, h3, h4, h5⟩ := h i hi
  exact ⟨b, off, h1, h2, hb.cell h2 h3, hb.cell h2 h4, hb.cell h2 h5⟩
theorem FrsAt.above {w w' : World} {lo : Nat} {a : Option Addr} {fr : List Fr} (h : FrsAt w lo a fr) (hb : Above lo w w') : FrsAt w' lo a fr := by
  intro i hi
  obtain ⟨b, off, la, lc, sa, sc, h1, h2, h3, h4, h5, h6, h7, h8⟩ := h i hi
  exact ⟨b, off, la, lc, sa, sc, h1, h2, hb.cell h2 h3, hb.cell h2 h4, hb.cell h2 h5, hb.cell h2 h6, h7.above hb, h8.above hb⟩
theorem RecsAt.above {w w' : World} {lo : Nat} {a : Option Addr} {rs : List (List Vl)} (h : RecsAt w lo a rs) (hb : Above lo w w') : RecsAt w' lo a rs := by
  intro i hi
  obtain ⟨b, off, fa, fc, h1, h2, h3, h4⟩ := h i hi
  exact ⟨b, off, fa, fc, h1, h2, hb.cell h2 h3, h4.above hb⟩
theorem ValsAt.low {w : World} {lo lo' : Nat} {a : Option Addr} {vs : List Vl} (h : ValsAt w lo a vs) (hl : lo' ≤ lo) : ValsAt w lo' a vs := fun i hi => by
  obtain ⟨b, off, h1, h2, h3⟩ := h i hi
  exact ⟨b, off, h1, by omega, h3⟩
theorem FrsAt.low {w : World} {lo lo' : Nat} {a : Option Addr} {fr : List Fr} (h : FrsAt w lo a fr) (hl : lo' ≤ lo) : FrsAt w lo' a fr := fun i hi => by
  obtain ⟨b, off, la, lc, sa, sc, h1, h2, h3, h4, h5, h6, h7, h8⟩ := h i hi
  exact ⟨b, off, la, lc, sa, sc, h1, by omega, h3, h4, h5, h6, h7.low hl, h8.low hl⟩
theorem RecsAt.low {w : World} {lo lo' : Nat} {a : Option Addr} {rs : List (List Vl)} (h : RecsAt w lo a rs) (hl : lo' ≤ lo) : RecsAt w lo' a rs := fun i hi => by
  obtain ⟨b, off, fa, fc, h1, h2, h3, h4⟩ := h i hi
  exact ⟨b, off, fa, fc, h1, by omega, h3, h4.low hl⟩

/-- What can be read out of an argument at all. -/
def ValsMax (vs : List Vl) : Prop := vs.length ≤ maxLen ∧ ∀ v ∈ vs, v.s.size ≤ maxLen
def ValsSmall (vs : List Vl) : Prop := vs.length ≤ 1048576 ∧ ∀ v ∈ vs, v.s.size ≤ 1048576
structure VmMax (d : VmD) : Prop where
  frames : d.frames.length ≤ maxLen
  locals : ∀ f ∈ d.frames, ValsMax f.locals
  stack : ∀ f ∈ d.frames, ValsMax f.stack
  heap : d.heap.length ≤ maxLen
  fields : ∀ r ∈ d.heap, ValsMax r
  out : d.out.length ≤ maxLen
  text : ∀ s ∈ d.out, s.size ≤ maxLen
  value : d.value.s.size ≤ maxLen
structure VmSmall (d : VmD) : Prop where
  frames : d.frames.length ≤ 1048576
  locals : ∀ f ∈ d.frames, ValsSmall f.locals
  stack : ∀ f ∈ d.frames, ValsSmall f.stack
  heap : d.heap.length ≤ 1048576
  fields : ∀ r ∈ d.heap, ValsSmall r
  out : d.out.length ≤ 1048576
  text : ∀ s ∈ d.out, s.size ≤ 1048576
  value : d.value.s.size ≤ 1048576

end Go.Proofs.YtoimokjohmhnaaaGreatDoor

namespace Go.Proofs.YtoimokjohmhnaaaGreatDoor
open Go.RowKit


set_option maxHeartbeats 400000 in
theorem eqStringS_any (a a2 : Option Addr) (ss : List ByteArray) (cap cap2 : Nat) (w : World) (hn : ss.length ≤ 1048576) (hm : StrsAt w 0 a ss) (hm2 : StrsAt w 0 a2 ss) :
    Calls Tryz.prog 52 #[.slice a ss.length cap, .slice a2 ss.length cap2] w fun e w' => e = .returned (.bool true) ∧ Below w.heap.size w w' := by
  go_enter Tryz.func52, Tryz.ntmps52
  go_wp2
  go_loopw [5] (fun i wr => ∃ (k : Nat), k ≤ ss.length ∧ i = .int .i64 k ∧ Below w.heap.size w wr) (fun i _ => ss.length - (intOf i).toNat)
  case atStart => exact ⟨0, by omega, rfl, Below.refl _ _⟩
  case round =>
    obtain ⟨k, hk, rfl, hb⟩ := hrel
    by_cases hlt : k < ss.length
    · obtain ⟨b, off, rfl, -, c1⟩ := hm k hlt
      obtain ⟨b2, off2, rfl, -, c2⟩ := hm2 k hlt
      have c1' := cell_later hb c1
      have c2' := cell_later hb c2
      clear c1 c2
      go_wp2
      go_quiet (fail)
      go_wp2
      go_roundw
      case rel => exact ⟨k + 1, by omega, by go_num, below_draws hb _⟩
      case measure => simp [intOf]; omega
    · go_wp2
      go_ret
      exact ⟨rfl, hb⟩

set_option maxHeartbeats 400000 in
theorem eqIns_same (o a : Int) (w : World) :
    Calls Tryz.prog 218 #[.agg #[.int .i64 o, .int .i64 a], .agg #[.int .i64 o, .int .i64 a]] w fun e w' => e = .returned (.bool true) ∧ Below w.heap.size w w' := by
  go_enter Tryz.func218, Tryz.ntmps218
  go_wp2
  go_ret
  exact ⟨rfl, ((Below.refl _ _).alloc (Nat.le_refl _) _).alloc (by simp) _⟩

set_option maxHeartbeats 400000 in
theorem eqInsS_any (a a2 : Option Addr) (xs : List (Int × Int)) (cap cap2 : Nat) (w : World) (hn : xs.length ≤ 1048576) (hm : CodeAt w 0 a xs) (hm2 : CodeAt w 0 a2 xs) :
    Calls Tryz.prog 176 #[.slice a xs.length cap, .slice a2 xs.length cap2] w fun e w' => e = .returned (.bool true) ∧ Below w.heap.size w w' := by
  go_enter Tryz.func176, Tryz.ntmps176
  go_wp2
  go_loopw [5] (fun i wr => ∃ (k : Nat), k ≤ xs.length ∧ i = .int .i64 k ∧ Below w.heap.size w wr) (fun i _ => xs.length - (intOf i).toNat)
  case atStart => exact ⟨0, by omega, rfl, Below.refl _ _⟩
  case round =>
    obtain ⟨k, hk, rfl, hb⟩ := hrel
    by_cases hlt : k < xs.length
    · obtain ⟨b, off, rfl, -, c1, d1⟩ := hm k hlt
      obtain ⟨b2, off2, rfl, -, c2, d2⟩ := hm2 k hlt
      have c1' := cell_later hb c1
      have c2' := cell_later hb c2
      have d1' := cell_later hb d1
      have d2' := cell_later hb d2
      clear c1 c2 d1 d2
      go_wp2
      go_region_with (go_at_call 218; refine (eqIns_same _ _ _).mono ?_; rintro e w1 ⟨rfl, hb1⟩)
      all_goals
        go_wp2
        go_roundw
        case rel =>
          refine ⟨k + 1, by omega, by go_num, Below.trans ?_ (hb1.mono ?_)⟩
          · repeat (first | exact hb | apply Below.drew)
          · exact hb.size
        case measure => simp [intOf]; omega
    · go_wp2
      go_ret
      exact ⟨rfl, hb⟩

set_option maxHeartbeats 400000 in
theorem eqFunc_any (p l : Int) (a a2 : Option Addr) (xs : List (Int × Int)) (cap cap2 : Nat) (w : World) (hn : xs.length ≤ 1048576) (hm : CodeAt w 0 a xs) (hm2 : CodeAt w 0 a2 xs) :
    Calls Tryz.prog 108 #[.agg #[.int .i64 p, .int .i64 l, .slice a xs.length cap], .agg #[.int .i64 p, .int .i64 l, .slice a2 xs.length cap2]] w fun e w' => e = .returned (.bool true) ∧ Below w.heap.size w w' := by
  go_enter Tryz.func108, Tryz.ntmps108
  go_wp2_with fail
  have hbA : Below w.heap.size w ((w.alloc (.cells #[.int .i64 p, .int .i64 l, .slice a xs.length cap] 163)).alloc (.cells #[.int .i64 p, .int .i64 l, .slice a2 xs.length cap2] 163)) := ((Below.refl _ _).alloc (Nat.le_refl _) _).alloc (by simp) _
  refine (eqInsS_any a a2 xs cap cap2 _ hn (hm.mono hbA) (hm2.mono hbA)).mono ?_
  rintro e w1 ⟨rfl, hb⟩
  go_wp2
  go_ret
  exact ⟨rfl, hbA.trans (hb.mono (by simp; omega))⟩

set_option maxHeartbeats 400000 in
theorem eqFuncS_any (a a2 : Option Addr) (fs : List Fn) (cap cap2 : Nat) (w : World) (hn : fs.length ≤ 1048576) (hc : ∀ f ∈ fs, f.code.length ≤ 1048576) (hm : FnsAt w 0 a fs) (hm2 : FnsAt w 0 a2 fs) :
    Calls Tryz.prog 53 #[.slice a fs.length cap, .slice a2 fs.length cap2] w fun e w' => e = .returned (.bool true) ∧ Below w.heap.size w w' := by
  go_enter Tryz.func53, Tryz.ntmps53
  go_wp2
  go_loopw [5] (fun i wr => ∃ (k : Nat), k ≤ fs.length ∧ i = .int .i64 k ∧ Below w.heap.size w wr) (fun i _ => fs.length - (intOf i).toNat)
  case atStart => exact ⟨0, by omega, rfl, Below.refl _ _⟩
  case round =>
    obtain ⟨k, hk, rfl, hb⟩ := hrel
    by_cases hlt : k < fs.length
    · obtain ⟨b, off, ca, cc, rfl, -, c1, d1, e1, f1⟩ := hm k hlt
      obtain ⟨b2, off2, ca2, cc2, rfl, -, c2, d2, e2, f2⟩ := hm2 k hlt
      have c1' := cell_later hb c1
      have c2' := cell_later hb c2
      have d1' := cell_later hb d1
      have d2' := cell_later hb d2
      have e1' := cell_later hb e1
      have e2' := cell_later hb e2
      have hck := hc fs[k] (List.getElem_mem hlt)
      clear c1 c2 d1 d2 e1 e2
      go_wp2
      go_region_with (go_at_call 108; refine (eqFunc_any _ _ _ _ _ _ _ _ hck (by exact f1.mono (by repeat (first | exact hb | apply Below.drew))) (by exact f2.mono (by repeat (first | exact hb | apply Below.drew)))).mono ?_; rintro e w1 ⟨rfl, hb1⟩)
      all_goals
        go_wp2
        go_roundw
        case rel =>
          refine ⟨k + 1, by omega, by go_num, Below.trans ?_ (hb1.mono ?_)⟩
          · repeat (first | exact hb | apply Below.drew)
          · exact hb.size
        case measure => simp [intOf]; omega
    · go_wp2
      go_ret
      exact ⟨rfl, hb⟩

set_option maxHeartbeats 400000 in
theorem eqModule_any (a1 a2 : Option Addr) (b1 b2 : Option Addr) (ts : List ByteArray) (fs : List Fn) (c1 c2 d1 d2 : Nat) (w : World) (hs : Small ts fs) (hm : StrsAt w 0 a1 ts) (hm2 : StrsAt w 0 b1 ts) (hf : FnsAt w 0 a2 fs) (hf2 : FnsAt w 0 b2 fs) :
    Calls Tryz.prog 12 #[.agg #[.slice a1 ts.length c1, .slice a2 fs.length c2], .agg #[.slice b1 ts.length d1, .slice b2 fs.length d2]] w fun e w' => e = .returned (.bool true) ∧ Below w.heap.size w w' := by
  go_enter Tryz.func12, Tryz.ntmps12
  go_wp2_with fail
  have hbA : Below w.heap.size w ((w.alloc (.cells #[.slice a1 ts.length c1, .slice a2 fs.length c2] 35)).alloc (.cells #[.slice b1 ts.length d1, .slice b2 fs.length d2] 35)) := ((Below.refl _ _).alloc (Nat.le_refl _) _).alloc (by simp) _
  refine (eqStringS_any a1 b1 ts c1 d1 _ hs.texts (hm.mono hbA) (hm2.mono hbA)).mono ?_
  rintro e w1 ⟨rfl, hb⟩
  have hA := block_kept (block_old (block_new w #[.slice a1 ts.length c1, .slice a2 fs.length c2] 35) (.cells #[.slice b1 ts.length d1, .slice b2 fs.length d2] 35)) hb
  have hB := block_kept (block_new (w.alloc (.cells #[.slice a1 ts.length c1, .slice a2 fs.length c2] 35)) #[.slice b1 ts.length d1, .slice b2 fs.length d2] 35) hb
  simp only [World.size_alloc] at hA hB
  have x1 := block_cell hA
  have x2 := block_cell hB
  have hb1 : Below w.heap.size w w1 := hbA.trans (hb.mono (by simp; omega))
  clear hA hB
  go_wp2_with fail
  refine (eqFuncS_any a2 b2 fs c2 d2 _ hs.funcs hs.code (hf.mono hb1) (hf2.mono hb1)).mono ?_
  rintro e w2 ⟨rfl, hb2⟩
  go_wp2
  go_ret
  exact ⟨rfl, hb1.trans (hb2.mono hb1.size)⟩
end Go.Proofs.YtoimokjohmhnaaaGreatDoor

namespace Go.Proofs.YtoimokjohmhnaaaGreatDoor
open Go.RowKit Go.Deep Go.ChangeShapes Go.WideShapes

section
variable {H : Type} {enc : TypeId × Value → H} {P : Program} {w : World} {base : Nat} {spare : Nat → Bool} {held : Bool}

theorem plain_of {a : Addr} {v : Value} (h : w.cell? (a.add 0) = some v) : ∃ b off, a = ⟨b, off, none⟩ := by
  obtain ⟨b, off, spot⟩ := a
  have hspot : spot = none := by simpa [Addr.add] using World.cell?_spot h
  subst hspot
  exact ⟨b, off, rfl⟩

/-- A []string that came in. -/
theorem read_strs {t e : TypeId} {fuel : Nat} {v : Value} {y : DataW H × List MemPlace} (ht : P.underlying t = some (.slice e)) (he : P.underlying e = some .string) (hc : P.cellsOf e = 1)
    (h : DataW.trod enc P w base spare held fuel t [v] = some y) :
    ∃ a cap ss, v = .slice a ss.length cap ∧ ss.length ≤ maxLen ∧ (∀ s ∈ ss, s.size ≤ maxLen) ∧ StrsAt w 0 a ss := by
  rcases open_strs ht he hc h with ⟨hcs, -⟩ | ⟨a, len, cap, m, Sx, hcs, -, hl, hm, hmm, -, hx⟩
  · simp at hcs
    exact ⟨none, 0, [], by simpa using hcs, by simp, by simp, fun i hi => by simp at hi⟩
  · simp at hcs
    have hlm : len ≤ m := by rw [hmm]; split <;> omega
    refine ⟨some a, cap, (List.range len).map Sx, by simpa using hcs, by simp; omega, ?_, ?_⟩
    · intro s hs
      obtain ⟨i, hi, rfl⟩ := List.mem_map.1 hs
      exact (hx i (by have := List.mem_range.1 hi; omega)).2
    · intro i hi
      have hi' : i < len := by simpa using hi
      obtain ⟨b, off, rfl⟩ := plain_of (hx 0 (by omega)).1
      have hcell := (hx i (by omega)).1
      rw [Go.WideShapes.add_plain] at hcell
      exact ⟨b, off, rfl, Nat.zero_le _, by simpa using hcell⟩

/-- A list of instructions that came in. -/
theorem read_code {t e : TypeId} {f0 f1 : Field} {fuel : Nat} {v : Value} {y : DataW H × List MemPlace} (ht : P.underlying t = some (.slice e)) (he : P.underlying e = some (.struct #[f0, f1]))
    (ce : P.cellsOf e = 2) (o0 : f0.offset = 0) (o1 : f1.offset = 1) (c0 : P.cellsOf f0.type = 1) (c1 : P.cellsOf f1.type = 1) (k0 : P.underlying f0.type = some (.int .i64)) (k1 : P.underlying f1.type = some (.int .i64))
    (h : DataW.trod enc P w base spare held fuel t [v] = some y) :
    ∃ a cap xs, v = .slice a xs.length cap ∧ xs.length ≤ maxLen ∧ CodeAt w 0 a xs := by
  rcases open_slice_pairs ht he ce o0 o1 c0 c1 h with ⟨hcs, -⟩ | ⟨a, len, cap, m, n, V0, V1, D0, D1, P0, P1, hcs, -, hl, hm, hmm, -, hx⟩
  · simp at hcs
    exact ⟨none, 0, [], by simpa using hcs, by simp, fun i hi => by simp at hi⟩
  · simp at hcs
    have hlm : len ≤ m := by rw [hmm]; split <;> omega
    obtain ⟨q, hq⟩ := choose_lt (α := Int × Int) (n := m) (p := fun i z => V0 i = .int .i64 z.1 ∧ V1 i = .int .i64 z.2) (fun i hi => by
      obtain ⟨-, -, g0, g1⟩ := hx i hi
      obtain ⟨z0, e0, -, -⟩ := DataW.trod_int k0 g0
      obtain ⟨z1, e1, -, -⟩ := DataW.trod_int k1 g1
      exact ⟨(z0, z1), by simpa using e0, by simpa using e1⟩)
    refine ⟨some a, cap, (List.range len).map q, by simpa using hcs, by simp; omega, ?_⟩
    intro i hi
    have hi' : i < len := by simpa using hi
    obtain ⟨h0, h1, -, -⟩ := hx i (by omega)
    rw [(hq i (by omega)).1] at h0
    rw [(hq i (by omega)).2] at h1
    obtain ⟨b, off, rfl⟩ := plain_of (by simpa using (hx 0 (by omega)).1)
    rw [Go.WideShapes.add_plain] at h0
    rw [Go.WideShapes.add_plain, ← Nat.add_assoc] at h1
    exact ⟨b, off, rfl, Nat.zero_le _, by simpa using h0, by simpa using h1⟩

/-- A list of functions that came in. -/
theorem read_fns {t e tc ec : TypeId} {f0 f1 f2 g0 g1 : Field} {fuel : Nat} {v : Value} {y : DataW H × List MemPlace} (ht : P.underlying t = some (.slice e)) (he : P.underlying e = some (.struct #[f0, f1, f2]))
    (ce : P.cellsOf e = 3) (o0 : f0.offset = 0) (o1 : f1.offset = 1) (o2 : f2.offset = 2) (c0 : P.cellsOf f0.type = 1) (c1 : P.cellsOf f1.type = 1) (c2 : P.cellsOf f2.type = 1)
    (k0 : P.underlying f0.type = some (.int .i64)) (k1 : P.underlying f1.type = some (.int .i64)) (k2 : f2.type = tc)
    (htc : P.underlying tc = some (.slice ec)) (hec : P.underlying ec = some (.struct #[g0, g1]))
    (cec : P.cellsOf ec = 2) (p0 : g0.offset = 0) (p1 : g1.offset = 1) (d0 : P.cellsOf g0.type = 1) (d1 : P.cellsOf g1.type = 1) (l0 : P.underlying g0.type = some (.int .i64)) (l1 : P.underlying g1.type = some (.int .i64))
    (h : DataW.trod enc P w base spare held fuel t [v] = some y) :
    ∃ a cap fs, v = .slice a fs.length cap ∧ fs.length ≤ maxLen ∧ (∀ f ∈ fs, f.code.length ≤ maxLen) ∧ FnsAt w 0 a fs := by
  rcases open_slice ht h with ⟨hcs, -⟩ | ⟨a, len, cap, m, n, D, Pl, hcs, -, hl, hm, hmm, -, hx⟩
  · simp at hcs
    exact ⟨none, 0, [], by simpa using hcs, by simp, by simp, fun i hi => by simp at hi⟩
  · simp at hcs
    have hlm : len ≤ m := by rw [hmm]; split <;> omega
    have inh : Inhabited Fn := ⟨⟨0, 0, []⟩⟩
    have hplain : ∀ i, i < m → ∃ b off, a = ⟨b, off, none⟩ := fun i hi => by
      obtain ⟨cs', h1, -⟩ := hx 0 (by omega)
      rw [ce] at h1
      obtain ⟨_, hlen, hcell⟩ := World.cells?_some h1
      have e0 := hcell 0 (by omega)
      rw [add_add] at e0
      match cs', hlen with
      | [v0, v1, v2], _ => exact plain_of (by simpa using e0)
    obtain ⟨q, hq⟩ := choose_lt (α := Fn) (n := m) (p := fun i z => z.code.length ≤ maxLen ∧ ∃ b off ca cc, a = ⟨b, off, none⟩ ∧ w.cell? ⟨b, off + i * 3, none⟩ = some (.int .i64 z.params) ∧
        w.cell? ⟨b, off + i * 3 + 1, none⟩ = some (.int .i64 z.locals) ∧ w.cell? ⟨b, off + i * 3 + 2, none⟩ = some (.slice ca z.code.length cc) ∧ CodeAt w 0 ca z.code) (fun i hi => by
      obtain ⟨cs', h1, h2⟩ := hx i hi
      rw [ce] at h1
      obtain ⟨_, hlen, hcell⟩ := World.cells?_some h1
      obtain ⟨y0, y1, y2, n', -, -, t0, t1, t2⟩ := trod_struct3 he h2
      match cs', hlen with
      | [v0, v1, v2], _ =>
        simp [o0, o1, o2, c0, c1, c2] at t0 t1 t2
        have e0 := hcell 0 (by omega)
        have e1 := hcell 1 (by omega)
        have e2 := hcell 2 (by omega)
        rw [add_add] at e0 e1 e2
        simp at e0 e1 e2
        obtain ⟨z0, x0, -, -⟩ := DataW.trod_int k0 t0
        obtain ⟨z1, x1, -, -⟩ := DataW.trod_int k1 t1
        rw [k2] at t2
        obtain ⟨ca, cc, xs, x2, hxs, hcode⟩ := read_code htc hec cec p0 p1 d0 d1 l0 l1 t2
        simp at x0 x1
        rw [x0] at e0
        rw [x1] at e1
        rw [x2] at e2
        obtain ⟨b, off, rfl⟩ := hplain i hi
        rw [Go.WideShapes.add_plain] at e0
        rw [Go.WideShapes.add_plain, ← Nat.add_assoc] at e1 e2
        exact ⟨⟨z0, z1, xs⟩, hxs, b, off, ca, cc, rfl, e0, e1, e2, hcode⟩)
    refine ⟨some a, cap, (List.range len).map q, by simpa using hcs, by simp; omega, ?_, ?_⟩
    · intro f hf
      obtain ⟨i, hi, rfl⟩ := List.mem_map.1 hf
      exact (hq i (by have := List.mem_range.1 hi; omega)).1
    · intro i hi
      have hi' : i < len := by simpa using hi
      obtain ⟨-, b, off, ca, cc, rfl, r0, r1, r2, r3⟩ := hq i (by omega)
      exact ⟨b, off, ca, cc, rfl, Nat.zero_le _, by simpa using r0, by simpa using r1, by simpa using r2, by simpa using r3⟩
end
end Go.Proofs.YtoimokjohmhnaaaGreatDoor

namespace Go.Proofs.YtoimokjohmhnaaaGreatDoor
open Go.RowKit

structure Si where
  f : Int
  pc : Int
  seen : Int
  target : Int

/-- A site as a value. -/
def Si.cells (s : Si) : Array Value := #[.int .i64 s.f, .int .i64 s.pc, .int .i64 s.seen, .int .i64 s.target]

/-- The cells of a list of sites. -/
def SitesAt (w : World) (lo : Nat) (a : Option Addr) (ss : List Si) : Prop :=
  ∀ i (h : i < ss.length), ∃ b off, a = some ⟨b, off, none⟩ ∧ lo ≤ b ∧ w.cell? ⟨b, off + i * 4, none⟩ = some (.int .i64 ss[i].f) ∧ w.cell? ⟨b, off + i * 4 + 1, none⟩ = some (.int .i64 ss[i].pc) ∧ w.cell? ⟨b, off + i * 4 + 2, none⟩ = some (.int .i64 ss[i].seen) ∧ w.cell? ⟨b, off + i * 4 + 3, none⟩ = some (.int .i64 ss[i].target)

theorem SitesAt.mono {w w' : World} {lo : Nat} {a : Option Addr} {ss : List Si} (h : SitesAt w lo a ss) (hb : Below w.heap.size w w') : SitesAt w' lo a ss := by
  intro i hi
  obtain ⟨b, off, h1, h2, h3, h4, h5, h6⟩ := h i hi
  exact ⟨b, off, h1, h2, cell_later hb h3, cell_later hb h4, cell_later hb h5, cell_later hb h6⟩
theorem SitesAt.low {w : World} {lo lo' : Nat} {a : Option Addr} {ss : List Si} (h : SitesAt w lo a ss) (hl : lo' ≤ lo) : SitesAt w lo' a ss := by
  intro i hi
  obtain ⟨b, off, h1, h2, h3⟩ := h i hi
  exact ⟨b, off, h1, Nat.le_trans hl h2, h3⟩

open Go.Deep Go.ChangeShapes Go.WideShapes Go.Joins

section
variable {H : Type} {enc : TypeId × Value → H} {P : Program} {w : World} {base : Nat} {spare : Nat → Bool} {held : Bool}

/-- A list of sites that came in. -/
theorem read_sites {t e : TypeId} {f0 f1 f2 f3 : Field} (ht : P.underlying t = some (.slice e)) (he : P.underlying e = some (.struct #[f0, f1, f2, f3]))
    (ce : P.cellsOf e = 4) (o0 : f0.offset = 0) (o1 : f1.offset = 1) (o2 : f2.offset = 2) (o3 : f3.offset = 3) (c0 : P.cellsOf f0.type = 1) (c1 : P.cellsOf f1.type = 1) (c2 : P.cellsOf f2.type = 1) (c3 : P.cellsOf f3.type = 1)
    (k0 : P.underlying f0.type = some (.int .i64)) (k1 : P.underlying f1.type = some (.int .i64)) (k2 : P.underlying f2.type = some (.int .i64)) (k3 : P.underlying f3.type = some (.int .i64))
    {fuel : Nat} {v : Value} {y : DataW H × List MemPlace} (h : DataW.trod enc P w base spare held fuel t [v] = some y) :
    ∃ a cap ss, v = .slice a ss.length cap ∧ ss.length ≤ maxLen ∧ SitesAt w 0 a ss := by
  rcases open_slice ht h with ⟨hcs, -⟩ | ⟨a, len, cap, m, n, D, Pl, hcs, -, hl, hm, hmm, -, hx⟩
  · simp at hcs
    exact ⟨none, 0, [], by simpa using hcs, by simp, fun i hi => by simp at hi⟩
  · simp at hcs
    have hlm : len ≤ m := by rw [hmm]; split <;> omega
    have inh : Inhabited Si := ⟨⟨0, 0, 0, 0⟩⟩
    have hplain : ∀ i, i < m → ∃ b off, a = ⟨b, off, none⟩ := fun i hi => by
      obtain ⟨cs', h1, -⟩ := hx 0 (by omega)
      rw [ce] at h1
      obtain ⟨_, hlen, hcell⟩ := World.cells?_some h1
      have e0 := hcell 0 (by omega)
      rw [add_add] at e0
      match cs', hlen with
      | [v0, v1, v2, v3], _ => exact plain_of (by simpa using e0)
    obtain ⟨q, hq⟩ := choose_lt (α := Si) (n := m) (p := fun i z => ∃ b off, a = ⟨b, off, none⟩ ∧ w.cell? ⟨b, off + i * 4, none⟩ = some (.int .i64 z.f) ∧
        w.cell? ⟨b, off + i * 4 + 1, none⟩ = some (.int .i64 z.pc) ∧ w.cell? ⟨b, off + i * 4 + 2, none⟩ = some (.int .i64 z.seen) ∧ w.cell? ⟨b, off + i * 4 + 3, none⟩ = some (.int .i64 z.target)) (fun i hi => by
      obtain ⟨cs', h1, h2⟩ := hx i hi
      rw [ce] at h1
      obtain ⟨_, hlen, hcell⟩ := World.cells?_some h1
      obtain ⟨y0, y1, y2, y3, n', -, -, t0, t1, t2, t3⟩ := trod_struct4 he h2
      match cs', hlen with
      | [v0, v1, v2, v3], _ =>
        simp [o0, o1, o2, o3, c0, c1, c2, c3] at t0 t1 t2 t3
        have e0 := hcell 0 (by omega)
        have e1 := hcell 1 (by omega)
        have e2 := hcell 2 (by omega)
        have e3 := hcell 3 (by omega)
        rw [add_add] at e0 e1 e2 e3
        simp at e0 e1 e2 e3
        obtain ⟨z0, x0, -, -⟩ := DataW.trod_int k0 t0
        obtain ⟨z1, x1, -, -⟩ := DataW.trod_int k1 t1
        obtain ⟨z2, x2, -, -⟩ := DataW.trod_int k2 t2
        obtain ⟨z3, x3, -, -⟩ := DataW.trod_int k3 t3
        simp at x0 x1 x2 x3
        rw [x0] at e0
        rw [x1] at e1
        rw [x2] at e2
        rw [x3] at e3
        obtain ⟨b, off, rfl⟩ := hplain i hi
        rw [Go.WideShapes.add_plain] at e0
        rw [Go.WideShapes.add_plain, ← Nat.add_assoc] at e1 e2 e3
        exact ⟨⟨z0, z1, z2, z3⟩, b, off, rfl, e0, e1, e2, e3⟩)
    refine ⟨some a, cap, (List.range len).map q, by simpa using hcs, by simp; omega, ?_⟩
    intro i hi
    have hi' : i < len := by simpa using hi
    obtain ⟨b, off, rfl, r0, r1, r2, r3⟩ := hq i (by omega)
    exact ⟨b, off, rfl, Nat.zero_le _, by simpa using r0, by simpa using r1, by simpa using r2, by simpa using r3⟩
end
end Go.Proofs.YtoimokjohmhnaaaGreatDoor

namespace Go.Proofs.YtoimokjohmhnaaaGreatDoor
open Go.RowKit

/-- A source. -/
structure Sr where
  k : Int
  n : Int
  v : Vl
/-- A frame of an exit. -/
structure EF where
  fn : Int
  pc : Int
  locals : List Sr
  stack : List Sr
/-- An unmade record of an exit. -/
structure ER where
  fields : List Sr
/-- An exit. -/
structure Ex where
  kind : Int
  spec : Si
  frames : List EF
  recs : List ER
/-- An op. -/
structure Fo where
  op : Int
  d : Int
  a : Int
  b : Int
  x : Int
  f : Int
  p : Int
  v : Vl
/-- Code. -/
structure FastD where
  fn : Int
  entry : Int
  vals : Int
  nums : Int
  ops : List Fo
  exits : List Ex

def LMax {α : Type} (p : α → Prop) (l : List α) : Prop := l.length ≤ maxLen ∧ ∀ x ∈ l, p x
def LSmall {α : Type} (p : α → Prop) (l : List α) : Prop := l.length ≤ 1048576 ∧ ∀ x ∈ l, p x
def SrMax (x : Sr) : Prop := x.v.s.size ≤ maxLen
def SrSmall (x : Sr) : Prop := x.v.s.size ≤ 1048576
def EFMax (x : EF) : Prop := LMax SrMax x.locals ∧ LMax SrMax x.stack
def EFSmall (x : EF) : Prop := LSmall SrSmall x.locals ∧ LSmall SrSmall x.stack
def ERMax (x : ER) : Prop := LMax SrMax x.fields
def ERSmall (x : ER) : Prop := LSmall SrSmall x.fields
def ExMax (x : Ex) : Prop := LMax EFMax x.frames ∧ LMax ERMax x.recs
def ExSmall (x : Ex) : Prop := LSmall EFSmall x.frames ∧ LSmall ERSmall x.recs
def FoMax (x : Fo) : Prop := x.v.s.size ≤ maxLen
def FoSmall (x : Fo) : Prop := x.v.s.size ≤ 1048576
def FastMax (x : FastD) : Prop := LMax FoMax x.ops ∧ LMax ExMax x.exits
def FastSmall (x : FastD) : Prop := LSmall FoSmall x.ops ∧ LSmall ExSmall x.exits

/-- The cells of a list of these. -/
def SrsAt (w : World) (lo : Nat) (a : Option Addr) (xs : List Sr) : Prop :=
  ∀ i (h : i < xs.length), ∃ b off, a = some ⟨b, off, none⟩ ∧ lo ≤ b ∧ w.cell? ⟨b, off + i * 5, none⟩ = some (.int .i64 xs[i].k) ∧ w.cell? ⟨b, off + i * 5 + 1, none⟩ = some (.int .i64 xs[i].n) ∧ w.cell? ⟨b, off + i * 5 + 2, none⟩ = some (.int .i64 xs[i].v.k) ∧ w.cell? ⟨b, off + i * 5 + 3, none⟩ = some (.int .i64 xs[i].v.n) ∧ w.cell? ⟨b, off + i * 5 + 4, none⟩ = some (.string xs[i].v.s)
theorem SrsAt.mono {w w' : World} {lo : Nat} {a : Option Addr} {xs : List Sr} (h : SrsAt w lo a xs) (hb : Below w.heap.size w w') : SrsAt w' lo a xs := by
  intro i hi
  obtain ⟨b, off, e1, e2, h0, h1, h2, h3, h4⟩ := h i hi
  exact ⟨b, off, e1, e2, cell_later hb h0, cell_later hb h1, cell_later hb h2, cell_later hb h3, cell_later hb h4⟩
theorem SrsAt.above {w w' : World} {lo : Nat} {a : Option Addr} {xs : List Sr} (h : SrsAt w lo a xs) (hb : Above lo w w') : SrsAt w' lo a xs := by
  intro i hi
  obtain ⟨b, off, e1, e2, h0, h1, h2, h3, h4⟩ := h i hi
  exact ⟨b, off, e1, e2, hb.cell e2 h0, hb.cell e2 h1, hb.cell e2 h2, hb.cell e2 h3, hb.cell e2 h4⟩
theorem SrsAt.low {w : World} {lo lo' : Nat} {a : Option Addr} {xs : List Sr} (h : SrsAt w lo a xs) (hl : lo' ≤ lo) : SrsAt w lo' a xs := by
  intro i hi
  obtain ⟨b, off, e1, e2, h0, h1, h2, h3, h4⟩ := h i hi
  exact ⟨b, off, e1, by omega, h0, h1, h2, h3, h4⟩

/-- The cells of a list of these. -/
def EFsAt (w : World) (lo : Nat) (a : Option Addr) (xs : List EF) : Prop :=
  ∀ i (h : i < xs.length), ∃ b off a0 c0 a1 c1, a = some ⟨b, off, none⟩ ∧ lo ≤ b ∧ w.cell? ⟨b, off + i * 4, none⟩ = some (.int .i64 xs[i].fn) ∧ w.cell? ⟨b, off + i * 4 + 1, none⟩ = some (.int .i64 xs[i].pc) ∧ w.cell? ⟨b, off + i * 4 + 2, none⟩ = some (.slice a0 xs[i].locals.length c0) ∧ w.cell? ⟨b, off + i * 4 + 3, none⟩ = some (.slice a1 xs[i].stack.length c1) ∧ SrsAt w lo a0 xs[i].locals ∧ SrsAt w lo a1 xs[i].stack
theorem EFsAt.mono {w w' : World} {lo : Nat} {a : Option Addr} {xs : List EF} (h : EFsAt w lo a xs) (hb : Below w.heap.size w w') : EFsAt w' lo a xs := by
  intro i hi
  obtain ⟨b, off, a0, c0, a1, c1, e1, e2, h0, h1, h2, h3, p0, p1⟩ := h i hi
  exact ⟨b, off, a0, c0, a1, c1, e1, e2, cell_later hb h0, cell_later hb h1, cell_later hb h2, cell_later hb h3, p0.mono hb, p1.mono hb⟩
theorem EFsAt.above {w w' : World} {lo : Nat} {a : Option Addr} {xs : List EF} (h : EFsAt w lo a xs) (hb : Above lo w w') : EFsAt w' lo a xs := by
  intro i hi
  obtain ⟨b, off, a0, c0, a1, c1, e1, e2, h0, h1, h2, h3, p0, p1⟩ := h i hi
  exact ⟨b, off, a0, c0, a1, c1, e1, e2, hb.cell e2 h0, hb.cell e2 h1, hb.cell e2 h2, hb.cell e2 h3, p0.above hb, p1.above hb⟩
theorem EFsAt.low {w : World} {lo lo' : Nat} {a : Option Addr} {xs : List EF} (h : EFsAt w lo a xs) (hl : lo' ≤ lo) : EFsAt w lo' a xs := by
  intro i hi
  obtain ⟨b, off, a0, c0, a1, c1, e1, e2, h0, h1, h2, h3, p0, p1⟩ := h i hi
  exact ⟨b, off, a0, c0, a1, c1, e1, by omega, h0, h1, h2, h3, p0.low hl, p1.low hl⟩

/-- The cells of a list of these. -/
def ERsAt (w : World) (lo : Nat) (a : Option Addr) (xs : List ER) : Prop :=
  ∀ i (h : i < xs.length), ∃ b off a0 c0, a = some ⟨b, off, none⟩ ∧ lo ≤ b ∧ w.cell? ⟨b, off + i, none⟩ = some (.slice a0 xs[i].fields.length c0) ∧ SrsAt w lo a0 xs[i].fields
theorem ERsAt.mono {w w' : World} {lo : Nat} {a : Option Addr} {xs : List ER} (h : ERsAt w lo a xs) (hb : Below w.heap.size w w') : ERsAt w' lo a xs := by
  intro i hi
  obtain ⟨b, off, a0, c0, e1, e2, h0, p0⟩ := h i hi
  exact ⟨b, off, a0, c0, e1, e2, cell_later hb h0, p0.mono hb⟩
theorem ERsAt.above {w w' : World} {lo : Nat} {a : Option Addr} {xs : List ER} (h : ERsAt w lo a xs) (hb : Above lo w w') : ERsAt w' lo a xs := by
  intro i hi
  obtain ⟨b, off, a0, c0, e1, e2, h0, p0⟩ := h i hi
  exact ⟨b, off, a0, c0, e1, e2, hb.cell e2 h0, p0.above hb⟩
theorem ERsAt.low {w : World} {lo lo' : Nat} {a : Option Addr} {xs : List ER} (h : ERsAt w lo a xs) (hl : lo' ≤ lo) : ERsAt w lo' a xs := by
  intro i hi
  obtain ⟨b, off, a0, c0, e1, e2, h0, p0⟩ := h i hi
  exact ⟨b, off, a0, c0, e1, by omega, h0, p0.low hl⟩

/-- The cells of a list of these. -/
def ExsAt (w : World) (lo : Nat) (a : Option Addr) (xs : List Ex) : Prop :=
  ∀ i (h : i < xs.length), ∃ b off a0 c0 a1 c1, a = some ⟨b, off, none⟩ ∧ lo ≤ b ∧ w.cell? ⟨b, off + i * 7, none⟩ = some (.int .i64 xs[i].kind) ∧ w.cell? ⟨b, off + i * 7 + 1, none⟩ = some (.int .i64 xs[i].spec.f) ∧ w.cell? ⟨b, off + i * 7 + 2, none⟩ = some (.int .i64 xs[i].spec.pc) ∧ w.cell? ⟨b, off + i * 7 + 3, none⟩ = some (.int .i64 xs[i].spec.seen) ∧ w.cell? ⟨b, off + i * 7 + 4, none⟩ = some (.int .i64 xs[i].spec.target) ∧ w.cell? ⟨b, off + i * 7 + 5, none⟩ = some (.slice a0 xs[i].frames.length c0) ∧ w.cell? ⟨b, off + i * 7 + 6, none⟩ = some (.slice a1 xs[i].recs.length c1) ∧ EFsAt w lo a0 xs[i].frames ∧ ERsAt w lo a1 xs[i].recs
theorem ExsAt.mono {w w' : World} {lo : Nat} {a : Option Addr} {xs : List Ex} (h : ExsAt w lo a xs) (hb : Below w.heap.size w w') : ExsAt w' lo a xs := by
  intro i hi
  obtain ⟨b, off, a0, c0, a1, c1, e1, e2, h0, h1, h2, h3, h4, h5, h6, p0, p1⟩ := h i hi
  exact ⟨b, off, a0, c0, a1, c1, e1, e2, cell_later hb h0, cell_later hb h1, cell_later hb h2, cell_later hb h3, cell_later hb h4, cell_later hb h5, cell_later hb h6, p0.mono hb, p1.mono hb⟩
theorem ExsAt.above {w w' : World} {lo : Nat} {a : Option Addr} {xs : List Ex} (h : ExsAt w lo a xs) (hb : Above lo w w') : ExsAt w' lo a xs := by
  intro i hi
  obtain ⟨b, off, a0, c0, a1, c1, e1, e2, h0, h1, h2, h3, h4, h5, h6, p0, p1⟩ := h i hi
  exact ⟨b, off, a0, c0, a1, c1, e1, e2, hb.cell e2 h0, hb.cell e2 h1, hb.cell e2 h2, hb.cell e2 h3, hb.cell e2 h4, hb.cell e2 h5, hb.cell e2 h6, p0.above hb, p1.above hb⟩
theorem ExsAt.low {w : World} {lo lo' : Nat} {a : Option Addr} {xs : List Ex} (h : ExsAt w lo a xs) (hl : lo' ≤ lo) : ExsAt w lo' a xs := by
  intro i hi
  obtain ⟨b, off, a0, c0, a1, c1, e1, e2, h0, h1, h2, h3, h4, h5, h6, p0, p1⟩ := h i hi
  exact ⟨b, off, a0, c0, a1, c1, e1, by omega, h0, h1, h2, h3, h4, h5, h6, p0.low hl, p1.low hl⟩

/-- The cells of a list of these. -/
def FosAt (w : World) (lo : Nat) (a : Option Addr) (xs : List Fo) : Prop :=
  ∀ i (h : i < xs.length), ∃ b off, a = some ⟨b, off, none⟩ ∧ lo ≤ b ∧ w.cell? ⟨b, off + i * 10, none⟩ = some (.int .i64 xs[i].op) ∧ w.cell? ⟨b, off + i * 10 + 1, none⟩ = some (.int .i64 xs[i].d) ∧ w.cell? ⟨b, off + i * 10 + 2, none⟩ = some (.int .i64 xs[i].a) ∧ w.cell? ⟨b, off + i * 10 + 3, none⟩ = some (.int .i64 xs[i].b) ∧ w.cell? ⟨b, off + i * 10 + 4, none⟩ = some (.int .i64 xs[i].x) ∧ w.cell? ⟨b, off + i * 10 + 5, none⟩ = some (.int .i64 xs[i].f) ∧ w.cell? ⟨b, off + i * 10 + 6, none⟩ = some (.int .i64 xs[i].p) ∧ w.cell? ⟨b, off + i * 10 + 7, none⟩ = some (.int .i64 xs[i].v.k) ∧ w.cell? ⟨b, off + i * 10 + 8, none⟩ = some (.int .i64 xs[i].v.n) ∧ w.cell? ⟨b, off + i * 10 + 9, none⟩ = some (.string xs[i].v.s)
theorem FosAt.mono {w w' : World} {lo : Nat} {a : Option Addr} {xs : List Fo} (h : FosAt w lo a xs) (hb : Below w.heap.size w w') : FosAt w' lo a xs := by
  intro i hi
  obtain ⟨b, off, e1, e2, h0, h1, h2, h3, h4, h5, h6, h7, h8, h9⟩ := h i hi
  exact ⟨b, off, e1, e2, cell_later hb h0, cell_later hb h1, cell_later hb h2, cell_later hb h3, cell_later hb h4, cell_later hb h5, cell_later hb h6, cell_later hb h7, cell_later hb h8, cell_later hb h9⟩
theorem FosAt.above {w w' : World} {lo : Nat} {a : Option Addr} {xs : List Fo} (h : FosAt w lo a xs) (hb : Above lo w w') : FosAt w' lo a xs := by
  intro i hi
  obtain ⟨b, off, e1, e2, h0, h1, h2, h3, h4, h5, h6, h7, h8, h9⟩ := h i hi
  exact ⟨b, off, e1, e2, hb.cell e2 h0, hb.cell e2 h1, hb.cell e2 h2, hb.cell e2 h3, hb.cell e2 h4, hb.cell e2 h5, hb.cell e2 h6, hb.cell e2 h7, hb.cell e2 h8, hb.cell e2 h9⟩
theorem FosAt.low {w : World} {lo lo' : Nat} {a : Option Addr} {xs : List Fo} (h : FosAt w lo a xs) (hl : lo' ≤ lo) : FosAt w lo' a xs := by
  intro i hi
  obtain ⟨b, off, e1, e2, h0, h1, h2, h3, h4, h5, h6, h7, h8, h9⟩ := h i hi
  exact ⟨b, off, e1, by omega, h0, h1, h2, h3, h4, h5, h6, h7, h8, h9⟩

/-- The cells of code. -/
def fastCells (oa ea : Option Addr) (oc ec : Nat) (d : FastD) : Array Value := #[.int .i64 d.fn, .int .i64 d.entry, .int .i64 d.vals, .int .i64 d.nums, .slice oa d.ops.length oc, .slice ea d.exits.length ec]
structure FastAt (w : World) (lo : Nat) (oa ea : Option Addr) (d : FastD) : Prop where
  ops : FosAt w lo oa d.ops
  exits : ExsAt w lo ea d.exits
theorem FastAt.mono {w w' : World} {lo : Nat} {oa ea : Option Addr} {d : FastD} (h : FastAt w lo oa ea d) (hb : Below w.heap.size w w') : FastAt w' lo oa ea d := ⟨h.ops.mono hb, h.exits.mono hb⟩
theorem FastAt.low {w : World} {lo lo' : Nat} {oa ea : Option Addr} {d : FastD} (h : FastAt w lo oa ea d) (hl : lo' ≤ lo) : FastAt w lo' oa ea d := ⟨h.ops.low hl, h.exits.low hl⟩
theorem FastAt.above {w w' : World} {lo : Nat} {oa ea : Option Addr} {d : FastD} (h : FastAt w lo oa ea d) (hb : Above lo w w') : FastAt w' lo oa ea d := ⟨h.ops.above hb, h.exits.above hb⟩
end Go.Proofs.YtoimokjohmhnaaaGreatDoor

namespace Go.Proofs.YtoimokjohmhnaaaGreatDoor
open Go.RowKit

/-- -1, 0 or 1. -/
def cmpI (x y : Int) : Int := if x < y then -1 else if y < x then 1 else 0

set_option maxHeartbeats 400000 in
theorem isNaN_any (x : Int) (w : World) : Calls Tryz.prog 250 #[.int .i64 x] w fun e w' => e = .returned (.bool false) ∧ w' = w := by
  go_enter Tryz.func250, Tryz.ntmps250
  go_wp2
  go_ret
  exact ⟨ret_bool (by simp), rfl⟩

set_option maxHeartbeats 400000 in
theorem compare_any (x y : Int) (w : World) : Calls Tryz.prog 248 #[.int .i64 x, .int .i64 y] w fun e w' => e = .returned (.int .i64 (cmpI x y)) ∧ w' = w := by
  unfold cmpI
  by_cases h1 : x < y
  · rw [if_pos h1]
    go_enter Tryz.func248, Tryz.ntmps248
    go_wp2_with (go_at_call 250; refine (isNaN_any _ _).mono ?_; rintro e w' ⟨rfl, rfl⟩)
    go_ret
    exact ⟨rfl, rfl⟩
  · rw [if_neg h1]
    by_cases h2 : y < x
    · rw [if_pos h2]
      go_enter Tryz.func248, Tryz.ntmps248
      go_wp2_with (go_at_call 250; refine (isNaN_any _ _).mono ?_; rintro e w' ⟨rfl, rfl⟩)
      go_ret
      exact ⟨rfl, rfl⟩
    · rw [if_neg h2]
      go_enter Tryz.func248, Tryz.ntmps248
      go_wp2_with (go_at_call 250; refine (isNaN_any _ _).mono ?_; rintro e w' ⟨rfl, rfl⟩)
      go_ret
      exact ⟨rfl, rfl⟩

set_option maxHeartbeats 400000 in
theorem numberOp_any (op : Int) (w : World) : Calls Tryz.prog 243 #[.int .i64 op] w fun e w' => e = .returned (.bool (decide (11 ≤ op ∧ op ≤ 14))) ∧ w' = w := by
  by_cases h1 : op = 11
  · subst h1; go_enter Tryz.func243, Tryz.ntmps243; go_wp2; go_ret; exact ⟨rfl, rfl⟩
  by_cases h2 : op = 12
  · subst h2; go_enter Tryz.func243, Tryz.ntmps243; go_wp2; go_ret; exact ⟨rfl, rfl⟩
  by_cases h3 : op = 13
  · subst h3; go_enter Tryz.func243, Tryz.ntmps243; go_wp2; go_ret; exact ⟨rfl, rfl⟩
  by_cases h4 : op = 14
  · subst h4; go_enter Tryz.func243, Tryz.ntmps243; go_wp2; go_ret; exact ⟨rfl, rfl⟩
  go_enter Tryz.func243, Tryz.ntmps243
  go_wp2
  go_ret
  exact ⟨ret_bool (by symm; simp; omega), rfl⟩

set_option maxHeartbeats 400000 in
theorem is_any (op : Int) (w : World) : Calls Tryz.prog 201 #[.int .i64 op] w fun e w' => e = .returned (.bool (decide (11 ≤ op ∧ op ≤ 14 ∨ op = 23))) ∧ w' = w := by
  by_cases h1 : op = 11
  · subst h1; go_enter Tryz.func201, Tryz.ntmps201; go_wp2; go_ret; exact ⟨rfl, rfl⟩
  by_cases h2 : op = 12
  · subst h2; go_enter Tryz.func201, Tryz.ntmps201; go_wp2; go_ret; exact ⟨rfl, rfl⟩
  by_cases h3 : op = 13
  · subst h3; go_enter Tryz.func201, Tryz.ntmps201; go_wp2; go_ret; exact ⟨rfl, rfl⟩
  by_cases h4 : op = 14
  · subst h4; go_enter Tryz.func201, Tryz.ntmps201; go_wp2; go_ret; exact ⟨rfl, rfl⟩
  by_cases h5 : op = 23
  · subst h5; go_enter Tryz.func201, Tryz.ntmps201; go_wp2; go_ret; exact ⟨rfl, rfl⟩
  go_enter Tryz.func201, Tryz.ntmps201
  go_wp2
  go_ret
  exact ⟨ret_bool (by symm; simp; omega), rfl⟩

/-- One site is ahead of another one. -/
def SiteLess (a b : Si) : Prop := a.f < b.f ∨ a.f = b.f ∧ a.pc < b.pc
instance (a b : Si) : Decidable (SiteLess a b) := by unfold SiteLess; infer_instance

/-- The first that is not 0. -/
def orI (x y : Int) : Int := if x = 0 then y else x
set_option maxHeartbeats 1000000 in
theorem or_any (x y : Int) (g cap : Nat) (w : World) (h0 : w.cell? ⟨g, 0, none⟩ = some (.int .i64 x)) (h1 : w.cell? ⟨g, 1, none⟩ = some (.int .i64 y)) :
    Calls Tryz.prog 247 #[.slice (some ⟨g, 0, none⟩) 2 cap] w fun e w' => e = .returned (.int .i64 (orI x y)) ∧ Below w.heap.size w w' := by
  unfold orI
  go_enter Tryz.func247, Tryz.ntmps247
  go_wp2
  go_loopw [8] (fun i wr => ∃ (k : Nat), k ≤ 2 ∧ i = .int .i64 k ∧ Hid (0 < k → x = 0) ∧ Hid (1 < k → y = 0) ∧ Below w.heap.size w wr) (fun i _ => 2 - (intOf i).toNat)
  case atStart => exact ⟨0, by omega, rfl, fun h => absurd h (by omega), fun h => absurd h (by omega), Below.refl _ _⟩
  case round =>
    obtain ⟨k, hk, rfl, hx, hy, hb⟩ := hrel
    have c0 := cell_later hb h0
    have c1 := cell_later hb h1
    clear h0 h1
    obtain rfl | rfl | rfl : k = 0 ∨ k = 1 ∨ k = 2 := by omega
    · by_cases h : x = 0
      · subst h
        go_wp2
        go_roundw
        case rel => exact ⟨1, by omega, rfl, (by show _ → _; simp), fun h => absurd h (by omega), hb⟩
        case measure => simp [intOf]
      · go_wp2
        go_ret
        exact ⟨rfl, hb⟩
    · obtain rfl := hx.out (by omega)
      by_cases h : y = 0
      · subst h
        go_wp2
        go_roundw
        case rel => exact ⟨2, by omega, rfl, (by show _ → _; simp), (by show _ → _; simp), hb⟩
        case measure => simp [intOf]
      · go_wp2
        go_ret
        exact ⟨rfl, hb⟩
    · obtain rfl := hx.out (by omega)
      obtain rfl := hy.out (by omega)
      go_wp2
      go_ret
      exact ⟨rfl, hb⟩

set_option maxRecDepth 100000 in
set_option maxHeartbeats 1000000 in
theorem comparePlaces_any (af ap bf bp : Int) (w : World) :
    Calls Tryz.prog 244 #[.agg #[.int .i64 af, .int .i64 ap], .agg #[.int .i64 bf, .int .i64 bp]] w fun e w' => e = .returned (.int .i64 (orI (cmpI af bf) (cmpI ap bp))) ∧ Below w.heap.size w w' := by
  obtain ⟨wA, hwA⟩ : ∃ wA, wA = (w.alloc (.cells #[.int .i64 af, .int .i64 ap] 260)).alloc (.cells #[.int .i64 bf, .int .i64 bp] 260) := ⟨_, rfl⟩
  have hbA : Below w.heap.size w wA := by rw [hwA]; exact ((Below.refl _ _).alloc (Nat.le_refl _) _).alloc (by simp) _
  have hX : wA.heap[w.heap.size]? = some (.cells #[.int .i64 af, .int .i64 ap] 260 (0, 0)) := by rw [hwA]; exact block_old (block_new _ _ _) _
  have hY : wA.heap[w.heap.size + 1]? = some (.cells #[.int .i64 bf, .int .i64 bp] 260 (0, 0)) := by rw [hwA]; simpa using block_new (w.alloc (.cells #[.int .i64 af, .int .i64 ap] 260)) #[.int .i64 bf, .int .i64 bp] 260
  have hS : ∀ w', Below wA.heap.size wA w' → w'.cell? ⟨w.heap.size, 0, none⟩ = some (.int .i64 af) ∧ w'.cell? ⟨w.heap.size, 1, none⟩ = some (.int .i64 ap) ∧ w'.cell? ⟨w.heap.size + 1, 0, none⟩ = some (.int .i64 bf) ∧ w'.cell? ⟨w.heap.size + 1, 1, none⟩ = some (.int .i64 bp) := fun w' hb =>
    ⟨by rw [block_cell (block_kept hX hb)]; rfl, by rw [block_cell (block_kept hX hb)]; rfl, by rw [block_cell (block_kept hY hb)]; rfl, by rw [block_cell (block_kept hY hb)]; rfl⟩
  have HS : Hid (∀ w', Below wA.heap.size wA w' → w'.cell? ⟨w.heap.size, 0, none⟩ = some (.int .i64 af) ∧ w'.cell? ⟨w.heap.size, 1, none⟩ = some (.int .i64 ap) ∧ w'.cell? ⟨w.heap.size + 1, 0, none⟩ = some (.int .i64 bf) ∧ w'.cell? ⟨w.heap.size + 1, 1, none⟩ = some (.int .i64 bp)) := hS
  have q : Below wA.heap.size wA wA.drew := (Below.refl _ _).drew
  have HB : Hid (Below w.heap.size w wA) := hbA
  clear hS hX hY hbA
  go_enter Tryz.func244, Tryz.ntmps244
  go_wp2
  rw [← hwA]
  clear hwA
  go_region_held3 (fun w' => w'.cell? ⟨w.heap.size, 0, none⟩ = some (.int .i64 af) ∧ w'.cell? ⟨w.heap.size, 1, none⟩ = some (.int .i64 ap) ∧ w'.cell? ⟨w.heap.size + 1, 0, none⟩ = some (.int .i64 bf) ∧ w'.cell? ⟨w.heap.size + 1, 1, none⟩ = some (.int .i64 bp))
    ((refine HS.out _ ?_; first | exact q | exact Below.refl _ _ | exact ((Below.refl _ _).alloc (Nat.le_refl _) _).drew))
    (first
      | (go_at_call 248; refine (compare_any _ _ _).mono ?_; rintro e wb ⟨rfl, rfl⟩)
      | (go_at_call 247; refine (or_any (cmpI af bf) (cmpI ap bp) _ _ _ (by exact (cell_new wA #[.int .i64 (cmpI af bf), .int .i64 (cmpI ap bp)] 3 0).trans rfl) (by exact (cell_new wA #[.int .i64 (cmpI af bf), .int .i64 (cmpI ap bp)] 3 1).trans rfl)).mono ?_; rintro e w3 ⟨rfl, kd⟩; have q := (((Below.refl wA.heap.size wA).alloc (Nat.le_refl _) (.cells #[.int .i64 (cmpI af bf), .int .i64 (cmpI ap bp)] 3)).drew).trans (kd.mono (by simp))))
  go_wp2
  go_ret
  exact ⟨rfl, HB.out.trans (q.mono HB.out.size)⟩
theorem cmp_less (a b : Si) : 0 ≤ orI (cmpI a.f b.f) (cmpI a.pc b.pc) ↔ ¬ SiteLess a b := by
  unfold orI cmpI SiteLess
  repeat' split
  all_goals omega
end Go.Proofs.YtoimokjohmhnaaaGreatDoor

namespace Go.Proofs.YtoimokjohmhnaaaGreatDoor

def byteB (c : UInt8) : Bool := decide (32 ≤ c.toNat) && decide (c.toNat ≤ 126) && decide (c.toNat ≠ 34)
/-- A text that may stand in a module. -/
def textB (s : ByteArray) : Bool := decide (s.size ≤ 60) && s.data.toList.all byteB

theorem textB_no {s : ByteArray} {k : Nat} (hk : k < s.size) (h : byteB s[k] = false) : textB s = false := by
  unfold textB
  rw [Bool.and_eq_false_iff]
  right
  rw [List.all_eq_false]
  exact ⟨s[k], by simp [ByteArray.getElem_eq_getElem_data], by simp [h]⟩

theorem textB_yes {s : ByteArray} (h60 : s.size ≤ 60) (h : ∀ j (hj : j < s.size), byteB s[j] = true) : textB s = true := by
  unfold textB
  rw [Bool.and_eq_true]
  refine ⟨by simpa using h60, ?_⟩
  rw [List.all_eq_true]
  intro x hx
  obtain ⟨i, hi, rfl⟩ := List.getElem_of_mem hx
  exact h i (by simpa using hi)

/-- What an instruction may be, in a function of 'nc' instructions and 'loc' locals of a module of 'nt' texts and 'nf' functions. -/
def insB (nt nf loc nc op a : Int) : Bool :=
  if op = 1 then decide (-1000000000 ≤ a) && decide (a ≤ 1000000000)
  else if op = 2 then decide (0 ≤ a) && decide (a ≤ 1)
  else if op = 3 then decide (0 ≤ a) && decide (a < nt)
  else if op = 5 ∨ op = 24 then decide (0 ≤ a) && decide (a < nf)
  else if op = 6 ∨ op = 7 then decide (0 ≤ a) && decide (a < loc)
  else if op = 17 ∨ op = 18 ∨ op = 19 then decide (0 ≤ a) && decide (a < nc)
  else if op = 20 then decide (0 ≤ a) && decide (a ≤ 6)
  else if op = 21 ∨ op = 22 then decide (0 ≤ a) && decide (a ≤ 5)
  else if op = 23 then decide (0 ≤ a) && decide (a ≤ 6)
  else decide (1 ≤ op) && decide (op ≤ 26) && decide (a = 0)

/-- The least A of an Op, and the number behind the greatest. -/
def boundsB (nt nf loc nc op : Int) : Int × Int :=
  if op = 1 then (-1000000000, 1000000001)
  else if op = 2 then (0, 2)
  else if op = 3 then (0, nt)
  else if op = 5 ∨ op = 24 then (0, nf)
  else if op = 6 ∨ op = 7 then (0, loc)
  else if op = 17 ∨ op = 18 ∨ op = 19 then (0, nc)
  else if op = 20 then (0, 7)
  else if op = 21 ∨ op = 22 then (0, 6)
  else if op = 23 then (0, 7)
  else if 1 ≤ op ∧ op ≤ 26 then (0, 1)
  else (0, 0)

theorem ops_cases (op : Int) : op = 1 ∨ op = 2 ∨ op = 3 ∨ op = 4 ∨ op = 5 ∨ op = 6 ∨ op = 7 ∨ op = 8 ∨ op = 9 ∨ op = 10 ∨ op = 11 ∨ op = 12 ∨ op = 13 ∨ op = 14 ∨ op = 15 ∨ op = 16 ∨ op = 17 ∨ op = 18 ∨ op = 19 ∨ op = 20 ∨ op = 21 ∨ op = 22 ∨ op = 23 ∨ op = 24 ∨ op = 25 ∨ op = 26 ∨ op < 1 ∨ 26 < op := by omega

theorem boundsB_out {nt nf loc nc op : Int} (h : op < 1 ∨ 26 < op) : boundsB nt nf loc nc op = (0, 0) := by
  unfold boundsB
  repeat' split
  all_goals first | rfl | omega

theorem insB_out {nt nf loc nc op a : Int} (h : op < 1 ∨ 26 < op) : insB nt nf loc nc op a = false := by
  rw [Bool.eq_false_iff]
  unfold insB
  repeat' split
  all_goals simp
  all_goals omega

theorem insB_bounds (nt nf loc nc op a : Int) : (decide ((boundsB nt nf loc nc op).1 ≤ a) && decide (a < (boundsB nt nf loc nc op).2)) = insB nt nf loc nc op a := by
  rw [Bool.eq_iff_iff]
  unfold boundsB insB
  repeat' split
  all_goals simp
  all_goals omega

def fnB (nt nf : Int) (f : Fn) : Bool :=
  decide (0 ≤ f.params) && decide (f.params ≤ 6) && decide (f.params ≤ f.locals) && decide (f.locals ≤ 12) && decide (1 ≤ f.code.length) && decide (f.code.length ≤ 120) &&
    f.code.all fun x => insB nt nf f.locals f.code.length x.1 x.2

def modB (ts : List ByteArray) (fs : List Fn) : Bool :=
  decide (1 ≤ fs.length) && decide (fs.length ≤ 12) && decide (ts.length ≤ 20) && ts.all textB && fs.all fun f => fnB ts.length fs.length f

theorem all_take {α : Type} {l : List α} {p : α → Bool} {k : Nat} (h : k < l.length) (h1 : (l.take k).all p = true) (h2 : p l[k] = true) : (l.take (k + 1)).all p = true := by
  rw [List.take_succ_eq_append_getElem h, List.all_append, h1, List.all_cons, h2]
  rfl
theorem all_no {α : Type} {l : List α} {p : α → Bool} {k : Nat} (h : k < l.length) (h2 : p l[k] = false) : l.all p = false := by
  rw [List.all_eq_false]
  exact ⟨l[k], List.getElem_mem h, by simp [h2]⟩
theorem all_end {α : Type} {l : List α} {p : α → Bool} {k : Nat} (h : l.length ≤ k) (h1 : (l.take k).all p = true) : l.all p = true := by
  rwa [List.take_of_length_le h] at h1
end Go.Proofs.YtoimokjohmhnaaaGreatDoor

namespace Go.Proofs.YtoimokjohmhnaaaGreatDoor
open Go.RowKit


set_option maxHeartbeats 800000 in
theorem l01Text_any (s : ByteArray) (w : World) (hs : s.size ≤ 1048576) :
    Calls Tryz.prog 132 #[.string s] w fun e w' => e = .returned (.bool (textB s)) ∧ w' = w := by
  by_cases h60 : s.size ≤ 60
  · go_enter Tryz.func132, Tryz.ntmps132
    go_wp2
    go_loop [3] (fun i => ∃ k : Nat, k ≤ s.size ∧ i = .int .i64 k ∧ ∀ j (hj : j < s.size), j < k → byteB s[j] = true) (fun i => s.size - (intOf i).toNat)
    case atStart => exact ⟨0, by omega, rfl, fun j _ h => by omega⟩
    case round =>
      obtain ⟨k, hk, rfl, hall⟩ := hrel
      by_cases hlt : k < s.size
      · by_cases b1 : (s[k].toNat : Int) < 32
        · go_wp2
          go_ret
          exact ⟨ret_bool (textB_no hlt (by unfold byteB; simp; omega)).symm, rfl⟩
        by_cases b2 : 126 < (s[k].toNat : Int)
        · go_wp2
          go_ret
          exact ⟨ret_bool (textB_no hlt (by unfold byteB; simp; omega)).symm, rfl⟩
        by_cases b3 : (s[k].toNat : Int) = 34
        · have b3' : ((s[k].toNat : Int) == 34) = true := by simpa using b3
          have hno := textB_no hlt (by unfold byteB; simp; omega)
          clear b3
          go_wp2
          go_ret
          exact ⟨rfl, rfl⟩
        · have b3' : ((s[k].toNat : Int) == 34) = false := by simpa using b3
          have hyes : byteB s[k] = true := by unfold byteB; simp; omega
          go_wp2
          go_round
          case rel =>
            refine ⟨k + 1, by omega, by go_num, fun j hj hjk => ?_⟩
            by_cases e : j = k
            · subst e; exact hyes
            · exact hall j hj (by omega)
          case measure => simp [intOf]; omega
      · go_wp2
        go_ret
        exact ⟨ret_bool (textB_yes h60 fun j hj => hall j hj (by omega)).symm, rfl⟩
  · go_enter Tryz.func132, Tryz.ntmps132
    go_wp2
    go_ret
    exact ⟨ret_bool (by simp [textB, h60]), rfl⟩

set_option maxHeartbeats 800000 in
theorem textOk_any (s : ByteArray) (w : World) (hs : s.size ≤ 1048576) :
    Calls Tryz.prog 159 #[.string s] w fun e w' => e = .returned (.bool (textB s)) ∧ w' = w := by
  by_cases h60 : s.size ≤ 60
  · go_enter Tryz.func159, Tryz.ntmps159
    go_wp2
    go_loop [3] (fun i => ∃ k : Nat, k ≤ s.size ∧ i = .int .i64 k ∧ ∀ j (hj : j < s.size), j < k → byteB s[j] = true) (fun i => s.size - (intOf i).toNat)
    case atStart => exact ⟨0, by omega, rfl, fun j _ h => by omega⟩
    case round =>
      obtain ⟨k, hk, rfl, hall⟩ := hrel
      by_cases hlt : k < s.size
      · by_cases b1 : (s[k].toNat : Int) < 32
        · go_wp2
          go_ret
          exact ⟨ret_bool (textB_no hlt (by unfold byteB; simp; omega)).symm, rfl⟩
        by_cases b2 : 126 < (s[k].toNat : Int)
        · go_wp2
          go_ret
          exact ⟨ret_bool (textB_no hlt (by unfold byteB; simp; omega)).symm, rfl⟩
        by_cases b3 : (s[k].toNat : Int) = 34
        · have b3' : ((s[k].toNat : Int) == 34) = true := by simpa using b3
          have hno := textB_no hlt (by unfold byteB; simp; omega)
          clear b3
          go_wp2
          go_ret
          exact ⟨rfl, rfl⟩
        · have b3' : ((s[k].toNat : Int) == 34) = false := by simpa using b3
          have hyes : byteB s[k] = true := by unfold byteB; simp; omega
          go_wp2
          go_round
          case rel =>
            refine ⟨k + 1, by omega, by go_num, fun j hj hjk => ?_⟩
            by_cases e : j = k
            · subst e; exact hyes
            · exact hall j hj (by omega)
          case measure => simp [intOf]; omega
      · go_wp2
        go_ret
        exact ⟨ret_bool (textB_yes h60 fun j hj => hall j hj (by omega)).symm, rfl⟩
  · go_enter Tryz.func159, Tryz.ntmps159
    go_wp2
    go_ret
    exact ⟨ret_bool (by simp [textB, h60]), rfl⟩

theorem ret_two {a b c d : Int} (h : a = c) (k : b = d) : Ending.returned (.tuple #[.int .i64 a, .int .i64 b]) = .returned (.tuple #[.int .i64 c, .int .i64 d]) := by rw [h, k]

set_option maxHeartbeats 4000000 in
theorem argBounds_any (a1 a2 a3 : Option Addr) (nt c1 nf c2 nc c3 : Nat) (p l op : Int) (w : World) :
    Calls Tryz.prog 230 #[.agg #[.slice a1 nt c1, .slice a2 nf c2], .agg #[.int .i64 p, .int .i64 l, .slice a3 nc c3], .int .i64 op] w fun e w' => e = .returned (.tuple #[.int .i64 (boundsB nt nf l nc op).1, .int .i64 (boundsB nt nf l nc op).2]) ∧ Below w.heap.size w w' := by
  rcases ops_cases op with rfl | rfl | rfl | rfl | rfl | rfl | rfl | rfl | rfl | rfl | rfl | rfl | rfl | rfl | rfl | rfl | rfl | rfl | rfl | rfl | rfl | rfl | rfl | rfl | rfl | rfl | h | h
  case inr.inr.inr.inr.inr.inr.inr.inr.inr.inr.inr.inr.inr.inr.inr.inr.inr.inr.inr.inr.inr.inr.inr.inr.inr.inr.inl =>
    have hbb := boundsB_out (nt := nt) (nf := nf) (loc := l) (nc := nc) (Or.inl h : op < 1 ∨ 26 < op)
    rw [hbb]
    clear hbb
    go_enter Tryz.func230, Tryz.ntmps230
    go_wp2
    go_ret2
    exact ⟨rfl, ((Below.refl _ _).alloc (Nat.le_refl _) _).alloc (by simp) _⟩
  case inr.inr.inr.inr.inr.inr.inr.inr.inr.inr.inr.inr.inr.inr.inr.inr.inr.inr.inr.inr.inr.inr.inr.inr.inr.inr.inr =>
    have hbb := boundsB_out (nt := nt) (nf := nf) (loc := l) (nc := nc) (Or.inr h : op < 1 ∨ 26 < op)
    rw [hbb]
    clear hbb
    go_enter Tryz.func230, Tryz.ntmps230
    go_wp2
    go_ret2
    exact ⟨rfl, ((Below.refl _ _).alloc (Nat.le_refl _) _).alloc (by simp) _⟩
  all_goals
    go_enter Tryz.func230, Tryz.ntmps230
    go_wp2
    try go_quiet (fail)
    try go_wp2
    go_ret2
    refine ⟨rfl, ?_⟩
    first | exact ((Below.refl _ _).alloc (Nat.le_refl _) _).alloc (by simp) _ | exact below_draws (((Below.refl _ _).alloc (Nat.le_refl _) _).alloc (by simp) _) _

end Go.Proofs.YtoimokjohmhnaaaGreatDoor
