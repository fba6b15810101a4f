/-
  Plain predicates that say which cells of memory hold a list of texts, of instructions, of functions; they stay true where nothing that was there is written.
  A set of bits as two words, and what bitSet.with returns.
  Words and their lowest bits.
  What bits.TrailingZeros64 returns, where its table is laid.
-/
import Derived.WalkKit
import Derived.WalkSpells
import Derived.Test.YtcbknjjnphknbaaGreatDoorProg
namespace Go.Proofs.YtcbknjjnphknbaaGreatDoor
open Go.RowKit

/-- A function of a module as plain data. -/
structure Fn where
  params : Int
  locals : Int
  code : List (Int × Int)

theorem ret_int {k : IntKind} {a b : Int} (h : a = b) : Ending.returned (.int k a) = .returned (.int k b) := by rw [h]
theorem ret_bool {a b : Bool} (h : a = b) : Ending.returned (.bool a) = .returned (.bool b) := by rw [h]

theorem cell_new (w : World) (C : Array Value) (t : TypeId) (j : Nat) : (w.alloc (.cells C t)).cell? ⟨w.heap.size, j, none⟩ = C[j]? := World.cell?_alloc_mark w C t (0, 0) j

/-- The cells of a list of strings, in blocks from 'lo' on. -/
def StrsAt (w : World) (lo : Nat) (a : Option Addr) (ss : List ByteArray) : Prop :=
  ∀ i (h : i < ss.length), ∃ b off, a = some ⟨b, off, none⟩ ∧ lo ≤ b ∧ w.cell? ⟨b, off + i, none⟩ = some (.string ss[i])

/-- The cells of a list of instructions. -/
def CodeAt (w : World) (lo : Nat) (a : Option Addr) (xs : List (Int × Int)) : Prop :=
  ∀ i (h : i < xs.length), ∃ b off, a = some ⟨b, off, none⟩ ∧ lo ≤ b ∧ w.cell? ⟨b, off + i * 2, none⟩ = some (.int .i64 xs[i].1) ∧ w.cell? ⟨b, off + i * 2 + 1, none⟩ = some (.int .i64 xs[i].2)

/-- The cells of a list of functions. -/
def FnsAt (w : World) (lo : Nat) (a : Option Addr) (fs : List Fn) : Prop :=
  ∀ i (h : i < fs.length), ∃ b off ca cc, a = some ⟨b, off, none⟩ ∧ lo ≤ b ∧ w.cell? ⟨b, off + i * 3, none⟩ = some (.int .i64 fs[i].params) ∧
    w.cell? ⟨b, off + i * 3 + 1, none⟩ = some (.int .i64 fs[i].locals) ∧ w.cell? ⟨b, off + i * 3 + 2, none⟩ = some (.slice ca fs[i].code.length cc) ∧ CodeAt w lo ca fs[i].code

theorem StrsAt.mono {w w' : World} {lo : Nat} {a : Option Addr} {ss : List ByteArray} (h : StrsAt w lo a ss) (hb : Below w.heap.size w w') : StrsAt w' lo a ss := by
  intro i hi
  obtain ⟨b, off, h1, h2, h3⟩ := h i hi
  exact ⟨b, off, h1, h2, cell_later hb h3⟩

theorem CodeAt.mono {w w' : World} {lo : Nat} {a : Option Addr} {xs : List (Int × Int)} (h : CodeAt w lo a xs) (hb : Below w.heap.size w w') : CodeAt w' lo a xs := by
  intro i hi
  obtain ⟨b, off, h1, h2, h3, h4⟩ := h i hi
  exact ⟨b, off, h1, h2, cell_later hb h3, cell_later hb h4⟩

theorem FnsAt.mono {w w' : World} {lo : Nat} {a : Option Addr} {fs : List Fn} (h : FnsAt w lo a fs) (hb : Below w.heap.size w w') : FnsAt w' lo a fs := by
  intro i hi
  obtain ⟨b, off, ca, cc, h1, h2, h3, h4, h5, h6⟩ := h i hi
  exact ⟨b, off, ca, cc, h1, h2, cell_later hb h3, cell_later hb h4, cell_later hb h5, h6.mono hb⟩

/-- The block of a slice that 'make' laid. -/
theorem made_block {w1 : World} {base e size g n : Nat} {xs : List Value} (h : w1.ownsRow base e size (.slice (some ⟨g, 0, none⟩) n n) n xs) : ∃ cur, w1.heap[g]? = some (.cells cur e (0, 0)) ∧ cur.size = n * size := by
  rcases h.2 with ⟨hv, -⟩ | ⟨g', cap, cur, hv, -, hh, -, -, hs, -⟩
  · cases hv
  · cases hv
    exact ⟨cur, hh, hs⟩

theorem block_cell {w : World} {g : Nat} {cs : Array Value} {t : TypeId} {fr : Nat × Nat} (h : w.heap[g]? = some (.cells cs t fr)) (i : Nat) : w.cell? ⟨g, i, none⟩ = cs[i]? := by simp [World.cell?, h]
theorem block_free {w : World} {g : Nat} {cs : Array Value} {t : TypeId} (h : w.heap[g]? = some (.cells cs t (0, 0))) (i : Nat) : w.frozen? ⟨g, i, none⟩ = false := by simp [World.frozen?, h]
theorem block_set {w : World} {g i : Nat} {cs : Array Value} {t : TypeId} {fr : Nat × Nat} (h : w.heap[g]? = some (.cells cs t fr)) (v : Value) : (w.setCell ⟨g, i, none⟩ v).heap[g]? = some (.cells (cs.setIfInBounds i v) t fr) := by
  rw [setCell_eq_setRow w g i cs t fr v h]
  exact setRow_heap w g _ _ t _ h

theorem block_kept {w w' : World} {g : Nat} {o : Obj} (h : w.heap[g]? = some o) (hb : Below w.heap.size w w') : w'.heap[g]? = some o := by
  have hlt : g < w.heap.size := by
    rcases Nat.lt_or_ge g w.heap.size with h' | h'
    · exact h'
    · rw [Array.getElem?_eq_none h'] at h; cases h
  rw [hb.block g hlt, h]

theorem set_self {cur : Array Value} {k : Nat} (v : Value) (h : k < cur.size) : (cur.setIfInBounds k v)[k]? = some v := by simp [h]
theorem set_else {cur : Array Value} {k j : Nat} (v : Value) (h : j ≠ k) : (cur.setIfInBounds k v)[j]? = cur[j]? := Array.getElem?_setIfInBounds_ne (fun x => h x.symm)

theorem block_new (w : World) (C : Array Value) (t : TypeId) : (w.alloc (.cells C t)).heap[w.heap.size]? = some (.cells C t (0, 0)) := by
  show (w.heap.push _)[w.heap.size]? = _
  simp
theorem block_old {w : World} {g : Nat} {o : Obj} (h : w.heap[g]? = some o) (x : Obj) : (w.alloc x).heap[g]? = some o := block_kept h ((Below.refl _ _).alloc (Nat.le_refl _) x)

/-- From block 'lo' on the two worlds are one. -/
def Above (lo : Nat) (w w' : World) : Prop := ∀ k, lo ≤ k → k < w.heap.size → w'.heap[k]? = w.heap[k]?
theorem Above.refl (lo : Nat) (w : World) : Above lo w w := fun _ _ _ => rfl
theorem Above.setCell {lo : Nat} {w w' : World} (h : Above lo w w') {p : Addr} (hp : p.block < lo) (v : Value) : Above lo w (w'.setCell p v) := fun k hk hs => by
  rw [Below.heap_setCell _ _ _ _ (by omega)]; exact h k hk hs
theorem Above.cell {lo : Nat} {w w' : World} (h : Above lo w w') {b off : Nat} {v : Value} (hb : lo ≤ b) (hc : w.cell? ⟨b, off, none⟩ = some v) : w'.cell? ⟨b, off, none⟩ = some v := by
  rw [World.cell?_of_block (w := w) (h b hb (World.block_lt_of_cell? w _ hc))]; exact hc
theorem StrsAt.above {w w' : World} {lo : Nat} {a : Option Addr} {ss : List ByteArray} (h : StrsAt w lo a ss) (hb : Above lo w w') : StrsAt w' lo a ss := by
  intro i hi
  obtain ⟨b, off, h1, h2, h3⟩ := h i hi
  exact ⟨b, off, h1, h2, hb.cell h2 h3⟩
theorem CodeAt.above {w w' : World} {lo : Nat} {a : Option Addr} {xs : List (Int × Int)} (h : CodeAt w lo a xs) (hb : Above lo w w') : CodeAt w' lo a xs := by
  intro i hi
  obtain ⟨b, off, h1, h2, h3, h4⟩ := h i hi
  exact ⟨b, off, h1, h2, hb.cell h2 h3, hb.cell h2 h4⟩
theorem FnsAt.above {w w' : World} {lo : Nat} {a : Option Addr} {fs : List Fn} (h : FnsAt w lo a fs) (hb : Above lo w w') : FnsAt w' lo a fs := by
  intro i hi
  obtain ⟨b, off, ca, cc, h1, h2, h3, h4, h5, h6⟩ := h i hi
  exact ⟨b, off, ca, cc, h1, h2, hb.cell h2 h3, hb.cell h2 h4, hb.cell h2 h5, h6.above hb⟩
theorem StrsAt.low {w : World} {lo lo' : Nat} {a : Option Addr} {ss : List ByteArray} (h : StrsAt w lo a ss) (hl : lo' ≤ lo) : StrsAt w lo' a ss := fun i hi => by
  obtain ⟨b, off, h1, h2, h3⟩ := h i hi
  exact ⟨b, off, h1, by omega, h3⟩
theorem CodeAt.low {w : World} {lo lo' : Nat} {a : Option Addr} {xs : List (Int × Int)} (h : CodeAt w lo a xs) (hl : lo' ≤ lo) : CodeAt w lo' a xs := fun i hi => by
  obtain ⟨b, off, h1, h2, h3, h4⟩ := h i hi
  exact ⟨b, off, h1, by omega, h3, h4⟩
theorem FnsAt.low {w : World} {lo lo' : Nat} {a : Option Addr} {fs : List Fn} (h : FnsAt w lo a fs) (hl : lo' ≤ lo) : FnsAt w lo' a fs := fun i hi => by
  obtain ⟨b, off, ca, cc, h1, h2, h3, h4, h5, h6⟩ := h i hi
  exact ⟨b, off, ca, cc, h1, by omega, h3, h4, h5, h6.low hl⟩

/-- What the guard of a law leaves: nothing is longer than 1048576. -/
structure Small (ts : List ByteArray) (fs : List Fn) : Prop where
  texts : ts.length ≤ 1048576
  text : ∀ s ∈ ts, s.size ≤ 1048576
  funcs : fs.length ≤ 1048576
  code : ∀ f ∈ fs, f.code.length ≤ 1048576
end Go.Proofs.YtcbknjjnphknbaaGreatDoor

namespace Go.Proofs.YtcbknjjnphknbaaGreatDoor
open Go.RowKit

/-- A set with one place more. -/
def bw (s : Nat × Nat) (k : Nat) : Nat × Nat := if k < 64 then (s.1 ||| 2 ^ k, s.2) else (s.1, s.2 ||| 2 ^ (k - 64))
/-- Whether a place is in a set. -/
def bhas (s : Nat × Nat) (k : Nat) : Bool := if k < 64 then s.1.testBit k else s.2.testBit (k - 64)
/-- Both are words. -/
def bok (s : Nat × Nat) : Prop := s.1 < 2 ^ 64 ∧ s.2 < 2 ^ 64
/-- A set as a value. -/
def bv (s : Nat × Nat) : Value := .agg #[.int .u64 (s.1 : Int), .int .u64 (s.2 : Int)]

theorem bw_ok {s : Nat × Nat} {k : Nat} (h : bok s) (hk : k < 128) : bok (bw s k) := by
  unfold bw
  split
  · exact ⟨Nat.or_lt_two_pow h.1 (Nat.pow_lt_pow_right (by decide) (by omega)), h.2⟩
  · exact ⟨h.1, Nat.or_lt_two_pow h.2 (Nat.pow_lt_pow_right (by decide) (by omega))⟩
theorem bhas_bw {s : Nat × Nat} {k j : Nat} (_ : k < 128) (_ : j < 128) : bhas (bw s k) j = (bhas s j || decide (k = j)) := by
  unfold bw bhas
  by_cases h : k < 64
  · rw [if_pos h]
    by_cases h2 : j < 64
    · simp only [if_pos h2, Nat.testBit_or, Nat.testBit_two_pow]
    · simp only [if_neg h2]
      rw [decide_eq_false (by omega), Bool.or_false]
  · rw [if_neg h]
    by_cases h2 : j < 64
    · simp only [if_pos h2]
      rw [decide_eq_false (by omega), Bool.or_false]
    · simp only [if_neg h2, Nat.testBit_or, Nat.testBit_two_pow]
      congr 1
      apply decide_eq_decide.2
      omega
theorem bhas_zero (j : Nat) : bhas (0, 0) j = false := by simp [bhas]
theorem bset_ext {s t : Nat × Nat} (hs : bok s) (ht : bok t) (h : ∀ j, j < 128 → bhas s j = bhas t j) : s = t := by
  apply Prod.ext
  · apply Nat.eq_of_testBit_eq
    intro i
    by_cases hi : i < 64
    · have := h i (by omega)
      simpa [bhas, hi] using this
    · rw [Nat.testBit_lt_two_pow (Nat.lt_of_lt_of_le hs.1 (Nat.pow_le_pow_right (by decide) (by omega))), Nat.testBit_lt_two_pow (Nat.lt_of_lt_of_le ht.1 (Nat.pow_le_pow_right (by decide) (by omega)))]
  · apply Nat.eq_of_testBit_eq
    intro i
    by_cases hi : i < 64
    · have := h (i + 64) (by omega)
      have e : ¬ i + 64 < 64 := by omega
      simpa [bhas, e] using this
    · rw [Nat.testBit_lt_two_pow (Nat.lt_of_lt_of_le hs.2 (Nat.pow_le_pow_right (by decide) (by omega))), Nat.testBit_lt_two_pow (Nat.lt_of_lt_of_le ht.2 (Nat.pow_le_pow_right (by decide) (by omega)))]

theorem wrap_word {a : Nat} (h : a < 2 ^ 64) : IntKind.u64.wrap (a : Int) = (a : Int) := by
  rw [IntKind.wrap_u64]
  have h' : a < 18446744073709551616 := h
  omega
theorem wrap_pow {k : Nat} (h : k < 64) : IntKind.u64.wrap (2 ^ k) = ((2 ^ k : Nat) : Int) := by
  have := wrap_word (a := 2 ^ k) (Nat.pow_lt_pow_right (by decide) h)
  push_cast at this ⊢
  exact this
theorem bits_or {a b : Nat} (ha : a < 2 ^ 64) (hb : b < 2 ^ 64) : bits .or .u64 (a : Int) (b : Int) = ((a ||| b : Nat) : Int) := by
  have hlt := Nat.or_lt_two_pow ha hb
  simp only [bits]
  show IntKind.u64.wrap (((BitVec.ofInt 64 (a : Int)) ||| (BitVec.ofInt 64 (b : Int))).toNat : Int) = _
  rw [BitVec.ofInt_natCast, BitVec.ofInt_natCast, BitVec.toNat_or, BitVec.toNat_ofNat, BitVec.toNat_ofNat, Nat.mod_eq_of_lt ha, Nat.mod_eq_of_lt hb]
  exact wrap_word hlt

theorem bw_lo {x y k : Nat} (h : k < 64) : bw (x, y) k = (x ||| 2 ^ k, y) := if_pos h
theorem bw_hi {x y k : Nat} (h : ¬ k < 64) : bw (x, y) k = (x, y ||| 2 ^ (k - 64)) := if_neg h

set_option maxRecDepth 100000 in
set_option maxHeartbeats 1000000 in
theorem with_any (s : Nat × Nat) (k : Nat) (w : World) (hs : bok s) (hk : k < 128) :
    Calls Tryz.prog 90 #[bv s, .int .i64 (k : Int)] w fun e w' => e = .returned (bv (bw s k)) ∧ Below w.heap.size w w' := by
  obtain ⟨x, y⟩ := s
  by_cases h : k < 64
  · have HO : Hid (bits .or .u64 (x : Int) (IntKind.u64.wrap (2 ^ k)) = ((x ||| 2 ^ k : Nat) : Int)) := by
      show _ = _
      rw [wrap_pow h]; exact bits_or hs.1 (Nat.pow_lt_pow_right (by decide) h)
    rw [bw_lo h]
    unfold bv
    dsimp only
    have h1 : (k : Int) / 64 = 0 := by omega
    have h2 : k / 64 = 0 := by omega
    have h3 : (k : Int) % 64 = k := by omega
    have h4 : k % 64 = k := by omega
    go_enter Tryz.func90, Tryz.ntmps90
    go_wp2
    go_region
    go_wp2
    rw [HO.out]
    refine bodyPost_ret (v := .agg #[.int .u64 ((x ||| 2 ^ k : Nat) : Int), .int .u64 (y : Int)]) (by simp [results, Tryz.results90, go_sem]) rfl ⟨rfl, ?_⟩
    exact (((Below.refl _ _).alloc (Nat.le_refl _) _).alloc (by simp) _).drew
  · have HO : Hid (bits .or .u64 (y : Int) (IntKind.u64.wrap (2 ^ (k - 64))) = ((y ||| 2 ^ (k - 64) : Nat) : Int)) := by
      show _ = _
      rw [wrap_pow (by omega)]; exact bits_or hs.2 (Nat.pow_lt_pow_right (by decide) (by omega))
    rw [bw_hi h]
    unfold bv
    dsimp only
    have h1 : (k : Int) / 64 = 1 := by omega
    have h2 : k / 64 = 1 := by omega
    have h3 : (k : Int) % 64 = (k : Int) - 64 := by omega
    have h4 : k % 64 = k - 64 := by omega
    go_enter Tryz.func90, Tryz.ntmps90
    go_wp2
    go_region
    go_wp2
    rw [HO.out]
    refine bodyPost_ret (v := .agg #[.int .u64 (x : Int), .int .u64 ((y ||| 2 ^ (k - 64) : Nat) : Int)]) (by simp [results, Tryz.results90, go_sem]) rfl ⟨rfl, ?_⟩
    exact (((Below.refl _ _).alloc (Nat.le_refl _) _).alloc (by simp) _).drew
end Go.Proofs.YtcbknjjnphknbaaGreatDoor

namespace Go.Proofs.YtcbknjjnphknbaaGreatDoor
open Go.RowKit

theorem low_form : ∀ (x : Nat), x ≠ 0 → ∃ k m, x = 2 ^ (k + 1) * m + 2 ^ k := by
  intro x
  induction x using Nat.strongRecOn with
  | _ x ih =>
    intro h
    by_cases h2 : x % 2 = 1
    · exact ⟨0, x / 2, by simp; omega⟩
    · obtain ⟨k, m, e⟩ := ih (x / 2) (by omega) (by omega)
      refine ⟨k + 1, m, ?_⟩
      have : x = 2 * (x / 2) := by omega
      rw [this, e, Nat.mul_add, Nat.pow_succ 2 (k + 1), Nat.pow_succ 2 k]
      rw [← Nat.mul_assoc, Nat.mul_comm 2 (2 ^ k * 2), Nat.mul_comm 2 (2 ^ k)]

theorem form_bit (k m j : Nat) : (2 ^ (k + 1) * m + 2 ^ k).testBit j = if j < k + 1 then decide (k = j) else m.testBit (j - (k + 1)) := by
  rw [Nat.testBit_two_pow_mul_add m (Nat.pow_lt_pow_right (by decide) (by omega)) j, Nat.testBit_two_pow]
theorem form_less (k m : Nat) : 2 ^ (k + 1) * m + 2 ^ k - 1 = 2 ^ (k + 1) * m + (2 ^ k - 1) := by
  have := Nat.two_pow_pos k
  omega
theorem form_bit1 (k m j : Nat) : (2 ^ (k + 1) * m + 2 ^ k - 1).testBit j = if j < k + 1 then decide (j < k) else m.testBit (j - (k + 1)) := by
  rw [form_less, Nat.testBit_two_pow_mul_add m (Nat.lt_of_le_of_lt (Nat.sub_le _ _) (Nat.pow_lt_pow_right (by decide) (by omega))) j, Nat.testBit_two_pow_sub_one]

/-- The lowest bit goes. -/
theorem clear_low (k m j : Nat) : ((2 ^ (k + 1) * m + 2 ^ k) &&& (2 ^ (k + 1) * m + 2 ^ k - 1)).testBit j = (decide (k < j) && (2 ^ (k + 1) * m + 2 ^ k).testBit j) := by
  rw [Nat.testBit_and, form_bit, form_bit1]
  by_cases h : j < k + 1
  · rw [if_pos h, if_pos h]
    by_cases e : k = j
    · subst e; simp
    · rw [decide_eq_false e]; simp
  · rw [if_neg h, if_neg h, decide_eq_true (show k < j by omega)]
    simp

/-- The lowest bit alone. -/
theorem keep_low {k m : Nat} (h : 2 ^ (k + 1) * m + 2 ^ k < 2 ^ 64) : (2 ^ (k + 1) * m + 2 ^ k) &&& (2 ^ 64 - (2 ^ (k + 1) * m + 2 ^ k)) = 2 ^ k := by
  have hp := Nat.two_pow_pos k
  have hk : k < 64 := by
    by_cases hk : k < 64
    · exact hk
    · have := Nat.pow_le_pow_right (n := 2) (by decide) (show 64 ≤ k by omega)
      omega
  obtain ⟨y, hy⟩ : ∃ y, y = 2 ^ (k + 1) * m + 2 ^ k - 1 := ⟨_, rfl⟩
  have hx : 2 ^ (k + 1) * m + 2 ^ k = y + 1 := by omega
  apply Nat.eq_of_testBit_eq
  intro j
  rw [Nat.testBit_and]
  have e1 : (2 ^ 64 - (2 ^ (k + 1) * m + 2 ^ k)).testBit j = (decide (j < 64) && !y.testBit j) := by
    rw [hx]
    exact Nat.testBit_two_pow_sub_succ (by omega) j
  rw [e1, form_bit, hy, form_bit1, Nat.testBit_two_pow]
  by_cases h : j < k + 1
  · rw [if_pos h, if_pos h, decide_eq_true (show j < 64 by omega)]
    by_cases e : k = j
    · subst e; simp
    · rw [decide_eq_false e]; simp
  · rw [if_neg h, if_neg h, decide_eq_false (show ¬ k = j by omega)]
    cases m.testBit (j - (k + 1)) <;> simp

theorem bits_and {a b : Nat} (ha : a < 2 ^ 64) (hb : b < 2 ^ 64) : bits .and .u64 (a : Int) (b : Int) = ((a &&& b : Nat) : Int) := by
  have hlt : a &&& b < 2 ^ 64 := Nat.lt_of_le_of_lt Nat.and_le_left ha
  simp only [bits]
  show IntKind.u64.wrap (((BitVec.ofInt 64 (a : Int)) &&& (BitVec.ofInt 64 (b : Int))).toNat : Int) = _
  rw [BitVec.ofInt_natCast, BitVec.ofInt_natCast, BitVec.toNat_and, BitVec.toNat_ofNat, BitVec.toNat_ofNat, Nat.mod_eq_of_lt ha, Nat.mod_eq_of_lt hb]
  exact wrap_word hlt

/-- The table's index of a word that has one bit. -/
def dbI (k : Nat) : Nat := (2 ^ k * 285870213051353865 % 2 ^ 64) / 2 ^ 58
/-- The table. -/
def dbT : List Nat := [0, 1, 56, 2, 57, 49, 28, 3, 61, 58, 42, 50, 38, 29, 17, 4, 62, 47, 59, 36, 45, 43, 51, 22, 53, 39, 33, 30, 24, 18, 12, 5, 63, 55, 48, 27, 60, 41, 37, 16, 46, 35, 44, 21, 52, 32, 23, 11, 54, 26, 40, 15, 34, 20, 31, 10, 25, 14, 19, 9, 13, 8, 7, 6]
theorem dbT_at : ∀ k, k < 64 → dbT[dbI k]? = some k := by decide +kernel
theorem dbI_lt (k : Nat) : dbI k < 64 := by
  unfold dbI
  have := Nat.mod_lt (2 ^ k * 285870213051353865) (show 0 < 2 ^ 64 by decide)
  omega
end Go.Proofs.YtcbknjjnphknbaaGreatDoor

namespace Go.Proofs.YtcbknjjnphknbaaGreatDoor
open Go.RowKit

/-- The table lies. -/
def DB (W : World) : Prop := ∀ i, i < 64 → W.cell? ⟨1, i, none⟩ = some (.int .u8 ((dbT[i]?.getD 0 : Nat) : Int))
theorem DB.mono {W W' : World} (h : DB W) (hb : Below W.heap.size W W') : DB W' := fun i hi => cell_later hb (h i hi)

set_option maxRecDepth 100000 in
set_option maxHeartbeats 1000000 in
theorem tz_walk (x y z q k : Nat) (W : World) (hx0 : ((x : Int) == 0) = false) (hn : IntKind.u64.wrap (-(x : Int)) = (y : Int)) (ha : bits .and .u64 (x : Int) (y : Int) = (z : Int))
    (hw : IntKind.u64.wrap ((z : Int) * 285870213051353865) / 288230376151711744 = (q : Int)) (hq : q < 64) (c1 : W.cell? ⟨1, q, none⟩ = some (.int .u8 (k : Int))) (hk : k < 64) :
    Calls Tryz.prog 125 #[.int .u64 (x : Int)] W fun e W' => e = .returned (.int .i64 (k : Int)) ∧ W' = W := by
  go_enter Tryz.func125, Tryz.ntmps125
  go_wp2
  go_ret
  exact ⟨rfl, rfl⟩

theorem form_lt {k m : Nat} (h : 2 ^ (k + 1) * m + 2 ^ k < 2 ^ 64) : k < 64 := by
  by_cases hk : k < 64
  · exact hk
  · have := Nat.pow_le_pow_right (n := 2) (by decide) (show 64 ≤ k by omega)
    omega
theorem wrap_neg {x : Nat} (h0 : x ≠ 0) (h : x < 18446744073709551616) : IntKind.u64.wrap (-(x : Int)) = ((18446744073709551616 - x : Nat) : Int) := by
  rw [IntKind.wrap_u64]; omega
theorem wrap_db (z : Nat) : IntKind.u64.wrap ((z : Int) * 285870213051353865) / 288230376151711744 = (((z * 285870213051353865 % 18446744073709551616) / 288230376151711744 : Nat) : Int) := by
  rw [IntKind.wrap_u64]; omega
theorem dbI_eq (k : Nat) : (2 ^ k * 285870213051353865 % 18446744073709551616) / 288230376151711744 = dbI k := rfl
theorem sub_lt {x : Nat} (h0 : x ≠ 0) (h : x < 18446744073709551616) : 18446744073709551616 - x < 18446744073709551616 := by omega

theorem tz_any (x k m : Nat) (W : World) (hx : x = 2 ^ (k + 1) * m + 2 ^ k) (hlt : x < 2 ^ 64) (hD : DB W) :
    Calls Tryz.prog 125 #[.int .u64 (x : Int)] W fun e W' => e = .returned (.int .i64 (k : Int)) ∧ W' = W := by
  have hk : k < 64 := form_lt (m := m) (by rw [← hx]; exact hlt)
  have hx0 : x ≠ 0 := by
    have := Nat.two_pow_pos k
    omega
  have hx1 : ¬ (x : Int) = 0 := by omega
  have hlt' : x < 18446744073709551616 := hlt
  refine tz_walk x (18446744073709551616 - x) (2 ^ k) (dbI k) k W (by simpa using hx1) (wrap_neg hx0 hlt') ?_ (by rw [wrap_db, dbI_eq]) (dbI_lt k) (by rw [hD _ (dbI_lt k), dbT_at k hk]; rfl) hk
  rw [bits_and hlt (sub_lt hx0 hlt')]
  have := keep_low (k := k) (m := m) (by rw [← hx]; exact hlt)
  rw [← hx] at this
  exact congrArg _ this
end Go.Proofs.YtcbknjjnphknbaaGreatDoor
