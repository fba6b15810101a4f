/-
Plain predicates that say which cells of memory hold a list of texts, of instructions, of functions; they stay true where nothing that was there is written.
A set of bits as two words, and what bitSet.with returns.
Words and their lowest bits.
What bits.TrailingZeros64 returns, where its table is laid.
What the size functions of the laws (sz..) and spec.l01Between return, for every argument within the stated sizes.
States of the machine as plain data, and which cells of memory hold them.
-/
import Derived.WalkKit
import Derived.WalkSpells
import Derived.Test.YthnolafhnplnkaaGreatDoorProg
import Derived.WalkLawsBesides
import Derived.Deep.QuietTactic
import Derived.BigQuiet
import Derived.Deep.RegionWith
set_option maxRecDepth 100000
namespace Go.Proofs.YthnolafhnplnkaaGreatDoor
open Go.RowKit
theorem sAr {α : Type} (l : List α) (i : Nat) (a : α) : l.toArray.setIfInBounds i a = (l.set i a).toArray := List.setIfInBounds_toArray l i a
theorem sZe {α : Type} {a b : α} {l : List α} : (a :: l).set 0 b = b :: l := rfl
theorem sSu {α : Type} {a b : α} {l : List α} {n : Nat} : (a :: l).set (n + 1) b = a :: l.set n b := rfl
structure Fn where
 params : Int
 locals : Int
 code : List (Int × Int)
theorem ret_int {k : IntKind} {a b : Int} (h : a = b) : Ending.returned (.int k a) = .returned (.int k b) := by rw [h]
theorem ret_bool {a b : Bool} (h : a = b) : Ending.returned (.bool a) = .returned (.bool b) := by rw [h]
theorem cell_new (w : World) (C : Array Value) (t : TypeId) (j : Nat) : (w.alloc (.cells C t)).cell? ⟨w.heap.size, j, none⟩ = C[j]? := World.cell?_alloc_mark w C t (0, 0) j
def StrsAt (w : World) (lo : Nat) (a : Option Addr) (ss : List ByteArray) : Prop :=
 ∀ i (h : i < ss.length), ∃ b off, a = some ⟨b, off, none⟩ ∧ lo ≤ b ∧ w.cell? ⟨b, off + i, none⟩ = some (.string ss[i])
def CodeAt (w : World) (lo : Nat) (a : Option Addr) (xs : List (Int × Int)) : Prop :=
 ∀ i (h : i < xs.length), ∃ b off, a = some ⟨b, off, none⟩ ∧ lo ≤ b ∧ w.cell? ⟨b, off + i * 2, none⟩ = some (.int .i64 xs[i].1) ∧ w.cell? ⟨b, off + i * 2 + 1, none⟩ = some (.int .i64 xs[i].2)
def FnsAt (w : World) (lo : Nat) (a : Option Addr) (fs : List Fn) : Prop :=
 ∀ i (h : i < fs.length), ∃ b off ca cc, a = some ⟨b, off, none⟩ ∧ lo ≤ b ∧ w.cell? ⟨b, off + i * 3, none⟩ = some (.int .i64 fs[i].params) ∧
  w.cell? ⟨b, off + i * 3 + 1, none⟩ = some (.int .i64 fs[i].locals) ∧ w.cell? ⟨b, off + i * 3 + 2, none⟩ = some (.slice ca fs[i].code.length cc) ∧ CodeAt w lo ca fs[i].code
theorem StrsAt.mono {w w' : World} {lo : Nat} {a : Option Addr} {ss : List ByteArray} (h : StrsAt w lo a ss) (hb : Below w.heap.size w w') : StrsAt w' lo a ss := by
 intro i hi
 obtain ⟨b, off, h1, h2, h3⟩ := h i hi
 exact ⟨b, off, h1, h2, cell_later hb h3⟩
theorem CodeAt.mono {w w' : World} {lo : Nat} {a : Option Addr} {xs : List (Int × Int)} (h : CodeAt w lo a xs) (hb : Below w.heap.size w w') : CodeAt w' lo a xs := by
 intro i hi
 obtain ⟨b, off, h1, h2, h3, h4⟩ := h i hi
 exact ⟨b, off, h1, h2, cell_later hb h3, cell_later hb h4⟩
theorem FnsAt.mono {w w' : World} {lo : Nat} {a : Option Addr} {fs : List Fn} (h : FnsAt w lo a fs) (hb : Below w.heap.size w w') : FnsAt w' lo a fs := by
 intro i hi
 obtain ⟨b, off, ca, cc, h1, h2, h3, h4, h5, h6⟩ := h i hi
 exact ⟨b, off, ca, cc, h1, h2, cell_later hb h3, cell_later hb h4, cell_later hb h5, h6.mono hb⟩
theorem made_block {w1 : World} {base e size g n : Nat} {xs : List Value} (h : w1.ownsRow base e size (.slice (some ⟨g, 0, none⟩) n n) n xs) : ∃ cur, w1.heap[g]? = some (.cells cur e (0, 0)) ∧ cur.size = n * size := by
 rcases h.2 with ⟨hv, -⟩ | ⟨g', cap, cur, hv, -, hh, -, -, hs, -⟩
 · cases hv
 ·
  cases hv
  exact ⟨cur, hh, hs⟩
theorem block_cell {w : World} {g : Nat} {cs : Array Value} {t : TypeId} {fr : Nat × Nat} (h : w.heap[g]? = some (.cells cs t fr)) (i : Nat) : w.cell? ⟨g, i, none⟩ = cs[i]? := by simp [World.cell?, h]
theorem block_free {w : World} {g : Nat} {cs : Array Value} {t : TypeId} (h : w.heap[g]? = some (.cells cs t (0, 0))) (i : Nat) : w.frozen? ⟨g, i, none⟩ = false := by simp [World.frozen?, h]
theorem block_set {w : World} {g i : Nat} {cs : Array Value} {t : TypeId} {fr : Nat × Nat} (h : w.heap[g]? = some (.cells cs t fr)) (v : Value) : (w.setCell ⟨g, i, none⟩ v).heap[g]? = some (.cells (cs.setIfInBounds i v) t fr) := by
 rw [setCell_eq_setRow w g i cs t fr v h]
 exact setRow_heap w g _ _ t _ h
theorem block_kept {w w' : World} {g : Nat} {o : Obj} (h : w.heap[g]? = some o) (hb : Below w.heap.size w w') : w'.heap[g]? = some o := by
 have hlt : g < w.heap.size := by
  rcases Nat.lt_or_ge g w.heap.size with h' | h'
  · exact h'
  · rw [Array.getElem?_eq_none h'] at h; cases h
 rw [hb.block g hlt, h]
theorem set_self {cur : Array Value} {k : Nat} (v : Value) (h : k < cur.size) : (cur.setIfInBounds k v)[k]? = some v := by simp [h]
theorem set_else {cur : Array Value} {k j : Nat} (v : Value) (h : j ≠ k) : (cur.setIfInBounds k v)[j]? = cur[j]? := Array.getElem?_setIfInBounds_ne (fun x => h x.symm)
theorem block_new (w : World) (C : Array Value) (t : TypeId) : (w.alloc (.cells C t)).heap[w.heap.size]? = some (.cells C t (0, 0)) := by
 show (w.heap.push _)[w.heap.size]? = _
 simp
theorem block_old {w : World} {g : Nat} {o : Obj} (h : w.heap[g]? = some o) (x : Obj) : (w.alloc x).heap[g]? = some o := block_kept h ((Below.refl _ _).alloc (Nat.le_refl _) x)
def Above (lo : Nat) (w w' : World) : Prop := ∀ k, lo ≤ k → k < w.heap.size → w'.heap[k]? = w.heap[k]?
theorem Above.refl (lo : Nat) (w : World) : Above lo w w := fun _ _ _ => rfl
theorem Above.setCell {lo : Nat} {w w' : World} (h : Above lo w w') {p : Addr} (hp : p.block < lo) (v : Value) : Above lo w (w'.setCell p v) := fun k hk hs => by
 rw [Below.heap_setCell _ _ _ _ (by omega)]; exact h k hk hs
theorem Above.cell {lo : Nat} {w w' : World} (h : Above lo w w') {b off : Nat} {v : Value} (hb : lo ≤ b) (hc : w.cell? ⟨b, off, none⟩ = some v) : w'.cell? ⟨b, off, none⟩ = some v := by
 rw [World.cell?_of_block (w := w) (h b hb (World.block_lt_of_cell? w _ hc))]; exact hc
theorem StrsAt.above {w w' : World} {lo : Nat} {a : Option Addr} {ss : List ByteArray} (h : StrsAt w lo a ss) (hb : Above lo w w') : StrsAt w' lo a ss := by
 intro i hi
 obtain ⟨b, off, h1, h2, h3⟩ := h i hi
 exact ⟨b, off, h1, h2, hb.cell h2 h3⟩
theorem CodeAt.above {w w' : World} {lo : Nat} {a : Option Addr} {xs : List (Int × Int)} (h : CodeAt w lo a xs) (hb : Above lo w w') : CodeAt w' lo a xs := by
 intro i hi
 obtain ⟨b, off, h1, h2, h3, h4⟩ := h i hi
 exact ⟨b, off, h1, h2, hb.cell h2 h3, hb.cell h2 h4⟩
theorem FnsAt.above {w w' : World} {lo : Nat} {a : Option Addr} {fs : List Fn} (h : FnsAt w lo a fs) (hb : Above lo w w') : FnsAt w' lo a fs := by
 intro i hi
 obtain ⟨b, off, ca, cc, h1, h2, h3, h4, h5, h6⟩ := h i hi
 exact ⟨b, off, ca, cc, h1, h2, hb.cell h2 h3, hb.cell h2 h4, hb.cell h2 h5, h6.above hb⟩
theorem StrsAt.low {w : World} {lo lo' : Nat} {a : Option Addr} {ss : List ByteArray} (h : StrsAt w lo a ss) (hl : lo' ≤ lo) : StrsAt w lo' a ss := fun i hi => by
 obtain ⟨b, off, h1, h2, h3⟩ := h i hi
 exact ⟨b, off, h1, by omega, h3⟩
theorem CodeAt.low {w : World} {lo lo' : Nat} {a : Option Addr} {xs : List (Int × Int)} (h : CodeAt w lo a xs) (hl : lo' ≤ lo) : CodeAt w lo' a xs := fun i hi => by
 obtain ⟨b, off, h1, h2, h3, h4⟩ := h i hi
 exact ⟨b, off, h1, by omega, h3, h4⟩
theorem FnsAt.low {w : World} {lo lo' : Nat} {a : Option Addr} {fs : List Fn} (h : FnsAt w lo a fs) (hl : lo' ≤ lo) : FnsAt w lo' a fs := fun i hi => by
 obtain ⟨b, off, ca, cc, h1, h2, h3, h4, h5, h6⟩ := h i hi
 exact ⟨b, off, ca, cc, h1, by omega, h3, h4, h5, h6.low hl⟩
structure Small (ts : List ByteArray) (fs : List Fn) : Prop where
 texts : ts.length ≤ 1048576
 text : ∀ s ∈ ts, s.size ≤ 1048576
 funcs : fs.length ≤ 1048576
 code : ∀ f ∈ fs, f.code.length ≤ 1048576
theorem ckb {w w' : World} {b i : Nat} {c : Array Value} {t : TypeId} {f : Nat × Nat} {v : Value} (h : w.heap[b]? = some (.cells c t f)) (hb : Below w.heap.size w w') (hv : c[i]? = some v) : w'.cell? ⟨b, i, none⟩ = some v := by rw [block_cell (block_kept h hb)]; exact hv
theorem ckc {w : World} {b i : Nat} {c : Array Value} {t : TypeId} {f : Nat × Nat} {v : Value} (h : w.heap[b]? = some (.cells c t f)) (hv : c[i]? = some v) : w.cell? ⟨b, i, none⟩ = some v := by rw [block_cell h]; exact hv
def bw (s : Nat × Nat) (k : Nat) : Nat × Nat := if k < 64 then (s.1 ||| 2 ^ k, s.2) else (s.1, s.2 ||| 2 ^ (k - 64))
def bhas (s : Nat × Nat) (k : Nat) : Bool := if k < 64 then s.1.testBit k else s.2.testBit (k - 64)
def bok (s : Nat × Nat) : Prop := s.1 < 2 ^ 64 ∧ s.2 < 2 ^ 64
def bv (s : Nat × Nat) : Value := .agg #[.int .u64 (s.1 : Int), .int .u64 (s.2 : Int)]
theorem bw_ok {s : Nat × Nat} {k : Nat} (h : bok s) (hk : k < 128) : bok (bw s k) := by
 unfold bw
 split
 · exact ⟨Nat.or_lt_two_pow h.1 (Nat.pow_lt_pow_right (by decide) (by omega)), h.2⟩
 · exact ⟨h.1, Nat.or_lt_two_pow h.2 (Nat.pow_lt_pow_right (by decide) (by omega))⟩
theorem bhas_bw {s : Nat × Nat} {k j : Nat} (_ : k < 128) (_ : j < 128) : bhas (bw s k) j = (bhas s j || decide (k = j)) := by
 unfold bw bhas
 by_cases h : k < 64
 ·
  rw [if_pos h]
  by_cases h2 : j < 64
  · simp only [if_pos h2, Nat.testBit_or, Nat.testBit_two_pow]
  ·
   simp only [if_neg h2]
   rw [decide_eq_false (by omega), Bool.or_false]
 ·
  rw [if_neg h]
  by_cases h2 : j < 64
  ·
   simp only [if_pos h2]
   rw [decide_eq_false (by omega), Bool.or_false]
  ·
   simp only [if_neg h2, Nat.testBit_or, Nat.testBit_two_pow]
   congr 1
   apply decide_eq_decide.2
   omega
theorem bhas_zero (j : Nat) : bhas (0, 0) j = false := by simp [bhas]
theorem wrap_word {a : Nat} (h : a < 2 ^ 64) : IntKind.u64.wrap (a : Int) = (a : Int) := by
 rw [IntKind.wrap_u64]
 have h' : a < 18446744073709551616 := h
 omega
theorem wrap_pow {k : Nat} (h : k < 64) : IntKind.u64.wrap (2 ^ k) = ((2 ^ k : Nat) : Int) := by
 have := wrap_word (a := 2 ^ k) (Nat.pow_lt_pow_right (by decide) h)
 push_cast at this ⊢
 exact this
theorem bits_or {a b : Nat} (ha : a < 2 ^ 64) (hb : b < 2 ^ 64) : bits .or .u64 (a : Int) (b : Int) = ((a ||| b : Nat) : Int) := by
 have hlt := Nat.or_lt_two_pow ha hb
 simp only [bits]
 show IntKind.u64.wrap (((BitVec.ofInt 64 (a : Int)) ||| (BitVec.ofInt 64 (b : Int))).toNat : Int) = _
 rw [BitVec.ofInt_natCast, BitVec.ofInt_natCast, BitVec.toNat_or, BitVec.toNat_ofNat, BitVec.toNat_ofNat, Nat.mod_eq_of_lt ha, Nat.mod_eq_of_lt hb]
 exact wrap_word hlt
theorem bw_lo {x y k : Nat} (h : k < 64) : bw (x, y) k = (x ||| 2 ^ k, y) := if_pos h
theorem bw_hi {x y k : Nat} (h : ¬ k < 64) : bw (x, y) k = (x, y ||| 2 ^ (k - 64)) := if_neg h
set_option maxHeartbeats 1000000 in
theorem with_any (s : Nat × Nat) (k : Nat) (w : World) (hs : bok s) (hk : k < 128) :
  Calls Tryz.prog 117 #[bv s, .int .i64 (k : Int)] w fun e w' => e = .returned (bv (bw s k)) ∧ Below w.heap.size w w' := by
 obtain ⟨x, y⟩ := s
 by_cases h : k < 64
 ·
  have HO : Hid (bits .or .u64 (x : Int) (IntKind.u64.wrap (2 ^ k)) = ((x ||| 2 ^ k : Nat) : Int)) := by
   show _ = _
   rw [wrap_pow h]; exact bits_or hs.1 (Nat.pow_lt_pow_right (by decide) h)
  rw [bw_lo h]
  unfold bv
  dsimp only
  have h1 : (k : Int) / 64 = 0 := by omega
  have h2 : k / 64 = 0 := by omega
  have h3 : (k : Int) % 64 = k := by omega
  have h4 : k % 64 = k := by omega
  go_enter Tryz.func117, Tryz.ntmps117
  go_wp2
  go_region
  go_wp2
  rw [HO.out]
  refine bodyPost_ret (v := .agg #[.int .u64 ((x ||| 2 ^ k : Nat) : Int), .int .u64 (y : Int)]) (by simp [results, Tryz.results117, go_sem]) rfl ⟨rfl, ?_⟩
  exact (((Below.refl _ _).alloc (Nat.le_refl _) _).alloc (by simp) _).drew
 ·
  have HO : Hid (bits .or .u64 (y : Int) (IntKind.u64.wrap (2 ^ (k - 64))) = ((y ||| 2 ^ (k - 64) : Nat) : Int)) := by
   show _ = _
   rw [wrap_pow (by omega)]; exact bits_or hs.2 (Nat.pow_lt_pow_right (by decide) (by omega))
  rw [bw_hi h]
  unfold bv
  dsimp only
  have h1 : (k : Int) / 64 = 1 := by omega
  have h2 : k / 64 = 1 := by omega
  have h3 : (k : Int) % 64 = (k : Int) - 64 := by omega
  have h4 : k % 64 = k - 64 := by omega
  go_enter Tryz.func117, Tryz.ntmps117
  go_wp2
  go_region
  go_wp2
  rw [HO.out]
  refine bodyPost_ret (v := .agg #[.int .u64 (x : Int), .int .u64 ((y ||| 2 ^ (k - 64) : Nat) : Int)]) (by simp [results, Tryz.results117, go_sem]) rfl ⟨rfl, ?_⟩
  exact (((Below.refl _ _).alloc (Nat.le_refl _) _).alloc (by simp) _).drew
theorem low_form : ∀ (x : Nat), x ≠ 0 → ∃ k m, x = 2 ^ (k + 1) * m + 2 ^ k := by
 intro x
 induction x using Nat.strongRecOn with
 | _ x ih =>
  intro h
  by_cases h2 : x % 2 = 1
  · exact ⟨0, x / 2, by simp; omega⟩
  ·
   obtain ⟨k, m, e⟩ := ih (x / 2) (by omega) (by omega)
   refine ⟨k + 1, m, ?_⟩
   have : x = 2 * (x / 2) := by omega
   rw [this, e, Nat.mul_add, Nat.pow_succ 2 (k + 1), Nat.pow_succ 2 k]
   rw [← Nat.mul_assoc, Nat.mul_comm 2 (2 ^ k * 2), Nat.mul_comm 2 (2 ^ k)]
theorem form_bit (k m j : Nat) : (2 ^ (k + 1) * m + 2 ^ k).testBit j = if j < k + 1 then decide (k = j) else m.testBit (j - (k + 1)) := by
 rw [Nat.testBit_two_pow_mul_add m (Nat.pow_lt_pow_right (by decide) (by omega)) j, Nat.testBit_two_pow]
theorem form_less (k m : Nat) : 2 ^ (k + 1) * m + 2 ^ k - 1 = 2 ^ (k + 1) * m + (2 ^ k - 1) := by
 have := Nat.two_pow_pos k
 omega
theorem form_bit1 (k m j : Nat) : (2 ^ (k + 1) * m + 2 ^ k - 1).testBit j = if j < k + 1 then decide (j < k) else m.testBit (j - (k + 1)) := by
 rw [form_less, Nat.testBit_two_pow_mul_add m (Nat.lt_of_le_of_lt (Nat.sub_le _ _) (Nat.pow_lt_pow_right (by decide) (by omega))) j, Nat.testBit_two_pow_sub_one]
theorem clear_low (k m j : Nat) : ((2 ^ (k + 1) * m + 2 ^ k) &&& (2 ^ (k + 1) * m + 2 ^ k - 1)).testBit j = (decide (k < j) && (2 ^ (k + 1) * m + 2 ^ k).testBit j) := by
 rw [Nat.testBit_and, form_bit, form_bit1]
 by_cases h : j < k + 1
 ·
  rw [if_pos h, if_pos h]
  by_cases e : k = j
  · subst e; simp
  · rw [decide_eq_false e]; simp
 ·
  rw [if_neg h, if_neg h, decide_eq_true (show k < j by omega)]
  simp
theorem keep_low {k m : Nat} (h : 2 ^ (k + 1) * m + 2 ^ k < 2 ^ 64) : (2 ^ (k + 1) * m + 2 ^ k) &&& (2 ^ 64 - (2 ^ (k + 1) * m + 2 ^ k)) = 2 ^ k := by
 have hp := Nat.two_pow_pos k
 have hk : k < 64 := by
  by_cases hk : k < 64
  · exact hk
  ·
   have := Nat.pow_le_pow_right (n := 2) (by decide) (show 64 ≤ k by omega)
   omega
 obtain ⟨y, hy⟩ : ∃ y, y = 2 ^ (k + 1) * m + 2 ^ k - 1 := ⟨_, rfl⟩
 have hx : 2 ^ (k + 1) * m + 2 ^ k = y + 1 := by omega
 apply Nat.eq_of_testBit_eq
 intro j
 rw [Nat.testBit_and]
 have e1 : (2 ^ 64 - (2 ^ (k + 1) * m + 2 ^ k)).testBit j = (decide (j < 64) && !y.testBit j) := by
  rw [hx]
  exact Nat.testBit_two_pow_sub_succ (by omega) j
 rw [e1, form_bit, hy, form_bit1, Nat.testBit_two_pow]
 by_cases h : j < k + 1
 ·
  rw [if_pos h, if_pos h, decide_eq_true (show j < 64 by omega)]
  by_cases e : k = j
  · subst e; simp
  · rw [decide_eq_false e]; simp
 ·
  rw [if_neg h, if_neg h, decide_eq_false (show ¬ k = j by omega)]
  cases m.testBit (j - (k + 1)) <;> simp
theorem bits_and {a b : Nat} (ha : a < 2 ^ 64) (hb : b < 2 ^ 64) : bits .and .u64 (a : Int) (b : Int) = ((a &&& b : Nat) : Int) := by
 have hlt : a &&& b < 2 ^ 64 := Nat.lt_of_le_of_lt Nat.and_le_left ha
 simp only [bits]
 show IntKind.u64.wrap (((BitVec.ofInt 64 (a : Int)) &&& (BitVec.ofInt 64 (b : Int))).toNat : Int) = _
 rw [BitVec.ofInt_natCast, BitVec.ofInt_natCast, BitVec.toNat_and, BitVec.toNat_ofNat, BitVec.toNat_ofNat, Nat.mod_eq_of_lt ha, Nat.mod_eq_of_lt hb]
 exact wrap_word hlt
def dbI (k : Nat) : Nat := (2 ^ k * 285870213051353865 % 2 ^ 64) / 2 ^ 58
def dbT : List Nat := [0, 1, 56, 2, 57, 49, 28, 3, 61, 58, 42, 50, 38, 29, 17, 4, 62, 47, 59, 36, 45, 43, 51, 22, 53, 39, 33, 30, 24, 18, 12, 5, 63, 55, 48, 27, 60, 41, 37, 16, 46, 35, 44, 21, 52, 32, 23, 11, 54, 26, 40, 15, 34, 20, 31, 10, 25, 14, 19, 9, 13, 8, 7, 6]
theorem dbT_at : ∀ k, k < 64 → dbT[dbI k]? = some k := by decide +kernel
theorem dbI_lt (k : Nat) : dbI k < 64 := by
 unfold dbI
 have := Nat.mod_lt (2 ^ k * 285870213051353865) (show 0 < 2 ^ 64 by decide)
 omega
def DB (W : World) : Prop := ∀ i, i < 64 → W.cell? ⟨1, i, none⟩ = some (.int .u8 ((dbT[i]?.getD 0 : Nat) : Int))
theorem DB.mono {W W' : World} (h : DB W) (hb : Below W.heap.size W W') : DB W' := fun i hi => cell_later hb (h i hi)
set_option maxHeartbeats 1000000 in
theorem tz_walk (x y z q k : Nat) (W : World) (hx0 : ((x : Int) == 0) = false) (hn : IntKind.u64.wrap (-(x : Int)) = (y : Int)) (ha : bits .and .u64 (x : Int) (y : Int) = (z : Int))
  (hw : IntKind.u64.wrap ((z : Int) * 285870213051353865) / 288230376151711744 = (q : Int)) (hq : q < 64) (c1 : W.cell? ⟨1, q, none⟩ = some (.int .u8 (k : Int))) (hk : k < 64) :
  Calls Tryz.prog 146 #[.int .u64 (x : Int)] W fun e W' => e = .returned (.int .i64 (k : Int)) ∧ W' = W := by
 go_enter Tryz.func146, Tryz.ntmps146
 go_wp2
 go_ret
 exact ⟨rfl, rfl⟩
theorem form_lt {k m : Nat} (h : 2 ^ (k + 1) * m + 2 ^ k < 2 ^ 64) : k < 64 := by
 by_cases hk : k < 64
 · exact hk
 ·
  have := Nat.pow_le_pow_right (n := 2) (by decide) (show 64 ≤ k by omega)
  omega
theorem wrap_neg {x : Nat} (h0 : x ≠ 0) (h : x < 18446744073709551616) : IntKind.u64.wrap (-(x : Int)) = ((18446744073709551616 - x : Nat) : Int) := by
 rw [IntKind.wrap_u64]; omega
theorem wrap_db (z : Nat) : IntKind.u64.wrap ((z : Int) * 285870213051353865) / 288230376151711744 = (((z * 285870213051353865 % 18446744073709551616) / 288230376151711744 : Nat) : Int) := by
 rw [IntKind.wrap_u64]; omega
theorem dbI_eq (k : Nat) : (2 ^ k * 285870213051353865 % 18446744073709551616) / 288230376151711744 = dbI k := rfl
theorem sub_lt {x : Nat} (h0 : x ≠ 0) (h : x < 18446744073709551616) : 18446744073709551616 - x < 18446744073709551616 := by omega
theorem tz_any (x k m : Nat) (W : World) (hx : x = 2 ^ (k + 1) * m + 2 ^ k) (hlt : x < 2 ^ 64) (hD : DB W) :
  Calls Tryz.prog 146 #[.int .u64 (x : Int)] W fun e W' => e = .returned (.int .i64 (k : Int)) ∧ W' = W := by
 have hk : k < 64 := form_lt (m := m) (by rw [← hx]; exact hlt)
 have hx0 : x ≠ 0 := by
  have := Nat.two_pow_pos k
  omega
 have hx1 : ¬ (x : Int) = 0 := by omega
 have hlt' : x < 18446744073709551616 := hlt
 refine tz_walk x (18446744073709551616 - x) (2 ^ k) (dbI k) k W (by simpa using hx1) (wrap_neg hx0 hlt') ?_ (by rw [wrap_db, dbI_eq]) (dbI_lt k) (by rw [hD _ (dbI_lt k), dbT_at k hk]; rfl) hk
 rw [bits_and hlt (sub_lt hx0 hlt')]
 have := keep_low (k := k) (m := m) (by rw [← hx]; exact hlt)
 rw [← hx] at this
 exact congrArg _ this
theorem below_draws {B : Nat} {a w : World} (h : Below B a w) (n : Nat) : Below B a (w.drewN n) := h.trans ⟨rfl, rfl, rfl, Nat.le_refl _, fun _ _ => rfl⟩
set_option maxHeartbeats 400000 in
theorem between_any (n lo hi : Int) (w : World) :
  Calls Tryz.prog 60 #[.int .i64 n, .int .i64 lo, .int .i64 hi] w fun e w' => e = .returned (.bool (decide (lo ≤ n) && decide (n ≤ hi))) ∧ w' = w := by
 by_cases h1 : lo ≤ n
 ·
  by_cases h2 : n ≤ hi
  all_goals
   go_enter Tryz.func60, Tryz.ntmps60
   go_wp2
   go_ret
   exact ⟨ret_bool (by rw [Bool.eq_iff_iff]; simp; omega), rfl⟩
 ·
  go_enter Tryz.func60, Tryz.ntmps60
  go_wp2
  go_ret
  exact ⟨ret_bool (by rw [Bool.eq_iff_iff]; simp; omega), rfl⟩
set_option maxHeartbeats 400000 in
theorem szInsS_any (a : Option Addr) (n cap : Nat) (left : Int) (w : World) (h0 : 0 ≤ left) (h1 : left ≤ 1048576) (hn : n ≤ maxLen) :
  Calls Tryz.prog 55 #[.slice a n cap, .int .i64 left] w fun e w' => e = .returned (.int .i64 (if left < n then -1 else left - n)) ∧ w' = w := by
 unfold maxLen at hn
 by_cases h : left < n
 all_goals
  go_enter Tryz.func55, Tryz.ntmps55
  go_wp2
  go_ret
  exact ⟨ret_int (by omega), rfl⟩
set_option maxHeartbeats 400000 in
theorem szFunc_any (p l : Int) (a : Option Addr) (n cap : Nat) (left : Int) (w : World) (h0 : 0 ≤ left) (h1 : left ≤ 1048576) (hn : n ≤ maxLen) :
  Calls Tryz.prog 36 #[.agg #[.int .i64 p, .int .i64 l, .slice a n cap], .int .i64 left] w fun e w' => e = .returned (.int .i64 (if left < n then -1 else left - n)) ∧ Below w.heap.size w w' := by
 by_cases h : left < n
 all_goals
  go_enter Tryz.func36, Tryz.ntmps36
  go_wp2_with (go_at_call 55; refine (szInsS_any _ _ _ _ _ h0 h1 hn).mono ?_; rintro e w' ⟨rfl, rfl⟩)
  go_ret
  exact ⟨ret_int (by omega), (Below.refl _ _).alloc (Nat.le_refl _) _⟩
theorem take_succ_mem {α : Type} {l : List α} {k : Nat} (h : k < l.length) {p : α → Prop} (h1 : ∀ x ∈ l.take k, p x) (h2 : p l[k]) : ∀ x ∈ l.take (k + 1), p x := by
 intro x hx
 rw [List.take_succ_eq_append_getElem h] at hx
 rcases List.mem_append.1 hx with hx | hx
 · exact h1 x hx
 · rw [List.mem_singleton.1 hx]; exact h2
set_option maxHeartbeats 400000 in
theorem szFuncS_any (a : Option Addr) (fs : List Fn) (cap : Nat) (left : Int) (w : World) (h0 : 0 ≤ left) (h1 : left ≤ 1048576) (hn : fs.length ≤ maxLen) (hc : ∀ f ∈ fs, f.code.length ≤ maxLen) (hm : FnsAt w 0 a fs) :
  Calls Tryz.prog 18 #[.slice a fs.length cap, .int .i64 left] w fun e w' => ∃ r : Int, e = .returned (.int .i64 r) ∧ r ≤ left ∧ (0 ≤ r → fs.length ≤ 1048576 ∧ ∀ f ∈ fs, f.code.length ≤ 1048576) ∧ Below w.heap.size w w' := by
 unfold maxLen at hn
 by_cases h : left < fs.length
 ·
  go_enter Tryz.func18, Tryz.ntmps18
  go_wp2
  go_ret
  exact ⟨-1, rfl, by omega, by omega, Below.refl _ _⟩
 ·
  go_enter Tryz.func18, Tryz.ntmps18
  go_wp2
  go_loopw [1, 5] (fun l i wr => ∃ (k : Nat) (q : Int), k ≤ fs.length ∧ i = .int .i64 k ∧ l = .int .i64 q ∧ 0 ≤ q ∧ q ≤ left - fs.length ∧ (∀ f ∈ fs.take k, f.code.length ≤ 1048576) ∧ Below w.heap.size w wr) (fun _ i _ => fs.length - (intOf i).toNat)
  case atStart => exact ⟨0, _, by omega, rfl, rfl, by omega, by omega, by simp, Below.refl _ _⟩
  case round =>
   obtain ⟨k, q, hk, rfl, rfl, hq0, hq1, hall, hb⟩ := hrel
   by_cases hlt : k < fs.length
   ·
    obtain ⟨b, off, ca, cc, rfl, -, c1, c2, c3, -⟩ := hm k hlt
    have c1' := cell_later hb c1
    have c2' := cell_later hb c2
    have c3' := cell_later hb c3
    clear c1 c2 c3
    have hck := hc fs[k] (List.getElem_mem hlt)
    by_cases hs : q < fs[k].code.length
    ·
     go_wp2_with (go_at_call 36; refine (szFunc_any _ _ _ _ _ _ _ hq0 (by omega) hck).mono ?_; rintro e w' ⟨rfl, hb'⟩)
     go_ret
     exact ⟨_, rfl, by omega, by omega, hb.trans (hb'.mono hb.size)⟩
    ·
     go_wp2_with (go_at_call 36; refine (szFunc_any _ _ _ _ _ _ _ hq0 (by omega) hck).mono ?_; rintro e w' ⟨rfl, hb'⟩)
     go_roundw
     case rel => exact ⟨k + 1, q - fs[k].code.length, by omega, by go_num, by rw [if_neg (by omega)], by omega, by omega, take_succ_mem hlt hall (by omega), hb.trans (hb'.mono hb.size)⟩
     case measure => simp [intOf]; omega
   ·
    go_wp2
    go_ret
    exact ⟨q, rfl, by omega, fun _ => ⟨by omega, by rwa [List.take_of_length_le (by omega)] at hall⟩, hb⟩
set_option maxHeartbeats 400000 in
theorem szStringS_any (a : Option Addr) (ss : List ByteArray) (cap : Nat) (left : Int) (w : World) (h0 : 0 ≤ left) (h1 : left ≤ 1048576) (hn : ss.length ≤ maxLen) (hc : ∀ s ∈ ss, s.size ≤ maxLen) (hm : StrsAt w 0 a ss) :
  Calls Tryz.prog 17 #[.slice a ss.length cap, .int .i64 left] w fun e w' => ∃ r : Int, e = .returned (.int .i64 r) ∧ r ≤ left ∧ (0 ≤ r → ss.length ≤ 1048576 ∧ ∀ s ∈ ss, s.size ≤ 1048576) ∧ Below w.heap.size w w' := by
 unfold maxLen at hn
 by_cases h : left < ss.length
 ·
  go_enter Tryz.func17, Tryz.ntmps17
  go_wp2
  go_ret
  exact ⟨-1, rfl, by omega, by omega, Below.refl _ _⟩
 ·
  go_enter Tryz.func17, Tryz.ntmps17
  go_wp2
  go_loopw [1, 5] (fun l i wr => ∃ (k : Nat) (q : Int), k ≤ ss.length ∧ i = .int .i64 k ∧ l = .int .i64 q ∧ 0 ≤ q ∧ q ≤ left - ss.length ∧ (∀ s ∈ ss.take k, s.size ≤ 1048576) ∧ Below w.heap.size w wr) (fun _ i _ => ss.length - (intOf i).toNat)
  case atStart => exact ⟨0, _, by omega, rfl, rfl, by omega, by omega, by simp, Below.refl _ _⟩
  case round =>
   obtain ⟨k, q, hk, rfl, rfl, hq0, hq1, hall, hb⟩ := hrel
   by_cases hlt : k < ss.length
   ·
    obtain ⟨b, off, rfl, -, c1⟩ := hm k hlt
    have c1' := cell_later hb c1
    clear c1
    have hck := hc ss[k] (List.getElem_mem hlt)
    unfold maxLen at hck
    by_cases hs : q < ss[k].size
    ·
     go_wp2
     go_ret
     exact ⟨_, rfl, by omega, by omega, hb⟩
    ·
     go_wp2
     go_roundw
     case rel => exact ⟨k + 1, q - ss[k].size, by omega, by go_num, rfl, by omega, by omega, take_succ_mem hlt hall (by omega), hb⟩
     case measure => simp [intOf]; omega
   ·
    go_wp2
    go_ret
    exact ⟨q, rfl, by omega, fun _ => ⟨by omega, by rwa [List.take_of_length_le (by omega)] at hall⟩, hb⟩
structure Vl where
 k : Int
 n : Int
 s : ByteArray
structure Fr where
 fn : Int
 pc : Int
 locals : List Vl
 stack : List Vl
structure VmD where
 frames : List Fr
 heap : List (List Vl)
 made : Int
 out : List ByteArray
 status : Int
 trap : Int
 value : Vl
 steps : Int
def ValsAt (w : World) (lo : Nat) (a : Option Addr) (vs : List Vl) : Prop :=
 ∀ i (h : i < vs.length), ∃ b off, a = some ⟨b, off, none⟩ ∧ lo ≤ b ∧ w.cell? ⟨b, off + i * 3, none⟩ = some (.int .i64 vs[i].k) ∧ w.cell? ⟨b, off + i * 3 + 1, none⟩ = some (.int .i64 vs[i].n) ∧ w.cell? ⟨b, off + i * 3 + 2, none⟩ = some (.string vs[i].s)
def FrsAt (w : World) (lo : Nat) (a : Option Addr) (fr : List Fr) : Prop :=
 ∀ i (h : i < fr.length), ∃ b off la lc sa sc, a = some ⟨b, off, none⟩ ∧ lo ≤ b ∧ w.cell? ⟨b, off + i * 4, none⟩ = some (.int .i64 fr[i].fn) ∧ w.cell? ⟨b, off + i * 4 + 1, none⟩ = some (.int .i64 fr[i].pc) ∧
  w.cell? ⟨b, off + i * 4 + 2, none⟩ = some (.slice la fr[i].locals.length lc) ∧ w.cell? ⟨b, off + i * 4 + 3, none⟩ = some (.slice sa fr[i].stack.length sc) ∧ ValsAt w lo la fr[i].locals ∧ ValsAt w lo sa fr[i].stack
def RecsAt (w : World) (lo : Nat) (a : Option Addr) (rs : List (List Vl)) : Prop :=
 ∀ i (h : i < rs.length), ∃ b off fa fc, a = some ⟨b, off, none⟩ ∧ lo ≤ b ∧ w.cell? ⟨b, off + i, none⟩ = some (.slice fa rs[i].length fc) ∧ ValsAt w lo fa rs[i]
theorem ValsAt.mono {w w' : World} {lo : Nat} {a : Option Addr} {vs : List Vl} (h : ValsAt w lo a vs) (hb : Below w.heap.size w w') : ValsAt w' lo a vs := by
 intro i hi
 obtain ⟨b, off, h1, h2, h3, h4, h5⟩ := h i hi
 exact ⟨b, off, h1, h2, cell_later hb h3, cell_later hb h4, cell_later hb h5⟩
theorem FrsAt.mono {w w' : World} {lo : Nat} {a : Option Addr} {fr : List Fr} (h : FrsAt w lo a fr) (hb : Below w.heap.size w w') : FrsAt w' lo a fr := by
 intro i hi
 obtain ⟨b, off, la, lc, sa, sc, h1, h2, h3, h4, h5, h6, h7, h8⟩ := h i hi
 exact ⟨b, off, la, lc, sa, sc, h1, h2, cell_later hb h3, cell_later hb h4, cell_later hb h5, cell_later hb h6, h7.mono hb, h8.mono hb⟩
theorem RecsAt.mono {w w' : World} {lo : Nat} {a : Option Addr} {rs : List (List Vl)} (h : RecsAt w lo a rs) (hb : Below w.heap.size w w') : RecsAt w' lo a rs := by
 intro i hi
 obtain ⟨b, off, fa, fc, h1, h2, h3, h4⟩ := h i hi
 exact ⟨b, off, fa, fc, h1, h2, cell_later hb h3, h4.mono hb⟩
theorem ValsAt.above {w w' : World} {lo : Nat} {a : Option Addr} {vs : List Vl} (h : ValsAt w lo a vs) (hb : Above lo w w') : ValsAt w' lo a vs := by
 intro i hi
 obtain ⟨b, off, h1, h2, h3, h4, h5⟩ := h i hi
 exact ⟨b, off, h1, h2, hb.cell h2 h3, hb.cell h2 h4, hb.cell h2 h5⟩
theorem FrsAt.above {w w' : World} {lo : Nat} {a : Option Addr} {fr : List Fr} (h : FrsAt w lo a fr) (hb : Above lo w w') : FrsAt w' lo a fr := by
 intro i hi
 obtain ⟨b, off, la, lc, sa, sc, h1, h2, h3, h4, h5, h6, h7, h8⟩ := h i hi
 exact ⟨b, off, la, lc, sa, sc, h1, h2, hb.cell h2 h3, hb.cell h2 h4, hb.cell h2 h5, hb.cell h2 h6, h7.above hb, h8.above hb⟩
theorem RecsAt.above {w w' : World} {lo : Nat} {a : Option Addr} {rs : List (List Vl)} (h : RecsAt w lo a rs) (hb : Above lo w w') : RecsAt w' lo a rs := by
 intro i hi
 obtain ⟨b, off, fa, fc, h1, h2, h3, h4⟩ := h i hi
 exact ⟨b, off, fa, fc, h1, h2, hb.cell h2 h3, h4.above hb⟩
theorem ValsAt.low {w : World} {lo lo' : Nat} {a : Option Addr} {vs : List Vl} (h : ValsAt w lo a vs) (hl : lo' ≤ lo) : ValsAt w lo' a vs := fun i hi => by
 obtain ⟨b, off, h1, h2, h3⟩ := h i hi
 exact ⟨b, off, h1, by omega, h3⟩
theorem FrsAt.low {w : World} {lo lo' : Nat} {a : Option Addr} {fr : List Fr} (h : FrsAt w lo a fr) (hl : lo' ≤ lo) : FrsAt w lo' a fr := fun i hi => by
 obtain ⟨b, off, la, lc, sa, sc, h1, h2, h3, h4, h5, h6, h7, h8⟩ := h i hi
 exact ⟨b, off, la, lc, sa, sc, h1, by omega, h3, h4, h5, h6, h7.low hl, h8.low hl⟩
theorem RecsAt.low {w : World} {lo lo' : Nat} {a : Option Addr} {rs : List (List Vl)} (h : RecsAt w lo a rs) (hl : lo' ≤ lo) : RecsAt w lo' a rs := fun i hi => by
 obtain ⟨b, off, fa, fc, h1, h2, h3, h4⟩ := h i hi
 exact ⟨b, off, fa, fc, h1, by omega, h3, h4.low hl⟩
def ValsSmall (vs : List Vl) : Prop := vs.length ≤ 1048576 ∧ ∀ v ∈ vs, v.s.size ≤ 1048576
end Go.Proofs.YthnolafhnplnkaaGreatDoor
