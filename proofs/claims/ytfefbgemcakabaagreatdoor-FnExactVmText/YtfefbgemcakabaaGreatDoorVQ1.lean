/-
  Plain predicates that say which cells of memory hold a list of texts, of instructions, of functions; they stay true where nothing that was there is written.
  What the size functions of the laws (sz..) and spec.l01Between return, for every argument within the stated sizes.
-/
import Derived.WalkKit
import Derived.WalkSpells
import Derived.Test.YtfefbgemcakabaaGreatDoorProg
import Derived.WalkLawsBesides
import Derived.Deep.QuietTactic
import Derived.BigQuiet
import Derived.Deep.RegionWith
namespace Go.Proofs.YtfefbgemcakabaaGreatDoor
open Go.RowKit

/-- A function of a module as plain data. -/
structure Fn where
  params : Int
  locals : Int
  code : List (Int × Int)

theorem ret_int {k : IntKind} {a b : Int} (h : a = b) : Ending.returned (.int k a) = .returned (.int k b) := by rw [h]
theorem ret_bool {a b : Bool} (h : a = b) : Ending.returned (.bool a) = .returned (.bool b) := by rw [h]

theorem cell_new (w : World) (C : Array Value) (t : TypeId) (j : Nat) : (w.alloc (.cells C t)).cell? ⟨w.heap.size, j, none⟩ = C[j]? := World.cell?_alloc_mark w C t (0, 0) j

/-- The cells of a list of strings, in blocks from 'lo' on. -/
def StrsAt (w : World) (lo : Nat) (a : Option Addr) (ss : List ByteArray) : Prop :=
  ∀ i (h : i < ss.length), ∃ b off, a = some ⟨b, off, none⟩ ∧ lo ≤ b ∧ w.cell? ⟨b, off + i, none⟩ = some (.string ss[i])

/-- The cells of a list of instructions. -/
def CodeAt (w : World) (lo : Nat) (a : Option Addr) (xs : List (Int × Int)) : Prop :=
  ∀ i (h : i < xs.length), ∃ b off, a = some ⟨b, off, none⟩ ∧ lo ≤ b ∧ w.cell? ⟨b, off + i * 2, none⟩ = some (.int .i64 xs[i].1) ∧ w.cell? ⟨b, off + i * 2 + 1, none⟩ = some (.int .i64 xs[i].2)

/-- The cells of a list of functions. -/
def FnsAt (w : World) (lo : Nat) (a : Option Addr) (fs : List Fn) : Prop :=
  ∀ i (h : i < fs.length), ∃ b off ca cc, a = some ⟨b, off, none⟩ ∧ lo ≤ b ∧ w.cell? ⟨b, off + i * 3, none⟩ = some (.int .i64 fs[i].params) ∧
    w.cell? ⟨b, off + i * 3 + 1, none⟩ = some (.int .i64 fs[i].locals) ∧ w.cell? ⟨b, off + i * 3 + 2, none⟩ = some (.slice ca fs[i].code.length cc) ∧ CodeAt w lo ca fs[i].code

theorem StrsAt.mono {w w' : World} {lo : Nat} {a : Option Addr} {ss : List ByteArray} (h : StrsAt w lo a ss) (hb : Below w.heap.size w w') : StrsAt w' lo a ss := by
  intro i hi
  obtain ⟨b, off, h1, h2, h3⟩ := h i hi
  exact ⟨b, off, h1, h2, cell_later hb h3⟩

theorem CodeAt.mono {w w' : World} {lo : Nat} {a : Option Addr} {xs : List (Int × Int)} (h : CodeAt w lo a xs) (hb : Below w.heap.size w w') : CodeAt w' lo a xs := by
  intro i hi
  obtain ⟨b, off, h1, h2, h3, h4⟩ := h i hi
  exact ⟨b, off, h1, h2, cell_later hb h3, cell_later hb h4⟩

theorem FnsAt.mono {w w' : World} {lo : Nat} {a : Option Addr} {fs : List Fn} (h : FnsAt w lo a fs) (hb : Below w.heap.size w w') : FnsAt w' lo a fs := by
  intro i hi
  obtain ⟨b, off, ca, cc, h1, h2, h3, h4, h5, h6⟩ := h i hi
  exact ⟨b, off, ca, cc, h1, h2, cell_later hb h3, cell_later hb h4, cell_later hb h5, h6.mono hb⟩

/-- The block of a slice that 'make' laid. -/
theorem made_block {w1 : World} {base e size g n : Nat} {xs : List Value} (h : w1.ownsRow base e size (.slice (some ⟨g, 0, none⟩) n n) n xs) : ∃ cur, w1.heap[g]? = some (.cells cur e (0, 0)) ∧ cur.size = n * size := by
  rcases h.2 with ⟨hv, -⟩ | ⟨g', cap, cur, hv, -, hh, -, -, hs, -⟩
  · cases hv
  · cases hv
    exact ⟨cur, hh, hs⟩

theorem block_cell {w : World} {g : Nat} {cs : Array Value} {t : TypeId} {fr : Nat × Nat} (h : w.heap[g]? = some (.cells cs t fr)) (i : Nat) : w.cell? ⟨g, i, none⟩ = cs[i]? := by simp [World.cell?, h]
theorem block_free {w : World} {g : Nat} {cs : Array Value} {t : TypeId} (h : w.heap[g]? = some (.cells cs t (0, 0))) (i : Nat) : w.frozen? ⟨g, i, none⟩ = false := by simp [World.frozen?, h]
theorem block_set {w : World} {g i : Nat} {cs : Array Value} {t : TypeId} {fr : Nat × Nat} (h : w.heap[g]? = some (.cells cs t fr)) (v : Value) : (w.setCell ⟨g, i, none⟩ v).heap[g]? = some (.cells (cs.setIfInBounds i v) t fr) := by
  rw [setCell_eq_setRow w g i cs t fr v h]
  exact setRow_heap w g _ _ t _ h

theorem block_kept {w w' : World} {g : Nat} {o : Obj} (h : w.heap[g]? = some o) (hb : Below w.heap.size w w') : w'.heap[g]? = some o := by
  have hlt : g < w.heap.size := by
    rcases Nat.lt_or_ge g w.heap.size with h' | h'
    · exact h'
    · rw [Array.getElem?_eq_none h'] at h; cases h
  rw [hb.block g hlt, h]

theorem set_self {cur : Array Value} {k : Nat} (v : Value) (h : k < cur.size) : (cur.setIfInBounds k v)[k]? = some v := by simp [h]
theorem set_else {cur : Array Value} {k j : Nat} (v : Value) (h : j ≠ k) : (cur.setIfInBounds k v)[j]? = cur[j]? := Array.getElem?_setIfInBounds_ne (fun x => h x.symm)

theorem block_new (w : World) (C : Array Value) (t : TypeId) : (w.alloc (.cells C t)).heap[w.heap.size]? = some (.cells C t (0, 0)) := by
  show (w.heap.push _)[w.heap.size]? = _
  simp
theorem block_old {w : World} {g : Nat} {o : Obj} (h : w.heap[g]? = some o) (x : Obj) : (w.alloc x).heap[g]? = some o := block_kept h ((Below.refl _ _).alloc (Nat.le_refl _) x)

/-- From block 'lo' on the two worlds are one. -/
def Above (lo : Nat) (w w' : World) : Prop := ∀ k, lo ≤ k → k < w.heap.size → w'.heap[k]? = w.heap[k]?
theorem Above.refl (lo : Nat) (w : World) : Above lo w w := fun _ _ _ => rfl
theorem Above.setCell {lo : Nat} {w w' : World} (h : Above lo w w') {p : Addr} (hp : p.block < lo) (v : Value) : Above lo w (w'.setCell p v) := fun k hk hs => by
  rw [Below.heap_setCell _ _ _ _ (by omega)]; exact h k hk hs
theorem Above.cell {lo : Nat} {w w' : World} (h : Above lo w w') {b off : Nat} {v : Value} (hb : lo ≤ b) (hc : w.cell? ⟨b, off, none⟩ = some v) : w'.cell? ⟨b, off, none⟩ = some v := by
  rw [World.cell?_of_block (w := w) (h b hb (World.block_lt_of_cell? w _ hc))]; exact hc
theorem StrsAt.above {w w' : World} {lo : Nat} {a : Option Addr} {ss : List ByteArray} (h : StrsAt w lo a ss) (hb : Above lo w w') : StrsAt w' lo a ss := by
  intro i hi
  obtain ⟨b, off, h1, h2, h3⟩ := h i hi
  exact ⟨b, off, h1, h2, hb.cell h2 h3⟩
theorem CodeAt.above {w w' : World} {lo : Nat} {a : Option Addr} {xs : List (Int × Int)} (h : CodeAt w lo a xs) (hb : Above lo w w') : CodeAt w' lo a xs := by
  intro i hi
  obtain ⟨b, off, h1, h2, h3, h4⟩ := h i hi
  exact ⟨b, off, h1, h2, hb.cell h2 h3, hb.cell h2 h4⟩
theorem FnsAt.above {w w' : World} {lo : Nat} {a : Option Addr} {fs : List Fn} (h : FnsAt w lo a fs) (hb : Above lo w w') : FnsAt w' lo a fs := by
  intro i hi
  obtain ⟨b, off, ca, cc, h1, h2, h3, h4, h5, h6⟩ := h i hi
  exact ⟨b, off, ca, cc, h1, h2, hb.cell h2 h3, hb.cell h2 h4, hb.cell h2 h5, h6.above hb⟩
theorem StrsAt.low {w : World} {lo lo' : Nat} {a : Option Addr} {ss : List ByteArray} (h : StrsAt w lo a ss) (hl : lo' ≤ lo) : StrsAt w lo' a ss := fun i hi => by
  obtain ⟨b, off, h1, h2, h3⟩ := h i hi
  exact ⟨b, off, h1, by omega, h3⟩
theorem CodeAt.low {w : World} {lo lo' : Nat} {a : Option Addr} {xs : List (Int × Int)} (h : CodeAt w lo a xs) (hl : lo' ≤ lo) : CodeAt w lo' a xs := fun i hi => by
  obtain ⟨b, off, h1, h2, h3, h4⟩ := h i hi
  exact ⟨b, off, h1, by omega, h3, h4⟩
theorem FnsAt.low {w : World} {lo lo' : Nat} {a : Option Addr} {fs : List Fn} (h : FnsAt w lo a fs) (hl : lo' ≤ lo) : FnsAt w lo' a fs := fun i hi => by
  obtain ⟨b, off, ca, cc, h1, h2, h3, h4, h5, h6⟩ := h i hi
  exact ⟨b, off, ca, cc, h1, by omega, h3, h4, h5, h6.low hl⟩

/-- What the guard of a law leaves: nothing is longer than 1048576. -/
structure Small (ts : List ByteArray) (fs : List Fn) : Prop where
  texts : ts.length ≤ 1048576
  text : ∀ s ∈ ts, s.size ≤ 1048576
  funcs : fs.length ≤ 1048576
  code : ∀ f ∈ fs, f.code.length ≤ 1048576
end Go.Proofs.YtfefbgemcakabaaGreatDoor

namespace Go.Proofs.YtfefbgemcakabaaGreatDoor
open Go.RowKit

theorem below_draws {B : Nat} {a w : World} (h : Below B a w) (n : Nat) : Below B a (w.drewN n) := h.trans ⟨rfl, rfl, rfl, Nat.le_refl _, fun _ _ => rfl⟩

set_option maxHeartbeats 400000 in
theorem between_any (n lo hi : Int) (w : World) :
    Calls Tryz.prog 40 #[.int .i64 n, .int .i64 lo, .int .i64 hi] w fun e w' => e = .returned (.bool (decide (lo ≤ n) && decide (n ≤ hi))) ∧ w' = w := by
  by_cases h1 : lo ≤ n
  · by_cases h2 : n ≤ hi
    all_goals
      go_enter Tryz.func40, Tryz.ntmps40
      go_wp2
      go_ret
      exact ⟨ret_bool (by rw [Bool.eq_iff_iff]; simp; omega), rfl⟩
  · go_enter Tryz.func40, Tryz.ntmps40
    go_wp2
    go_ret
    exact ⟨ret_bool (by rw [Bool.eq_iff_iff]; simp; omega), rfl⟩

set_option maxHeartbeats 400000 in
theorem szInsS_any (a : Option Addr) (n cap : Nat) (left : Int) (w : World) (h0 : 0 ≤ left) (h1 : left ≤ 1048576) (hn : n ≤ maxLen) :
    Calls Tryz.prog 59 #[.slice a n cap, .int .i64 left] w fun e w' => e = .returned (.int .i64 (if left < n then -1 else left - n)) ∧ w' = w := by
  unfold maxLen at hn
  by_cases h : left < n
  all_goals
    go_enter Tryz.func59, Tryz.ntmps59
    go_wp2
    go_ret
    exact ⟨ret_int (by omega), rfl⟩

set_option maxHeartbeats 400000 in
theorem szFunc_any (p l : Int) (a : Option Addr) (n cap : Nat) (left : Int) (w : World) (h0 : 0 ≤ left) (h1 : left ≤ 1048576) (hn : n ≤ maxLen) :
    Calls Tryz.prog 35 #[.agg #[.int .i64 p, .int .i64 l, .slice a n cap], .int .i64 left] w fun e w' => e = .returned (.int .i64 (if left < n then -1 else left - n)) ∧ Below w.heap.size w w' := by
  by_cases h : left < n
  all_goals
    go_enter Tryz.func35, Tryz.ntmps35
    go_wp2_with (go_at_call 59; refine (szInsS_any _ _ _ _ _ h0 h1 hn).mono ?_; rintro e w' ⟨rfl, rfl⟩)
    go_ret
    exact ⟨ret_int (by omega), (Below.refl _ _).alloc (Nat.le_refl _) _⟩

theorem take_succ_mem {α : Type} {l : List α} {k : Nat} (h : k < l.length) {p : α → Prop} (h1 : ∀ x ∈ l.take k, p x) (h2 : p l[k]) : ∀ x ∈ l.take (k + 1), p x := by
  intro x hx
  rw [List.take_succ_eq_append_getElem h] at hx
  rcases List.mem_append.1 hx with hx | hx
  · exact h1 x hx
  · rw [List.mem_singleton.1 hx]; exact h2

set_option maxHeartbeats 400000 in
theorem szFuncS_any (a : Option Addr) (fs : List Fn) (cap : Nat) (left : Int) (w : World) (h0 : 0 ≤ left) (h1 : left ≤ 1048576) (hn : fs.length ≤ maxLen) (hc : ∀ f ∈ fs, f.code.length ≤ maxLen) (hm : FnsAt w 0 a fs) :
    Calls Tryz.prog 13 #[.slice a fs.length cap, .int .i64 left] w fun e w' => ∃ r : Int, e = .returned (.int .i64 r) ∧ r ≤ left ∧ (0 ≤ r → fs.length ≤ 1048576 ∧ ∀ f ∈ fs, f.code.length ≤ 1048576) ∧ Below w.heap.size w w' := by
  unfold maxLen at hn
  by_cases h : left < fs.length
  · go_enter Tryz.func13, Tryz.ntmps13
    go_wp2
    go_ret
    exact ⟨-1, rfl, by omega, by omega, Below.refl _ _⟩
  · go_enter Tryz.func13, Tryz.ntmps13
    go_wp2
    go_loopw [1, 5] (fun l i wr => ∃ (k : Nat) (q : Int), k ≤ fs.length ∧ i = .int .i64 k ∧ l = .int .i64 q ∧ 0 ≤ q ∧ q ≤ left - fs.length ∧ (∀ f ∈ fs.take k, f.code.length ≤ 1048576) ∧ Below w.heap.size w wr) (fun _ i _ => fs.length - (intOf i).toNat)
    case atStart => exact ⟨0, _, by omega, rfl, rfl, by omega, by omega, by simp, Below.refl _ _⟩
    case round =>
      obtain ⟨k, q, hk, rfl, rfl, hq0, hq1, hall, hb⟩ := hrel
      by_cases hlt : k < fs.length
      · obtain ⟨b, off, ca, cc, rfl, -, c1, c2, c3, -⟩ := hm k hlt
        have c1' := cell_later hb c1
        have c2' := cell_later hb c2
        have c3' := cell_later hb c3
        clear c1 c2 c3
        have hck := hc fs[k] (List.getElem_mem hlt)
        by_cases hs : q < fs[k].code.length
        · go_wp2_with (go_at_call 35; refine (szFunc_any _ _ _ _ _ _ _ hq0 (by omega) hck).mono ?_; rintro e w' ⟨rfl, hb'⟩)
          go_ret
          exact ⟨_, rfl, by omega, by omega, hb.trans (hb'.mono hb.size)⟩
        · go_wp2_with (go_at_call 35; refine (szFunc_any _ _ _ _ _ _ _ hq0 (by omega) hck).mono ?_; rintro e w' ⟨rfl, hb'⟩)
          go_roundw
          case rel => exact ⟨k + 1, q - fs[k].code.length, by omega, by go_num, by rw [if_neg (by omega)], by omega, by omega, take_succ_mem hlt hall (by omega), hb.trans (hb'.mono hb.size)⟩
          case measure => simp [intOf]; omega
      · go_wp2
        go_ret
        exact ⟨q, rfl, by omega, fun _ => ⟨by omega, by rwa [List.take_of_length_le (by omega)] at hall⟩, hb⟩

set_option maxHeartbeats 400000 in
theorem szStringS_any (a : Option Addr) (ss : List ByteArray) (cap : Nat) (left : Int) (w : World) (h0 : 0 ≤ left) (h1 : left ≤ 1048576) (hn : ss.length ≤ maxLen) (hc : ∀ s ∈ ss, s.size ≤ maxLen) (hm : StrsAt w 0 a ss) :
    Calls Tryz.prog 12 #[.slice a ss.length cap, .int .i64 left] w fun e w' => ∃ r : Int, e = .returned (.int .i64 r) ∧ r ≤ left ∧ (0 ≤ r → ss.length ≤ 1048576 ∧ ∀ s ∈ ss, s.size ≤ 1048576) ∧ Below w.heap.size w w' := by
  unfold maxLen at hn
  by_cases h : left < ss.length
  · go_enter Tryz.func12, Tryz.ntmps12
    go_wp2
    go_ret
    exact ⟨-1, rfl, by omega, by omega, Below.refl _ _⟩
  · go_enter Tryz.func12, Tryz.ntmps12
    go_wp2
    go_loopw [1, 5] (fun l i wr => ∃ (k : Nat) (q : Int), k ≤ ss.length ∧ i = .int .i64 k ∧ l = .int .i64 q ∧ 0 ≤ q ∧ q ≤ left - ss.length ∧ (∀ s ∈ ss.take k, s.size ≤ 1048576) ∧ Below w.heap.size w wr) (fun _ i _ => ss.length - (intOf i).toNat)
    case atStart => exact ⟨0, _, by omega, rfl, rfl, by omega, by omega, by simp, Below.refl _ _⟩
    case round =>
      obtain ⟨k, q, hk, rfl, rfl, hq0, hq1, hall, hb⟩ := hrel
      by_cases hlt : k < ss.length
      · obtain ⟨b, off, rfl, -, c1⟩ := hm k hlt
        have c1' := cell_later hb c1
        clear c1
        have hck := hc ss[k] (List.getElem_mem hlt)
        unfold maxLen at hck
        by_cases hs : q < ss[k].size
        · go_wp2
          go_ret
          exact ⟨_, rfl, by omega, by omega, hb⟩
        · go_wp2
          go_roundw
          case rel => exact ⟨k + 1, q - ss[k].size, by omega, by go_num, rfl, by omega, by omega, take_succ_mem hlt hall (by omega), hb⟩
          case measure => simp [intOf]; omega
      · go_wp2
        go_ret
        exact ⟨q, rfl, by omega, fun _ => ⟨by omega, by rwa [List.take_of_length_le (by omega)] at hall⟩, hb⟩

set_option maxHeartbeats 400000 in
theorem szModule_any (a a2 : Option Addr) (ts : List ByteArray) (fs : List Fn) (cap cap2 : Nat) (w : World) (hn : ts.length ≤ maxLen) (hc : ∀ s ∈ ts, s.size ≤ maxLen) (hm : StrsAt w 0 a ts)
    (hn2 : fs.length ≤ maxLen) (hc2 : ∀ f ∈ fs, f.code.length ≤ maxLen) (hm2 : FnsAt w 0 a2 fs) :
    Calls Tryz.prog 4 #[.agg #[.slice a ts.length cap, .slice a2 fs.length cap2], .int .i64 1048576] w fun e w' => ∃ r : Int, e = .returned (.int .i64 r) ∧ (0 ≤ r → Small ts fs) ∧ Below w.heap.size w w' := by
  go_enter Tryz.func4, Tryz.ntmps4
  go_wp2_with fail
  refine (szStringS_any a ts cap 1048576 _ (by omega) (by omega) hn hc (hm.mono ((Below.refl _ _).alloc (Nat.le_refl _) _))).mono ?_
  rintro e w1 ⟨r, rfl, hr, hs, hb⟩
  have hb1 : Below w.heap.size w w1 := ((Below.refl _ _).alloc (Nat.le_refl _) _).trans (hb.mono (by simp))
  obtain ⟨hx, hf⟩ : w1.cell? ⟨w.heap.size, 0, none⟩ = some (.slice a ts.length cap) ∧ w1.cell? ⟨w.heap.size, 1, none⟩ = some (.slice a2 fs.length cap2) := by
    constructor
    · exact cell_later hb (cell_new _ _ _ 0)
    · exact cell_later hb (cell_new _ _ _ 1)
  by_cases h0 : r < 0
  · go_wp2_with fail
    go_ret
    exact ⟨_, rfl, by omega, hb1⟩
  · go_wp2_with fail
    refine (szFuncS_any a2 fs cap2 r _ (by omega) (by omega) hn2 hc2 (hm2.mono hb1)).mono ?_
    rintro e w2 ⟨r2, rfl, hr2, hs2, hb2⟩
    have hb3 : Below w.heap.size w w2 := hb1.trans (hb2.mono hb1.size)
    by_cases h2 : r2 < 0
    · go_wp2_with fail
      go_ret
      exact ⟨_, rfl, by omega, hb3⟩
    · go_wp2_with fail
      go_ret
      exact ⟨_, rfl, fun _ => ⟨(hs (by omega)).1, (hs (by omega)).2, (hs2 (by omega)).1, (hs2 (by omega)).2⟩, hb3⟩
end Go.Proofs.YtfefbgemcakabaaGreatDoor
