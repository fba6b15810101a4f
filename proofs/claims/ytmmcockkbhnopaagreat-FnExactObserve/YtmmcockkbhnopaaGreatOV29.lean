/-
  States of the machine as plain data, and which cells of memory hold them.
  What the copying functions of the laws (to..) return: a copy in new memory, nothing that was there written.
  A region that draws its order, walked operation by operation: what reads cells that every operation keeps is taken in the order of the text, by hand.
  Nothing of its own: what stood here stands in Mem3.
  The library's sorting of lists of places, laid at this cut.
  What the laws' functions over bytes (eqByteS, markByteS, heldByteS) and markText return.
-/
import Derived.Test.YtmmcockkbhnopaaGreatOV2
import Derived.Test.YtmmcockkbhnopaaGreatOV10
import Derived.Deep.RegionHeld3
import Derived.Test.YtmmcockkbhnopaaGreatOV9
import Derived.Shelf.SlSortCmp.NoneTotal
import Derived.Shelf.SlicesG.Cmp
import Derived.Test.YtmmcockkbhnopaaGreatProg
namespace Go.Proofs.YtmmcockkbhnopaaGreat
open Go.RowKit

/-- A value as plain data: kind, number, text. -/
structure Vl where
  k : Int
  n : Int
  s : ByteArray

structure Fr where
  fn : Int
  pc : Int
  locals : List Vl
  stack : List Vl

structure VmD where
  frames : List Fr
  heap : List (List Vl)
  made : Int
  out : List ByteArray
  status : Int
  trap : Int
  value : Vl
  steps : Int

/-- The cells of a list of values. -/
def ValsAt (w : World) (lo : Nat) (a : Option Addr) (vs : List Vl) : Prop :=
  ∀ i (h : i < vs.length), ∃ b off, a = some ⟨b, off, none⟩ ∧ lo ≤ b ∧ w.cell? ⟨b, off + i * 3, none⟩ = some (.int .i64 vs[i].k) ∧ w.cell? ⟨b, off + i * 3 + 1, none⟩ = some (.int .i64 vs[i].n) ∧ w.cell? ⟨b, off + i * 3 + 2, none⟩ = some (.string vs[i].s)

/-- The cells of a list of frames. -/
def FrsAt (w : World) (lo : Nat) (a : Option Addr) (fr : List Fr) : Prop :=
  ∀ i (h : i < fr.length), ∃ b off la lc sa sc, a = some ⟨b, off, none⟩ ∧ lo ≤ b ∧ w.cell? ⟨b, off + i * 4, none⟩ = some (.int .i64 fr[i].fn) ∧ w.cell? ⟨b, off + i * 4 + 1, none⟩ = some (.int .i64 fr[i].pc) ∧
    w.cell? ⟨b, off + i * 4 + 2, none⟩ = some (.slice la fr[i].locals.length lc) ∧ w.cell? ⟨b, off + i * 4 + 3, none⟩ = some (.slice sa fr[i].stack.length sc) ∧ ValsAt w lo la fr[i].locals ∧ ValsAt w lo sa fr[i].stack

/-- The cells of a list of records. -/
def RecsAt (w : World) (lo : Nat) (a : Option Addr) (rs : List (List Vl)) : Prop :=
  ∀ i (h : i < rs.length), ∃ b off fa fc, a = some ⟨b, off, none⟩ ∧ lo ≤ b ∧ w.cell? ⟨b, off + i, none⟩ = some (.slice fa rs[i].length fc) ∧ ValsAt w lo fa rs[i]

theorem ValsAt.mono {w w' : World} {lo : Nat} {a : Option Addr} {vs : List Vl} (h : ValsAt w lo a vs) (hb : Below w.heap.size w w') : ValsAt w' lo a vs := by
  intro i hi
  obtain ⟨b, off, h1, h2, h3, h4, h5⟩ := h i hi
  exact ⟨b, off, h1, h2, cell_later hb h3, cell_later hb h4, cell_later hb h5⟩
theorem FrsAt.mono {w w' : World} {lo : Nat} {a : Option Addr} {fr : List Fr} (h : FrsAt w lo a fr) (hb : Below w.heap.size w w') : FrsAt w' lo a fr := by
  intro i hi
  obtain ⟨b, off, la, lc, sa, sc, h1, h2, h3, h4, h5, h6, h7, h8⟩ := h i hi
  exact ⟨b, off, la, lc, sa, sc, h1, h2, cell_later hb h3, cell_later hb h4, cell_later hb h5, cell_later hb h6, h7.mono hb, h8.mono hb⟩
theorem RecsAt.mono {w w' : World} {lo : Nat} {a : Option Addr} {rs : List (List Vl)} (h : RecsAt w lo a rs) (hb : Below w.heap.size w w') : RecsAt w' lo a rs := by
  intro i hi
  obtain ⟨b, off, fa, fc, h1, h2, h3, h4⟩ := h i hi
  exact ⟨b, off, fa, fc, h1, h2, cell_later hb h3, h4.mono hb⟩
theorem ValsAt.above {w w' : World} {lo : Nat} {a : Option Addr} {vs : List Vl} (h : ValsAt w lo a vs) (hb : Above lo w w') : ValsAt w' lo a vs := by
  intro i hi
  obtain ⟨b, off, h1, h2, h3, h4, h5⟩ := h i hi
  exact ⟨b, off, h1, h2, hb.cell h2 h3, hb.cell h2 h4, hb.cell h2 h5⟩
theorem FrsAt.above {w w' : World} {lo : Nat} {a : Option Addr} {fr : List Fr} (h : FrsAt w lo a fr) (hb : Above lo w w') : FrsAt w' lo a fr := by
  intro i hi
  obtain ⟨b, off, la, lc, sa, sc, h1, h2, h3, h4, h5, h6, h7, h8⟩ := h i hi
  exact ⟨b, off, la, lc, sa, sc, h1, h2, hb.cell h2 h3, hb.cell h2 h4, hb.cell h2 h5, hb.cell h2 h6, h7.above hb, h8.above hb⟩
theorem RecsAt.above {w w' : World} {lo : Nat} {a : Option Addr} {rs : List (List Vl)} (h : RecsAt w lo a rs) (hb : Above lo w w') : RecsAt w' lo a rs := by
  intro i hi
  obtain ⟨b, off, fa, fc, h1, h2, h3, h4⟩ := h i hi
  exact ⟨b, off, fa, fc, h1, h2, hb.cell h2 h3, h4.above hb⟩
theorem ValsAt.low {w : World} {lo lo' : Nat} {a : Option Addr} {vs : List Vl} (h : ValsAt w lo a vs) (hl : lo' ≤ lo) : ValsAt w lo' a vs := fun i hi => by
  obtain ⟨b, off, h1, h2, h3⟩ := h i hi
  exact ⟨b, off, h1, by omega, h3⟩
theorem FrsAt.low {w : World} {lo lo' : Nat} {a : Option Addr} {fr : List Fr} (h : FrsAt w lo a fr) (hl : lo' ≤ lo) : FrsAt w lo' a fr := fun i hi => by
  obtain ⟨b, off, la, lc, sa, sc, h1, h2, h3, h4, h5, h6, h7, h8⟩ := h i hi
  exact ⟨b, off, la, lc, sa, sc, h1, by omega, h3, h4, h5, h6, h7.low hl, h8.low hl⟩
theorem RecsAt.low {w : World} {lo lo' : Nat} {a : Option Addr} {rs : List (List Vl)} (h : RecsAt w lo a rs) (hl : lo' ≤ lo) : RecsAt w lo' a rs := fun i hi => by
  obtain ⟨b, off, fa, fc, h1, h2, h3, h4⟩ := h i hi
  exact ⟨b, off, fa, fc, h1, by omega, h3, h4.low hl⟩

/-- What can be read out of an argument at all. -/
def ValsMax (vs : List Vl) : Prop := vs.length ≤ maxLen ∧ ∀ v ∈ vs, v.s.size ≤ maxLen
def ValsSmall (vs : List Vl) : Prop := vs.length ≤ 1048576 ∧ ∀ v ∈ vs, v.s.size ≤ 1048576
structure VmMax (d : VmD) : Prop where
  frames : d.frames.length ≤ maxLen
  locals : ∀ f ∈ d.frames, ValsMax f.locals
  stack : ∀ f ∈ d.frames, ValsMax f.stack
  heap : d.heap.length ≤ maxLen
  fields : ∀ r ∈ d.heap, ValsMax r
  out : d.out.length ≤ maxLen
  text : ∀ s ∈ d.out, s.size ≤ maxLen
  value : d.value.s.size ≤ maxLen
structure VmSmall (d : VmD) : Prop where
  frames : d.frames.length ≤ 1048576
  locals : ∀ f ∈ d.frames, ValsSmall f.locals
  stack : ∀ f ∈ d.frames, ValsSmall f.stack
  heap : d.heap.length ≤ 1048576
  fields : ∀ r ∈ d.heap, ValsSmall r
  out : d.out.length ≤ 1048576
  text : ∀ s ∈ d.out, s.size ≤ 1048576
  value : d.value.s.size ≤ 1048576

theorem info47 : (Tryz.prog.info? 47).map (fun i => (i.zero, i.size)) = some (some (.agg #[.slice none 0 0, .slice none 0 0, .int .i64 0, .slice none 0 0, .int .i64 0, .int .i64 0, .int .i64 0, .int .i64 0, .string ByteArray.empty, .int .i64 0]), 10) := by kernel_rfl
end Go.Proofs.YtmmcockkbhnopaaGreat

namespace Go.Proofs.YtmmcockkbhnopaaGreat
open Go.RowKit

set_option maxHeartbeats 400000 in
theorem toIns_any (o a : Int) (w : World) :
    Calls Tryz.prog 121 #[.agg #[.int .i64 o, .int .i64 a]] w fun e w' => e = .returned (.agg #[.int .i64 o, .int .i64 a]) ∧ Below w.heap.size w w' := by
  go_enter Tryz.func121, Tryz.ntmps121
  go_wp2
  refine bodyPost_ret (v := .agg #[.int .i64 o, .int .i64 a]) (by simp [results, Tryz.results121, go_sem]) rfl ⟨rfl, ?_⟩
  exact (((Below.refl _ _).alloc (Nat.le_refl _) _).alloc (by simp) _).alloc (by simp; omega) _

theorem info9 : (Tryz.prog.info? 9).map (fun i => (i.zero, i.size, i.bytes)) = some (some (.string ByteArray.empty), 1, 16) := by kernel_rfl

set_option maxHeartbeats 400000 in
theorem toStringS_any (a : Option Addr) (ss : List ByteArray) (cap : Nat) (w : World) (hn : ss.length ≤ 1048576) (hm : StrsAt w 0 a ss) :
    Calls Tryz.prog 30 #[.slice a ss.length cap] w fun e w' => e = .returned (.slice (some ⟨w.heap.size, 0, none⟩) ss.length ss.length) ∧ StrsAt w' w.heap.size (some ⟨w.heap.size, 0, none⟩) ss ∧ Below w.heap.size w w' := by
  obtain ⟨i0, hi, hz0, hz1, hz2⟩ := info_parts info9
  go_enter Tryz.func30, Tryz.ntmps30
  go_wp2_with (first | (at_make; refine wpList_make_full _ rfl _ _ 22 rfl w.heap.size 9 i0 (.string ByteArray.empty) 1 Tryz.underlying22 hi hz0 hz1 _ _ _ _ ss.length rfl rfl rfl rfl (by rw [hz2]; omega) (by unfold maxLen; omega) (Nat.le_refl _) ?_; intro w1 hown hgrow))
  obtain ⟨cur0, hblk, hsz⟩ := made_block hown
  have hb0 : Below w.heap.size w w1 := (Below.refl _ _).grown hgrow (Nat.le_refl _) (by intro k hk; cases hk)
  clear hown hgrow hi hz0 hz1 hz2
  go_loopw [4] (fun i wr => ∃ (k : Nat) (cur : Array Value), k ≤ ss.length ∧ i = .int .i64 k ∧ wr.heap[w.heap.size]? = some (.cells cur 9 (0, 0)) ∧ cur.size = ss.length * 1 ∧ (∀ j (hj : j < ss.length), j < k → cur[j]? = some (.string ss[j])) ∧ Below w.heap.size w wr) (fun i _ => ss.length - (intOf i).toNat)
  case atStart => exact ⟨0, cur0, by omega, rfl, hblk, hsz, fun j _ h => by omega, hb0⟩
  case round =>
    obtain ⟨k, cur, hk, rfl, hblk, hsz, hdone, hb⟩ := hrel
    by_cases hlt : k < ss.length
    · obtain ⟨b, off, rfl, -, c1⟩ := hm k hlt
      have c1' := cell_later hb c1
      clear c1
      have hfz := block_free hblk k
      have hcl : wr.cell? ⟨w.heap.size, k, none⟩ = some cur[k] := by rw [block_cell hblk k]; simp
      go_wp2
      go_roundw
      case rel =>
        refine ⟨k + 1, cur.setIfInBounds k (.string ss[k]), by omega, by go_num, block_set hblk _, by simpa using hsz, ?_, hb.setCell (Nat.le_refl _) _⟩
        intro j hj hjk
        by_cases e : j = k
        · subst e; exact set_self _ (by omega)
        · rw [set_else _ e]; exact hdone j hj (by omega)
      case measure => simp [intOf]; omega
    · go_wp2
      go_ret
      exact ⟨rfl, fun j hj => ⟨w.heap.size, 0, rfl, Nat.le_refl _, by rw [block_cell hblk, Nat.zero_add]; exact hdone j hj (by omega)⟩, hb⟩

theorem info152 : (Tryz.prog.info? 152).map (fun i => (i.zero, i.size, i.bytes)) = some (some (.agg #[.int .i64 0, .int .i64 0]), 2, 16) := by kernel_rfl

set_option maxHeartbeats 400000 in
theorem toInsS_any (a : Option Addr) (xs : List (Int × Int)) (cap : Nat) (w : World) (hn : xs.length ≤ 1048576) (hm : CodeAt w 0 a xs) :
    Calls Tryz.prog 94 #[.slice a xs.length cap] w fun e w' => e = .returned (.slice (some ⟨w.heap.size, 0, none⟩) xs.length xs.length) ∧ CodeAt w' w.heap.size (some ⟨w.heap.size, 0, none⟩) xs ∧ Below w.heap.size w w' := by
  obtain ⟨i0, hi, hz0, hz1, hz2⟩ := info_parts info152
  go_enter Tryz.func94, Tryz.ntmps94
  go_wp2_with (first | (at_make; refine wpList_make_full _ rfl _ _ 114 rfl w.heap.size 152 i0 (.agg #[.int .i64 0, .int .i64 0]) 2 Tryz.underlying114 hi hz0 hz1 _ _ _ _ xs.length rfl rfl rfl rfl (by rw [hz2]; omega) (by unfold maxLen; omega) (Nat.le_refl _) ?_; intro w1 hown hgrow))
  obtain ⟨cur0, hblk, hsz⟩ := made_block hown
  have hb0 : Below w.heap.size w w1 := (Below.refl _ _).grown hgrow (Nat.le_refl _) (by intro k hk; cases hk)
  clear hown hgrow hi hz0 hz1 hz2
  go_loopw [4] (fun i wr => ∃ (k : Nat) (cur : Array Value), k ≤ xs.length ∧ i = .int .i64 k ∧ wr.heap[w.heap.size]? = some (.cells cur 152 (0, 0)) ∧ cur.size = xs.length * 2 ∧ (∀ j (hj : j < xs.length), j < k → cur[j * 2]? = some (.int .i64 xs[j].1) ∧ cur[j * 2 + 1]? = some (.int .i64 xs[j].2)) ∧ Below w.heap.size w wr) (fun i _ => xs.length - (intOf i).toNat)
  case atStart => exact ⟨0, cur0, by omega, rfl, hblk, hsz, fun j _ h => by omega, hb0⟩
  case round =>
    obtain ⟨k, cur, hk, rfl, hblk, hsz, hdone, hb⟩ := hrel
    by_cases hlt : k < xs.length
    · obtain ⟨b, off, rfl, -, c1, c2⟩ := hm k hlt
      have c1' := cell_later hb c1
      have c2' := cell_later hb c2
      clear c1 c2
      go_wp2_with fail
      refine (toIns_any _ _ _).mono ?_
      rintro e w2 ⟨rfl, hb2⟩
      have hblk2 := block_kept hblk hb2
      have hfz := block_free hblk2 (k * 2)
      have hfz2 := block_free hblk2 (k * 2 + 1)
      have hcl : w2.cell? ⟨w.heap.size, k * 2, none⟩ = some cur[k * 2] := by rw [block_cell hblk2]; simp
      have hcl2 : w2.cell? ⟨w.heap.size, k * 2 + 1, none⟩ = some cur[k * 2 + 1] := by rw [block_cell hblk2]; simp
      have hb3 : Below w.heap.size w w2 := hb.trans (hb2.mono hb.size)
      go_wp2
      go_roundw
      case rel =>
        refine ⟨k + 1, (cur.setIfInBounds (k * 2) (.int .i64 xs[k].1)).setIfInBounds (k * 2 + 1) (.int .i64 xs[k].2), by omega, by go_num, block_set (block_set hblk2 _) _, by simpa using hsz, ?_, (hb3.setCell (Nat.le_refl _) _).setCell (Nat.le_refl _) _⟩
        intro j hj hjk
        by_cases e : j = k
        · subst e; exact ⟨by rw [set_else _ (by omega)]; exact set_self _ (by omega), set_self _ (by simp; omega)⟩
        · rw [set_else _ (by omega), set_else _ (by omega), set_else _ (by omega), set_else _ (by omega)]; exact hdone j hj (by omega)
      case measure => simp [intOf]; omega
    · go_wp2
      go_ret
      exact ⟨rfl, fun j hj => ⟨w.heap.size, 0, rfl, Nat.le_refl _, by rw [block_cell hblk, Nat.zero_add]; exact (hdone j hj (by omega)).1, by rw [block_cell hblk, Nat.zero_add]; exact (hdone j hj (by omega)).2⟩, hb⟩

set_option maxHeartbeats 400000 in
theorem toFunc_any (p l : Int) (a : Option Addr) (xs : List (Int × Int)) (cap : Nat) (w : World) (hn : xs.length ≤ 1048576) (hm : CodeAt w 0 a xs) :
    Calls Tryz.prog 64 #[.agg #[.int .i64 p, .int .i64 l, .slice a xs.length cap]] w fun e w' => ∃ g, w.heap.size ≤ g ∧ e = .returned (.agg #[.int .i64 p, .int .i64 l, .slice (some ⟨g, 0, none⟩) xs.length xs.length]) ∧ CodeAt w' w.heap.size (some ⟨g, 0, none⟩) xs ∧ Below w.heap.size w w' := by
  go_enter Tryz.func64, Tryz.ntmps64
  go_wp2_with fail
  have hbA : Below w.heap.size w (((w.alloc (.cells #[.int .i64 p, .int .i64 l, .slice a xs.length cap] 92)).alloc (.cells #[.int .i64 0, .int .i64 0, .slice none 0 0] 116)).alloc (.cells #[.int .i64 p, .int .i64 l, .slice none 0 0] 116)) :=
    (((Below.refl _ _).alloc (Nat.le_refl _) _).alloc (by simp) _).alloc (by simp; omega) _
  refine (toInsS_any a xs cap _ hn (hm.mono hbA)).mono ?_
  rintro e w1 ⟨rfl, hcode, hb⟩
  have hR := block_kept (block_old (block_new (w.alloc (.cells #[.int .i64 p, .int .i64 l, .slice a xs.length cap] 92)) #[.int .i64 0, .int .i64 0, .slice none 0 0] 116) (.cells #[.int .i64 p, .int .i64 l, .slice none 0 0] 116)) hb
  have hO := block_kept (block_new ((w.alloc (.cells #[.int .i64 p, .int .i64 l, .slice a xs.length cap] 92)).alloc (.cells #[.int .i64 0, .int .i64 0, .slice none 0 0] 116)) #[.int .i64 p, .int .i64 l, .slice none 0 0] 116) hb
  simp only [World.size_alloc] at hR hO hcode
  have r1 := block_cell hR
  have r2 := block_free hR
  have o1 := block_cell hO
  have o2 := block_free hO
  have hb1 : Below w.heap.size w w1 := hbA.trans (hb.mono (by simp; omega))
  go_wp2
  refine bodyPost_ret (v := .agg #[.int .i64 p, .int .i64 l, .slice (some ⟨w.heap.size + 1 + 1 + 1, 0, none⟩) xs.length xs.length]) (by simp [results, Tryz.results64, go_sem, r1]) rfl ⟨_, by omega, rfl, ?_, ?_⟩
  · exact (hcode.above (((((Above.refl _ _).setCell (by simp) _).setCell (by simp) _).setCell (by simp) _).setCell (by simp) _)).low (by omega)
  · exact (((hb1.setCell (by simp; omega) _).setCell (by simp) _).setCell (by simp) _).setCell (by simp) _

theorem info116 : (Tryz.prog.info? 116).map (fun i => (i.zero, i.size, i.bytes)) = some (some (.agg #[.int .i64 0, .int .i64 0, .slice none 0 0]), 3, 40) := by kernel_rfl

set_option maxHeartbeats 400000 in
theorem toFuncS_any (a : Option Addr) (fs : List Fn) (cap : Nat) (w : World) (hn : fs.length ≤ 1048576) (hc : ∀ f ∈ fs, f.code.length ≤ 1048576) (hm : FnsAt w 0 a fs) :
    Calls Tryz.prog 31 #[.slice a fs.length cap] w fun e w' => e = .returned (.slice (some ⟨w.heap.size, 0, none⟩) fs.length fs.length) ∧ FnsAt w' w.heap.size (some ⟨w.heap.size, 0, none⟩) fs ∧ Below w.heap.size w w' := by
  obtain ⟨i0, hi, hz0, hz1, hz2⟩ := info_parts info116
  go_enter Tryz.func31, Tryz.ntmps31
  go_wp2_with (first | (at_make; refine wpList_make_full _ rfl _ _ 38 rfl w.heap.size 116 i0 (.agg #[.int .i64 0, .int .i64 0, .slice none 0 0]) 3 Tryz.underlying38 hi hz0 hz1 _ _ _ _ fs.length rfl rfl rfl rfl (by rw [hz2]; omega) (by unfold maxLen; omega) (Nat.le_refl _) ?_; intro w1 hown hgrow))
  obtain ⟨cur0, hblk, hsz⟩ := made_block hown
  have hb0 : Below w.heap.size w w1 := (Below.refl _ _).grown hgrow (Nat.le_refl _) (by intro k hk; cases hk)
  clear hown hgrow hi hz0 hz1 hz2
  go_loopw [4] (fun i wr => ∃ (k : Nat) (cur : Array Value), k ≤ fs.length ∧ i = .int .i64 k ∧ wr.heap[w.heap.size]? = some (.cells cur 116 (0, 0)) ∧ cur.size = fs.length * 3 ∧
      (∀ j (hj : j < fs.length), j < k → cur[j * 3]? = some (.int .i64 fs[j].params) ∧ cur[j * 3 + 1]? = some (.int .i64 fs[j].locals) ∧ ∃ g, cur[j * 3 + 2]? = some (.slice (some ⟨g, 0, none⟩) fs[j].code.length fs[j].code.length) ∧ CodeAt wr (w.heap.size + 1) (some ⟨g, 0, none⟩) fs[j].code) ∧ Below w.heap.size w wr) (fun i _ => fs.length - (intOf i).toNat)
  case atStart => exact ⟨0, cur0, by omega, rfl, hblk, hsz, fun j _ h => by omega, hb0⟩
  case round =>
    obtain ⟨k, cur, hk, rfl, hblk, hsz, hdone, hb⟩ := hrel
    by_cases hlt : k < fs.length
    · obtain ⟨b, off, ca, cc, rfl, -, c1, c2, c3, c4⟩ := hm k hlt
      have c1' := cell_later hb c1
      have c2' := cell_later hb c2
      have c3' := cell_later hb c3
      clear c1 c2 c3
      have hgs : w.heap.size < wr.heap.size := by
        rcases Nat.lt_or_ge w.heap.size wr.heap.size with h | h
        · exact h
        · rw [Array.getElem?_eq_none h] at hblk; cases hblk
      have hck := hc fs[k] (List.getElem_mem hlt)
      go_wp2_with fail
      refine (toFunc_any _ _ _ _ _ _ hck (c4.mono hb)).mono ?_
      rintro e w2 ⟨g, hg, rfl, hcode, hb2⟩
      have hblk2 := block_kept hblk hb2
      have hfz := block_free hblk2
      have hcl : w2.cell? ⟨w.heap.size, k * 3, none⟩ = some cur[k * 3] := by rw [block_cell hblk2]; simp
      have hcl2 : w2.cell? ⟨w.heap.size, k * 3 + 1, none⟩ = some cur[k * 3 + 1] := by rw [block_cell hblk2]; simp
      have hcl3 : w2.cell? ⟨w.heap.size, k * 3 + 2, none⟩ = some cur[k * 3 + 2] := by rw [block_cell hblk2]; simp
      have hb3 : Below w.heap.size w w2 := hb.trans (hb2.mono hb.size)
      go_wp2
      go_roundw
      case rel =>
        have hab : Above (w.heap.size + 1) w2 (((w2.setCell ⟨w.heap.size, k * 3, none⟩ (.int .i64 fs[k].params)).setCell ⟨w.heap.size, k * 3 + 1, none⟩ (.int .i64 fs[k].locals)).setCell ⟨w.heap.size, k * 3 + 2, none⟩ (.slice (some ⟨g, 0, none⟩) fs[k].code.length fs[k].code.length)) :=
          (((Above.refl _ _).setCell (by simp) _).setCell (by simp) _).setCell (by simp) _
        refine ⟨k + 1, ((cur.setIfInBounds (k * 3) (.int .i64 fs[k].params)).setIfInBounds (k * 3 + 1) (.int .i64 fs[k].locals)).setIfInBounds (k * 3 + 2) (.slice (some ⟨g, 0, none⟩) fs[k].code.length fs[k].code.length), by omega, by go_num, block_set (block_set (block_set hblk2 _) _) _, by simpa using hsz, ?_, ((hb3.setCell (Nat.le_refl _) _).setCell (Nat.le_refl _) _).setCell (Nat.le_refl _) _⟩
        intro j hj hjk
        by_cases e : j = k
        · subst e
          refine ⟨?_, ?_, g, ?_, (hcode.low (by omega)).above hab⟩
          · rw [set_else _ (by omega), set_else _ (by omega)]; exact set_self _ (by omega)
          · rw [set_else _ (by omega)]; exact set_self _ (by simp; omega)
          · exact set_self _ (by simp; omega)
        · obtain ⟨d1, d2, g', d3, d4⟩ := hdone j hj (by omega)
          refine ⟨?_, ?_, g', ?_, (d4.mono hb2).above hab⟩
          · rw [set_else _ (by omega), set_else _ (by omega), set_else _ (by omega)]; exact d1
          · rw [set_else _ (by omega), set_else _ (by omega), set_else _ (by omega)]; exact d2
          · rw [set_else _ (by omega), set_else _ (by omega), set_else _ (by omega)]; exact d3
      case measure => simp [intOf]; omega
    · go_wp2
      go_ret
      refine ⟨rfl, fun j hj => ?_, hb⟩
      obtain ⟨d1, d2, g', d3, d4⟩ := hdone j hj (by omega)
      exact ⟨w.heap.size, 0, some ⟨g', 0, none⟩, fs[j].code.length, rfl, Nat.le_refl _, by rw [block_cell hblk, Nat.zero_add]; exact d1, by rw [block_cell hblk, Nat.zero_add]; exact d2, by rw [block_cell hblk, Nat.zero_add]; exact d3, d4.low (by omega)⟩

set_option maxHeartbeats 400000 in
theorem toModule_any (a a2 : Option Addr) (ts : List ByteArray) (fs : List Fn) (cap cap2 : Nat) (w : World) (hs : Small ts fs) (hm : StrsAt w 0 a ts) (hm2 : FnsAt w 0 a2 fs) :
    Calls Tryz.prog 9 #[.agg #[.slice a ts.length cap, .slice a2 fs.length cap2]] w fun e w' => ∃ g g2, w.heap.size ≤ g ∧ w.heap.size ≤ g2 ∧ e = .returned (.agg #[.slice (some ⟨g, 0, none⟩) ts.length ts.length, .slice (some ⟨g2, 0, none⟩) fs.length fs.length]) ∧
      StrsAt w' w.heap.size (some ⟨g, 0, none⟩) ts ∧ FnsAt w' w.heap.size (some ⟨g2, 0, none⟩) fs ∧ Below w.heap.size w w' := by
  go_enter Tryz.func9, Tryz.ntmps9
  go_wp2_with fail
  have hbA : Below w.heap.size w (((w.alloc (.cells #[.slice a ts.length cap, .slice a2 fs.length cap2] 25)).alloc (.cells #[.slice none 0 0, .slice none 0 0] 40)).alloc (.cells #[.slice none 0 0, .slice none 0 0] 40)) :=
    (((Below.refl _ _).alloc (Nat.le_refl _) _).alloc (by simp) _).alloc (by simp; omega) _
  refine (toStringS_any a ts cap _ hs.texts (hm.mono hbA)).mono ?_
  rintro e w1 ⟨rfl, hst, hb⟩
  have hB := block_kept (block_old (block_old (block_new w #[.slice a ts.length cap, .slice a2 fs.length cap2] 25) (.cells #[.slice none 0 0, .slice none 0 0] 40)) (.cells #[.slice none 0 0, .slice none 0 0] 40)) hb
  have hR := block_kept (block_old (block_new (w.alloc (.cells #[.slice a ts.length cap, .slice a2 fs.length cap2] 25)) #[.slice none 0 0, .slice none 0 0] 40) (.cells #[.slice none 0 0, .slice none 0 0] 40)) hb
  have hO := block_kept (block_new ((w.alloc (.cells #[.slice a ts.length cap, .slice a2 fs.length cap2] 25)).alloc (.cells #[.slice none 0 0, .slice none 0 0] 40)) #[.slice none 0 0, .slice none 0 0] 40) hb
  simp only [World.size_alloc] at hB hR hO hst
  have hz1 := hb.size
  simp only [World.size_alloc] at hz1
  have hb1 : Below w.heap.size w w1 := hbA.trans (hb.mono (by simp; omega))
  have b1 := block_cell hB
  have o1 := block_cell hO
  have o2 := block_free hO
  go_wp2_with fail
  have hb1' : Below w.heap.size w (w1.setCell ⟨w.heap.size + 1 + 1, 0, none⟩ (.slice (some ⟨w.heap.size + 1 + 1 + 1, 0, none⟩) ts.length ts.length)) := hb1.setCell (by simp; omega) _
  refine (toFuncS_any a2 fs cap2 _ hs.funcs hs.code (hm2.mono hb1')).mono ?_
  rintro e w2 ⟨rfl, hfn, hb2⟩
  have hR2 := block_kept (w' := w2) (show (w1.setCell ⟨w.heap.size + 1 + 1, 0, none⟩ (.slice (some ⟨w.heap.size + 1 + 1 + 1, 0, none⟩) ts.length ts.length)).heap[w.heap.size + 1]? = _ by rw [Below.heap_setCell _ _ _ _ (by simp)]; exact hR) hb2
  have hO2 := block_kept (w' := w2) (block_set (i := 0) hO (.slice (some ⟨w.heap.size + 1 + 1 + 1, 0, none⟩) ts.length ts.length)) hb2
  have hst2 : StrsAt w2 (w.heap.size + 1 + 1 + 1) (some ⟨w.heap.size + 1 + 1 + 1, 0, none⟩) ts := (hst.above ((Above.refl _ _).setCell (p := ⟨w.heap.size + 1 + 1, 0, none⟩) (by simp) (.slice (some ⟨w.heap.size + 1 + 1 + 1, 0, none⟩) ts.length ts.length))).mono hb2
  simp only [World.size_setCell] at hfn hb2 ⊢
  have hb3 : Below w.heap.size w w2 := hb1'.trans (hb2.mono (by omega))
  simp at hO2
  have r1 := block_cell hR2
  have r2 := block_free hR2
  have p1 := block_cell hO2
  have p2 := block_free hO2
  clear hB hR hO b1 o1 o2 hR2 hO2 hst hb hb2 hbA hb1'
  go_wp2
  refine bodyPost_ret (v := .agg #[(.slice (some ⟨w.heap.size + 1 + 1 + 1, 0, none⟩) ts.length ts.length), .slice (some ⟨w1.heap.size, 0, none⟩) fs.length fs.length]) (by simp [results, Tryz.results9, go_sem, r1]) rfl ⟨w.heap.size + 1 + 1 + 1, w1.heap.size, by omega, by omega, rfl, ?_, ?_, ?_⟩
  · exact (hst2.above ((((Above.refl _ _).setCell (by simp) _).setCell (by simp) _).setCell (by simp) _)).low (by omega)
  · exact (hfn.above ((((Above.refl _ _).setCell (by simp; omega) _).setCell (by simp; omega) _).setCell (by simp; omega) _)).low (by omega)
  · exact ((hb3.setCell (by simp; omega) _).setCell (by simp) _).setCell (by simp) _
end Go.Proofs.YtmmcockkbhnopaaGreat

namespace Go.Proofs.YtmmcockkbhnopaaGreat
open Go.RowKit

section
variable {P : Program} {ops : Array Oper} {Q : Exit → Act → World → Prop} {md : Region.Mode} {S : World → Prop}
theorem h_take {i : Nat} {oi : Oper} {v : Value} {n : Nat} {listed : Array Bool} {a : Act} {w : World} (hi : ops[i]? = some oi)
    (hs : Region.noSelect ops = true) (hf : Region.free md ops listed i = true) (hr : (Region.ready md ops listed).contains i = true)
    (hQ : ∀ c a w, Q (.panic c) (a.put oi.dst v) w → Q (.panic c) a w) (hw : Region.wanted oi (yielded ops a.tmps) = true)
    (hy : ∀ w, S w → (execOp a.eval oi).run P w = .ok (.value v) w) (hS : S w)
    (h : wpAnyH P md ops Q S n (listed.setIfInBounds i true) (a.put oi.dst v) w) : wpAnyH P md ops Q S (n + 1) listed a w :=
  wpAnyH_take hi hs hf hr hQ (.inl ⟨hw, hy⟩) hS h
theorem h_skip {i : Nat} {oi : Oper} {n : Nat} {listed : Array Bool} {a : Act} {w : World} (hi : ops[i]? = some oi)
    (hs : Region.noSelect ops = true) (hf : Region.free md ops listed i = true) (hr : (Region.ready md ops listed).contains i = true)
    (hQ : ∀ c a w, Q (.panic c) (a.put oi.dst undef) w → Q (.panic c) a w) (hw : Region.wanted oi (yielded ops a.tmps) = false) (hS : S w)
    (h : wpAnyH P md ops Q S n (listed.setIfInBounds i true) (a.put oi.dst undef) w) : wpAnyH P md ops Q S (n + 1) listed a w :=
  wpAnyH_take hi hs hf hr hQ (.inr ⟨hw, rfl⟩) hS h
/-- One alone may come up. -/
theorem h_one {i : Nat} {o : Oper} {n : Nat} {listed : Array Bool} {a : Act} {w : World} (hr : Region.ready md ops listed = [i]) (ho : ops[i]? = some o)
    (h : ∀ K' : Act → World → Prop, Shut (∀ a w', S w' → wpAnyH P md ops Q S n (listed.setIfInBounds i true) a w' → K' a w') → if Region.wanted o (yielded ops a.tmps) = true then Oper.wp P o a w K' Q else K' (a.put o.dst undef) w) :
    wpAnyH P md ops Q S (n + 1) listed a w := by
  refine ⟨fun h0 => (by rw [hr] at h0; cases h0), fun j hj => ?_⟩
  rw [hr] at hj
  obtain rfl := List.mem_singleton.1 hj
  exact wpOp_step ho (fun K' hK => h K' (fun a w hS hW => hK a w ⟨hS, hW⟩))
/-- One of several comes up. -/
theorem h_some {i : Nat} {o : Oper} {n : Nat} {listed : Array Bool} {a : Act} {w : World} (ho : ops[i]? = some o)
    (h : ∀ K' : Act → World → Prop, Shut (∀ a w', S w' → wpAnyH P md ops Q S n (listed.setIfInBounds i true) a w' → K' a w') → if Region.wanted o (yielded ops a.tmps) = true then Oper.wp P o a w K' Q else K' (a.put o.dst undef) w) :
    wpOp P ops Q i (fun a' w' => S w' ∧ wpAnyH P md ops Q S n (listed.setIfInBounds i true) a' w') a w :=
  wpOp_step ho (fun K' hK => h K' (fun a w hS hW => hK a w ⟨hS, hW⟩))
theorem h_begin {id : Nat} {a : Act} {w : World} (S : World → Prop) (hm : P.follows .mixedOrders = true) (h : wpAnyH P .any ops Q S ops.size (Array.replicate ops.size false) a w.drew) : (Code.region id ops true).wp P Q a w :=
  wp_region_held hm h
end
end Go.Proofs.YtmmcockkbhnopaaGreat



namespace Go.Proofs
open Go.Shelf
def Tryz.sortPlace_ren : Go.Shelf.Ren := ⟨fun | 6 => 112 | 15 => 136 | 14 => 135 | 28 => 153 | 29 => 154 | 20 => 145 | 21 => 146 | 22 => 147 | 23 => 148 | 24 => 149 | 25 => 150 | 26 => 151 | 27 => 152 | 46 => 158 | 47 => 159 | 48 => 160 | 49 => 161 | 50 => 162 | 57 => 164 | n => n, fun | 22 => 136 | 24 => 134 | 25 => 141 | 3 => 3 | 39 => 208 | 0 => 0 | 53 => 231 | 55 => 233 | 4 => 4 | 46 => 225 | 45 => 224 | 50 => 186 | 5 => 5 | 9 => 9 | 66 => 239 | 70 => 243 | 76 => 245 | 77 => 142 | n => n, fun | n => n⟩
theorem Tryz.sortPlace : Go.Proofs.SlLaysF0.n6 Tryz.prog Tryz.sortPlace_ren := {
  mixed := by kernel_rfl
  f6 := ⟨Tryz.f112.name, by decide, Tryz.func112.trans (congrArg some (by kernel_rfl))⟩
  f14 := ⟨Tryz.f135.name, by decide, Tryz.func135.trans (congrArg some (by kernel_rfl))⟩
  f15 := Tryz.func136.trans (congrArg some (by kernel_rfl))
  f20 := ⟨Tryz.f145.name, by decide, Tryz.func145.trans (congrArg some (by kernel_rfl))⟩
  f21 := ⟨Tryz.f146.name, by decide, Tryz.func146.trans (congrArg some (by kernel_rfl))⟩
  f22 := ⟨Tryz.f147.name, by decide, Tryz.func147.trans (congrArg some (by kernel_rfl))⟩
  f23 := ⟨Tryz.f148.name, by decide, Tryz.func148.trans (congrArg some (by kernel_rfl))⟩
  f24 := ⟨Tryz.f149.name, by decide, Tryz.func149.trans (congrArg some (by kernel_rfl))⟩
  f25 := ⟨Tryz.f150.name, by decide, Tryz.func150.trans (congrArg some (by kernel_rfl))⟩
  f26 := ⟨Tryz.f151.name, by decide, Tryz.func151.trans (congrArg some (by kernel_rfl))⟩
  f27 := ⟨Tryz.f152.name, by decide, Tryz.func152.trans (congrArg some (by kernel_rfl))⟩
  f28 := Tryz.func153.trans (congrArg some (by kernel_rfl))
  f29 := Tryz.func154.trans (congrArg some (by kernel_rfl))
  f46 := ⟨Tryz.f158.name, by decide, Tryz.func158.trans (congrArg some (by kernel_rfl))⟩
  f47 := Tryz.func159.trans (congrArg some (by kernel_rfl))
  f48 := Tryz.func160.trans (congrArg some (by kernel_rfl))
  f49 := ⟨Tryz.f161.name, by decide, Tryz.func161.trans (congrArg some (by kernel_rfl))⟩
  f50 := ⟨Tryz.f162.name, by decide, Tryz.func162.trans (congrArg some (by kernel_rfl))⟩
  f57 := ⟨Tryz.f164.name, by decide, Tryz.func164.trans (congrArg some (by kernel_rfl))⟩
  t0 := Tryz.underlying0
  a0 := Tryz.isAgg0
  z0 := Tryz.sizeOf0
  v0 := Tryz.zeroValue0
  t3 := Tryz.underlying3
  a3 := Tryz.isAgg3
  z3 := Tryz.sizeOf3
  v3 := Tryz.zeroValue3
  t4 := Tryz.underlying4
  a4 := Tryz.isAgg4
  z4 := Tryz.sizeOf4
  v4 := Tryz.zeroValue4
  t5 := Tryz.underlying5
  a5 := Tryz.isAgg5
  z5 := Tryz.sizeOf5
  v5 := Tryz.zeroValue5
  t9 := Tryz.underlying9
  a9 := Tryz.isAgg9
  z9 := Tryz.sizeOf9
  v9 := Tryz.zeroValue9
  t22 := Tryz.underlying136
  a22 := Tryz.isAgg136
  z22 := Tryz.sizeOf136
  v22 := Tryz.zeroValue136
  t25 := Tryz.underlying141
  a25 := Tryz.isAgg141
  z25 := Tryz.sizeOf141
  v25 := Tryz.zeroValue141
  t39 := Tryz.underlying208
  a39 := Tryz.isAgg208
  z39 := Tryz.sizeOf208
  v39 := Tryz.zeroValue208
  t45 := Tryz.underlying224
  a45 := Tryz.isAgg224
  z45 := Tryz.sizeOf224
  v45 := Tryz.zeroValue224
  t46 := Tryz.underlying225
  a46 := Tryz.isAgg225
  z46 := Tryz.sizeOf225
  v46 := Tryz.zeroValue225
  t50 := Tryz.underlying186
  a50 := Tryz.isAgg186
  z50 := Tryz.sizeOf186
  v50 := Tryz.zeroValue186
  t53 := Tryz.underlying231
  a53 := Tryz.isAgg231
  z53 := Tryz.sizeOf231
  v53 := Tryz.zeroValue231
  t55 := Tryz.underlying233
  a55 := Tryz.isAgg233
  z55 := Tryz.sizeOf233
  v55 := Tryz.zeroValue233
  t66 := Tryz.underlying239
  a66 := Tryz.isAgg239
  z66 := Tryz.sizeOf239
  v66 := Tryz.zeroValue239
  t70 := Tryz.underlying243
  a70 := Tryz.isAgg243
  z70 := Tryz.sizeOf243
  v70 := Tryz.zeroValue243
  t76 := Tryz.underlying245
  a76 := Tryz.isAgg245
  z76 := Tryz.sizeOf245
  v76 := Tryz.zeroValue245
  t77 := Tryz.underlying142
  a77 := Tryz.isAgg142
  z77 := Tryz.sizeOf142
  v77 := Tryz.zeroValue142 }
end Go.Proofs

namespace Go.Proofs.YtmmcockkbhnopaaGreat
open Go.RowKit

/-- The marks of n bytes, from k on. -/
def marks (k : Int) (n : Nat) : List Int := (List.range n).map fun (i : Nat) => (k + (i : Int)) % 256
theorem marks_len (k : Int) (n : Nat) : (marks k n).length = n := by simp [marks]
theorem marks_at (k : Int) (n i : Nat) (h : i < (marks k n).length) : (marks k n)[i] = (k + i) % 256 := by simp [marks]

set_option maxHeartbeats 400000 in
theorem markText_any (k0 : Int) (w : World) (h0 : 0 ≤ k0) (h1 : k0 ≤ 1000000000000000) :
    Calls Tryz.prog 83 #[.int .i64 k0] w fun e w' => ∃ s : ByteArray, e = .returned (.string s) ∧ Below w.heap.size w w' := by
  by_cases hz : k0 ≤ 0
  · go_enter Tryz.func83, Tryz.ntmps83
    go_wp2
    go_ret
    exact ⟨_, rfl, Below.refl _ _⟩
  · go_enter Tryz.func83, Tryz.ntmps83
    go_wp2
    go_loopw [0, 3] (fun q o wr => ∃ (x : Nat) (s : ByteArray), q = .int .i64 x ∧ o = .string s ∧ s.size + x ≤ k0 ∧ Below w.heap.size w wr) (fun q _ _ => (intOf q).toNat)
    case atStart => exact ⟨k0.toNat, ByteArray.empty, by go_num, rfl, by simp; omega, Below.refl _ _⟩
    case round =>
      obtain ⟨x, s, rfl, rfl, hsz, hb⟩ := hrel
      by_cases hx : 0 < x
      · have hx' : (0 : Int) < (x : Int) := by omega
        have hcv := run_convert_bytes_arg (P := Tryz.prog) (wr.alloc (.cells #[.int .u8 (48 + (x : Int) % 10)] 5)) 177 5 Tryz.underlying177 Tryz.underlying5 wr.heap.size 0 1 1 [48 + (x : Int) % 10] rfl
          (fun i hi => by have : i = 0 := by omega
                          subst this
                          rw [cell_new]; rfl) 9 Tryz.underlying9
        have hsn : (strOfNums [48 + (x : Int) % 10]).size ≤ 1 := by simp [strOfNums, ByteArray.size]
        generalize strOfNums [48 + (x : Int) % 10] = t at *
        go_wp2
        go_roundw
        case rel => exact ⟨x / 10, t ++ s, by go_num, rfl, by rw [ByteArray.size_append]; omega, hb.alloc hb.size _⟩
        case measure => simp [intOf]; omega
      · have hx' : (x : Int) ≤ 0 := by omega
        go_wp2
        go_ret
        exact ⟨_, rfl, hb⟩

end Go.Proofs.YtmmcockkbhnopaaGreat
