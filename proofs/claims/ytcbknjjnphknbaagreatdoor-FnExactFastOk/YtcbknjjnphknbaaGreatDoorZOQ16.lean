/-
  What the copying functions of the laws (to..) return: a copy in new memory, nothing that was there written.
  What the copying functions of the laws return of lists of values, frames and records.
  What toVm returns: a copy in new memory.
  When a frame may stand where it does, on plain data; how a truth is told.
  What VmOk asks, on plain data; lists of texts, roomOk and valuesOk of the program.
  The jumps of a function that one comes to, as a list, and the contract of the function that goes through them (jumpsIn).
-/
import Derived.Test.YtcbknjjnphknbaaGreatDoorZOQ2
import Derived.Test.YtcbknjjnphknbaaGreatDoorZOQ11
import Derived.Test.YtcbknjjnphknbaaGreatDoorZOQ15
import Derived.Test.YtcbknjjnphknbaaGreatDoorZOQ1
import Derived.Test.YtcbknjjnphknbaaGreatDoorZOQ9
import Derived.RangeFuncNested
import Derived.RangeFuncBound
import Derived.RangeFuncCalls
import Derived.RangeFuncLeaves
import Derived.Shelf.Abstract
import Derived.Shelf.RegionOpen
import Derived.WalkKit
import Derived.OwnWalkIn
import Derived.TacticsInMore
import Derived.LoopNIn
import Derived.LoopIn
namespace Go.Proofs.YtcbknjjnphknbaaGreatDoor
open Go.RowKit

set_option maxHeartbeats 400000 in
theorem toIns_any (o a : Int) (w : World) :
    Calls Tryz.prog 116 #[.agg #[.int .i64 o, .int .i64 a]] w fun e w' => e = .returned (.agg #[.int .i64 o, .int .i64 a]) ∧ Below w.heap.size w w' := by
  go_enter Tryz.func116, Tryz.ntmps116
  go_wp2
  refine bodyPost_ret (v := .agg #[.int .i64 o, .int .i64 a]) (by simp [results, Tryz.results116, go_sem]) rfl ⟨rfl, ?_⟩
  exact (((Below.refl _ _).alloc (Nat.le_refl _) _).alloc (by simp) _).alloc (by simp; omega) _

theorem info9 : (Tryz.prog.info? 9).map (fun i => (i.zero, i.size, i.bytes)) = some (some (.string ByteArray.empty), 1, 16) := by kernel_rfl

set_option maxHeartbeats 400000 in
theorem toStringS_any (a : Option Addr) (ss : List ByteArray) (cap : Nat) (w : World) (hn : ss.length ≤ 1048576) (hm : StrsAt w 0 a ss) :
    Calls Tryz.prog 18 #[.slice a ss.length cap] w fun e w' => e = .returned (.slice (some ⟨w.heap.size, 0, none⟩) ss.length ss.length) ∧ StrsAt w' w.heap.size (some ⟨w.heap.size, 0, none⟩) ss ∧ Below w.heap.size w w' := by
  obtain ⟨i0, hi, hz0, hz1, hz2⟩ := info_parts info9
  go_enter Tryz.func18, Tryz.ntmps18
  go_wp2_with (first | (at_make; refine wpList_make_full _ rfl _ _ 22 rfl w.heap.size 9 i0 (.string ByteArray.empty) 1 Tryz.underlying22 hi hz0 hz1 _ _ _ _ ss.length rfl rfl rfl rfl (by rw [hz2]; omega) (by unfold maxLen; omega) (Nat.le_refl _) ?_; intro w1 hown hgrow))
  obtain ⟨cur0, hblk, hsz⟩ := made_block hown
  have hb0 : Below w.heap.size w w1 := (Below.refl _ _).grown hgrow (Nat.le_refl _) (by intro k hk; cases hk)
  clear hown hgrow hi hz0 hz1 hz2
  go_loopw [4] (fun i wr => ∃ (k : Nat) (cur : Array Value), k ≤ ss.length ∧ i = .int .i64 k ∧ wr.heap[w.heap.size]? = some (.cells cur 9 (0, 0)) ∧ cur.size = ss.length * 1 ∧ (∀ j (hj : j < ss.length), j < k → cur[j]? = some (.string ss[j])) ∧ Below w.heap.size w wr) (fun i _ => ss.length - (intOf i).toNat)
  case atStart => exact ⟨0, cur0, by omega, rfl, hblk, hsz, fun j _ h => by omega, hb0⟩
  case round =>
    obtain ⟨k, cur, hk, rfl, hblk, hsz, hdone, hb⟩ := hrel
    by_cases hlt : k < ss.length
    · obtain ⟨b, off, rfl, -, c1⟩ := hm k hlt
      have c1' := cell_later hb c1
      clear c1
      have hfz := block_free hblk k
      have hcl : wr.cell? ⟨w.heap.size, k, none⟩ = some cur[k] := by rw [block_cell hblk k]; simp
      go_wp2
      go_roundw
      case rel =>
        refine ⟨k + 1, cur.setIfInBounds k (.string ss[k]), by omega, by go_num, block_set hblk _, by simpa using hsz, ?_, hb.setCell (Nat.le_refl _) _⟩
        intro j hj hjk
        by_cases e : j = k
        · subst e; exact set_self _ (by omega)
        · rw [set_else _ e]; exact hdone j hj (by omega)
      case measure => simp [intOf]; omega
    · go_wp2
      go_ret
      exact ⟨rfl, fun j hj => ⟨w.heap.size, 0, rfl, Nat.le_refl _, by rw [block_cell hblk, Nat.zero_add]; exact hdone j hj (by omega)⟩, hb⟩

theorem info135 : (Tryz.prog.info? 135).map (fun i => (i.zero, i.size, i.bytes)) = some (some (.agg #[.int .i64 0, .int .i64 0]), 2, 16) := by kernel_rfl

set_option maxHeartbeats 400000 in
theorem toInsS_any (a : Option Addr) (xs : List (Int × Int)) (cap : Nat) (w : World) (hn : xs.length ≤ 1048576) (hm : CodeAt w 0 a xs) :
    Calls Tryz.prog 79 #[.slice a xs.length cap] w fun e w' => e = .returned (.slice (some ⟨w.heap.size, 0, none⟩) xs.length xs.length) ∧ CodeAt w' w.heap.size (some ⟨w.heap.size, 0, none⟩) xs ∧ Below w.heap.size w w' := by
  obtain ⟨i0, hi, hz0, hz1, hz2⟩ := info_parts info135
  go_enter Tryz.func79, Tryz.ntmps79
  go_wp2_with (first | (at_make; refine wpList_make_full _ rfl _ _ 89 rfl w.heap.size 135 i0 (.agg #[.int .i64 0, .int .i64 0]) 2 Tryz.underlying89 hi hz0 hz1 _ _ _ _ xs.length rfl rfl rfl rfl (by rw [hz2]; omega) (by unfold maxLen; omega) (Nat.le_refl _) ?_; intro w1 hown hgrow))
  obtain ⟨cur0, hblk, hsz⟩ := made_block hown
  have hb0 : Below w.heap.size w w1 := (Below.refl _ _).grown hgrow (Nat.le_refl _) (by intro k hk; cases hk)
  clear hown hgrow hi hz0 hz1 hz2
  go_loopw [4] (fun i wr => ∃ (k : Nat) (cur : Array Value), k ≤ xs.length ∧ i = .int .i64 k ∧ wr.heap[w.heap.size]? = some (.cells cur 135 (0, 0)) ∧ cur.size = xs.length * 2 ∧ (∀ j (hj : j < xs.length), j < k → cur[j * 2]? = some (.int .i64 xs[j].1) ∧ cur[j * 2 + 1]? = some (.int .i64 xs[j].2)) ∧ Below w.heap.size w wr) (fun i _ => xs.length - (intOf i).toNat)
  case atStart => exact ⟨0, cur0, by omega, rfl, hblk, hsz, fun j _ h => by omega, hb0⟩
  case round =>
    obtain ⟨k, cur, hk, rfl, hblk, hsz, hdone, hb⟩ := hrel
    by_cases hlt : k < xs.length
    · obtain ⟨b, off, rfl, -, c1, c2⟩ := hm k hlt
      have c1' := cell_later hb c1
      have c2' := cell_later hb c2
      clear c1 c2
      go_wp2_with fail
      refine (toIns_any _ _ _).mono ?_
      rintro e w2 ⟨rfl, hb2⟩
      have hblk2 := block_kept hblk hb2
      have hfz := block_free hblk2 (k * 2)
      have hfz2 := block_free hblk2 (k * 2 + 1)
      have hcl : w2.cell? ⟨w.heap.size, k * 2, none⟩ = some cur[k * 2] := by rw [block_cell hblk2]; simp
      have hcl2 : w2.cell? ⟨w.heap.size, k * 2 + 1, none⟩ = some cur[k * 2 + 1] := by rw [block_cell hblk2]; simp
      have hb3 : Below w.heap.size w w2 := hb.trans (hb2.mono hb.size)
      go_wp2
      go_roundw
      case rel =>
        refine ⟨k + 1, (cur.setIfInBounds (k * 2) (.int .i64 xs[k].1)).setIfInBounds (k * 2 + 1) (.int .i64 xs[k].2), by omega, by go_num, block_set (block_set hblk2 _) _, by simpa using hsz, ?_, (hb3.setCell (Nat.le_refl _) _).setCell (Nat.le_refl _) _⟩
        intro j hj hjk
        by_cases e : j = k
        · subst e; exact ⟨by rw [set_else _ (by omega)]; exact set_self _ (by omega), set_self _ (by simp; omega)⟩
        · rw [set_else _ (by omega), set_else _ (by omega), set_else _ (by omega), set_else _ (by omega)]; exact hdone j hj (by omega)
      case measure => simp [intOf]; omega
    · go_wp2
      go_ret
      exact ⟨rfl, fun j hj => ⟨w.heap.size, 0, rfl, Nat.le_refl _, by rw [block_cell hblk, Nat.zero_add]; exact (hdone j hj (by omega)).1, by rw [block_cell hblk, Nat.zero_add]; exact (hdone j hj (by omega)).2⟩, hb⟩

set_option maxHeartbeats 400000 in
theorem toFunc_any (p l : Int) (a : Option Addr) (xs : List (Int × Int)) (cap : Nat) (w : World) (hn : xs.length ≤ 1048576) (hm : CodeAt w 0 a xs) :
    Calls Tryz.prog 39 #[.agg #[.int .i64 p, .int .i64 l, .slice a xs.length cap]] w fun e w' => ∃ g, w.heap.size ≤ g ∧ e = .returned (.agg #[.int .i64 p, .int .i64 l, .slice (some ⟨g, 0, none⟩) xs.length xs.length]) ∧ CodeAt w' w.heap.size (some ⟨g, 0, none⟩) xs ∧ Below w.heap.size w w' := by
  go_enter Tryz.func39, Tryz.ntmps39
  go_wp2_with fail
  have hbA : Below w.heap.size w (((w.alloc (.cells #[.int .i64 p, .int .i64 l, .slice a xs.length cap] 72)).alloc (.cells #[.int .i64 0, .int .i64 0, .slice none 0 0] 91)).alloc (.cells #[.int .i64 p, .int .i64 l, .slice none 0 0] 91)) :=
    (((Below.refl _ _).alloc (Nat.le_refl _) _).alloc (by simp) _).alloc (by simp; omega) _
  refine (toInsS_any a xs cap _ hn (hm.mono hbA)).mono ?_
  rintro e w1 ⟨rfl, hcode, hb⟩
  have hR := block_kept (block_old (block_new (w.alloc (.cells #[.int .i64 p, .int .i64 l, .slice a xs.length cap] 72)) #[.int .i64 0, .int .i64 0, .slice none 0 0] 91) (.cells #[.int .i64 p, .int .i64 l, .slice none 0 0] 91)) hb
  have hO := block_kept (block_new ((w.alloc (.cells #[.int .i64 p, .int .i64 l, .slice a xs.length cap] 72)).alloc (.cells #[.int .i64 0, .int .i64 0, .slice none 0 0] 91)) #[.int .i64 p, .int .i64 l, .slice none 0 0] 91) hb
  simp only [World.size_alloc] at hR hO hcode
  have r1 := block_cell hR
  have r2 := block_free hR
  have o1 := block_cell hO
  have o2 := block_free hO
  have hb1 : Below w.heap.size w w1 := hbA.trans (hb.mono (by simp; omega))
  go_wp2
  refine bodyPost_ret (v := .agg #[.int .i64 p, .int .i64 l, .slice (some ⟨w.heap.size + 1 + 1 + 1, 0, none⟩) xs.length xs.length]) (by simp [results, Tryz.results39, go_sem, r1]) rfl ⟨_, by omega, rfl, ?_, ?_⟩
  · exact (hcode.above (((((Above.refl _ _).setCell (by simp) _).setCell (by simp) _).setCell (by simp) _).setCell (by simp) _)).low (by omega)
  · exact (((hb1.setCell (by simp; omega) _).setCell (by simp) _).setCell (by simp) _).setCell (by simp) _

theorem info91 : (Tryz.prog.info? 91).map (fun i => (i.zero, i.size, i.bytes)) = some (some (.agg #[.int .i64 0, .int .i64 0, .slice none 0 0]), 3, 40) := by kernel_rfl

set_option maxHeartbeats 400000 in
theorem toFuncS_any (a : Option Addr) (fs : List Fn) (cap : Nat) (w : World) (hn : fs.length ≤ 1048576) (hc : ∀ f ∈ fs, f.code.length ≤ 1048576) (hm : FnsAt w 0 a fs) :
    Calls Tryz.prog 19 #[.slice a fs.length cap] w fun e w' => e = .returned (.slice (some ⟨w.heap.size, 0, none⟩) fs.length fs.length) ∧ FnsAt w' w.heap.size (some ⟨w.heap.size, 0, none⟩) fs ∧ Below w.heap.size w w' := by
  obtain ⟨i0, hi, hz0, hz1, hz2⟩ := info_parts info91
  go_enter Tryz.func19, Tryz.ntmps19
  go_wp2_with (first | (at_make; refine wpList_make_full _ rfl _ _ 33 rfl w.heap.size 91 i0 (.agg #[.int .i64 0, .int .i64 0, .slice none 0 0]) 3 Tryz.underlying33 hi hz0 hz1 _ _ _ _ fs.length rfl rfl rfl rfl (by rw [hz2]; omega) (by unfold maxLen; omega) (Nat.le_refl _) ?_; intro w1 hown hgrow))
  obtain ⟨cur0, hblk, hsz⟩ := made_block hown
  have hb0 : Below w.heap.size w w1 := (Below.refl _ _).grown hgrow (Nat.le_refl _) (by intro k hk; cases hk)
  clear hown hgrow hi hz0 hz1 hz2
  go_loopw [4] (fun i wr => ∃ (k : Nat) (cur : Array Value), k ≤ fs.length ∧ i = .int .i64 k ∧ wr.heap[w.heap.size]? = some (.cells cur 91 (0, 0)) ∧ cur.size = fs.length * 3 ∧
      (∀ j (hj : j < fs.length), j < k → cur[j * 3]? = some (.int .i64 fs[j].params) ∧ cur[j * 3 + 1]? = some (.int .i64 fs[j].locals) ∧ ∃ g, cur[j * 3 + 2]? = some (.slice (some ⟨g, 0, none⟩) fs[j].code.length fs[j].code.length) ∧ CodeAt wr (w.heap.size + 1) (some ⟨g, 0, none⟩) fs[j].code) ∧ Below w.heap.size w wr) (fun i _ => fs.length - (intOf i).toNat)
  case atStart => exact ⟨0, cur0, by omega, rfl, hblk, hsz, fun j _ h => by omega, hb0⟩
  case round =>
    obtain ⟨k, cur, hk, rfl, hblk, hsz, hdone, hb⟩ := hrel
    by_cases hlt : k < fs.length
    · obtain ⟨b, off, ca, cc, rfl, -, c1, c2, c3, c4⟩ := hm k hlt
      have c1' := cell_later hb c1
      have c2' := cell_later hb c2
      have c3' := cell_later hb c3
      clear c1 c2 c3
      have hgs : w.heap.size < wr.heap.size := by
        rcases Nat.lt_or_ge w.heap.size wr.heap.size with h | h
        · exact h
        · rw [Array.getElem?_eq_none h] at hblk; cases hblk
      have hck := hc fs[k] (List.getElem_mem hlt)
      go_wp2_with fail
      refine (toFunc_any _ _ _ _ _ _ hck (c4.mono hb)).mono ?_
      rintro e w2 ⟨g, hg, rfl, hcode, hb2⟩
      have hblk2 := block_kept hblk hb2
      have hfz := block_free hblk2
      have hcl : w2.cell? ⟨w.heap.size, k * 3, none⟩ = some cur[k * 3] := by rw [block_cell hblk2]; simp
      have hcl2 : w2.cell? ⟨w.heap.size, k * 3 + 1, none⟩ = some cur[k * 3 + 1] := by rw [block_cell hblk2]; simp
      have hcl3 : w2.cell? ⟨w.heap.size, k * 3 + 2, none⟩ = some cur[k * 3 + 2] := by rw [block_cell hblk2]; simp
      have hb3 : Below w.heap.size w w2 := hb.trans (hb2.mono hb.size)
      go_wp2
      go_roundw
      case rel =>
        have hab : Above (w.heap.size + 1) w2 (((w2.setCell ⟨w.heap.size, k * 3, none⟩ (.int .i64 fs[k].params)).setCell ⟨w.heap.size, k * 3 + 1, none⟩ (.int .i64 fs[k].locals)).setCell ⟨w.heap.size, k * 3 + 2, none⟩ (.slice (some ⟨g, 0, none⟩) fs[k].code.length fs[k].code.length)) :=
          (((Above.refl _ _).setCell (by simp) _).setCell (by simp) _).setCell (by simp) _
        refine ⟨k + 1, ((cur.setIfInBounds (k * 3) (.int .i64 fs[k].params)).setIfInBounds (k * 3 + 1) (.int .i64 fs[k].locals)).setIfInBounds (k * 3 + 2) (.slice (some ⟨g, 0, none⟩) fs[k].code.length fs[k].code.length), by omega, by go_num, block_set (block_set (block_set hblk2 _) _) _, by simpa using hsz, ?_, ((hb3.setCell (Nat.le_refl _) _).setCell (Nat.le_refl _) _).setCell (Nat.le_refl _) _⟩
        intro j hj hjk
        by_cases e : j = k
        · subst e
          refine ⟨?_, ?_, g, ?_, (hcode.low (by omega)).above hab⟩
          · rw [set_else _ (by omega), set_else _ (by omega)]; exact set_self _ (by omega)
          · rw [set_else _ (by omega)]; exact set_self _ (by simp; omega)
          · exact set_self _ (by simp; omega)
        · obtain ⟨d1, d2, g', d3, d4⟩ := hdone j hj (by omega)
          refine ⟨?_, ?_, g', ?_, (d4.mono hb2).above hab⟩
          · rw [set_else _ (by omega), set_else _ (by omega), set_else _ (by omega)]; exact d1
          · rw [set_else _ (by omega), set_else _ (by omega), set_else _ (by omega)]; exact d2
          · rw [set_else _ (by omega), set_else _ (by omega), set_else _ (by omega)]; exact d3
      case measure => simp [intOf]; omega
    · go_wp2
      go_ret
      refine ⟨rfl, fun j hj => ?_, hb⟩
      obtain ⟨d1, d2, g', d3, d4⟩ := hdone j hj (by omega)
      exact ⟨w.heap.size, 0, some ⟨g', 0, none⟩, fs[j].code.length, rfl, Nat.le_refl _, by rw [block_cell hblk, Nat.zero_add]; exact d1, by rw [block_cell hblk, Nat.zero_add]; exact d2, by rw [block_cell hblk, Nat.zero_add]; exact d3, d4.low (by omega)⟩

set_option maxHeartbeats 400000 in
theorem toModule_any (a a2 : Option Addr) (ts : List ByteArray) (fs : List Fn) (cap cap2 : Nat) (w : World) (hs : Small ts fs) (hm : StrsAt w 0 a ts) (hm2 : FnsAt w 0 a2 fs) :
    Calls Tryz.prog 7 #[.agg #[.slice a ts.length cap, .slice a2 fs.length cap2]] w fun e w' => ∃ g g2, w.heap.size ≤ g ∧ w.heap.size ≤ g2 ∧ e = .returned (.agg #[.slice (some ⟨g, 0, none⟩) ts.length ts.length, .slice (some ⟨g2, 0, none⟩) fs.length fs.length]) ∧
      StrsAt w' w.heap.size (some ⟨g, 0, none⟩) ts ∧ FnsAt w' w.heap.size (some ⟨g2, 0, none⟩) fs ∧ Below w.heap.size w w' := by
  go_enter Tryz.func7, Tryz.ntmps7
  go_wp2_with fail
  have hbA : Below w.heap.size w (((w.alloc (.cells #[.slice a ts.length cap, .slice a2 fs.length cap2] 25)).alloc (.cells #[.slice none 0 0, .slice none 0 0] 35)).alloc (.cells #[.slice none 0 0, .slice none 0 0] 35)) :=
    (((Below.refl _ _).alloc (Nat.le_refl _) _).alloc (by simp) _).alloc (by simp; omega) _
  refine (toStringS_any a ts cap _ hs.texts (hm.mono hbA)).mono ?_
  rintro e w1 ⟨rfl, hst, hb⟩
  have hB := block_kept (block_old (block_old (block_new w #[.slice a ts.length cap, .slice a2 fs.length cap2] 25) (.cells #[.slice none 0 0, .slice none 0 0] 35)) (.cells #[.slice none 0 0, .slice none 0 0] 35)) hb
  have hR := block_kept (block_old (block_new (w.alloc (.cells #[.slice a ts.length cap, .slice a2 fs.length cap2] 25)) #[.slice none 0 0, .slice none 0 0] 35) (.cells #[.slice none 0 0, .slice none 0 0] 35)) hb
  have hO := block_kept (block_new ((w.alloc (.cells #[.slice a ts.length cap, .slice a2 fs.length cap2] 25)).alloc (.cells #[.slice none 0 0, .slice none 0 0] 35)) #[.slice none 0 0, .slice none 0 0] 35) hb
  simp only [World.size_alloc] at hB hR hO hst
  have hz1 := hb.size
  simp only [World.size_alloc] at hz1
  have hb1 : Below w.heap.size w w1 := hbA.trans (hb.mono (by simp; omega))
  have b1 := block_cell hB
  have o1 := block_cell hO
  have o2 := block_free hO
  go_wp2_with fail
  have hb1' : Below w.heap.size w (w1.setCell ⟨w.heap.size + 1 + 1, 0, none⟩ (.slice (some ⟨w.heap.size + 1 + 1 + 1, 0, none⟩) ts.length ts.length)) := hb1.setCell (by simp; omega) _
  refine (toFuncS_any a2 fs cap2 _ hs.funcs hs.code (hm2.mono hb1')).mono ?_
  rintro e w2 ⟨rfl, hfn, hb2⟩
  have hR2 := block_kept (w' := w2) (show (w1.setCell ⟨w.heap.size + 1 + 1, 0, none⟩ (.slice (some ⟨w.heap.size + 1 + 1 + 1, 0, none⟩) ts.length ts.length)).heap[w.heap.size + 1]? = _ by rw [Below.heap_setCell _ _ _ _ (by simp)]; exact hR) hb2
  have hO2 := block_kept (w' := w2) (block_set (i := 0) hO (.slice (some ⟨w.heap.size + 1 + 1 + 1, 0, none⟩) ts.length ts.length)) hb2
  have hst2 : StrsAt w2 (w.heap.size + 1 + 1 + 1) (some ⟨w.heap.size + 1 + 1 + 1, 0, none⟩) ts := (hst.above ((Above.refl _ _).setCell (p := ⟨w.heap.size + 1 + 1, 0, none⟩) (by simp) (.slice (some ⟨w.heap.size + 1 + 1 + 1, 0, none⟩) ts.length ts.length))).mono hb2
  simp only [World.size_setCell] at hfn hb2 ⊢
  have hb3 : Below w.heap.size w w2 := hb1'.trans (hb2.mono (by omega))
  simp at hO2
  have r1 := block_cell hR2
  have r2 := block_free hR2
  have p1 := block_cell hO2
  have p2 := block_free hO2
  clear hB hR hO b1 o1 o2 hR2 hO2 hst hb hb2 hbA hb1'
  go_wp2
  refine bodyPost_ret (v := .agg #[(.slice (some ⟨w.heap.size + 1 + 1 + 1, 0, none⟩) ts.length ts.length), .slice (some ⟨w1.heap.size, 0, none⟩) fs.length fs.length]) (by simp [results, Tryz.results7, go_sem, r1]) rfl ⟨w.heap.size + 1 + 1 + 1, w1.heap.size, by omega, by omega, rfl, ?_, ?_, ?_⟩
  · exact (hst2.above ((((Above.refl _ _).setCell (by simp) _).setCell (by simp) _).setCell (by simp) _)).low (by omega)
  · exact (hfn.above ((((Above.refl _ _).setCell (by simp; omega) _).setCell (by simp; omega) _).setCell (by simp; omega) _)).low (by omega)
  · exact ((hb3.setCell (by simp; omega) _).setCell (by simp) _).setCell (by simp) _
end Go.Proofs.YtcbknjjnphknbaaGreatDoor

namespace Go.Proofs.YtcbknjjnphknbaaGreatDoor
open Go.RowKit

/-- A block of so many values. -/
def ValsBlk (w : World) (g n : Nat) : Prop := ∃ cur : Array Value, w.heap[g]? = some (Obj.cells cur 102 (0, 0)) ∧ cur.size = n * 3
theorem ValsBlk.mono {w w' : World} {g n : Nat} (h : ValsBlk w g n) (hb : Below w.heap.size w w') : ValsBlk w' g n := by
  obtain ⟨c, h1, h2⟩ := h
  exact ⟨c, block_kept h1 hb, h2⟩

theorem info102 : (Tryz.prog.info? 102).map (fun i => (i.zero, i.size, i.bytes)) = some (some (.agg #[.int .i64 0, .int .i64 0, .string ByteArray.empty]), 3, 32) := by kernel_rfl

theorem info290 : (Tryz.prog.info? 290).map (fun i => (i.zero, i.size, i.bytes)) = some (some (.agg #[.slice none 0 0]), 1, 24) := by kernel_rfl
theorem info148 : (Tryz.prog.info? 148).map (fun i => (i.zero, i.size, i.bytes)) = some (some (.agg #[.int .i64 0, .int .i64 0, .slice none 0 0, .slice none 0 0]), 4, 64) := by kernel_rfl

end Go.Proofs.YtcbknjjnphknbaaGreatDoor
namespace Go.Proofs.YtcbknjjnphknbaaGreatDoor
open Go.RowKit

/-- The cells of a state. -/
def vmCells (fa ha oa : Option Addr) (fc hcp oc : Nat) (d : VmD) : Array Value := #[.slice fa d.frames.length fc, .slice ha d.heap.length hcp, .int .i64 d.made, .slice oa d.out.length oc, .int .i64 d.status, .int .i64 d.trap, .int .i64 d.value.k, .int .i64 d.value.n, .string d.value.s, .int .i64 d.steps]

structure VmAt (w : World) (lo : Nat) (fa ha oa : Option Addr) (d : VmD) : Prop where
  frs : FrsAt w lo fa d.frames
  recs : RecsAt w lo ha d.heap
  out : StrsAt w lo oa d.out
theorem VmAt.mono {w w' : World} {lo : Nat} {fa ha oa : Option Addr} {d : VmD} (h : VmAt w lo fa ha oa d) (hb : Below w.heap.size w w') : VmAt w' lo fa ha oa d := ⟨h.frs.mono hb, h.recs.mono hb, h.out.mono hb⟩
theorem VmAt.low {w : World} {lo lo' : Nat} {fa ha oa : Option Addr} {d : VmD} (h : VmAt w lo fa ha oa d) (hl : lo' ≤ lo) : VmAt w lo' fa ha oa d := ⟨h.frs.low hl, h.recs.low hl, h.out.low hl⟩
theorem VmAt.above {w w' : World} {lo : Nat} {fa ha oa : Option Addr} {d : VmD} (h : VmAt w lo fa ha oa d) (hb : Above lo w w') : VmAt w' lo fa ha oa d := ⟨h.frs.above hb, h.recs.above hb, h.out.above hb⟩

end Go.Proofs.YtcbknjjnphknbaaGreatDoor

namespace Go.Proofs.YtcbknjjnphknbaaGreatDoor
open Go.RowKit

open Classical in
/-- The heights of a function: those that rounds come to. -/
noncomputable def dep (fs : List Fn) (code : List (Int × Int)) : List Int := if h : ∃ d, Done fs code d then h.choose else []
theorem dep_of {fs : List Fn} {code : List (Int × Int)} {d : List Int} (h : Done fs code d) : dep fs code = d := by
  have hx : ∃ d, Done fs code d := ⟨d, h⟩
  unfold dep
  rw [dif_pos hx]
  exact hx.choose_spec.one h

def fnAt (fs : List Fn) (f : Int) : Fn := fs.getD f.toNat ⟨0, 0, []⟩
theorem fnAt_of {fs : List Fn} {i : Nat} (h : i < fs.length) : fnAt fs (i : Int) = fs[i] := by
  unfold fnAt
  rw [Int.toNat_natCast, List.getD_eq_getElem?_getD, List.getElem?_eq_getElem h]
  rfl
noncomputable def ht (fs : List Fn) (f pc : Int) : Int := (dep fs (fnAt fs f).code).getD pc.toNat (-1)
def opAt (fs : List Fn) (f pc : Int) : Int := ((fnAt fs f).code.getD pc.toNat (0, 0)).1
theorem ht_of {fs : List Fn} {i p : Nat} (h : i < fs.length) {d : List Int} (hD : Done fs fs[i].code d) (hp : p < d.length) : ht fs (i : Int) (p : Int) = d[p] := by
  unfold ht
  rw [fnAt_of h, dep_of hD, Int.toNat_natCast, List.getD_eq_getElem?_getD, List.getElem?_eq_getElem hp]
  rfl
theorem opAt_of {fs : List Fn} {i p : Nat} (h : i < fs.length) (hp : p < fs[i].code.length) : opAt fs (i : Int) (p : Int) = fs[i].code[p].1 := by
  unfold opAt
  rw [fnAt_of h, Int.toNat_natCast, List.getD_eq_getElem?_getD, List.getElem?_eq_getElem hp]
  rfl

/-- A frame of function f at pc with nl locals and a stack of ns values may stand. -/
def Fits (fs : List Fn) (f pc nl ns : Int) (last : Bool) : Prop := 0 ≤ f ∧ f < (fs.length : Int) ∧ nl = (fnAt fs f).locals ∧ 0 ≤ pc ∧ pc < ((fnAt fs f).code.length : Int) ∧ 0 ≤ ht fs f pc ∧
  ((last = true ∧ ns = ht fs f pc) ∨ (last = false ∧ 1 ≤ pc ∧ 0 ≤ ht fs f (pc - 1) ∧ (opAt fs f (pc - 1) = 23 ∨ opAt fs f (pc - 1) = 24) ∧ ns = ht fs f pc - 1))

/-- A truth is told. -/
def Says (P : Prop) (e : Ending) : Prop := ∃ b : Bool, e = .returned (.bool b) ∧ (b = true ↔ P)
theorem Says.no {P : Prop} {e : Ending} (he : e = .returned (.bool false)) (h : ¬ P) : Says P e := ⟨false, he, by simpa using h⟩
theorem Says.yes {P : Prop} {e : Ending} (he : e = .returned (.bool true)) (h : P) : Says P e := ⟨true, he, by simpa using h⟩

section
variable {fs : List Fn} {i p : Nat} {nl ns : Int} {last : Bool} {d : List Int}
theorem fits_fn {f pc : Int} (h : f < 0 ∨ (fs.length : Int) ≤ f) : ¬ Fits fs f pc nl ns last := fun ⟨h1, h2, _⟩ => by omega
theorem fits_locals {pc : Int} (hi : i < fs.length) (h : nl ≠ fs[i].locals) : ¬ Fits fs i pc nl ns last := fun ⟨_, _, h3, _⟩ => by rw [fnAt_of hi] at h3; exact h h3
theorem fits_pc {pc : Int} (hi : i < fs.length) (h : pc < 0 ∨ (fs[i].code.length : Int) ≤ pc) : ¬ Fits fs i pc nl ns last := fun ⟨_, _, _, h4, h5, _⟩ => by rw [fnAt_of hi] at h5; omega
theorem fits_none (hi : i < fs.length) (hD : Done fs fs[i].code d) (hp : p < d.length) (h : d[p] < 0) : ¬ Fits fs i p nl ns last := fun ⟨_, _, _, _, _, h6, _⟩ => by rw [ht_of hi hD hp] at h6; omega
theorem fits_last (hi : i < fs.length) (hD : Done fs fs[i].code d) (hp : p < d.length) (hl : d.length = fs[i].code.length) (hn : nl = fs[i].locals) (h : 0 ≤ d[p]) : Fits fs i p nl ns true ↔ ns = d[p] := by
  unfold Fits
  rw [ht_of hi hD hp, fnAt_of hi]
  constructor
  · rintro ⟨-, -, -, -, -, -, ⟨-, h⟩ | ⟨h, -⟩⟩
    · exact h
    · cases h
  · intro e
    exact ⟨by omega, by omega, hn, by omega, by omega, h, .inl ⟨rfl, e⟩⟩
theorem fits_first : ¬ Fits fs i ((0 : Nat) : Int) nl ns false := by
  rintro ⟨-, -, -, -, -, -, ⟨h, -⟩ | ⟨-, h, -⟩⟩
  · cases h
  · omega
theorem fits_other (hi : i < fs.length) (hD : Done fs fs[i].code d) (hp : p + 1 < d.length) (hl : d.length = fs[i].code.length) (hn : nl = fs[i].locals) (h : 0 ≤ d[p + 1]) :
    Fits fs i ((p + 1 : Nat) : Int) nl ns false ↔ (0 ≤ d[p] ∧ (fs[i].code[p].1 = 23 ∨ fs[i].code[p].1 = 24) ∧ ns = d[p + 1] - 1) := by
  unfold Fits
  rw [ht_of hi hD hp, show ((p + 1 : Nat) : Int) - 1 = (p : Int) by omega, ht_of hi hD (by omega), opAt_of hi (by omega), fnAt_of hi]
  constructor
  · rintro ⟨-, -, -, -, -, -, ⟨h, -⟩ | ⟨-, -, h1, h2, h3⟩⟩
    · cases h
    · exact ⟨h1, h2, h3⟩
  · rintro ⟨h1, h2, h3⟩
    exact ⟨by omega, by omega, hn, by omega, by omega, h, .inr ⟨rfl, by omega, h1, h2, h3⟩⟩
end
end Go.Proofs.YtcbknjjnphknbaaGreatDoor
namespace Go.Proofs.YtcbknjjnphknbaaGreatDoor
open Go.RowKit

def fewB (r : List Vl) : Bool := decide (r.length ≤ 6)
def Room (d : VmD) : Prop := (d.heap.length : Int) ≤ d.made ∧ d.made ≤ 120 ∧ d.heap.all fewB = true ∧ d.out.length ≤ 200 ∧ 0 ≤ d.steps ∧ d.steps ≤ 50000 ∧ d.out.all textB = true
def frVals (nf : Nat) (r : Int) (f : Fr) : Bool := valsB f.locals nf r && valsB f.stack nf r
def reVals (nf : Nat) (r : Int) (l : List Vl) : Bool := valsB l nf r
def Vals (nf : Nat) (d : VmD) : Prop := d.frames.all (frVals nf d.heap.length) = true ∧ d.heap.all (reVals nf d.heap.length) = true ∧ okB nf d.heap.length d.value = true
def Frames (fs : List Fn) (d : VmD) : Prop := (d.status = 1 ∧ d.frames.length = 0 ∧ d.trap = 0) ∨
  (((d.status = 0 ∧ d.trap = 0) ∨ (d.status = 2 ∧ 1 ≤ d.trap ∧ d.trap ≤ 8)) ∧ 1 ≤ d.frames.length ∧ d.frames.length ≤ 24 ∧ (d.value.k = 0 ∧ d.value.n = 0 ∧ d.value.s = ⟨#[]⟩) ∧
    ∀ i (h : i < d.frames.length), Fits fs d.frames[i].fn d.frames[i].pc d.frames[i].locals.length d.frames[i].stack.length (decide ((i : Int) = (d.frames.length : Int) - 1)))

end Go.Proofs.YtcbknjjnphknbaaGreatDoor

namespace Go.Proofs.YtcbknjjnphknbaaGreatDoor
open Go.RowKit Go.Shelf

attribute [local go_sem] Oper.semAt_some

/-- A jump, with its place: both it and what is behind it are within a set of bits. -/
structure Jp where
  at' : Nat
  op : Int
  a : Nat
  h1 : at' + 1 < 128
  h2 : a < 128

/-- Whether instruction k is a jump that one comes to. -/
def isJ (code : List (Int × Int)) (d : List Int) (k : Nat) : Prop := d.getD k (-1) ≠ -1 ∧ ((code.getD k (0, 0)).1 = 17 ∨ (code.getD k (0, 0)).1 = 18 ∨ (code.getD k (0, 0)).1 = 19)
/-- What is asked of jumps. -/
def JOk (code : List (Int × Int)) : Prop := code.length ≤ 120 ∧ ∀ k, k < code.length → ((code.getD k (0, 0)).1 = 17 ∨ (code.getD k (0, 0)).1 = 18 ∨ (code.getD k (0, 0)).1 = 19) → 0 ≤ (code.getD k (0, 0)).2 ∧ (code.getD k (0, 0)).2 < 120
open Classical in
/-- The jumps among the first k. -/
noncomputable def jl (code : List (Int × Int)) (d : List Int) : Nat → List Jp
  | 0 => []
  | k + 1 => if h : isJ code d k ∧ k + 1 < 128 ∧ (code.getD k (0, 0)).2.toNat < 128 then jl code d k ++ [⟨k, (code.getD k (0, 0)).1, (code.getD k (0, 0)).2.toNat, h.2.1, h.2.2⟩] else jl code d k
theorem jl_no {code : List (Int × Int)} {d : List Int} {k : Nat} (h : ¬ isJ code d k) : jl code d (k + 1) = jl code d k := dif_neg (fun q => h q.1)
theorem jl_yes {code : List (Int × Int)} {d : List Int} {k : Nat} (H : JOk code) (hk : k < code.length) (h : isJ code d k) :
    ∃ x : Jp, x.at' = k ∧ x.op = code[k].1 ∧ (x.a : Int) = code[k].2 ∧ jl code d (k + 1) = jl code d k ++ [x] := by
  have h2 := H.2 k hk h.2
  have hl := H.1
  have e : code.getD k (0, 0) = code[k] := by rw [List.getD_eq_getElem?_getD, List.getElem?_eq_getElem hk]; rfl
  refine ⟨⟨k, (code.getD k (0, 0)).1, (code.getD k (0, 0)).2.toNat, by omega, by omega⟩, rfl, by show (code.getD k (0, 0)).1 = _; rw [e], by show (((code.getD k (0, 0)).2.toNat : Nat) : Int) = _; rw [← e]; omega, dif_pos ⟨h, by omega, by omega⟩⟩
theorem jl_len (code : List (Int × Int)) (d : List Int) (k : Nat) : (jl code d k).length ≤ k := by
  induction k with
  | zero => simp [jl]
  | succ k ih =>
    unfold jl
    split
    · simp; omega
    · omega

def encJ (x : Jp) : Array Value := #[.int .i64 (x.at' : Int), .agg #[.int .i64 x.op, .int .i64 (x.a : Int)]]

set_option maxRecDepth 100000 in
set_option maxHeartbeats 1000000 in
theorem jumpOp_any (op : Int) (w : World) : Calls Tryz.prog 123 #[.int .i64 op] w fun e w' => e = .returned (.bool (decide (op = 17 ∨ op = 18 ∨ op = 19))) ∧ w' = w := by
  by_cases h1 : op = 17
  · subst h1
    go_enter Tryz.func123, Tryz.ntmps123
    go_wp2
    go_ret
    exact ⟨rfl, rfl⟩
  by_cases h2 : op = 18
  · subst h2
    go_enter Tryz.func123, Tryz.ntmps123
    go_wp2
    go_ret
    exact ⟨rfl, rfl⟩
  by_cases h3 : op = 19
  · subst h3
    go_enter Tryz.func123, Tryz.ntmps123
    go_wp2
    go_ret
    exact ⟨rfl, rfl⟩
  rw [decide_eq_false (by omega)]
  go_enter Tryz.func123, Tryz.ntmps123
  go_wp2
  go_ret
  exact ⟨rfl, rfl⟩

/-- What a round keeps. -/
def Kq (n₀ Bh : Nat) (W W' : World) : Prop := Below n₀ W W' ∧ ∀ o, W.heap[Bh]? = some o → W'.heap[Bh]? = some o
theorem Kq.trans {n₀ Bh : Nat} {A B C : World} (h : Kq n₀ Bh A B) (k : Kq n₀ Bh B C) : Kq n₀ Bh A C := ⟨h.1.trans k.1, fun o ho => k.2 o (h.2 o ho)⟩
theorem Kq.put {n₀ Bh : Nat} {w : World} (hn : n₀ ≤ w.heap.size) (hB : Bh < w.heap.size) (W : World) (l : Nat) (o o' : Obj) (hl : w.heap.size ≤ l) (h : W.heap[l]? = some o) (h1 : o.isCells = false) (h2 : o.isWalk = false) : Kq n₀ Bh W (W.putObj l o') :=
  ⟨belowK_b hn W l o o' hl h h1 h2, fun x hx => (World.putObj_heap_other (by omega)).trans hx⟩

set_option maxRecDepth 100000 in
set_option maxHeartbeats 2000000 in
theorem jumps1_in (n : Nat) (hn : 2 ≤ n) (l Bc Bh n₀ g cap cc : Nat) (ca : Option Addr) (code : List (Int × Int)) (d : List Int) (HJ : JOk code) (hd : d.length = code.length) (J Jx : List Jp → World → Prop)
    (hY : ∀ pre x W, J pre W → pre.length < code.length → YieldAt Fence.wide (n - 1) Tryz.prog l (encJ x) W fun e W' =>
      (e = .returned (.bool true) ∧ J (pre ++ [x]) W' ∧ Kq n₀ Bh W W') ∨ (e = .returned (.bool false) ∧ Jx (pre ++ [x]) W'))
    (W : World) (hJ : AbidesFrom W.heap.size J) (hBc : W.cell? ⟨Bc, 0, none⟩ = some (.slice ca code.length cc)) (hBh : W.heap[Bh]? = some (.cells #[.slice (some ⟨g, 0, none⟩) code.length code.length] 87 (0, 0)))
    (hcode : CodeAt W 0 ca code) (hclt : ∀ b off, ca = some ⟨b, off, none⟩ → b < n₀) (hH : Ht W g cap d) (hg : g < n₀) (hn₀ : n₀ ≤ W.heap.size) (h0 : J [] W) :
    CallsIn Fence.wide n Tryz.prog 122 #[.func (.yield l) #[] #[], .pointer (some ⟨Bc, 0, none⟩), .pointer (some ⟨Bh, 0, none⟩)] W fun e W' => (∃ v, e = .returned v) ∧
      ((∃ ys, ys = jl code d code.length ∧ J ys W') ∨ (∃ pre, True ∧ Jx pre W')) := by
  refine callsIn_of_wp Tryz.func122 rfl trivial ?_ rfl
  simp only [Tryz.ntmps122, List.size_toArray, List.length_cons, List.length_nil, Nat.reduceAdd, Nat.reduceSub, Array.replicate_succ, Array.replicate_zero, List.push_toArray, List.append_toArray, List.nil_append, List.cons_append]
  gi_wp2
  gi_loopw [8] (fun i wr => ∃ k : Nat, k ≤ code.length ∧ i = .int .i64 k ∧ J (jl code d k) wr ∧ Below n₀ W wr ∧ wr.heap[Bh]? = some (.cells #[.slice (some ⟨g, 0, none⟩) code.length code.length] 87 (0, 0)))
    (fun i _ => code.length - (intOf i).toNat)
  case atStart => exact ⟨0, Nat.zero_le _, rfl, h0, Below.refl _ _, hBh⟩
  case round =>
    obtain ⟨k, hk, rfl, hJs, hnx, hB⟩ := hrel
    by_cases hlt : k < code.length
    case neg =>
      obtain rfl : k = code.length := by omega
      gi_wp2
      go_end0
      exact ⟨⟨_, rfl⟩, .inl ⟨_, rfl, hJs⟩⟩
    have hkd : k < d.length := by omega
    have hl120 := HJ.1
    obtain ⟨b, off, rfl, -, c1, c2⟩ := hcode k hlt
    have hb := hclt b off rfl
    obtain ⟨wx, hwx⟩ : ∃ wx, wx = wr.alloc (.cells #[.int .i64 code[k].1, .int .i64 code[k].2] 135) := ⟨_, rfl⟩
    have hbx : Below wr.heap.size wr wx := by rw [hwx]; exact (Below.refl _ _).alloc (Nat.le_refl _) _
    have hnw : n₀ ≤ wr.heap.size := Nat.le_trans hn₀ hnx.size
    have hJx0 : J (jl code d k) wx := by rw [hwx]; exact hJ _ wr _ none hJs (World.grownBy_alloc wr _ none) (fun r e => by cases e)
    have c1' := (hnx.cell (p := ⟨b, off + k * 2, none⟩) hb).trans c1
    have c2' := (hnx.cell (p := ⟨b, off + k * 2 + 1, none⟩) hb).trans c2
    have c3 := (hnx.cell (p := ⟨g, k, none⟩) hg).trans (hH.cell hkd)
    have HC3 : Hid (wx.cell? ⟨g, k, none⟩ = some (.int .i64 d[k])) := cell_later hbx c3
    have HB3 : Hid (wx.heap[Bh]? = some (.cells #[.slice (some ⟨g, 0, none⟩) code.length code.length] 87 (0, 0))) := block_kept hB hbx
    have HX3 : Hid (wx.heap[wr.heap.size]? = some (.cells #[.int .i64 code[k].1, .int .i64 code[k].2] 135 (0, 0))) := by show _ = _; rw [hwx]; exact block_new _ _ _
    have ed : d.getD k (-1) = d[k] := by rw [List.getD_eq_getElem?_getD, List.getElem?_eq_getElem hkd]; rfl
    have ec : code.getD k (0, 0) = code[k] := by rw [List.getD_eq_getElem?_getD, List.getElem?_eq_getElem hlt]; rfl
    clear c1 c2 c3
    have c3 := cell_later (wx := wr.alloc (.cells #[.int .i64 code[k].1, .int .i64 code[k].2] 135)) ((Below.refl _ _).alloc (Nat.le_refl _) _) ((hnx.cell (p := ⟨g, k, none⟩) hg).trans (hH.cell hkd))
    have c4 := block_cell (block_old hB (.cells #[.int .i64 code[k].1, .int .i64 code[k].2] 135))
    have HJs : Hid (J (jl code d k) wx) := hJx0
    have HB0 : Hid (Below n₀ W wx) := hnx.trans (hbx.mono hnw)
    have HED : Hid (isJ code d k ↔ d[k] ≠ -1 ∧ (code[k].1 = 17 ∨ code[k].1 = 18 ∨ code[k].1 = 19)) := by show _ ↔ _; unfold isJ; rw [ed, ec]
    clear ed ec hJx0 hJs
    by_cases hz : d[k] = -1
    · have HNo : Hid (jl code d (k + 1) = jl code d k) := jl_no (fun h => (HED.out.1 h).1 hz)
      have c3' := c3
      rw [hz] at c3'
      clear c3
      gi_wp2
      refine ⟨trivial, ?_⟩
      gi_wp2
      refine ⟨fun _ h => (by cases h), ?_⟩
      gi_wp2
      rw [← hwx]
      go_roundw
      case rel => exact ⟨k + 1, by omega, by go_num, by rw [HNo.out]; exact HJs.out, HB0.out, HB3.out⟩
      case measure => simp [intOf]; omega
    have hz' : (d[k] != -1) = true := by simpa using hz
    by_cases hj : code[k].1 = 17 ∨ code[k].1 = 18 ∨ code[k].1 = 19
    case neg =>
      have HNo : Hid (jl code d (k + 1) = jl code d k) := jl_no (fun h => hj (HED.out.1 h).2)
      gi_wp2
      refine ⟨trivial, fun _ => by omega, ?_⟩
      refine (callsIn_wide.2 (jumpOp_any _ _)).mono ?_
      rintro e w1 ⟨rfl, rfl⟩
      rw [decide_eq_false hj]
      gi_wp2
      refine ⟨fun _ h => (by cases h), ?_⟩
      gi_wp2
      rw [← hwx]
      go_roundw
      case rel => exact ⟨k + 1, by omega, by go_num, by rw [HNo.out]; exact HJs.out, HB0.out, HB3.out⟩
      case measure => simp [intOf]; omega
    obtain ⟨x, hx1, hx2, hx3, hx4⟩ := jl_yes HJ hlt (HED.out.2 ⟨hz, hj⟩)
    have HX4 : Hid (jl code d (k + 1) = jl code d k ++ [x]) := hx4
    clear hx4
    obtain ⟨fn, tmps, assign, body, hy, hR⟩ := hY _ x wx HJs.out (Nat.lt_of_le_of_lt (jl_len _ _ _) hlt)
    simp only [encJ, hx1, hx2, hx3] at hy
    rw [hwx] at hy
    have x5 := block_cell (block_new wr #[.int .i64 code[k].1, .int .i64 code[k].2] 135)
    gi_wp2
    refine ⟨trivial, fun _ => by omega, ?_⟩
    refine (callsIn_wide.2 (jumpOp_any _ _)).mono ?_
    rintro e w1 ⟨rfl, rfl⟩
    rw [decide_eq_true hj]
    gi_wp2
    refine ⟨fun _ => by omega, ?_⟩
    rw [← hwx]
    refine hR.mono ?_
    rintro e W3 (⟨rfl, hJ3, hk3⟩ | ⟨rfl, hJx3⟩)
    · gi_wp2
      go_roundw
      case rel => exact ⟨k + 1, by omega, by go_num, by rw [HX4.out]; exact hJ3, HB0.out.trans hk3.1, hk3.2 _ HB3.out⟩
      case measure => simp [intOf]; omega
    · gi_wp2
      refine bodyPost_ret (results_none rfl _ _ _) rfl ?_
      exact ⟨⟨_, rfl⟩, .inr ⟨_, trivial, hJx3⟩⟩

set_option maxHeartbeats 1000000 in
theorem jumps_any (a b : Option Addr) (n c n2 c2 : Nat) (w : World) :
    Calls Tryz.prog 91 #[.slice a n c, .slice b n2 c2] w fun e w' => e = .returned (.func (.func 122) #[] #[.pointer (some ⟨w.heap.size, 0, none⟩), .pointer (some ⟨w.heap.size + 1, 0, none⟩)]) ∧ w' = (w.alloc (.cells #[.slice a n c] 89)).alloc (.cells #[.slice b n2 c2] 87) := by
  go_enter Tryz.func91, Tryz.ntmps91
  go_wp2
  go_ret
  exact ⟨rfl, rfl⟩

theorem jumps_stops (n : Nat) (hn : 2 ≤ n) (Bc Bh n₀ g cap cc : Nat) (ca : Option Addr) (code : List (Int × Int)) (d : List Int) (HJ : JOk code) (hd : d.length = code.length) (w : World)
    (hBc : w.cell? ⟨Bc, 0, none⟩ = some (.slice ca code.length cc)) (hBcl : Bc < w.heap.size) (hBh : w.heap[Bh]? = some (.cells #[.slice (some ⟨g, 0, none⟩) code.length code.length] 87 (0, 0)))
    (hcode : CodeAt w 0 ca code) (hclt : ∀ b off, ca = some ⟨b, off, none⟩ → b < n₀) (hH : Ht w g cap d) (hg : g < n₀) (hn₀ : n₀ ≤ w.heap.size) :
    SeqStopsK Fence.wide n Tryz.prog 122 #[.pointer (some ⟨Bc, 0, none⟩), .pointer (some ⟨Bh, 0, none⟩)] encJ (Kq n₀ Bh) (fun ys => ys = jl code d code.length) (fun _ => True) code.length w := fun l J Jx W hW hJ _ hY h0 =>
  jumps1_in n hn l Bc Bh n₀ g cap cc ca code d HJ hd J Jx hY W hJ ((hW.cell (p := ⟨Bc, 0, none⟩) hBcl).trans hBc) (block_kept hBh hW) (hcode.mono hW) hclt (hH.mono hW) hg (Nat.le_trans hn₀ hW.size) h0
end Go.Proofs.YtcbknjjnphknbaaGreatDoor
