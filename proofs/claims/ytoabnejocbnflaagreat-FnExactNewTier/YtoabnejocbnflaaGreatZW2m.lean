/-
  What the copying functions of the laws (to..) return: a copy in new memory, in blocks that may be written; nothing that was there is written.
-/
import Derived.Test.YtoabnejocbnflaaGreatZW2
import Derived.Test.YtoabnejocbnflaaGreatZMem3
namespace Go.Proofs.YtoabnejocbnflaaGreat
open Go.RowKit

set_option maxHeartbeats 400000 in
theorem toStringS_made (a : Option Addr) (ss : List ByteArray) (cap : Nat) (w : World) (hn : ss.length ≤ 1048576) (hm : StrsAt w 0 a ss) :
    Calls Tryz.prog 21 #[.slice a ss.length cap] w fun e w' => e = .returned (.slice (some ⟨w.heap.size, 0, none⟩) ss.length ss.length) ∧ StrsAt w' w.heap.size (some ⟨w.heap.size, 0, none⟩) ss ∧ Below w.heap.size w w' ∧ TextBlk w' w.heap.size ss.length := by
  obtain ⟨i0, hi, hz0, hz1, hz2⟩ := info_parts info9
  go_enter Tryz.func21, Tryz.ntmps21
  go_wp2_with (first | (at_make; refine wpList_make_full _ rfl _ _ 22 rfl w.heap.size 9 i0 (.string ByteArray.empty) 1 Tryz.underlying22 hi hz0 hz1 _ _ _ _ ss.length rfl rfl rfl rfl (by rw [hz2]; omega) (by unfold maxLen; omega) (Nat.le_refl _) ?_; intro w1 hown hgrow))
  obtain ⟨cur0, hblk, hsz⟩ := made_block hown
  have hb0 : Below w.heap.size w w1 := (Below.refl _ _).grown hgrow (Nat.le_refl _) (by intro k hk; cases hk)
  clear hown hgrow hi hz0 hz1 hz2
  go_loopw [4] (fun i wr => ∃ (k : Nat) (cur : Array Value), k ≤ ss.length ∧ i = .int .i64 k ∧ wr.heap[w.heap.size]? = some (.cells cur 9 (0, 0)) ∧ cur.size = ss.length * 1 ∧ (∀ j (hj : j < ss.length), j < k → cur[j]? = some (.string ss[j])) ∧ Below w.heap.size w wr) (fun i _ => ss.length - (intOf i).toNat)
  case atStart => exact ⟨0, cur0, by omega, rfl, hblk, hsz, fun j _ h => by omega, hb0⟩
  case round =>
    obtain ⟨k, cur, hk, rfl, hblk, hsz, hdone, hb⟩ := hrel
    by_cases hlt : k < ss.length
    · obtain ⟨b, off, rfl, -, c1⟩ := hm k hlt
      have c1' := cell_later hb c1
      clear c1
      have hfz := block_free hblk k
      have hcl : wr.cell? ⟨w.heap.size, k, none⟩ = some cur[k] := by rw [block_cell hblk k]; simp
      go_wp2
      go_roundw
      case rel =>
        refine ⟨k + 1, cur.setIfInBounds k (.string ss[k]), by omega, by go_num, block_set hblk _, by simpa using hsz, ?_, hb.setCell (Nat.le_refl _) _⟩
        intro j hj hjk
        by_cases e : j = k
        · subst e; exact set_self _ (by omega)
        · rw [set_else _ e]; exact hdone j hj (by omega)
      case measure => simp [intOf]; omega
    · go_wp2
      go_ret
      exact ⟨rfl, fun j hj => ⟨w.heap.size, 0, rfl, Nat.le_refl _, by rw [block_cell hblk, Nat.zero_add]; exact hdone j hj (by omega)⟩, hb, ⟨cur, hblk, by omega⟩⟩

set_option maxHeartbeats 400000 in
theorem toInsS_made (a : Option Addr) (xs : List (Int × Int)) (cap : Nat) (w : World) (hn : xs.length ≤ 1048576) (hm : CodeAt w 0 a xs) :
    Calls Tryz.prog 72 #[.slice a xs.length cap] w fun e w' => e = .returned (.slice (some ⟨w.heap.size, 0, none⟩) xs.length xs.length) ∧ CodeAt w' w.heap.size (some ⟨w.heap.size, 0, none⟩) xs ∧ Below w.heap.size w w' ∧ CodeBlk w' w.heap.size xs.length := by
  obtain ⟨i0, hi, hz0, hz1, hz2⟩ := info_parts info135
  go_enter Tryz.func72, Tryz.ntmps72
  go_wp2_with (first | (at_make; refine wpList_make_full _ rfl _ _ 82 rfl w.heap.size 135 i0 (.agg #[.int .i64 0, .int .i64 0]) 2 Tryz.underlying82 hi hz0 hz1 _ _ _ _ xs.length rfl rfl rfl rfl (by rw [hz2]; omega) (by unfold maxLen; omega) (Nat.le_refl _) ?_; intro w1 hown hgrow))
  obtain ⟨cur0, hblk, hsz⟩ := made_block hown
  have hb0 : Below w.heap.size w w1 := (Below.refl _ _).grown hgrow (Nat.le_refl _) (by intro k hk; cases hk)
  clear hown hgrow hi hz0 hz1 hz2
  go_loopw [4] (fun i wr => ∃ (k : Nat) (cur : Array Value), k ≤ xs.length ∧ i = .int .i64 k ∧ wr.heap[w.heap.size]? = some (.cells cur 135 (0, 0)) ∧ cur.size = xs.length * 2 ∧ (∀ j (hj : j < xs.length), j < k → cur[j * 2]? = some (.int .i64 xs[j].1) ∧ cur[j * 2 + 1]? = some (.int .i64 xs[j].2)) ∧ Below w.heap.size w wr) (fun i _ => xs.length - (intOf i).toNat)
  case atStart => exact ⟨0, cur0, by omega, rfl, hblk, hsz, fun j _ h => by omega, hb0⟩
  case round =>
    obtain ⟨k, cur, hk, rfl, hblk, hsz, hdone, hb⟩ := hrel
    by_cases hlt : k < xs.length
    · obtain ⟨b, off, rfl, -, c1, c2⟩ := hm k hlt
      have c1' := cell_later hb c1
      have c2' := cell_later hb c2
      clear c1 c2
      go_wp2_with fail
      refine (toIns_any _ _ _).mono ?_
      rintro e w2 ⟨rfl, hb2⟩
      have hblk2 := block_kept hblk hb2
      have hfz := block_free hblk2 (k * 2)
      have hfz2 := block_free hblk2 (k * 2 + 1)
      have hcl : w2.cell? ⟨w.heap.size, k * 2, none⟩ = some cur[k * 2] := by rw [block_cell hblk2]; simp
      have hcl2 : w2.cell? ⟨w.heap.size, k * 2 + 1, none⟩ = some cur[k * 2 + 1] := by rw [block_cell hblk2]; simp
      have hb3 : Below w.heap.size w w2 := hb.trans (hb2.mono hb.size)
      go_wp2
      go_roundw
      case rel =>
        refine ⟨k + 1, (cur.setIfInBounds (k * 2) (.int .i64 xs[k].1)).setIfInBounds (k * 2 + 1) (.int .i64 xs[k].2), by omega, by go_num, block_set (block_set hblk2 _) _, by simpa using hsz, ?_, (hb3.setCell (Nat.le_refl _) _).setCell (Nat.le_refl _) _⟩
        intro j hj hjk
        by_cases e : j = k
        · subst e; exact ⟨by rw [set_else _ (by omega)]; exact set_self _ (by omega), set_self _ (by simp; omega)⟩
        · rw [set_else _ (by omega), set_else _ (by omega), set_else _ (by omega), set_else _ (by omega)]; exact hdone j hj (by omega)
      case measure => simp [intOf]; omega
    · go_wp2
      go_ret
      exact ⟨rfl, fun j hj => ⟨w.heap.size, 0, rfl, Nat.le_refl _, by rw [block_cell hblk, Nat.zero_add]; exact (hdone j hj (by omega)).1, by rw [block_cell hblk, Nat.zero_add]; exact (hdone j hj (by omega)).2⟩, hb, ⟨cur, hblk, hsz⟩⟩

set_option maxHeartbeats 400000 in
theorem toFunc_made (p l : Int) (a : Option Addr) (xs : List (Int × Int)) (cap : Nat) (w : World) (hn : xs.length ≤ 1048576) (hm : CodeAt w 0 a xs) :
    Calls Tryz.prog 46 #[.agg #[.int .i64 p, .int .i64 l, .slice a xs.length cap]] w fun e w' => ∃ g, w.heap.size ≤ g ∧ e = .returned (.agg #[.int .i64 p, .int .i64 l, .slice (some ⟨g, 0, none⟩) xs.length xs.length]) ∧ CodeAt w' w.heap.size (some ⟨g, 0, none⟩) xs ∧ Below w.heap.size w w' ∧ CodeBlk w' g xs.length := by
  go_enter Tryz.func46, Tryz.ntmps46
  go_wp2_with fail
  have hbA : Below w.heap.size w (((w.alloc (.cells #[.int .i64 p, .int .i64 l, .slice a xs.length cap] 80)).alloc (.cells #[.int .i64 0, .int .i64 0, .slice none 0 0] 84)).alloc (.cells #[.int .i64 p, .int .i64 l, .slice none 0 0] 84)) :=
    (((Below.refl _ _).alloc (Nat.le_refl _) _).alloc (by simp) _).alloc (by simp; omega) _
  refine (toInsS_made a xs cap _ hn (hm.mono hbA)).mono ?_
  rintro e w1 ⟨rfl, hcode, hb, hcb⟩
  have hR := block_kept (block_old (block_new (w.alloc (.cells #[.int .i64 p, .int .i64 l, .slice a xs.length cap] 80)) #[.int .i64 0, .int .i64 0, .slice none 0 0] 84) (.cells #[.int .i64 p, .int .i64 l, .slice none 0 0] 84)) hb
  have hO := block_kept (block_new ((w.alloc (.cells #[.int .i64 p, .int .i64 l, .slice a xs.length cap] 80)).alloc (.cells #[.int .i64 0, .int .i64 0, .slice none 0 0] 84)) #[.int .i64 p, .int .i64 l, .slice none 0 0] 84) hb
  simp only [World.size_alloc] at hR hO hcode hcb
  have r1 := block_cell hR
  have r2 := block_free hR
  have o1 := block_cell hO
  have o2 := block_free hO
  have hb1 : Below w.heap.size w w1 := hbA.trans (hb.mono (by simp; omega))
  go_wp2
  refine bodyPost_ret (v := .agg #[.int .i64 p, .int .i64 l, .slice (some ⟨w.heap.size + 1 + 1 + 1, 0, none⟩) xs.length xs.length]) (by simp [results, Tryz.results46, go_sem, r1]) rfl ⟨_, by omega, rfl, ?_, ?_, ?_⟩
  · exact (hcode.above (((((Above.refl _ _).setCell (by simp) _).setCell (by simp) _).setCell (by simp) _).setCell (by simp) _)).low (by omega)
  · exact (((hb1.setCell (by simp; omega) _).setCell (by simp) _).setCell (by simp) _).setCell (by simp) _
  · exact hcb.above (((((Above.refl _ _).setCell (by simp) _).setCell (by simp) _).setCell (by simp) _).setCell (by simp) _) (Nat.le_refl _)

set_option maxHeartbeats 400000 in
theorem toFuncS_made (a : Option Addr) (fs : List Fn) (cap : Nat) (w : World) (hn : fs.length ≤ 1048576) (hc : ∀ f ∈ fs, f.code.length ≤ 1048576) (hm : FnsAt w 0 a fs) :
    Calls Tryz.prog 22 #[.slice a fs.length cap] w fun e w' => e = .returned (.slice (some ⟨w.heap.size, 0, none⟩) fs.length fs.length) ∧ FnsAt w' w.heap.size (some ⟨w.heap.size, 0, none⟩) fs ∧ Below w.heap.size w w' ∧ FnsBlk w' w.heap.size w.heap.size fs := by
  obtain ⟨i0, hi, hz0, hz1, hz2⟩ := info_parts info84
  go_enter Tryz.func22, Tryz.ntmps22
  go_wp2_with (first | (at_make; refine wpList_make_full _ rfl _ _ 42 rfl w.heap.size 84 i0 (.agg #[.int .i64 0, .int .i64 0, .slice none 0 0]) 3 Tryz.underlying42 hi hz0 hz1 _ _ _ _ fs.length rfl rfl rfl rfl (by rw [hz2]; omega) (by unfold maxLen; omega) (Nat.le_refl _) ?_; intro w1 hown hgrow))
  obtain ⟨cur0, hblk, hsz⟩ := made_block hown
  have hb0 : Below w.heap.size w w1 := (Below.refl _ _).grown hgrow (Nat.le_refl _) (by intro k hk; cases hk)
  clear hown hgrow hi hz0 hz1 hz2
  go_loopw [4] (fun i wr => ∃ (k : Nat) (cur : Array Value), k ≤ fs.length ∧ i = .int .i64 k ∧ wr.heap[w.heap.size]? = some (.cells cur 84 (0, 0)) ∧ cur.size = fs.length * 3 ∧
      (∀ j (hj : j < fs.length), j < k → cur[j * 3]? = some (.int .i64 fs[j].params) ∧ cur[j * 3 + 1]? = some (.int .i64 fs[j].locals) ∧ ∃ g, cur[j * 3 + 2]? = some (.slice (some ⟨g, 0, none⟩) fs[j].code.length fs[j].code.length) ∧ CodeAt wr (w.heap.size + 1) (some ⟨g, 0, none⟩) fs[j].code ∧ w.heap.size + 1 ≤ g ∧ CodeBlk wr g fs[j].code.length) ∧ Below w.heap.size w wr) (fun i _ => fs.length - (intOf i).toNat)
  case atStart => exact ⟨0, cur0, by omega, rfl, hblk, hsz, fun j _ h => by omega, hb0⟩
  case round =>
    obtain ⟨k, cur, hk, rfl, hblk, hsz, hdone, hb⟩ := hrel
    by_cases hlt : k < fs.length
    · obtain ⟨b, off, ca, cc, rfl, -, c1, c2, c3, c4⟩ := hm k hlt
      have c1' := cell_later hb c1
      have c2' := cell_later hb c2
      have c3' := cell_later hb c3
      clear c1 c2 c3
      have hgs : w.heap.size < wr.heap.size := by
        rcases Nat.lt_or_ge w.heap.size wr.heap.size with h | h
        · exact h
        · rw [Array.getElem?_eq_none h] at hblk; cases hblk
      have hck := hc fs[k] (List.getElem_mem hlt)
      go_wp2_with fail
      refine (toFunc_made _ _ _ _ _ _ hck (c4.mono hb)).mono ?_
      rintro e w2 ⟨g, hg, rfl, hcode, hb2, hcb⟩
      have hblk2 := block_kept hblk hb2
      have hfz := block_free hblk2
      have hcl : w2.cell? ⟨w.heap.size, k * 3, none⟩ = some cur[k * 3] := by rw [block_cell hblk2]; simp
      have hcl2 : w2.cell? ⟨w.heap.size, k * 3 + 1, none⟩ = some cur[k * 3 + 1] := by rw [block_cell hblk2]; simp
      have hcl3 : w2.cell? ⟨w.heap.size, k * 3 + 2, none⟩ = some cur[k * 3 + 2] := by rw [block_cell hblk2]; simp
      have hb3 : Below w.heap.size w w2 := hb.trans (hb2.mono hb.size)
      go_wp2
      go_roundw
      case rel =>
        have hab : Above (w.heap.size + 1) w2 (((w2.setCell ⟨w.heap.size, k * 3, none⟩ (.int .i64 fs[k].params)).setCell ⟨w.heap.size, k * 3 + 1, none⟩ (.int .i64 fs[k].locals)).setCell ⟨w.heap.size, k * 3 + 2, none⟩ (.slice (some ⟨g, 0, none⟩) fs[k].code.length fs[k].code.length)) :=
          (((Above.refl _ _).setCell (by simp) _).setCell (by simp) _).setCell (by simp) _
        refine ⟨k + 1, ((cur.setIfInBounds (k * 3) (.int .i64 fs[k].params)).setIfInBounds (k * 3 + 1) (.int .i64 fs[k].locals)).setIfInBounds (k * 3 + 2) (.slice (some ⟨g, 0, none⟩) fs[k].code.length fs[k].code.length), by omega, by go_num, block_set (block_set (block_set hblk2 _) _) _, by simpa using hsz, ?_, ((hb3.setCell (Nat.le_refl _) _).setCell (Nat.le_refl _) _).setCell (Nat.le_refl _) _⟩
        intro j hj hjk
        by_cases e : j = k
        · subst e
          refine ⟨?_, ?_, g, ?_, (hcode.low (by omega)).above hab, by omega, hcb.above hab (by omega)⟩
          · rw [set_else _ (by omega), set_else _ (by omega)]; exact set_self _ (by omega)
          · rw [set_else _ (by omega)]; exact set_self _ (by simp; omega)
          · exact set_self _ (by simp; omega)
        · obtain ⟨d1, d2, g', d3, d4, d5, d6⟩ := hdone j hj (by omega)
          refine ⟨?_, ?_, g', ?_, (d4.mono hb2).above hab, d5, (d6.mono hb2).above hab d5⟩
          · rw [set_else _ (by omega), set_else _ (by omega), set_else _ (by omega)]; exact d1
          · rw [set_else _ (by omega), set_else _ (by omega), set_else _ (by omega)]; exact d2
          · rw [set_else _ (by omega), set_else _ (by omega), set_else _ (by omega)]; exact d3
      case measure => simp [intOf]; omega
    · go_wp2
      go_ret
      refine ⟨rfl, fun j hj => ?_, hb, ⟨cur, hblk, hsz, fun j hj => ?_⟩⟩
      rotate_left
      · obtain ⟨-, -, g', d3, -, d5, d6⟩ := hdone j hj (by omega)
        exact ⟨g', d3, by omega, d6⟩
      obtain ⟨d1, d2, g', d3, d4, -, -⟩ := hdone j hj (by omega)
      exact ⟨w.heap.size, 0, some ⟨g', 0, none⟩, fs[j].code.length, rfl, Nat.le_refl _, by rw [block_cell hblk, Nat.zero_add]; exact d1, by rw [block_cell hblk, Nat.zero_add]; exact d2, by rw [block_cell hblk, Nat.zero_add]; exact d3, d4.low (by omega)⟩

set_option maxHeartbeats 400000 in
theorem toModule_made (a a2 : Option Addr) (ts : List ByteArray) (fs : List Fn) (cap cap2 : Nat) (w : World) (hs : Small ts fs) (hm : StrsAt w 0 a ts) (hm2 : FnsAt w 0 a2 fs) :
    Calls Tryz.prog 7 #[.agg #[.slice a ts.length cap, .slice a2 fs.length cap2]] w fun e w' => ∃ g g2, w.heap.size ≤ g ∧ w.heap.size ≤ g2 ∧ e = .returned (.agg #[.slice (some ⟨g, 0, none⟩) ts.length ts.length, .slice (some ⟨g2, 0, none⟩) fs.length fs.length]) ∧
      StrsAt w' w.heap.size (some ⟨g, 0, none⟩) ts ∧ FnsAt w' w.heap.size (some ⟨g2, 0, none⟩) fs ∧ Below w.heap.size w w' ∧ TextBlk w' g ts.length ∧ FnsBlk w' w.heap.size g2 fs := by
  go_enter Tryz.func7, Tryz.ntmps7
  go_wp2_with fail
  have hbA : Below w.heap.size w (((w.alloc (.cells #[.slice a ts.length cap, .slice a2 fs.length cap2] 25)).alloc (.cells #[.slice none 0 0, .slice none 0 0] 44)).alloc (.cells #[.slice none 0 0, .slice none 0 0] 44)) :=
    (((Below.refl _ _).alloc (Nat.le_refl _) _).alloc (by simp) _).alloc (by simp; omega) _
  refine (toStringS_made a ts cap _ hs.texts (hm.mono hbA)).mono ?_
  rintro e w1 ⟨rfl, hst, hb, htb⟩
  have hB := block_kept (block_old (block_old (block_new w #[.slice a ts.length cap, .slice a2 fs.length cap2] 25) (.cells #[.slice none 0 0, .slice none 0 0] 44)) (.cells #[.slice none 0 0, .slice none 0 0] 44)) hb
  have hR := block_kept (block_old (block_new (w.alloc (.cells #[.slice a ts.length cap, .slice a2 fs.length cap2] 25)) #[.slice none 0 0, .slice none 0 0] 44) (.cells #[.slice none 0 0, .slice none 0 0] 44)) hb
  have hO := block_kept (block_new ((w.alloc (.cells #[.slice a ts.length cap, .slice a2 fs.length cap2] 25)).alloc (.cells #[.slice none 0 0, .slice none 0 0] 44)) #[.slice none 0 0, .slice none 0 0] 44) hb
  simp only [World.size_alloc] at hB hR hO hst htb
  have hz1 := hb.size
  simp only [World.size_alloc] at hz1
  have hb1 : Below w.heap.size w w1 := hbA.trans (hb.mono (by simp; omega))
  have b1 := block_cell hB
  have o1 := block_cell hO
  have o2 := block_free hO
  go_wp2_with fail
  have hb1' : Below w.heap.size w (w1.setCell ⟨w.heap.size + 1 + 1, 0, none⟩ (.slice (some ⟨w.heap.size + 1 + 1 + 1, 0, none⟩) ts.length ts.length)) := hb1.setCell (by simp; omega) _
  refine (toFuncS_made a2 fs cap2 _ hs.funcs hs.code (hm2.mono hb1')).mono ?_
  rintro e w2 ⟨rfl, hfn, hb2, hfb⟩
  have hR2 := block_kept (w' := w2) (show (w1.setCell ⟨w.heap.size + 1 + 1, 0, none⟩ (.slice (some ⟨w.heap.size + 1 + 1 + 1, 0, none⟩) ts.length ts.length)).heap[w.heap.size + 1]? = _ by rw [Below.heap_setCell _ _ _ _ (by simp)]; exact hR) hb2
  have hO2 := block_kept (w' := w2) (block_set (i := 0) hO (.slice (some ⟨w.heap.size + 1 + 1 + 1, 0, none⟩) ts.length ts.length)) hb2
  have hst2 : StrsAt w2 (w.heap.size + 1 + 1 + 1) (some ⟨w.heap.size + 1 + 1 + 1, 0, none⟩) ts := (hst.above ((Above.refl _ _).setCell (p := ⟨w.heap.size + 1 + 1, 0, none⟩) (by simp) (.slice (some ⟨w.heap.size + 1 + 1 + 1, 0, none⟩) ts.length ts.length))).mono hb2
  have htb2 := (htb.above ((Above.refl (w.heap.size + 1 + 1 + 1) _).setCell (p := ⟨w.heap.size + 1 + 1, 0, none⟩) (by simp) (.slice (some ⟨w.heap.size + 1 + 1 + 1, 0, none⟩) ts.length ts.length)) (Nat.le_refl _)).mono hb2
  simp only [World.size_setCell] at hfn hb2 hfb ⊢
  have hb3 : Below w.heap.size w w2 := hb1'.trans (hb2.mono (by omega))
  simp at hO2
  have r1 := block_cell hR2
  have r2 := block_free hR2
  have p1 := block_cell hO2
  have p2 := block_free hO2
  clear hB hR hO b1 o1 o2 hR2 hO2 hst hb hb2 hbA hb1'
  go_wp2
  refine bodyPost_ret (v := .agg #[(.slice (some ⟨w.heap.size + 1 + 1 + 1, 0, none⟩) ts.length ts.length), .slice (some ⟨w1.heap.size, 0, none⟩) fs.length fs.length]) (by simp [results, Tryz.results7, go_sem, r1]) rfl ⟨w.heap.size + 1 + 1 + 1, w1.heap.size, by omega, by omega, rfl, ?_, ?_, ?_, ?_, ?_⟩
  · exact (hst2.above ((((Above.refl _ _).setCell (by simp) _).setCell (by simp) _).setCell (by simp) _)).low (by omega)
  · exact (hfn.above ((((Above.refl _ _).setCell (by simp; omega) _).setCell (by simp; omega) _).setCell (by simp; omega) _)).low (by omega)
  · exact ((hb3.setCell (by simp; omega) _).setCell (by simp) _).setCell (by simp) _
  · exact htb2.above ((((Above.refl _ _).setCell (by simp) _).setCell (by simp) _).setCell (by simp) _) (Nat.le_refl _)
  · exact (hfb.above ((((Above.refl (w.heap.size + 1 + 1 + 1) _).setCell (by simp) _).setCell (by simp) _).setCell (by simp) _) (by omega) (by omega)).low (by omega)
end Go.Proofs.YtoabnejocbnflaaGreat
