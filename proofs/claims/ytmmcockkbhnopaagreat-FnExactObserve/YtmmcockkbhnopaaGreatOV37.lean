/-
  The comparing functions of the laws return true of lists of values, frames, records, and of states that read as the same data.
  What the copying functions of the laws (to..) return: a copy in new memory, in blocks that may be written; nothing that was there is written.
  The marking functions of the laws write to blocks of the module that was handed in alone, and return a number from 0 on.
-/
import Derived.Test.YtmmcockkbhnopaaGreatOV30
import Derived.Test.YtmmcockkbhnopaaGreatOV10
import Derived.Test.YtmmcockkbhnopaaGreatOV29
namespace Go.Proofs.YtmmcockkbhnopaaGreat
open Go.RowKit

set_option maxHeartbeats 400000 in
theorem eqValue_same (k n : Int) (s : ByteArray) (w : World) :
    Calls Tryz.prog 46 #[.agg #[.int .i64 k, .int .i64 n, .string s], .agg #[.int .i64 k, .int .i64 n, .string s]] w fun e w' => e = .returned (.bool true) ∧ Below w.heap.size w w' := by
  go_enter Tryz.func46, Tryz.ntmps46
  go_wp2
  go_ret
  exact ⟨rfl, ((Below.refl _ _).alloc (Nat.le_refl _) _).alloc (by simp) _⟩

set_option maxHeartbeats 400000 in
theorem eqValueS_any (a a2 : Option Addr) (vs : List Vl) (cap cap2 : Nat) (w : World) (hn : vs.length ≤ 1048576) (hm : ValsAt w 0 a vs) (hm2 : ValsAt w 0 a2 vs) :
    Calls Tryz.prog 117 #[.slice a vs.length cap, .slice a2 vs.length cap2] w fun e w' => e = .returned (.bool true) ∧ Below w.heap.size w w' := by
  go_enter Tryz.func117, Tryz.ntmps117
  go_wp2
  go_loopw [5] (fun i wr => ∃ (k : Nat), k ≤ vs.length ∧ i = .int .i64 k ∧ Below w.heap.size w wr) (fun i _ => vs.length - (intOf i).toNat)
  case atStart => exact ⟨0, by omega, rfl, Below.refl _ _⟩
  case round =>
    obtain ⟨k, hk, rfl, hb⟩ := hrel
    by_cases hlt : k < vs.length
    · obtain ⟨b, off, rfl, -, c1, d1, f1⟩ := hm k hlt
      obtain ⟨b2, off2, rfl, -, c2, d2, f2⟩ := hm2 k hlt
      have c1' := cell_later hb c1
      have c2' := cell_later hb c2
      have d1' := cell_later hb d1
      have d2' := cell_later hb d2
      have f1' := cell_later hb f1
      have f2' := cell_later hb f2
      clear c1 c2 d1 d2 f1 f2
      go_wp2
      go_region_with (go_at_call 46; refine (eqValue_same _ _ _ _).mono ?_; rintro e w1 ⟨rfl, hb1⟩)
      all_goals
        go_wp2
        go_roundw
        case rel =>
          refine ⟨k + 1, by omega, by go_num, Below.trans ?_ (hb1.mono ?_)⟩
          · repeat (first | exact hb | apply Below.drew)
          · exact hb.size
        case measure => simp [intOf]; omega
    · go_wp2
      go_ret
      exact ⟨rfl, hb⟩

set_option maxHeartbeats 400000 in
theorem eqRec_any (a a2 : Option Addr) (vs : List Vl) (cap cap2 : Nat) (w : World) (hn : vs.length ≤ 1048576) (hm : ValsAt w 0 a vs) (hm2 : ValsAt w 0 a2 vs) :
    Calls Tryz.prog 82 #[.agg #[.slice a vs.length cap], .agg #[.slice a2 vs.length cap2]] w fun e w' => e = .returned (.bool true) ∧ Below w.heap.size w w' := by
  go_enter Tryz.func82, Tryz.ntmps82
  go_wp2_with fail
  have hbA : Below w.heap.size w ((w.alloc (.cells #[.slice a vs.length cap] 105)).alloc (.cells #[.slice a2 vs.length cap2] 105)) := ((Below.refl _ _).alloc (Nat.le_refl _) _).alloc (by simp) _
  refine (eqValueS_any a a2 vs cap cap2 _ hn (hm.mono hbA) (hm2.mono hbA)).mono ?_
  rintro e w1 ⟨rfl, hb⟩
  go_wp2
  go_ret
  exact ⟨rfl, hbA.trans (hb.mono (by simp; omega))⟩

set_option maxHeartbeats 400000 in
theorem eqFrame_any (f p : Int) (a a2 b b2 : Option Addr) (vs us : List Vl) (c1 c2 e1 e2 : Nat) (w : World) (hn : vs.length ≤ 1048576) (hn2 : us.length ≤ 1048576) (hm : ValsAt w 0 a vs) (hm2 : ValsAt w 0 a2 vs) (hs : ValsAt w 0 b us) (hs2 : ValsAt w 0 b2 us) :
    Calls Tryz.prog 81 #[.agg #[.int .i64 f, .int .i64 p, .slice a vs.length c1, .slice b us.length e1], .agg #[.int .i64 f, .int .i64 p, .slice a2 vs.length c2, .slice b2 us.length e2]] w fun e w' => e = .returned (.bool true) ∧ Below w.heap.size w w' := by
  have hbA : Below w.heap.size w ((w.alloc (.cells #[.int .i64 f, .int .i64 p, .slice a vs.length c1, .slice b us.length e1] 110)).alloc (.cells #[.int .i64 f, .int .i64 p, .slice a2 vs.length c2, .slice b2 us.length e2] 110)) := ((Below.refl _ _).alloc (Nat.le_refl _) _).alloc (by simp) _
  have hX0 := block_old (block_new w #[.int .i64 f, .int .i64 p, .slice a vs.length c1, .slice b us.length e1] 110) (.cells #[.int .i64 f, .int .i64 p, .slice a2 vs.length c2, .slice b2 us.length e2] 110)
  have hY0 := block_new (w.alloc (.cells #[.int .i64 f, .int .i64 p, .slice a vs.length c1, .slice b us.length e1] 110)) #[.int .i64 f, .int .i64 p, .slice a2 vs.length c2, .slice b2 us.length e2] 110
  simp only [World.size_alloc] at hY0
  go_enter Tryz.func81, Tryz.ntmps81
  go_wp2_with fail
  refine (eqValueS_any a a2 vs c1 c2 _ hn (hm.mono hbA) (hm2.mono hbA)).mono ?_
  rintro e w1 ⟨rfl, hb⟩
  have hB1 := hbA.trans (hb.mono hbA.size)
  have x1 := block_cell (block_kept hX0 hb)
  have y1 := block_cell (block_kept hY0 hb)
  go_wp2_with fail
  refine (eqValueS_any b b2 us e1 e2 _ hn2 (hs.mono hB1) (hs2.mono hB1)).mono ?_
  rintro e w2 ⟨rfl, hb2⟩
  clear x1 y1
  go_wp2
  go_ret
  exact ⟨rfl, hB1.trans (hb2.mono hB1.size)⟩

set_option maxHeartbeats 400000 in
theorem eqRecS_any (a a2 : Option Addr) (rs : List (List Vl)) (cap cap2 : Nat) (w : World) (hn : rs.length ≤ 1048576) (hc : ∀ r ∈ rs, ValsSmall r) (hm : RecsAt w 0 a rs) (hm2 : RecsAt w 0 a2 rs) :
    Calls Tryz.prog 45 #[.slice a rs.length cap, .slice a2 rs.length cap2] w fun e w' => e = .returned (.bool true) ∧ Below w.heap.size w w' := by
  go_enter Tryz.func45, Tryz.ntmps45
  go_wp2
  go_loopw [5] (fun i wr => ∃ (k : Nat), k ≤ rs.length ∧ i = .int .i64 k ∧ Below w.heap.size w wr) (fun i _ => rs.length - (intOf i).toNat)
  case atStart => exact ⟨0, by omega, rfl, Below.refl _ _⟩
  case round =>
    obtain ⟨k, hk, rfl, hb⟩ := hrel
    by_cases hlt : k < rs.length
    · obtain ⟨b, off, ca, cc, rfl, -, c1, f1⟩ := hm k hlt
      obtain ⟨b2, off2, ca2, cc2, rfl, -, c2, f2⟩ := hm2 k hlt
      have c1' := cell_later hb c1
      have c2' := cell_later hb c2
      have hck := (hc rs[k] (List.getElem_mem hlt)).1
      clear c1 c2
      go_wp2
      go_region_with (go_at_call 82; refine (eqRec_any _ _ _ _ _ _ hck (by exact f1.mono (by repeat (first | exact hb | apply Below.drew))) (by exact f2.mono (by repeat (first | exact hb | apply Below.drew)))).mono ?_; rintro e w1 ⟨rfl, hb1⟩)
      all_goals
        go_wp2
        go_roundw
        case rel =>
          refine ⟨k + 1, by omega, by go_num, Below.trans ?_ (hb1.mono ?_)⟩
          · repeat (first | exact hb | apply Below.drew)
          · exact hb.size
        case measure => simp [intOf]; omega
    · go_wp2
      go_ret
      exact ⟨rfl, hb⟩

set_option maxHeartbeats 400000 in
theorem eqFrameS_any (a a2 : Option Addr) (fr : List Fr) (cap cap2 : Nat) (w : World) (hn : fr.length ≤ 1048576) (hc : ∀ f ∈ fr, ValsSmall f.locals) (hc2 : ∀ f ∈ fr, ValsSmall f.stack) (hm : FrsAt w 0 a fr) (hm2 : FrsAt w 0 a2 fr) :
    Calls Tryz.prog 44 #[.slice a fr.length cap, .slice a2 fr.length cap2] w fun e w' => e = .returned (.bool true) ∧ Below w.heap.size w w' := by
  go_enter Tryz.func44, Tryz.ntmps44
  go_wp2
  go_loopw [5] (fun i wr => ∃ (k : Nat), k ≤ fr.length ∧ i = .int .i64 k ∧ Below w.heap.size w wr) (fun i _ => fr.length - (intOf i).toNat)
  case atStart => exact ⟨0, by omega, rfl, Below.refl _ _⟩
  case round =>
    obtain ⟨k, hk, rfl, hb⟩ := hrel
    by_cases hlt : k < fr.length
    · obtain ⟨b, off, la, lc, sa, sc, rfl, -, c1, d1, e1, g1, p1, q1⟩ := hm k hlt
      obtain ⟨b2, off2, la2, lc2, sa2, sc2, rfl, -, c2, d2, e2, g2, p2, q2⟩ := hm2 k hlt
      have c1' := cell_later hb c1
      have c2' := cell_later hb c2
      have d1' := cell_later hb d1
      have d2' := cell_later hb d2
      have e1' := cell_later hb e1
      have e2' := cell_later hb e2
      have g1' := cell_later hb g1
      have g2' := cell_later hb g2
      have hck := (hc fr[k] (List.getElem_mem hlt)).1
      have hck2 := (hc2 fr[k] (List.getElem_mem hlt)).1
      clear c1 c2 d1 d2 e1 e2 g1 g2
      go_wp2
      go_region_with (go_at_call 81; refine (eqFrame_any _ _ _ _ _ _ _ _ _ _ _ _ _ hck hck2 (by exact p1.mono (by repeat (first | exact hb | apply Below.drew))) (by exact p2.mono (by repeat (first | exact hb | apply Below.drew))) (by exact q1.mono (by repeat (first | exact hb | apply Below.drew))) (by exact q2.mono (by repeat (first | exact hb | apply Below.drew)))).mono ?_; rintro e w1 ⟨rfl, hb1⟩)
      all_goals
        go_wp2
        go_roundw
        case rel =>
          refine ⟨k + 1, by omega, by go_num, Below.trans ?_ (hb1.mono ?_)⟩
          · repeat (first | exact hb | apply Below.drew)
          · exact hb.size
        case measure => simp [intOf]; omega
    · go_wp2
      go_ret
      exact ⟨rfl, hb⟩

set_option maxRecDepth 100000 in
set_option maxHeartbeats 2000000 in
theorem eqVm_any (fa ha oa fb hb' ob : Option Addr) (fc hcp oc fc2 hcp2 oc2 : Nat) (d : VmD) (w : World) (hx : VmSmall d) (hm : VmAt w 0 fa ha oa d) (hm2 : VmAt w 0 fb hb' ob d) :
    Calls Tryz.prog 15 #[.agg (vmCells fa ha oa fc hcp oc d), .agg (vmCells fb hb' ob fc2 hcp2 oc2 d)] w fun e w' => e = .returned (.bool true) ∧ Below w.heap.size w w' := by
  have hbA : Below w.heap.size w ((w.alloc (.cells (vmCells fa ha oa fc hcp oc d) 47)).alloc (.cells (vmCells fb hb' ob fc2 hcp2 oc2 d) 47)) := ((Below.refl _ _).alloc (Nat.le_refl _) _).alloc (by simp) _
  have hX0 := block_old (block_new w (vmCells fa ha oa fc hcp oc d) 47) (.cells (vmCells fb hb' ob fc2 hcp2 oc2 d) 47)
  have hY0 := block_new (w.alloc (.cells (vmCells fa ha oa fc hcp oc d) 47)) (vmCells fb hb' ob fc2 hcp2 oc2 d) 47
  simp only [World.size_alloc] at hY0
  unfold vmCells at hbA hX0 hY0 ⊢
  go_enter Tryz.func15, Tryz.ntmps15
  go_wp2_with fail
  refine (eqFrameS_any _ _ d.frames _ _ _ hx.frames hx.locals hx.stack (hm.frs.mono hbA) (hm2.frs.mono hbA)).mono ?_
  rintro e w1 ⟨rfl, hb⟩
  have hB1 := hbA.trans (hb.mono hbA.size)
  have hX1 := block_kept hX0 hb
  have hY1 := block_kept hY0 hb
  have x1 := block_cell hX1
  have y1 := block_cell hY1
  clear hbA hX0 hY0 hb
  go_wp2_with fail
  refine (eqRecS_any _ _ d.heap _ _ _ hx.heap hx.fields (hm.recs.mono hB1) (hm2.recs.mono hB1)).mono ?_
  rintro e w2 ⟨rfl, hb⟩
  have hB2 := hB1.trans (hb.mono hB1.size)
  have hX2 := block_kept hX1 hb
  have hY2 := block_kept hY1 hb
  clear x1 y1 hX1 hY1 hB1 hb
  have x2 := block_cell hX2
  have y2 := block_cell hY2
  go_wp2_with fail
  refine (eqStringS_any _ _ d.out _ _ _ hx.out (hm.out.mono hB2) (hm2.out.mono hB2)).mono ?_
  rintro e w3 ⟨rfl, hb⟩
  have hB3 := hB2.trans (hb.mono hB2.size)
  have hX3 := block_kept hX2 hb
  have hY3 := block_kept hY2 hb
  clear x2 y2 hX2 hY2 hB2 hb
  have x3 := block_cell hX3
  have y3 := block_cell hY3
  go_wp2_with fail
  refine (eqValue_same _ _ _ _).mono ?_
  rintro e w4 ⟨rfl, hb⟩
  have hB4 := hB3.trans (hb.mono hB3.size)
  have x4 := block_cell (block_kept hX3 hb)
  have y4 := block_cell (block_kept hY3 hb)
  clear x3 y3 hX3 hY3 hB3 hb
  go_wp2
  go_ret
  exact ⟨rfl, hB4⟩
end Go.Proofs.YtmmcockkbhnopaaGreat

namespace Go.Proofs.YtmmcockkbhnopaaGreat
open Go.RowKit

set_option maxHeartbeats 400000 in
theorem toStringS_made (a : Option Addr) (ss : List ByteArray) (cap : Nat) (w : World) (hn : ss.length ≤ 1048576) (hm : StrsAt w 0 a ss) :
    Calls Tryz.prog 30 #[.slice a ss.length cap] w fun e w' => e = .returned (.slice (some ⟨w.heap.size, 0, none⟩) ss.length ss.length) ∧ StrsAt w' w.heap.size (some ⟨w.heap.size, 0, none⟩) ss ∧ Below w.heap.size w w' ∧ TextBlk w' w.heap.size ss.length := by
  obtain ⟨i0, hi, hz0, hz1, hz2⟩ := info_parts info9
  go_enter Tryz.func30, Tryz.ntmps30
  go_wp2_with (first | (at_make; refine wpList_make_full _ rfl _ _ 22 rfl w.heap.size 9 i0 (.string ByteArray.empty) 1 Tryz.underlying22 hi hz0 hz1 _ _ _ _ ss.length rfl rfl rfl rfl (by rw [hz2]; omega) (by unfold maxLen; omega) (Nat.le_refl _) ?_; intro w1 hown hgrow))
  obtain ⟨cur0, hblk, hsz⟩ := made_block hown
  have hb0 : Below w.heap.size w w1 := (Below.refl _ _).grown hgrow (Nat.le_refl _) (by intro k hk; cases hk)
  clear hown hgrow hi hz0 hz1 hz2
  go_loopw [4] (fun i wr => ∃ (k : Nat) (cur : Array Value), k ≤ ss.length ∧ i = .int .i64 k ∧ wr.heap[w.heap.size]? = some (.cells cur 9 (0, 0)) ∧ cur.size = ss.length * 1 ∧ (∀ j (hj : j < ss.length), j < k → cur[j]? = some (.string ss[j])) ∧ Below w.heap.size w wr) (fun i _ => ss.length - (intOf i).toNat)
  case atStart => exact ⟨0, cur0, by omega, rfl, hblk, hsz, fun j _ h => by omega, hb0⟩
  case round =>
    obtain ⟨k, cur, hk, rfl, hblk, hsz, hdone, hb⟩ := hrel
    by_cases hlt : k < ss.length
    · obtain ⟨b, off, rfl, -, c1⟩ := hm k hlt
      have c1' := cell_later hb c1
      clear c1
      have hfz := block_free hblk k
      have hcl : wr.cell? ⟨w.heap.size, k, none⟩ = some cur[k] := by rw [block_cell hblk k]; simp
      go_wp2
      go_roundw
      case rel =>
        refine ⟨k + 1, cur.setIfInBounds k (.string ss[k]), by omega, by go_num, block_set hblk _, by simpa using hsz, ?_, hb.setCell (Nat.le_refl _) _⟩
        intro j hj hjk
        by_cases e : j = k
        · subst e; exact set_self _ (by omega)
        · rw [set_else _ e]; exact hdone j hj (by omega)
      case measure => simp [intOf]; omega
    · go_wp2
      go_ret
      exact ⟨rfl, fun j hj => ⟨w.heap.size, 0, rfl, Nat.le_refl _, by rw [block_cell hblk, Nat.zero_add]; exact hdone j hj (by omega)⟩, hb, ⟨cur, hblk, by omega⟩⟩

set_option maxHeartbeats 400000 in
theorem toInsS_made (a : Option Addr) (xs : List (Int × Int)) (cap : Nat) (w : World) (hn : xs.length ≤ 1048576) (hm : CodeAt w 0 a xs) :
    Calls Tryz.prog 94 #[.slice a xs.length cap] w fun e w' => e = .returned (.slice (some ⟨w.heap.size, 0, none⟩) xs.length xs.length) ∧ CodeAt w' w.heap.size (some ⟨w.heap.size, 0, none⟩) xs ∧ Below w.heap.size w w' ∧ CodeBlk w' w.heap.size xs.length := by
  obtain ⟨i0, hi, hz0, hz1, hz2⟩ := info_parts info152
  go_enter Tryz.func94, Tryz.ntmps94
  go_wp2_with (first | (at_make; refine wpList_make_full _ rfl _ _ 114 rfl w.heap.size 152 i0 (.agg #[.int .i64 0, .int .i64 0]) 2 Tryz.underlying114 hi hz0 hz1 _ _ _ _ xs.length rfl rfl rfl rfl (by rw [hz2]; omega) (by unfold maxLen; omega) (Nat.le_refl _) ?_; intro w1 hown hgrow))
  obtain ⟨cur0, hblk, hsz⟩ := made_block hown
  have hb0 : Below w.heap.size w w1 := (Below.refl _ _).grown hgrow (Nat.le_refl _) (by intro k hk; cases hk)
  clear hown hgrow hi hz0 hz1 hz2
  go_loopw [4] (fun i wr => ∃ (k : Nat) (cur : Array Value), k ≤ xs.length ∧ i = .int .i64 k ∧ wr.heap[w.heap.size]? = some (.cells cur 152 (0, 0)) ∧ cur.size = xs.length * 2 ∧ (∀ j (hj : j < xs.length), j < k → cur[j * 2]? = some (.int .i64 xs[j].1) ∧ cur[j * 2 + 1]? = some (.int .i64 xs[j].2)) ∧ Below w.heap.size w wr) (fun i _ => xs.length - (intOf i).toNat)
  case atStart => exact ⟨0, cur0, by omega, rfl, hblk, hsz, fun j _ h => by omega, hb0⟩
  case round =>
    obtain ⟨k, cur, hk, rfl, hblk, hsz, hdone, hb⟩ := hrel
    by_cases hlt : k < xs.length
    · obtain ⟨b, off, rfl, -, c1, c2⟩ := hm k hlt
      have c1' := cell_later hb c1
      have c2' := cell_later hb c2
      clear c1 c2
      go_wp2_with fail
      refine (toIns_any _ _ _).mono ?_
      rintro e w2 ⟨rfl, hb2⟩
      have hblk2 := block_kept hblk hb2
      have hfz := block_free hblk2 (k * 2)
      have hfz2 := block_free hblk2 (k * 2 + 1)
      have hcl : w2.cell? ⟨w.heap.size, k * 2, none⟩ = some cur[k * 2] := by rw [block_cell hblk2]; simp
      have hcl2 : w2.cell? ⟨w.heap.size, k * 2 + 1, none⟩ = some cur[k * 2 + 1] := by rw [block_cell hblk2]; simp
      have hb3 : Below w.heap.size w w2 := hb.trans (hb2.mono hb.size)
      go_wp2
      go_roundw
      case rel =>
        refine ⟨k + 1, (cur.setIfInBounds (k * 2) (.int .i64 xs[k].1)).setIfInBounds (k * 2 + 1) (.int .i64 xs[k].2), by omega, by go_num, block_set (block_set hblk2 _) _, by simpa using hsz, ?_, (hb3.setCell (Nat.le_refl _) _).setCell (Nat.le_refl _) _⟩
        intro j hj hjk
        by_cases e : j = k
        · subst e; exact ⟨by rw [set_else _ (by omega)]; exact set_self _ (by omega), set_self _ (by simp; omega)⟩
        · rw [set_else _ (by omega), set_else _ (by omega), set_else _ (by omega), set_else _ (by omega)]; exact hdone j hj (by omega)
      case measure => simp [intOf]; omega
    · go_wp2
      go_ret
      exact ⟨rfl, fun j hj => ⟨w.heap.size, 0, rfl, Nat.le_refl _, by rw [block_cell hblk, Nat.zero_add]; exact (hdone j hj (by omega)).1, by rw [block_cell hblk, Nat.zero_add]; exact (hdone j hj (by omega)).2⟩, hb, ⟨cur, hblk, hsz⟩⟩

set_option maxHeartbeats 400000 in
theorem toFunc_made (p l : Int) (a : Option Addr) (xs : List (Int × Int)) (cap : Nat) (w : World) (hn : xs.length ≤ 1048576) (hm : CodeAt w 0 a xs) :
    Calls Tryz.prog 64 #[.agg #[.int .i64 p, .int .i64 l, .slice a xs.length cap]] w fun e w' => ∃ g, w.heap.size ≤ g ∧ e = .returned (.agg #[.int .i64 p, .int .i64 l, .slice (some ⟨g, 0, none⟩) xs.length xs.length]) ∧ CodeAt w' w.heap.size (some ⟨g, 0, none⟩) xs ∧ Below w.heap.size w w' ∧ CodeBlk w' g xs.length := by
  go_enter Tryz.func64, Tryz.ntmps64
  go_wp2_with fail
  have hbA : Below w.heap.size w (((w.alloc (.cells #[.int .i64 p, .int .i64 l, .slice a xs.length cap] 92)).alloc (.cells #[.int .i64 0, .int .i64 0, .slice none 0 0] 116)).alloc (.cells #[.int .i64 p, .int .i64 l, .slice none 0 0] 116)) :=
    (((Below.refl _ _).alloc (Nat.le_refl _) _).alloc (by simp) _).alloc (by simp; omega) _
  refine (toInsS_made a xs cap _ hn (hm.mono hbA)).mono ?_
  rintro e w1 ⟨rfl, hcode, hb, hcb⟩
  have hR := block_kept (block_old (block_new (w.alloc (.cells #[.int .i64 p, .int .i64 l, .slice a xs.length cap] 92)) #[.int .i64 0, .int .i64 0, .slice none 0 0] 116) (.cells #[.int .i64 p, .int .i64 l, .slice none 0 0] 116)) hb
  have hO := block_kept (block_new ((w.alloc (.cells #[.int .i64 p, .int .i64 l, .slice a xs.length cap] 92)).alloc (.cells #[.int .i64 0, .int .i64 0, .slice none 0 0] 116)) #[.int .i64 p, .int .i64 l, .slice none 0 0] 116) hb
  simp only [World.size_alloc] at hR hO hcode hcb
  have r1 := block_cell hR
  have r2 := block_free hR
  have o1 := block_cell hO
  have o2 := block_free hO
  have hb1 : Below w.heap.size w w1 := hbA.trans (hb.mono (by simp; omega))
  go_wp2
  refine bodyPost_ret (v := .agg #[.int .i64 p, .int .i64 l, .slice (some ⟨w.heap.size + 1 + 1 + 1, 0, none⟩) xs.length xs.length]) (by simp [results, Tryz.results64, go_sem, r1]) rfl ⟨_, by omega, rfl, ?_, ?_, ?_⟩
  · exact (hcode.above (((((Above.refl _ _).setCell (by simp) _).setCell (by simp) _).setCell (by simp) _).setCell (by simp) _)).low (by omega)
  · exact (((hb1.setCell (by simp; omega) _).setCell (by simp) _).setCell (by simp) _).setCell (by simp) _
  · exact hcb.above (((((Above.refl _ _).setCell (by simp) _).setCell (by simp) _).setCell (by simp) _).setCell (by simp) _) (Nat.le_refl _)

set_option maxHeartbeats 400000 in
theorem toFuncS_made (a : Option Addr) (fs : List Fn) (cap : Nat) (w : World) (hn : fs.length ≤ 1048576) (hc : ∀ f ∈ fs, f.code.length ≤ 1048576) (hm : FnsAt w 0 a fs) :
    Calls Tryz.prog 31 #[.slice a fs.length cap] w fun e w' => e = .returned (.slice (some ⟨w.heap.size, 0, none⟩) fs.length fs.length) ∧ FnsAt w' w.heap.size (some ⟨w.heap.size, 0, none⟩) fs ∧ Below w.heap.size w w' ∧ FnsBlk w' w.heap.size w.heap.size fs := by
  obtain ⟨i0, hi, hz0, hz1, hz2⟩ := info_parts info116
  go_enter Tryz.func31, Tryz.ntmps31
  go_wp2_with (first | (at_make; refine wpList_make_full _ rfl _ _ 38 rfl w.heap.size 116 i0 (.agg #[.int .i64 0, .int .i64 0, .slice none 0 0]) 3 Tryz.underlying38 hi hz0 hz1 _ _ _ _ fs.length rfl rfl rfl rfl (by rw [hz2]; omega) (by unfold maxLen; omega) (Nat.le_refl _) ?_; intro w1 hown hgrow))
  obtain ⟨cur0, hblk, hsz⟩ := made_block hown
  have hb0 : Below w.heap.size w w1 := (Below.refl _ _).grown hgrow (Nat.le_refl _) (by intro k hk; cases hk)
  clear hown hgrow hi hz0 hz1 hz2
  go_loopw [4] (fun i wr => ∃ (k : Nat) (cur : Array Value), k ≤ fs.length ∧ i = .int .i64 k ∧ wr.heap[w.heap.size]? = some (.cells cur 116 (0, 0)) ∧ cur.size = fs.length * 3 ∧
      (∀ j (hj : j < fs.length), j < k → cur[j * 3]? = some (.int .i64 fs[j].params) ∧ cur[j * 3 + 1]? = some (.int .i64 fs[j].locals) ∧ ∃ g, cur[j * 3 + 2]? = some (.slice (some ⟨g, 0, none⟩) fs[j].code.length fs[j].code.length) ∧ CodeAt wr (w.heap.size + 1) (some ⟨g, 0, none⟩) fs[j].code ∧ w.heap.size + 1 ≤ g ∧ CodeBlk wr g fs[j].code.length) ∧ Below w.heap.size w wr) (fun i _ => fs.length - (intOf i).toNat)
  case atStart => exact ⟨0, cur0, by omega, rfl, hblk, hsz, fun j _ h => by omega, hb0⟩
  case round =>
    obtain ⟨k, cur, hk, rfl, hblk, hsz, hdone, hb⟩ := hrel
    by_cases hlt : k < fs.length
    · obtain ⟨b, off, ca, cc, rfl, -, c1, c2, c3, c4⟩ := hm k hlt
      have c1' := cell_later hb c1
      have c2' := cell_later hb c2
      have c3' := cell_later hb c3
      clear c1 c2 c3
      have hgs : w.heap.size < wr.heap.size := by
        rcases Nat.lt_or_ge w.heap.size wr.heap.size with h | h
        · exact h
        · rw [Array.getElem?_eq_none h] at hblk; cases hblk
      have hck := hc fs[k] (List.getElem_mem hlt)
      go_wp2_with fail
      refine (toFunc_made _ _ _ _ _ _ hck (c4.mono hb)).mono ?_
      rintro e w2 ⟨g, hg, rfl, hcode, hb2, hcb⟩
      have hblk2 := block_kept hblk hb2
      have hfz := block_free hblk2
      have hcl : w2.cell? ⟨w.heap.size, k * 3, none⟩ = some cur[k * 3] := by rw [block_cell hblk2]; simp
      have hcl2 : w2.cell? ⟨w.heap.size, k * 3 + 1, none⟩ = some cur[k * 3 + 1] := by rw [block_cell hblk2]; simp
      have hcl3 : w2.cell? ⟨w.heap.size, k * 3 + 2, none⟩ = some cur[k * 3 + 2] := by rw [block_cell hblk2]; simp
      have hb3 : Below w.heap.size w w2 := hb.trans (hb2.mono hb.size)
      go_wp2
      go_roundw
      case rel =>
        have hab : Above (w.heap.size + 1) w2 (((w2.setCell ⟨w.heap.size, k * 3, none⟩ (.int .i64 fs[k].params)).setCell ⟨w.heap.size, k * 3 + 1, none⟩ (.int .i64 fs[k].locals)).setCell ⟨w.heap.size, k * 3 + 2, none⟩ (.slice (some ⟨g, 0, none⟩) fs[k].code.length fs[k].code.length)) :=
          (((Above.refl _ _).setCell (by simp) _).setCell (by simp) _).setCell (by simp) _
        refine ⟨k + 1, ((cur.setIfInBounds (k * 3) (.int .i64 fs[k].params)).setIfInBounds (k * 3 + 1) (.int .i64 fs[k].locals)).setIfInBounds (k * 3 + 2) (.slice (some ⟨g, 0, none⟩) fs[k].code.length fs[k].code.length), by omega, by go_num, block_set (block_set (block_set hblk2 _) _) _, by simpa using hsz, ?_, ((hb3.setCell (Nat.le_refl _) _).setCell (Nat.le_refl _) _).setCell (Nat.le_refl _) _⟩
        intro j hj hjk
        by_cases e : j = k
        · subst e
          refine ⟨?_, ?_, g, ?_, (hcode.low (by omega)).above hab, by omega, hcb.above hab (by omega)⟩
          · rw [set_else _ (by omega), set_else _ (by omega)]; exact set_self _ (by omega)
          · rw [set_else _ (by omega)]; exact set_self _ (by simp; omega)
          · exact set_self _ (by simp; omega)
        · obtain ⟨d1, d2, g', d3, d4, d5, d6⟩ := hdone j hj (by omega)
          refine ⟨?_, ?_, g', ?_, (d4.mono hb2).above hab, d5, (d6.mono hb2).above hab d5⟩
          · rw [set_else _ (by omega), set_else _ (by omega), set_else _ (by omega)]; exact d1
          · rw [set_else _ (by omega), set_else _ (by omega), set_else _ (by omega)]; exact d2
          · rw [set_else _ (by omega), set_else _ (by omega), set_else _ (by omega)]; exact d3
      case measure => simp [intOf]; omega
    · go_wp2
      go_ret
      refine ⟨rfl, fun j hj => ?_, hb, ⟨cur, hblk, hsz, fun j hj => ?_⟩⟩
      rotate_left
      · obtain ⟨-, -, g', d3, -, d5, d6⟩ := hdone j hj (by omega)
        exact ⟨g', d3, by omega, d6⟩
      obtain ⟨d1, d2, g', d3, d4, -, -⟩ := hdone j hj (by omega)
      exact ⟨w.heap.size, 0, some ⟨g', 0, none⟩, fs[j].code.length, rfl, Nat.le_refl _, by rw [block_cell hblk, Nat.zero_add]; exact d1, by rw [block_cell hblk, Nat.zero_add]; exact d2, by rw [block_cell hblk, Nat.zero_add]; exact d3, d4.low (by omega)⟩

set_option maxHeartbeats 400000 in
theorem toModule_made (a a2 : Option Addr) (ts : List ByteArray) (fs : List Fn) (cap cap2 : Nat) (w : World) (hs : Small ts fs) (hm : StrsAt w 0 a ts) (hm2 : FnsAt w 0 a2 fs) :
    Calls Tryz.prog 9 #[.agg #[.slice a ts.length cap, .slice a2 fs.length cap2]] w fun e w' => ∃ g g2, w.heap.size ≤ g ∧ w.heap.size ≤ g2 ∧ e = .returned (.agg #[.slice (some ⟨g, 0, none⟩) ts.length ts.length, .slice (some ⟨g2, 0, none⟩) fs.length fs.length]) ∧
      StrsAt w' w.heap.size (some ⟨g, 0, none⟩) ts ∧ FnsAt w' w.heap.size (some ⟨g2, 0, none⟩) fs ∧ Below w.heap.size w w' ∧ TextBlk w' g ts.length ∧ FnsBlk w' w.heap.size g2 fs := by
  go_enter Tryz.func9, Tryz.ntmps9
  go_wp2_with fail
  have hbA : Below w.heap.size w (((w.alloc (.cells #[.slice a ts.length cap, .slice a2 fs.length cap2] 25)).alloc (.cells #[.slice none 0 0, .slice none 0 0] 40)).alloc (.cells #[.slice none 0 0, .slice none 0 0] 40)) :=
    (((Below.refl _ _).alloc (Nat.le_refl _) _).alloc (by simp) _).alloc (by simp; omega) _
  refine (toStringS_made a ts cap _ hs.texts (hm.mono hbA)).mono ?_
  rintro e w1 ⟨rfl, hst, hb, htb⟩
  have hB := block_kept (block_old (block_old (block_new w #[.slice a ts.length cap, .slice a2 fs.length cap2] 25) (.cells #[.slice none 0 0, .slice none 0 0] 40)) (.cells #[.slice none 0 0, .slice none 0 0] 40)) hb
  have hR := block_kept (block_old (block_new (w.alloc (.cells #[.slice a ts.length cap, .slice a2 fs.length cap2] 25)) #[.slice none 0 0, .slice none 0 0] 40) (.cells #[.slice none 0 0, .slice none 0 0] 40)) hb
  have hO := block_kept (block_new ((w.alloc (.cells #[.slice a ts.length cap, .slice a2 fs.length cap2] 25)).alloc (.cells #[.slice none 0 0, .slice none 0 0] 40)) #[.slice none 0 0, .slice none 0 0] 40) hb
  simp only [World.size_alloc] at hB hR hO hst htb
  have hz1 := hb.size
  simp only [World.size_alloc] at hz1
  have hb1 : Below w.heap.size w w1 := hbA.trans (hb.mono (by simp; omega))
  have b1 := block_cell hB
  have o1 := block_cell hO
  have o2 := block_free hO
  go_wp2_with fail
  have hb1' : Below w.heap.size w (w1.setCell ⟨w.heap.size + 1 + 1, 0, none⟩ (.slice (some ⟨w.heap.size + 1 + 1 + 1, 0, none⟩) ts.length ts.length)) := hb1.setCell (by simp; omega) _
  refine (toFuncS_made a2 fs cap2 _ hs.funcs hs.code (hm2.mono hb1')).mono ?_
  rintro e w2 ⟨rfl, hfn, hb2, hfb⟩
  have hR2 := block_kept (w' := w2) (show (w1.setCell ⟨w.heap.size + 1 + 1, 0, none⟩ (.slice (some ⟨w.heap.size + 1 + 1 + 1, 0, none⟩) ts.length ts.length)).heap[w.heap.size + 1]? = _ by rw [Below.heap_setCell _ _ _ _ (by simp)]; exact hR) hb2
  have hO2 := block_kept (w' := w2) (block_set (i := 0) hO (.slice (some ⟨w.heap.size + 1 + 1 + 1, 0, none⟩) ts.length ts.length)) hb2
  have hst2 : StrsAt w2 (w.heap.size + 1 + 1 + 1) (some ⟨w.heap.size + 1 + 1 + 1, 0, none⟩) ts := (hst.above ((Above.refl _ _).setCell (p := ⟨w.heap.size + 1 + 1, 0, none⟩) (by simp) (.slice (some ⟨w.heap.size + 1 + 1 + 1, 0, none⟩) ts.length ts.length))).mono hb2
  have htb2 := (htb.above ((Above.refl (w.heap.size + 1 + 1 + 1) _).setCell (p := ⟨w.heap.size + 1 + 1, 0, none⟩) (by simp) (.slice (some ⟨w.heap.size + 1 + 1 + 1, 0, none⟩) ts.length ts.length)) (Nat.le_refl _)).mono hb2
  simp only [World.size_setCell] at hfn hb2 hfb ⊢
  have hb3 : Below w.heap.size w w2 := hb1'.trans (hb2.mono (by omega))
  simp at hO2
  have r1 := block_cell hR2
  have r2 := block_free hR2
  have p1 := block_cell hO2
  have p2 := block_free hO2
  clear hB hR hO b1 o1 o2 hR2 hO2 hst hb hb2 hbA hb1'
  go_wp2
  refine bodyPost_ret (v := .agg #[(.slice (some ⟨w.heap.size + 1 + 1 + 1, 0, none⟩) ts.length ts.length), .slice (some ⟨w1.heap.size, 0, none⟩) fs.length fs.length]) (by simp [results, Tryz.results9, go_sem, r1]) rfl ⟨w.heap.size + 1 + 1 + 1, w1.heap.size, by omega, by omega, rfl, ?_, ?_, ?_, ?_, ?_⟩
  · exact (hst2.above ((((Above.refl _ _).setCell (by simp) _).setCell (by simp) _).setCell (by simp) _)).low (by omega)
  · exact (hfn.above ((((Above.refl _ _).setCell (by simp; omega) _).setCell (by simp; omega) _).setCell (by simp; omega) _)).low (by omega)
  · exact ((hb3.setCell (by simp; omega) _).setCell (by simp) _).setCell (by simp) _
  · exact htb2.above ((((Above.refl _ _).setCell (by simp) _).setCell (by simp) _).setCell (by simp) _) (Nat.le_refl _)
  · exact (hfb.above ((((Above.refl (w.heap.size + 1 + 1 + 1) _).setCell (by simp) _).setCell (by simp) _).setCell (by simp) _) (by omega) (by omega)).low (by omega)
end Go.Proofs.YtmmcockkbhnopaaGreat

namespace Go.Proofs.YtmmcockkbhnopaaGreat
open Go.RowKit

set_option maxHeartbeats 400000 in
theorem markStringS_any (lo g n cap : Nat) (k0 : Int) (w : World) (hn : n ≤ 1048576) (h0 : 0 ≤ k0) (h1 : k0 ≤ 1000000) (hg : lo ≤ g) (hblk0 : TextBlk w g n) :
    Calls Tryz.prog 47 #[.slice (some ⟨g, 0, none⟩) n cap, .int .i64 k0] w fun e w' => e = .returned (.int .i64 (k0 + n)) ∧ Keeps lo [9] w w' ∧ SameShape w w' := by
  go_enter Tryz.func47, Tryz.ntmps47
  go_wp2
  go_loopw [1, 5] (fun q i wr => ∃ (k : Nat), k ≤ n ∧ i = .int .i64 k ∧ q = .int .i64 (k0 + k) ∧ Keeps lo [9] w wr ∧ SameShape w wr) (fun _ i _ => n - (intOf i).toNat)
  case atStart => exact ⟨0, by omega, rfl, by go_num, Keeps.refl _ _ _, SameShape.refl _⟩
  case round =>
    obtain ⟨k, hk, rfl, rfl, hkr, hsh⟩ := hrel
    by_cases hlt : k < n
    · go_wp2_with fail
      refine (markText_any (k0 + k) _ (by omega) (by omega)).mono ?_
      rintro e w1 ⟨s, rfl, hb⟩
      have hk1 : Keeps lo [9] w w1 := hkr.trans (Keeps.below hb)
      have hs1 : SameShape w w1 := hsh.trans (SameShape.below hb)
      obtain ⟨cur, hblk, hsz⟩ := hblk0.shape hs1
      have hfz := block_free hblk k
      have hcl : w1.cell? ⟨g, k, none⟩ = some cur[k] := by rw [block_cell hblk k]; simp
      go_wp2
      go_roundw
      case rel => exact ⟨k + 1, by omega, by go_num, by go_num, Keeps.set hk1 hblk (by simp) hg _ _, SameShape.set hs1 hblk _ _⟩
      case measure => simp [intOf]; omega
    · go_wp2
      go_ret
      exact ⟨ret_int (by omega), hkr, hsh⟩

set_option maxHeartbeats 400000 in
theorem markInsS_any (lo g n cap : Nat) (k0 : Int) (w : World) (hn : n ≤ 1048576) (h0 : 0 ≤ k0) (h1 : k0 ≤ 10000000000000) (hg : lo ≤ g) (hblk0 : CodeBlk w g n) :
    Calls Tryz.prog 84 #[.slice (some ⟨g, 0, none⟩) n cap, .int .i64 k0] w fun e w' => e = .returned (.int .i64 (k0 + 2 * n)) ∧ Keeps lo [152] w w' ∧ SameShape w w' := by
  go_enter Tryz.func84, Tryz.ntmps84
  go_wp2
  go_loopw [1, 5] (fun q i wr => ∃ (k : Nat), k ≤ n ∧ i = .int .i64 k ∧ q = .int .i64 (k0 + 2 * k) ∧ Keeps lo [152] w wr ∧ SameShape w wr) (fun _ i _ => n - (intOf i).toNat)
  case atStart => exact ⟨0, by omega, rfl, by go_num, Keeps.refl _ _ _, SameShape.refl _⟩
  case round =>
    obtain ⟨k, hk, rfl, rfl, hkr, hsh⟩ := hrel
    by_cases hlt : k < n
    · obtain ⟨cur, hblk, hsz⟩ := hblk0.shape hsh
      have hfz := block_free hblk
      have hcl : wr.cell? ⟨g, k * 2, none⟩ = some cur[k * 2] := by rw [block_cell hblk]; simp
      have hcl2 : wr.cell? ⟨g, k * 2 + 1, none⟩ = some cur[k * 2 + 1] := by rw [block_cell hblk]; simp
      go_wp2
      go_roundw
      case rel => exact ⟨k + 1, by omega, by go_num, by go_num, Keeps.set (Keeps.set hkr hblk (by simp) hg _ _) (block_set hblk _) (by simp) hg _ _, SameShape.set (SameShape.set hsh hblk _ _) (block_set hblk _) _ _⟩
      case measure => simp [intOf]; omega
    · go_wp2
      go_ret
      exact ⟨ret_int (by omega), hkr, hsh⟩

set_option maxHeartbeats 400000 in
theorem markFuncS_any (lo g cap : Nat) (fs : List Fn) (k0 : Int) (w : World) (hn : fs.length ≤ 1048576) (hc : ∀ f ∈ fs, f.code.length ≤ 1048576) (h0 : 0 ≤ k0) (h1 : k0 ≤ 10000000) (hg : lo ≤ g) (hblk0 : FnsBlk w lo g fs) :
    Calls Tryz.prog 48 #[.slice (some ⟨g, 0, none⟩) fs.length cap, .int .i64 k0] w fun e w' => ∃ r : Int, e = .returned (.int .i64 r) ∧ 0 ≤ r ∧ r ≤ 10000000000000 ∧ Keeps lo [152, 116] w w' := by
  obtain ⟨cur0, hb0, hsz0, hcode0⟩ := hblk0
  go_enter Tryz.func48, Tryz.ntmps48
  go_wp2
  go_loopw [1, 5] (fun q i wr => ∃ (k : Nat) (r : Int) (cur : Array Value), k ≤ fs.length ∧ i = .int .i64 k ∧ q = .int .i64 r ∧ 0 ≤ r ∧ r ≤ k0 + k * 3000000 ∧ wr.heap[g]? = some (.cells cur 116 (0, 0)) ∧ cur.size = fs.length * 3 ∧ (∀ j, j < fs.length → cur[j * 3 + 2]? = cur0[j * 3 + 2]?) ∧ Keeps lo [152, 116] w wr ∧ SameShape w wr) (fun _ i _ => fs.length - (intOf i).toNat)
  case atStart => exact ⟨0, k0, cur0, by omega, rfl, rfl, h0, by omega, hb0, hsz0, fun _ _ => rfl, Keeps.refl _ _ _, SameShape.refl _⟩
  case round =>
    obtain ⟨k, r, cur, hk, rfl, rfl, hr0, hr1, hblk, hsz, hsame, hkr, hsh⟩ := hrel
    by_cases hlt : k < fs.length
    · have hfz := block_free hblk
      have hcl : wr.cell? ⟨g, k * 3, none⟩ = some cur[k * 3] := by rw [block_cell hblk]; simp
      have hcl2 : wr.cell? ⟨g, k * 3 + 1, none⟩ = some cur[k * 3 + 1] := by rw [block_cell hblk]; simp
      obtain ⟨gc, hgc, hgl, hcb⟩ := hcode0 k hlt
      have hcl3 : wr.cell? ⟨g, k * 3 + 2, none⟩ = some (.slice (some ⟨gc, 0, none⟩) fs[k].code.length fs[k].code.length) := by rw [block_cell hblk, hsame k hlt, hgc]
      have hck := hc fs[k] (List.getElem_mem hlt)
      have hr2 : r ≤ 10000000 + 1048576 * 3000000 := by omega
      go_wp2_with fail
      have hk1 : Keeps lo [152, 116] w ((wr.setCell ⟨g, k * 3, none⟩ (.int .i64 r)).setCell ⟨g, k * 3 + 1, none⟩ (.int .i64 (r + 1))) := Keeps.set (Keeps.set hkr hblk (by simp) hg _ _) (block_set hblk _) (by simp) hg _ _
      have hs1 : SameShape w ((wr.setCell ⟨g, k * 3, none⟩ (.int .i64 r)).setCell ⟨g, k * 3 + 1, none⟩ (.int .i64 (r + 1))) := SameShape.set (SameShape.set hsh hblk _ _) (block_set hblk _) _ _
      have hblk1 := block_set (i := k * 3 + 1) (block_set (i := k * 3) hblk (.int .i64 r)) (.int .i64 (r + 1))
      refine (markInsS_any lo gc fs[k].code.length _ (r + 1 + 1) _ hck (by omega) (by omega) hgl (hcb.shape hs1)).mono ?_
      rintro e w2 ⟨rfl, hk2, hs2⟩
      have hblk2 := hk2.cell hblk1 (by simp)
      have hk3 : Keeps lo [152, 116] w w2 := hk1.trans (hk2.mono (Nat.le_refl _) (by simp))
      have hs3 : SameShape w w2 := hs1.trans hs2
      clear hfz hcl hcl2 hcl3 hblk hkr hsh hk1 hs1 hblk1 hk2 hs2
      go_wp2
      go_roundw
      case rel =>
        refine ⟨k + 1, _, _, by omega, by go_num, rfl, by omega, by omega, hblk2, by simpa using hsz, fun j hj => ?_, hk3, hs3⟩
        rw [set_else _ (by omega), set_else _ (by omega)]
        exact hsame j hj
      case measure => simp [intOf]; omega
    · go_wp2
      go_ret
      exact ⟨r, rfl, hr0, by omega, hkr⟩

set_option maxHeartbeats 400000 in
theorem markModule_any (lo g g2 c1 c2 : Nat) (ts : List ByteArray) (fs : List Fn) (w : World) (hs : Small ts fs) (hg : lo ≤ g) (hg2 : lo ≤ g2) (ht : TextBlk w g ts.length) (hf : FnsBlk w lo g2 fs) :
    Calls Tryz.prog 16 #[.agg #[.slice (some ⟨g, 0, none⟩) ts.length c1, .slice (some ⟨g2, 0, none⟩) fs.length c2], .int .i64 1] w fun e w' => ∃ r : Int, e = .returned (.int .i64 r) ∧ 0 ≤ r ∧ r ≤ 10000000000000 ∧ Keeps lo [9, 152, 116] w w' := by
  have s1 := hs.texts
  go_enter Tryz.func16, Tryz.ntmps16
  go_wp2_with fail
  have hbA : Below w.heap.size w (w.alloc (.cells #[.slice (some ⟨g, 0, none⟩) ts.length c1, .slice (some ⟨g2, 0, none⟩) fs.length c2] 40)) := (Below.refl _ _).alloc (Nat.le_refl _) _
  have hM := block_new w #[.slice (some ⟨g, 0, none⟩) ts.length c1, .slice (some ⟨g2, 0, none⟩) fs.length c2] 40
  refine (markStringS_any lo g ts.length _ 1 _ hs.texts (by omega) (by omega) hg (ht.mono hbA)).mono ?_
  rintro e w1 ⟨rfl, hk1, hs1⟩
  have hM1 := hk1.cell hM (by simp)
  have x1 := block_cell hM1
  have hf1 : FnsBlk w1 lo g2 fs := by
    obtain ⟨c, q1, q2, q3⟩ := hf.mono hbA
    refine ⟨c, hk1.cell q1 (by simp), q2, fun j hj => ?_⟩
    obtain ⟨gc, a, b, d⟩ := q3 j hj
    exact ⟨gc, a, b, d.shape hs1⟩
  have hk2 : Keeps lo [9, 152, 116] w w1 := (Keeps.below hbA).trans (hk1.mono (Nat.le_refl _) (by simp))
  clear hM hbA
  go_wp2_with fail
  refine (markFuncS_any lo g2 _ fs (1 + ts.length) _ hs.funcs hs.code (by omega) (by omega) hg2 hf1).mono ?_
  rintro e w2 ⟨r, rfl, hr, hrm, hk3⟩
  go_wp2
  go_ret
  exact ⟨r, rfl, hr, hrm, hk2.trans (hk3.mono (Nat.le_refl _) (by simp))⟩
end Go.Proofs.YtmmcockkbhnopaaGreat
