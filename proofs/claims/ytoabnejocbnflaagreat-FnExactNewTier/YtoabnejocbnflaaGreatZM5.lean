/-
  The comparing functions of the laws return true of lists of values, frames, records, and of states that read as the same data.
-/
import Derived.Test.YtoabnejocbnflaaGreatZM3
import Derived.Test.YtoabnejocbnflaaGreatZW3
namespace Go.Proofs.YtoabnejocbnflaaGreat
open Go.RowKit

set_option maxHeartbeats 400000 in
theorem eqValue_same (k n : Int) (s : ByteArray) (w : World) :
    Calls Tryz.prog 31 #[.agg #[.int .i64 k, .int .i64 n, .string s], .agg #[.int .i64 k, .int .i64 n, .string s]] w fun e w' => e = .returned (.bool true) ∧ Below w.heap.size w w' := by
  go_enter Tryz.func31, Tryz.ntmps31
  go_wp2
  go_ret
  exact ⟨rfl, ((Below.refl _ _).alloc (Nat.le_refl _) _).alloc (by simp) _⟩

set_option maxHeartbeats 400000 in
theorem eqValueS_any (a a2 : Option Addr) (vs : List Vl) (cap cap2 : Nat) (w : World) (hn : vs.length ≤ 1048576) (hm : ValsAt w 0 a vs) (hm2 : ValsAt w 0 a2 vs) :
    Calls Tryz.prog 12 #[.slice a vs.length cap, .slice a2 vs.length cap2] w fun e w' => e = .returned (.bool true) ∧ Below w.heap.size w w' := by
  go_enter Tryz.func12, Tryz.ntmps12
  go_wp2
  go_loopw [5] (fun i wr => ∃ (k : Nat), k ≤ vs.length ∧ i = .int .i64 k ∧ Below w.heap.size w wr) (fun i _ => vs.length - (intOf i).toNat)
  case atStart => exact ⟨0, by omega, rfl, Below.refl _ _⟩
  case round =>
    obtain ⟨k, hk, rfl, hb⟩ := hrel
    by_cases hlt : k < vs.length
    · obtain ⟨b, off, rfl, -, c1, d1, f1⟩ := hm k hlt
      obtain ⟨b2, off2, rfl, -, c2, d2, f2⟩ := hm2 k hlt
      have c1' := cell_later hb c1
      have c2' := cell_later hb c2
      have d1' := cell_later hb d1
      have d2' := cell_later hb d2
      have f1' := cell_later hb f1
      have f2' := cell_later hb f2
      clear c1 c2 d1 d2 f1 f2
      go_wp2
      go_region_with (go_at_call 31; refine (eqValue_same _ _ _ _).mono ?_; rintro e w1 ⟨rfl, hb1⟩)
      all_goals
        go_wp2
        go_roundw
        case rel =>
          refine ⟨k + 1, by omega, by go_num, Below.trans ?_ (hb1.mono ?_)⟩
          · repeat (first | exact hb | apply Below.drew)
          · exact hb.size
        case measure => simp [intOf]; omega
    · go_wp2
      go_ret
      exact ⟨rfl, hb⟩

set_option maxHeartbeats 400000 in
theorem eqRec_any (a a2 : Option Addr) (vs : List Vl) (cap cap2 : Nat) (w : World) (hn : vs.length ≤ 1048576) (hm : ValsAt w 0 a vs) (hm2 : ValsAt w 0 a2 vs) :
    Calls Tryz.prog 80 #[.agg #[.slice a vs.length cap], .agg #[.slice a2 vs.length cap2]] w fun e w' => e = .returned (.bool true) ∧ Below w.heap.size w w' := by
  go_enter Tryz.func80, Tryz.ntmps80
  go_wp2_with fail
  have hbA : Below w.heap.size w ((w.alloc (.cells #[.slice a vs.length cap] 130)).alloc (.cells #[.slice a2 vs.length cap2] 130)) := ((Below.refl _ _).alloc (Nat.le_refl _) _).alloc (by simp) _
  refine (eqValueS_any a a2 vs cap cap2 _ hn (hm.mono hbA) (hm2.mono hbA)).mono ?_
  rintro e w1 ⟨rfl, hb⟩
  go_wp2
  go_ret
  exact ⟨rfl, hbA.trans (hb.mono (by simp; omega))⟩

set_option maxHeartbeats 400000 in
theorem eqFrame_any (f p : Int) (a a2 b b2 : Option Addr) (vs us : List Vl) (c1 c2 e1 e2 : Nat) (w : World) (hn : vs.length ≤ 1048576) (hn2 : us.length ≤ 1048576) (hm : ValsAt w 0 a vs) (hm2 : ValsAt w 0 a2 vs) (hs : ValsAt w 0 b us) (hs2 : ValsAt w 0 b2 us) :
    Calls Tryz.prog 79 #[.agg #[.int .i64 f, .int .i64 p, .slice a vs.length c1, .slice b us.length e1], .agg #[.int .i64 f, .int .i64 p, .slice a2 vs.length c2, .slice b2 us.length e2]] w fun e w' => e = .returned (.bool true) ∧ Below w.heap.size w w' := by
  have hbA : Below w.heap.size w ((w.alloc (.cells #[.int .i64 f, .int .i64 p, .slice a vs.length c1, .slice b us.length e1] 87)).alloc (.cells #[.int .i64 f, .int .i64 p, .slice a2 vs.length c2, .slice b2 us.length e2] 87)) := ((Below.refl _ _).alloc (Nat.le_refl _) _).alloc (by simp) _
  have hX0 := block_old (block_new w #[.int .i64 f, .int .i64 p, .slice a vs.length c1, .slice b us.length e1] 87) (.cells #[.int .i64 f, .int .i64 p, .slice a2 vs.length c2, .slice b2 us.length e2] 87)
  have hY0 := block_new (w.alloc (.cells #[.int .i64 f, .int .i64 p, .slice a vs.length c1, .slice b us.length e1] 87)) #[.int .i64 f, .int .i64 p, .slice a2 vs.length c2, .slice b2 us.length e2] 87
  simp only [World.size_alloc] at hY0
  go_enter Tryz.func79, Tryz.ntmps79
  go_wp2_with fail
  refine (eqValueS_any a a2 vs c1 c2 _ hn (hm.mono hbA) (hm2.mono hbA)).mono ?_
  rintro e w1 ⟨rfl, hb⟩
  have hB1 := hbA.trans (hb.mono hbA.size)
  have x1 := block_cell (block_kept hX0 hb)
  have y1 := block_cell (block_kept hY0 hb)
  go_wp2_with fail
  refine (eqValueS_any b b2 us e1 e2 _ hn2 (hs.mono hB1) (hs2.mono hB1)).mono ?_
  rintro e w2 ⟨rfl, hb2⟩
  clear x1 y1
  go_wp2
  go_ret
  exact ⟨rfl, hB1.trans (hb2.mono hB1.size)⟩

set_option maxHeartbeats 400000 in
theorem eqRecS_any (a a2 : Option Addr) (rs : List (List Vl)) (cap cap2 : Nat) (w : World) (hn : rs.length ≤ 1048576) (hc : ∀ r ∈ rs, ValsSmall r) (hm : RecsAt w 0 a rs) (hm2 : RecsAt w 0 a2 rs) :
    Calls Tryz.prog 52 #[.slice a rs.length cap, .slice a2 rs.length cap2] w fun e w' => e = .returned (.bool true) ∧ Below w.heap.size w w' := by
  go_enter Tryz.func52, Tryz.ntmps52
  go_wp2
  go_loopw [5] (fun i wr => ∃ (k : Nat), k ≤ rs.length ∧ i = .int .i64 k ∧ Below w.heap.size w wr) (fun i _ => rs.length - (intOf i).toNat)
  case atStart => exact ⟨0, by omega, rfl, Below.refl _ _⟩
  case round =>
    obtain ⟨k, hk, rfl, hb⟩ := hrel
    by_cases hlt : k < rs.length
    · obtain ⟨b, off, ca, cc, rfl, -, c1, f1⟩ := hm k hlt
      obtain ⟨b2, off2, ca2, cc2, rfl, -, c2, f2⟩ := hm2 k hlt
      have c1' := cell_later hb c1
      have c2' := cell_later hb c2
      have hck := (hc rs[k] (List.getElem_mem hlt)).1
      clear c1 c2
      go_wp2
      go_region_with (go_at_call 80; refine (eqRec_any _ _ _ _ _ _ hck (by exact f1.mono (by repeat (first | exact hb | apply Below.drew))) (by exact f2.mono (by repeat (first | exact hb | apply Below.drew)))).mono ?_; rintro e w1 ⟨rfl, hb1⟩)
      all_goals
        go_wp2
        go_roundw
        case rel =>
          refine ⟨k + 1, by omega, by go_num, Below.trans ?_ (hb1.mono ?_)⟩
          · repeat (first | exact hb | apply Below.drew)
          · exact hb.size
        case measure => simp [intOf]; omega
    · go_wp2
      go_ret
      exact ⟨rfl, hb⟩

set_option maxHeartbeats 400000 in
theorem eqFrameS_any (a a2 : Option Addr) (fr : List Fr) (cap cap2 : Nat) (w : World) (hn : fr.length ≤ 1048576) (hc : ∀ f ∈ fr, ValsSmall f.locals) (hc2 : ∀ f ∈ fr, ValsSmall f.stack) (hm : FrsAt w 0 a fr) (hm2 : FrsAt w 0 a2 fr) :
    Calls Tryz.prog 51 #[.slice a fr.length cap, .slice a2 fr.length cap2] w fun e w' => e = .returned (.bool true) ∧ Below w.heap.size w w' := by
  go_enter Tryz.func51, Tryz.ntmps51
  go_wp2
  go_loopw [5] (fun i wr => ∃ (k : Nat), k ≤ fr.length ∧ i = .int .i64 k ∧ Below w.heap.size w wr) (fun i _ => fr.length - (intOf i).toNat)
  case atStart => exact ⟨0, by omega, rfl, Below.refl _ _⟩
  case round =>
    obtain ⟨k, hk, rfl, hb⟩ := hrel
    by_cases hlt : k < fr.length
    · obtain ⟨b, off, la, lc, sa, sc, rfl, -, c1, d1, e1, g1, p1, q1⟩ := hm k hlt
      obtain ⟨b2, off2, la2, lc2, sa2, sc2, rfl, -, c2, d2, e2, g2, p2, q2⟩ := hm2 k hlt
      have c1' := cell_later hb c1
      have c2' := cell_later hb c2
      have d1' := cell_later hb d1
      have d2' := cell_later hb d2
      have e1' := cell_later hb e1
      have e2' := cell_later hb e2
      have g1' := cell_later hb g1
      have g2' := cell_later hb g2
      have hck := (hc fr[k] (List.getElem_mem hlt)).1
      have hck2 := (hc2 fr[k] (List.getElem_mem hlt)).1
      clear c1 c2 d1 d2 e1 e2 g1 g2
      go_wp2
      go_region_with (go_at_call 79; refine (eqFrame_any _ _ _ _ _ _ _ _ _ _ _ _ _ hck hck2 (by exact p1.mono (by repeat (first | exact hb | apply Below.drew))) (by exact p2.mono (by repeat (first | exact hb | apply Below.drew))) (by exact q1.mono (by repeat (first | exact hb | apply Below.drew))) (by exact q2.mono (by repeat (first | exact hb | apply Below.drew)))).mono ?_; rintro e w1 ⟨rfl, hb1⟩)
      all_goals
        go_wp2
        go_roundw
        case rel =>
          refine ⟨k + 1, by omega, by go_num, Below.trans ?_ (hb1.mono ?_)⟩
          · repeat (first | exact hb | apply Below.drew)
          · exact hb.size
        case measure => simp [intOf]; omega
    · go_wp2
      go_ret
      exact ⟨rfl, hb⟩

set_option maxRecDepth 100000 in
set_option maxHeartbeats 2000000 in
theorem eqVm_any (fa ha oa fb hb' ob : Option Addr) (fc hcp oc fc2 hcp2 oc2 : Nat) (d : VmD) (w : World) (hx : VmSmall d) (hm : VmAt w 0 fa ha oa d) (hm2 : VmAt w 0 fb hb' ob d) :
    Calls Tryz.prog 25 #[.agg (vmCells fa ha oa fc hcp oc d), .agg (vmCells fb hb' ob fc2 hcp2 oc2 d)] w fun e w' => e = .returned (.bool true) ∧ Below w.heap.size w w' := by
  have hbA : Below w.heap.size w ((w.alloc (.cells (vmCells fa ha oa fc hcp oc d) 34)).alloc (.cells (vmCells fb hb' ob fc2 hcp2 oc2 d) 34)) := ((Below.refl _ _).alloc (Nat.le_refl _) _).alloc (by simp) _
  have hX0 := block_old (block_new w (vmCells fa ha oa fc hcp oc d) 34) (.cells (vmCells fb hb' ob fc2 hcp2 oc2 d) 34)
  have hY0 := block_new (w.alloc (.cells (vmCells fa ha oa fc hcp oc d) 34)) (vmCells fb hb' ob fc2 hcp2 oc2 d) 34
  simp only [World.size_alloc] at hY0
  unfold vmCells at hbA hX0 hY0 ⊢
  go_enter Tryz.func25, Tryz.ntmps25
  go_wp2_with fail
  refine (eqFrameS_any _ _ d.frames _ _ _ hx.frames hx.locals hx.stack (hm.frs.mono hbA) (hm2.frs.mono hbA)).mono ?_
  rintro e w1 ⟨rfl, hb⟩
  have hB1 := hbA.trans (hb.mono hbA.size)
  have hX1 := block_kept hX0 hb
  have hY1 := block_kept hY0 hb
  have x1 := block_cell hX1
  have y1 := block_cell hY1
  clear hbA hX0 hY0 hb
  go_wp2_with fail
  refine (eqRecS_any _ _ d.heap _ _ _ hx.heap hx.fields (hm.recs.mono hB1) (hm2.recs.mono hB1)).mono ?_
  rintro e w2 ⟨rfl, hb⟩
  have hB2 := hB1.trans (hb.mono hB1.size)
  have hX2 := block_kept hX1 hb
  have hY2 := block_kept hY1 hb
  clear x1 y1 hX1 hY1 hB1 hb
  have x2 := block_cell hX2
  have y2 := block_cell hY2
  go_wp2_with fail
  refine (eqStringS_any _ _ d.out _ _ _ hx.out (hm.out.mono hB2) (hm2.out.mono hB2)).mono ?_
  rintro e w3 ⟨rfl, hb⟩
  have hB3 := hB2.trans (hb.mono hB2.size)
  have hX3 := block_kept hX2 hb
  have hY3 := block_kept hY2 hb
  clear x2 y2 hX2 hY2 hB2 hb
  have x3 := block_cell hX3
  have y3 := block_cell hY3
  go_wp2_with fail
  refine (eqValue_same _ _ _ _).mono ?_
  rintro e w4 ⟨rfl, hb⟩
  have hB4 := hB3.trans (hb.mono hB3.size)
  have x4 := block_cell (block_kept hX3 hb)
  have y4 := block_cell (block_kept hY3 hb)
  clear x3 y3 hX3 hY3 hB3 hb
  go_wp2
  go_ret
  exact ⟨rfl, hB4⟩
end Go.Proofs.YtoabnejocbnflaaGreat
