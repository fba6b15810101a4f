/-
  What the size functions of the laws return of lists of values, frames, records, and of states.
  What szVm returns.
-/
import Derived.Test.YtfefbgemcakabaaGreatDoorVQ6
import Derived.Test.YtfefbgemcakabaaGreatDoorX1
namespace Go.Proofs.YtfefbgemcakabaaGreatDoor
open Go.RowKit

set_option maxHeartbeats 400000 in
theorem szValueS_any (a : Option Addr) (vs : List Vl) (cap : Nat) (left : Int) (w : World) (h0 : 0 ≤ left) (h1 : left ≤ 1048576) (hx : ValsMax vs) (hm : ValsAt w 0 a vs) :
    Calls Tryz.prog 60 #[.slice a vs.length cap, .int .i64 left] w fun e w' => ∃ r : Int, e = .returned (.int .i64 r) ∧ r ≤ left ∧ (0 ≤ r → ValsSmall vs) ∧ Below w.heap.size w w' := by
  obtain ⟨hn, hc⟩ := hx
  have hn' := hn
  unfold maxLen at hn
  by_cases h : left < vs.length
  · go_enter Tryz.func60, Tryz.ntmps60
    go_wp2
    go_ret
    exact ⟨-1, rfl, by omega, by omega, Below.refl _ _⟩
  · go_enter Tryz.func60, Tryz.ntmps60
    go_wp2
    go_loopw [1, 5] (fun l i wr => ∃ (k : Nat) (q : Int), k ≤ vs.length ∧ i = .int .i64 k ∧ l = .int .i64 q ∧ 0 ≤ q ∧ q ≤ left - vs.length ∧ (∀ f ∈ vs.take k, f.s.size ≤ 1048576) ∧ Below w.heap.size w wr) (fun _ i _ => vs.length - (intOf i).toNat)
    case atStart => exact ⟨0, _, by omega, rfl, rfl, by omega, by omega, by simp, Below.refl _ _⟩
    case round =>
      obtain ⟨k, q, hk, rfl, rfl, hq0, hq1, hall, hb⟩ := hrel
      by_cases hlt : k < vs.length
      · obtain ⟨b, off, rfl, -, c1, c2, c3⟩ := hm k hlt
        have c1' := cell_later hb c1
        have c2' := cell_later hb c2
        have c3' := cell_later hb c3
        clear c1 c2 c3
        have hck := hc vs[k] (List.getElem_mem hlt)
        by_cases hs : q < vs[k].s.size
        · go_wp2_with (go_at_call 16; refine (szVal_any _ _ _ _ _ hq0 (by omega) hck).mono ?_; rintro e w' ⟨rfl, hb'⟩)
          go_ret
          exact ⟨_, rfl, by omega, by omega, hb.trans (hb'.mono hb.size)⟩
        · go_wp2_with (go_at_call 16; refine (szVal_any _ _ _ _ _ hq0 (by omega) hck).mono ?_; rintro e w' ⟨rfl, hb'⟩)
          go_roundw
          case rel => exact ⟨k + 1, q - vs[k].s.size, by omega, by go_num, by rw [if_neg (by omega)], by omega, by omega, take_succ_mem hlt hall (by omega), hb.trans (hb'.mono hb.size)⟩
          case measure => simp [intOf]; omega
      · go_wp2
        go_ret
        exact ⟨q, rfl, by omega, fun _ => ⟨by omega, by rwa [List.take_of_length_le (by omega)] at hall⟩, hb⟩

set_option maxHeartbeats 400000 in
theorem szRec_any (a : Option Addr) (vs : List Vl) (cap : Nat) (left : Int) (w : World) (h0 : 0 ≤ left) (h1 : left ≤ 1048576) (hx : ValsMax vs) (hm : ValsAt w 0 a vs) :
    Calls Tryz.prog 37 #[.agg #[.slice a vs.length cap], .int .i64 left] w fun e w' => ∃ r : Int, e = .returned (.int .i64 r) ∧ r ≤ left ∧ (0 ≤ r → ValsSmall vs) ∧ Below w.heap.size w w' := by
  have hbA : Below w.heap.size w (w.alloc (.cells #[.slice a vs.length cap] 83)) := (Below.refl _ _).alloc (Nat.le_refl _) _
  go_enter Tryz.func37, Tryz.ntmps37
  go_wp2_with fail
  refine (szValueS_any a vs cap left _ h0 h1 hx (hm.mono hbA)).mono ?_
  rintro e w1 ⟨r, rfl, hr, hs, hb⟩
  have hB := hbA.trans (hb.mono hbA.size)
  by_cases hr0 : r < 0
  · go_wp2
    go_ret
    exact ⟨-1, rfl, by omega, by omega, hB⟩
  · go_wp2
    go_ret
    exact ⟨r, rfl, hr, hs, hB⟩

set_option maxHeartbeats 400000 in
theorem szFrame_any (f p : Int) (a a2 : Option Addr) (vs us : List Vl) (cap cap2 : Nat) (left : Int) (w : World) (h0 : 0 ≤ left) (h1 : left ≤ 1048576) (hx : ValsMax vs) (hx2 : ValsMax us) (hm : ValsAt w 0 a vs) (hm2 : ValsAt w 0 a2 us) :
    Calls Tryz.prog 36 #[.agg #[.int .i64 f, .int .i64 p, .slice a vs.length cap, .slice a2 us.length cap2], .int .i64 left] w fun e w' => ∃ r : Int, e = .returned (.int .i64 r) ∧ r ≤ left ∧ (0 ≤ r → ValsSmall vs ∧ ValsSmall us) ∧ Below w.heap.size w w' := by
  have hbA : Below w.heap.size w (w.alloc (.cells #[.int .i64 f, .int .i64 p, .slice a vs.length cap, .slice a2 us.length cap2] 80)) := (Below.refl _ _).alloc (Nat.le_refl _) _
  have hM0 := block_new w #[.int .i64 f, .int .i64 p, .slice a vs.length cap, .slice a2 us.length cap2] 80
  go_enter Tryz.func36, Tryz.ntmps36
  go_wp2_with fail
  refine (szValueS_any a vs cap left _ h0 h1 hx (hm.mono hbA)).mono ?_
  rintro e w1 ⟨r, rfl, hr, hs, hb⟩
  have hB := hbA.trans (hb.mono hbA.size)
  by_cases hr0 : r < 0
  · go_wp2
    go_ret
    exact ⟨-1, rfl, by omega, by omega, hB⟩
  · have y := block_cell (block_kept hM0 hb)
    go_wp2_with fail
    refine (szValueS_any a2 us cap2 r _ (by omega) (by omega) hx2 (hm2.mono hB)).mono ?_
    rintro e w2 ⟨r2, rfl, hr2, hs2, hb2⟩
    have hB2 := hB.trans (hb2.mono hB.size)
    clear y
    by_cases hr0 : r2 < 0
    · go_wp2
      go_ret
      exact ⟨-1, rfl, by omega, by omega, hB2⟩
    · go_wp2
      go_ret
      exact ⟨r2, rfl, by omega, fun _ => ⟨hs (by omega), hs2 (by omega)⟩, hB2⟩

set_option maxHeartbeats 400000 in
theorem szRecS_any (a : Option Addr) (rs : List (List Vl)) (cap : Nat) (left : Int) (w : World) (h0 : 0 ≤ left) (h1 : left ≤ 1048576) (hn : rs.length ≤ maxLen) (hc : ∀ r ∈ rs, ValsMax r) (hm : RecsAt w 0 a rs) :
    Calls Tryz.prog 15 #[.slice a rs.length cap, .int .i64 left] w fun e w' => ∃ r : Int, e = .returned (.int .i64 r) ∧ r ≤ left ∧ (0 ≤ r → rs.length ≤ 1048576 ∧ ∀ r ∈ rs, ValsSmall r) ∧ Below w.heap.size w w' := by
  unfold maxLen at hn
  by_cases h : left < rs.length
  · go_enter Tryz.func15, Tryz.ntmps15
    go_wp2
    go_ret
    exact ⟨-1, rfl, by omega, by omega, Below.refl _ _⟩
  · go_enter Tryz.func15, Tryz.ntmps15
    go_wp2
    go_loopw [1, 5] (fun l i wr => ∃ (k : Nat) (q : Int), k ≤ rs.length ∧ i = .int .i64 k ∧ l = .int .i64 q ∧ 0 ≤ q ∧ q ≤ left - rs.length ∧ Hid (∀ f ∈ rs.take k, ValsSmall f) ∧ Below w.heap.size w wr) (fun _ i _ => rs.length - (intOf i).toNat)
    case atStart => exact ⟨0, _, by omega, rfl, rfl, by omega, by omega, by intro f hf; simp at hf, Below.refl _ _⟩
    case round =>
      obtain ⟨k, q, hk, rfl, rfl, hq0, hq1, hall, hb⟩ := hrel
      by_cases hlt : k < rs.length
      · obtain ⟨b, off, fa, fc, rfl, -, c1, c2⟩ := hm k hlt
        have c1' := cell_later hb c1
        clear c1
        have hck := hc rs[k] (List.getElem_mem hlt)
        go_wp2_with fail
        refine (szRec_any _ _ _ _ _ hq0 (by omega) hck (c2.mono hb)).mono ?_
        rintro e w2 ⟨r, rfl, hr, hs, hb'⟩
        have hB := hb.trans (hb'.mono hb.size)
        clear c1' hb' c2
        by_cases hr0 : r < 0
        · go_wp2
          go_ret
          exact ⟨-1, rfl, by omega, by omega, hB⟩
        · go_wp2
          go_roundw
          case rel => exact ⟨k + 1, r, by omega, by go_num, rfl, by omega, by omega, take_succ_mem hlt hall.out (hs (by omega)), hB⟩
          case measure => simp [intOf]; omega
      · go_wp2
        go_ret
        exact ⟨q, rfl, by omega, fun _ => ⟨by omega, by have := hall.out; rwa [List.take_of_length_le (by omega)] at this⟩, hb⟩

set_option maxHeartbeats 400000 in
theorem szFrameS_any (a : Option Addr) (fr : List Fr) (cap : Nat) (left : Int) (w : World) (h0 : 0 ≤ left) (h1 : left ≤ 1048576) (hn : fr.length ≤ maxLen) (hc : ∀ f ∈ fr, ValsMax f.locals) (hc2 : ∀ f ∈ fr, ValsMax f.stack) (hm : FrsAt w 0 a fr) :
    Calls Tryz.prog 14 #[.slice a fr.length cap, .int .i64 left] w fun e w' => ∃ r : Int, e = .returned (.int .i64 r) ∧ r ≤ left ∧ (0 ≤ r → fr.length ≤ 1048576 ∧ ∀ f ∈ fr, ValsSmall f.locals ∧ ValsSmall f.stack) ∧ Below w.heap.size w w' := by
  unfold maxLen at hn
  by_cases h : left < fr.length
  · go_enter Tryz.func14, Tryz.ntmps14
    go_wp2
    go_ret
    exact ⟨-1, rfl, by omega, by omega, Below.refl _ _⟩
  · go_enter Tryz.func14, Tryz.ntmps14
    go_wp2
    go_loopw [1, 5] (fun l i wr => ∃ (k : Nat) (q : Int), k ≤ fr.length ∧ i = .int .i64 k ∧ l = .int .i64 q ∧ 0 ≤ q ∧ q ≤ left - fr.length ∧ Hid (∀ f ∈ fr.take k, ValsSmall f.locals ∧ ValsSmall f.stack) ∧ Below w.heap.size w wr) (fun _ i _ => fr.length - (intOf i).toNat)
    case atStart => exact ⟨0, _, by omega, rfl, rfl, by omega, by omega, by intro f hf; simp at hf, Below.refl _ _⟩
    case round =>
      obtain ⟨k, q, hk, rfl, rfl, hq0, hq1, hall, hb⟩ := hrel
      by_cases hlt : k < fr.length
      · obtain ⟨b, off, la, lc, sa, sc, rfl, -, c1, c2, c3, c4, c5, c6⟩ := hm k hlt
        have c1' := cell_later hb c1
        have c2' := cell_later hb c2
        have c3' := cell_later hb c3
        have c4' := cell_later hb c4
        clear c1 c2 c3 c4
        have hck := hc fr[k] (List.getElem_mem hlt)
        have hck2 := hc2 fr[k] (List.getElem_mem hlt)
        go_wp2_with fail
        refine (szFrame_any _ _ _ _ _ _ _ _ _ _ hq0 (by omega) hck hck2 (c5.mono hb) (c6.mono hb)).mono ?_
        rintro e w2 ⟨r, rfl, hr, hs, hb'⟩
        have hB := hb.trans (hb'.mono hb.size)
        clear c1' c2' c3' c4' hb' c5 c6
        by_cases hr0 : r < 0
        · go_wp2
          go_ret
          exact ⟨-1, rfl, by omega, by omega, hB⟩
        · go_wp2
          go_roundw
          case rel => exact ⟨k + 1, r, by omega, by go_num, rfl, by omega, by omega, take_succ_mem (p := fun f => ValsSmall f.locals ∧ ValsSmall f.stack) hlt hall.out (hs (by omega)), hB⟩
          case measure => simp [intOf]; omega
      · go_wp2
        go_ret
        exact ⟨q, rfl, by omega, fun _ => ⟨by omega, by have := hall.out; rwa [List.take_of_length_le (by omega)] at this⟩, hb⟩
end Go.Proofs.YtfefbgemcakabaaGreatDoor
namespace Go.Proofs.YtfefbgemcakabaaGreatDoor
open Go.RowKit

set_option maxRecDepth 100000 in
set_option maxHeartbeats 1000000 in
theorem szVm_any (fa ha oa : Option Addr) (fc hcp oc : Nat) (d : VmD) (left : Int) (w : World) (h0 : 0 ≤ left) (h1 : left ≤ 1048576) (hx : VmMax d) (hf : FrsAt w 0 fa d.frames) (hh : RecsAt w 0 ha d.heap) (ho : StrsAt w 0 oa d.out) :
    Calls Tryz.prog 5 #[.agg #[.slice fa d.frames.length fc, .slice ha d.heap.length hcp, .int .i64 d.made, .slice oa d.out.length oc, .int .i64 d.status, .int .i64 d.trap, .int .i64 d.value.k, .int .i64 d.value.n, .string d.value.s, .int .i64 d.steps], .int .i64 left] w fun e w' => ∃ r : Int, e = .returned (.int .i64 r) ∧ r ≤ left ∧ (0 ≤ r → VmSmall d) ∧ Below w.heap.size w w' := by
  have hbA : Below w.heap.size w (w.alloc (.cells #[.slice fa d.frames.length fc, .slice ha d.heap.length hcp, .int .i64 d.made, .slice oa d.out.length oc, .int .i64 d.status, .int .i64 d.trap, .int .i64 d.value.k, .int .i64 d.value.n, .string d.value.s, .int .i64 d.steps] 31)) := (Below.refl _ _).alloc (Nat.le_refl _) _
  have hM0 := block_new w #[.slice fa d.frames.length fc, .slice ha d.heap.length hcp, .int .i64 d.made, .slice oa d.out.length oc, .int .i64 d.status, .int .i64 d.trap, .int .i64 d.value.k, .int .i64 d.value.n, .string d.value.s, .int .i64 d.steps] 31
  go_enter Tryz.func5, Tryz.ntmps5
  go_wp2_with fail
  refine (szFrameS_any fa d.frames fc left _ h0 h1 hx.frames hx.locals hx.stack (hf.mono hbA)).mono ?_
  rintro e w1 ⟨r1, rfl, hr1, hs1, hb1⟩
  have hB1 := hbA.trans (hb1.mono hbA.size)
  have hM1 := block_kept hM0 hb1
  clear hM0 hb1 hbA
  by_cases hn1 : r1 < 0
  · go_wp2
    go_ret
    exact ⟨-1, rfl, by omega, by omega, hB1⟩
  have y1 := block_cell hM1
  go_wp2_with fail
  refine (szRecS_any ha d.heap hcp r1 _ (by omega) (by omega) hx.heap hx.fields (hh.mono hB1)).mono ?_
  rintro e w2 ⟨r2, rfl, hr2, hs2, hb2⟩
  have hB2 := hB1.trans (hb2.mono hB1.size)
  have hM2 := block_kept hM1 hb2
  clear hM1 hb2 hB1 y1
  by_cases hn2 : r2 < 0
  · go_wp2
    go_ret
    exact ⟨-1, rfl, by omega, by omega, hB2⟩
  have y2 := block_cell hM2
  go_wp2_with fail
  refine (szStringS_any oa d.out oc r2 _ (by omega) (by omega) hx.out hx.text (ho.mono hB2)).mono ?_
  rintro e w3 ⟨r3, rfl, hr3, hs3, hb3⟩
  have hB3 := hB2.trans (hb3.mono hB2.size)
  have hM3 := block_kept hM2 hb3
  clear hM2 hb3 hB2 y2
  by_cases hn3 : r3 < 0
  · go_wp2
    go_ret
    exact ⟨-1, rfl, by omega, by omega, hB3⟩
  have y3 := block_cell hM3
  go_wp2_with fail
  refine (szVal_any _ _ _ _ _ (by omega) (by omega) hx.value).mono ?_
  rintro e w4 ⟨rfl, hb4⟩
  have hB4 := hB3.trans (hb4.mono hB3.size)
  clear hM3 hb4 hB3 y3
  by_cases hn4 : r3 < (d.value.s.size : Int)
  · rw [if_pos hn4]
    go_wp2
    go_ret
    exact ⟨-1, rfl, by omega, by omega, hB4⟩
  · rw [if_neg hn4]
    have hn5 : ¬ (r3 - (d.value.s.size : Int)) < 0 := by omega
    go_wp2
    go_ret
    exact ⟨_, rfl, by omega, fun _ => ⟨(hs1 (by omega)).1, fun f hf => ((hs1 (by omega)).2 f hf).1, fun f hf => ((hs1 (by omega)).2 f hf).2, (hs2 (by omega)).1, (hs2 (by omega)).2, (hs3 (by omega)).1, (hs3 (by omega)).2, by omega⟩, hB4⟩
end Go.Proofs.YtfefbgemcakabaaGreatDoor
