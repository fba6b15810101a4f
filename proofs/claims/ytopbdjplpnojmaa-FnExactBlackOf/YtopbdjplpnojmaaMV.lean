/-
  Lists of values, records, frames and states: sz, to, eq.
-/
import Derived.Test.YtopbdjplpnojmaaM1
import Derived.Test.YtopbdjplpnojmaaM3
import Derived.Test.YtopbdjplpnojmaaM5
import Derived.Test.YtopbdjplpnojmaaW3
namespace Go.Proofs.Ytopbdjplpnojmaa
open Go.RowKit

theorem info41 : (Try.prog.info? 41).map (fun i => (i.zero, i.size)) = some (some (.agg #[.slice none 0 0, .slice none 0 0, .int .i64 0, .slice none 0 0, .int .i64 0, .int .i64 0, .int .i64 0, .int .i64 0, .string ByteArray.empty, .int .i64 0]), 10) := by kernel_rfl
set_option maxHeartbeats 400000 in
theorem szValueS_any (a : Option Addr) (vs : List Vl) (cap : Nat) (left : Int) (w : World) (h0 : 0 ≤ left) (h1 : left ≤ 1048576) (hx : ValsMax vs) (hm : ValsAt w 0 a vs) :
    Calls Try.prog 72 #[.slice a vs.length cap, .int .i64 left] w fun e w' => ∃ r : Int, e = .returned (.int .i64 r) ∧ r ≤ left ∧ (0 ≤ r → ValsSmall vs) ∧ Below w.heap.size w w' := by
  obtain ⟨hn, hc⟩ := hx
  have hn' := hn
  unfold maxLen at hn
  by_cases h : left < vs.length
  · go_enter Try.func72, Try.ntmps72
    go_wp2
    go_ret
    exact ⟨-1, rfl, by omega, by omega, Below.refl _ _⟩
  · go_enter Try.func72, Try.ntmps72
    go_wp2
    go_loopw [1, 5] (fun l i wr => ∃ (k : Nat) (q : Int), k ≤ vs.length ∧ i = .int .i64 k ∧ l = .int .i64 q ∧ 0 ≤ q ∧ q ≤ left - vs.length ∧ (∀ f ∈ vs.take k, f.s.size ≤ 1048576) ∧ Below w.heap.size w wr) (fun _ i _ => vs.length - (intOf i).toNat)
    case atStart => exact ⟨0, _, by omega, rfl, rfl, by omega, by omega, by simp, Below.refl _ _⟩
    case round =>
      obtain ⟨k, q, hk, rfl, rfl, hq0, hq1, hall, hb⟩ := hrel
      by_cases hlt : k < vs.length
      · obtain ⟨b, off, rfl, -, c1, c2, c3⟩ := hm k hlt
        have c1' := cell_later hb c1
        have c2' := cell_later hb c2
        have c3' := cell_later hb c3
        clear c1 c2 c3
        have hck := hc vs[k] (List.getElem_mem hlt)
        by_cases hs : q < vs[k].s.size
        · go_wp2_with (go_at_call 34; refine (szVal_any _ _ _ _ _ hq0 (by omega) hck).mono ?_; rintro e w' ⟨rfl, hb'⟩)
          go_ret
          exact ⟨_, rfl, by omega, by omega, hb.trans (hb'.mono hb.size)⟩
        · go_wp2_with (go_at_call 34; refine (szVal_any _ _ _ _ _ hq0 (by omega) hck).mono ?_; rintro e w' ⟨rfl, hb'⟩)
          go_roundw
          case rel => exact ⟨k + 1, q - vs[k].s.size, by omega, by go_num, by rw [if_neg (by omega)], by omega, by omega, take_succ_mem hlt hall (by omega), hb.trans (hb'.mono hb.size)⟩
          case measure => simp [intOf]; omega
      · go_wp2
        go_ret
        exact ⟨q, rfl, by omega, fun _ => ⟨by omega, by rwa [List.take_of_length_le (by omega)] at hall⟩, hb⟩

set_option maxHeartbeats 400000 in
theorem szRec_any (a : Option Addr) (vs : List Vl) (cap : Nat) (left : Int) (w : World) (h0 : 0 ≤ left) (h1 : left ≤ 1048576) (hx : ValsMax vs) (hm : ValsAt w 0 a vs) :
    Calls Try.prog 57 #[.agg #[.slice a vs.length cap], .int .i64 left] w fun e w' => ∃ r : Int, e = .returned (.int .i64 r) ∧ r ≤ left ∧ (0 ≤ r → ValsSmall vs) ∧ Below w.heap.size w w' := by
  have hbA : Below w.heap.size w (w.alloc (.cells #[.slice a vs.length cap] 117)) := (Below.refl _ _).alloc (Nat.le_refl _) _
  go_enter Try.func57, Try.ntmps57
  go_wp2_with fail
  refine (szValueS_any a vs cap left _ h0 h1 hx (hm.mono hbA)).mono ?_
  rintro e w1 ⟨r, rfl, hr, hs, hb⟩
  have hB := hbA.trans (hb.mono hbA.size)
  by_cases hr0 : r < 0
  · go_wp2
    go_ret
    exact ⟨-1, rfl, by omega, by omega, hB⟩
  · go_wp2
    go_ret
    exact ⟨r, rfl, hr, hs, hB⟩

set_option maxHeartbeats 400000 in
theorem szFrame_any (f p : Int) (a a2 : Option Addr) (vs us : List Vl) (cap cap2 : Nat) (left : Int) (w : World) (h0 : 0 ≤ left) (h1 : left ≤ 1048576) (hx : ValsMax vs) (hx2 : ValsMax us) (hm : ValsAt w 0 a vs) (hm2 : ValsAt w 0 a2 us) :
    Calls Try.prog 56 #[.agg #[.int .i64 f, .int .i64 p, .slice a vs.length cap, .slice a2 us.length cap2], .int .i64 left] w fun e w' => ∃ r : Int, e = .returned (.int .i64 r) ∧ r ≤ left ∧ (0 ≤ r → ValsSmall vs ∧ ValsSmall us) ∧ Below w.heap.size w w' := by
  have hbA : Below w.heap.size w (w.alloc (.cells #[.int .i64 f, .int .i64 p, .slice a vs.length cap, .slice a2 us.length cap2] 114)) := (Below.refl _ _).alloc (Nat.le_refl _) _
  have hM0 := block_new w #[.int .i64 f, .int .i64 p, .slice a vs.length cap, .slice a2 us.length cap2] 114
  go_enter Try.func56, Try.ntmps56
  go_wp2_with fail
  refine (szValueS_any a vs cap left _ h0 h1 hx (hm.mono hbA)).mono ?_
  rintro e w1 ⟨r, rfl, hr, hs, hb⟩
  have hB := hbA.trans (hb.mono hbA.size)
  by_cases hr0 : r < 0
  · go_wp2
    go_ret
    exact ⟨-1, rfl, by omega, by omega, hB⟩
  · have y := block_cell (block_kept hM0 hb)
    go_wp2_with fail
    refine (szValueS_any a2 us cap2 r _ (by omega) (by omega) hx2 (hm2.mono hB)).mono ?_
    rintro e w2 ⟨r2, rfl, hr2, hs2, hb2⟩
    have hB2 := hB.trans (hb2.mono hB.size)
    clear y
    by_cases hr0 : r2 < 0
    · go_wp2
      go_ret
      exact ⟨-1, rfl, by omega, by omega, hB2⟩
    · go_wp2
      go_ret
      exact ⟨r2, rfl, by omega, fun _ => ⟨hs (by omega), hs2 (by omega)⟩, hB2⟩

set_option maxHeartbeats 400000 in
theorem szRecS_any (a : Option Addr) (rs : List (List Vl)) (cap : Nat) (left : Int) (w : World) (h0 : 0 ≤ left) (h1 : left ≤ 1048576) (hn : rs.length ≤ maxLen) (hc : ∀ r ∈ rs, ValsMax r) (hm : RecsAt w 0 a rs) :
    Calls Try.prog 32 #[.slice a rs.length cap, .int .i64 left] w fun e w' => ∃ r : Int, e = .returned (.int .i64 r) ∧ r ≤ left ∧ (0 ≤ r → rs.length ≤ 1048576 ∧ ∀ r ∈ rs, ValsSmall r) ∧ Below w.heap.size w w' := by
  unfold maxLen at hn
  by_cases h : left < rs.length
  · go_enter Try.func32, Try.ntmps32
    go_wp2
    go_ret
    exact ⟨-1, rfl, by omega, by omega, Below.refl _ _⟩
  · go_enter Try.func32, Try.ntmps32
    go_wp2
    go_loopw [1, 5] (fun l i wr => ∃ (k : Nat) (q : Int), k ≤ rs.length ∧ i = .int .i64 k ∧ l = .int .i64 q ∧ 0 ≤ q ∧ q ≤ left - rs.length ∧ Hid (∀ f ∈ rs.take k, ValsSmall f) ∧ Below w.heap.size w wr) (fun _ i _ => rs.length - (intOf i).toNat)
    case atStart => exact ⟨0, _, by omega, rfl, rfl, by omega, by omega, by intro f hf; simp at hf, Below.refl _ _⟩
    case round =>
      obtain ⟨k, q, hk, rfl, rfl, hq0, hq1, hall, hb⟩ := hrel
      by_cases hlt : k < rs.length
      · obtain ⟨b, off, fa, fc, rfl, -, c1, c2⟩ := hm k hlt
        have c1' := cell_later hb c1
        clear c1
        have hck := hc rs[k] (List.getElem_mem hlt)
        go_wp2_with fail
        refine (szRec_any _ _ _ _ _ hq0 (by omega) hck (c2.mono hb)).mono ?_
        rintro e w2 ⟨r, rfl, hr, hs, hb'⟩
        have hB := hb.trans (hb'.mono hb.size)
        clear c1' hb' c2
        by_cases hr0 : r < 0
        · go_wp2
          go_ret
          exact ⟨-1, rfl, by omega, by omega, hB⟩
        · go_wp2
          go_roundw
          case rel => exact ⟨k + 1, r, by omega, by go_num, rfl, by omega, by omega, take_succ_mem hlt hall.out (hs (by omega)), hB⟩
          case measure => simp [intOf]; omega
      · go_wp2
        go_ret
        exact ⟨q, rfl, by omega, fun _ => ⟨by omega, by have := hall.out; rwa [List.take_of_length_le (by omega)] at this⟩, hb⟩

set_option maxHeartbeats 400000 in
theorem szFrameS_any (a : Option Addr) (fr : List Fr) (cap : Nat) (left : Int) (w : World) (h0 : 0 ≤ left) (h1 : left ≤ 1048576) (hn : fr.length ≤ maxLen) (hc : ∀ f ∈ fr, ValsMax f.locals) (hc2 : ∀ f ∈ fr, ValsMax f.stack) (hm : FrsAt w 0 a fr) :
    Calls Try.prog 31 #[.slice a fr.length cap, .int .i64 left] w fun e w' => ∃ r : Int, e = .returned (.int .i64 r) ∧ r ≤ left ∧ (0 ≤ r → fr.length ≤ 1048576 ∧ ∀ f ∈ fr, ValsSmall f.locals ∧ ValsSmall f.stack) ∧ Below w.heap.size w w' := by
  unfold maxLen at hn
  by_cases h : left < fr.length
  · go_enter Try.func31, Try.ntmps31
    go_wp2
    go_ret
    exact ⟨-1, rfl, by omega, by omega, Below.refl _ _⟩
  · go_enter Try.func31, Try.ntmps31
    go_wp2
    go_loopw [1, 5] (fun l i wr => ∃ (k : Nat) (q : Int), k ≤ fr.length ∧ i = .int .i64 k ∧ l = .int .i64 q ∧ 0 ≤ q ∧ q ≤ left - fr.length ∧ Hid (∀ f ∈ fr.take k, ValsSmall f.locals ∧ ValsSmall f.stack) ∧ Below w.heap.size w wr) (fun _ i _ => fr.length - (intOf i).toNat)
    case atStart => exact ⟨0, _, by omega, rfl, rfl, by omega, by omega, by intro f hf; simp at hf, Below.refl _ _⟩
    case round =>
      obtain ⟨k, q, hk, rfl, rfl, hq0, hq1, hall, hb⟩ := hrel
      by_cases hlt : k < fr.length
      · obtain ⟨b, off, la, lc, sa, sc, rfl, -, c1, c2, c3, c4, c5, c6⟩ := hm k hlt
        have c1' := cell_later hb c1
        have c2' := cell_later hb c2
        have c3' := cell_later hb c3
        have c4' := cell_later hb c4
        clear c1 c2 c3 c4
        have hck := hc fr[k] (List.getElem_mem hlt)
        have hck2 := hc2 fr[k] (List.getElem_mem hlt)
        go_wp2_with fail
        refine (szFrame_any _ _ _ _ _ _ _ _ _ _ hq0 (by omega) hck hck2 (c5.mono hb) (c6.mono hb)).mono ?_
        rintro e w2 ⟨r, rfl, hr, hs, hb'⟩
        have hB := hb.trans (hb'.mono hb.size)
        clear c1' c2' c3' c4' hb' c5 c6
        by_cases hr0 : r < 0
        · go_wp2
          go_ret
          exact ⟨-1, rfl, by omega, by omega, hB⟩
        · go_wp2
          go_roundw
          case rel => exact ⟨k + 1, r, by omega, by go_num, rfl, by omega, by omega, take_succ_mem (p := fun f => ValsSmall f.locals ∧ ValsSmall f.stack) hlt hall.out (hs (by omega)), hB⟩
          case measure => simp [intOf]; omega
      · go_wp2
        go_ret
        exact ⟨q, rfl, by omega, fun _ => ⟨by omega, by have := hall.out; rwa [List.take_of_length_le (by omega)] at this⟩, hb⟩
set_option maxRecDepth 100000 in
set_option maxHeartbeats 1000000 in
theorem szVm_any (fa ha oa : Option Addr) (fc hcp oc : Nat) (d : VmD) (left : Int) (w : World) (h0 : 0 ≤ left) (h1 : left ≤ 1048576) (hx : VmMax d) (hf : FrsAt w 0 fa d.frames) (hh : RecsAt w 0 ha d.heap) (ho : StrsAt w 0 oa d.out) :
    Calls Try.prog 13 #[.agg #[.slice fa d.frames.length fc, .slice ha d.heap.length hcp, .int .i64 d.made, .slice oa d.out.length oc, .int .i64 d.status, .int .i64 d.trap, .int .i64 d.value.k, .int .i64 d.value.n, .string d.value.s, .int .i64 d.steps], .int .i64 left] w fun e w' => ∃ r : Int, e = .returned (.int .i64 r) ∧ r ≤ left ∧ (0 ≤ r → VmSmall d) ∧ Below w.heap.size w w' := by
  have hbA : Below w.heap.size w (w.alloc (.cells #[.slice fa d.frames.length fc, .slice ha d.heap.length hcp, .int .i64 d.made, .slice oa d.out.length oc, .int .i64 d.status, .int .i64 d.trap, .int .i64 d.value.k, .int .i64 d.value.n, .string d.value.s, .int .i64 d.steps] 28)) := (Below.refl _ _).alloc (Nat.le_refl _) _
  have hM0 := block_new w #[.slice fa d.frames.length fc, .slice ha d.heap.length hcp, .int .i64 d.made, .slice oa d.out.length oc, .int .i64 d.status, .int .i64 d.trap, .int .i64 d.value.k, .int .i64 d.value.n, .string d.value.s, .int .i64 d.steps] 28
  go_enter Try.func13, Try.ntmps13
  go_wp2_with fail
  refine (szFrameS_any fa d.frames fc left _ h0 h1 hx.frames hx.locals hx.stack (hf.mono hbA)).mono ?_
  rintro e w1 ⟨r1, rfl, hr1, hs1, hb1⟩
  have hB1 := hbA.trans (hb1.mono hbA.size)
  have hM1 := block_kept hM0 hb1
  clear hM0 hb1 hbA
  by_cases hn1 : r1 < 0
  · go_wp2
    go_ret
    exact ⟨-1, rfl, by omega, by omega, hB1⟩
  have y1 := block_cell hM1
  go_wp2_with fail
  refine (szRecS_any ha d.heap hcp r1 _ (by omega) (by omega) hx.heap hx.fields (hh.mono hB1)).mono ?_
  rintro e w2 ⟨r2, rfl, hr2, hs2, hb2⟩
  have hB2 := hB1.trans (hb2.mono hB1.size)
  have hM2 := block_kept hM1 hb2
  clear hM1 hb2 hB1 y1
  by_cases hn2 : r2 < 0
  · go_wp2
    go_ret
    exact ⟨-1, rfl, by omega, by omega, hB2⟩
  have y2 := block_cell hM2
  go_wp2_with fail
  refine (szStringS_any oa d.out oc r2 _ (by omega) (by omega) hx.out hx.text (ho.mono hB2)).mono ?_
  rintro e w3 ⟨r3, rfl, hr3, hs3, hb3⟩
  have hB3 := hB2.trans (hb3.mono hB2.size)
  have hM3 := block_kept hM2 hb3
  clear hM2 hb3 hB2 y2
  by_cases hn3 : r3 < 0
  · go_wp2
    go_ret
    exact ⟨-1, rfl, by omega, by omega, hB3⟩
  have y3 := block_cell hM3
  go_wp2_with fail
  refine (szVal_any _ _ _ _ _ (by omega) (by omega) hx.value).mono ?_
  rintro e w4 ⟨rfl, hb4⟩
  have hB4 := hB3.trans (hb4.mono hB3.size)
  clear hM3 hb4 hB3 y3
  by_cases hn4 : r3 < (d.value.s.size : Int)
  · rw [if_pos hn4]
    go_wp2
    go_ret
    exact ⟨-1, rfl, by omega, by omega, hB4⟩
  · rw [if_neg hn4]
    have hn5 : ¬ (r3 - (d.value.s.size : Int)) < 0 := by omega
    go_wp2
    go_ret
    exact ⟨_, rfl, by omega, fun _ => ⟨(hs1 (by omega)).1, fun f hf => ((hs1 (by omega)).2 f hf).1, fun f hf => ((hs1 (by omega)).2 f hf).2, (hs2 (by omega)).1, (hs2 (by omega)).2, (hs3 (by omega)).1, (hs3 (by omega)).2, by omega⟩, hB4⟩
set_option maxHeartbeats 400000 in
theorem toValueS_any (a : Option Addr) (vs : List Vl) (cap : Nat) (w : World) (hn : vs.length ≤ 1048576) (hm : ValsAt w 0 a vs) :
    Calls Try.prog 75 #[.slice a vs.length cap] w fun e w' => e = .returned (.slice (some ⟨w.heap.size, 0, none⟩) vs.length vs.length) ∧ ValsAt w' w.heap.size (some ⟨w.heap.size, 0, none⟩) vs ∧ ValsBlk w' w.heap.size vs.length ∧ Below w.heap.size w w' := by
  obtain ⟨i0, hi, hz0, hz1, hz2⟩ := info_parts info39
  go_enter Try.func75, Try.ntmps75
  go_wp2_with (first | (at_make; refine wpList_make_full _ rfl _ _ 120 rfl w.heap.size 39 i0 (.agg #[.int .i64 0, .int .i64 0, .string ByteArray.empty]) 3 Try.underlying120 hi hz0 hz1 _ _ _ _ vs.length rfl rfl rfl rfl (by rw [hz2]; omega) (by unfold maxLen; omega) (Nat.le_refl _) ?_; intro w1 hown hgrow))
  obtain ⟨cur0, hblk, hsz⟩ := made_block hown
  have hb0 : Below w.heap.size w w1 := (Below.refl _ _).grown hgrow (Nat.le_refl _) (by intro k hk; cases hk)
  clear hown hgrow hi hz0 hz1 hz2
  go_loopw [4] (fun i wr => ∃ (k : Nat) (cur : Array Value), k ≤ vs.length ∧ i = .int .i64 k ∧ wr.heap[w.heap.size]? = some (.cells cur 39 (0, 0)) ∧ cur.size = vs.length * 3 ∧ (∀ j (hj : j < vs.length), j < k → cur[j * 3]? = some (.int .i64 vs[j].k) ∧ cur[j * 3 + 1]? = some (.int .i64 vs[j].n) ∧ cur[j * 3 + 2]? = some (.string vs[j].s)) ∧ Below w.heap.size w wr) (fun i _ => vs.length - (intOf i).toNat)
  case atStart => exact ⟨0, cur0, by omega, rfl, hblk, hsz, fun j _ h => by omega, hb0⟩
  case round =>
    obtain ⟨k, cur, hk, rfl, hblk, hsz, hdone, hb⟩ := hrel
    by_cases hlt : k < vs.length
    · obtain ⟨b, off, rfl, -, c1, c2, c3⟩ := hm k hlt
      have c1' := cell_later hb c1
      have c2' := cell_later hb c2
      have c3' := cell_later hb c3
      clear c1 c2 c3
      go_wp2_with fail
      refine (toValue_any _ _ _ _).mono ?_
      rintro e w2 ⟨rfl, hb2⟩
      have hblk2 := block_kept hblk hb2
      have hfz := block_free hblk2
      have hcl : w2.cell? ⟨w.heap.size, k * 3, none⟩ = some cur[k * 3] := by rw [block_cell hblk2]; simp
      have hcl2 : w2.cell? ⟨w.heap.size, k * 3 + 1, none⟩ = some cur[k * 3 + 1] := by rw [block_cell hblk2]; simp
      have hcl3 : w2.cell? ⟨w.heap.size, k * 3 + 2, none⟩ = some cur[k * 3 + 2] := by rw [block_cell hblk2]; simp
      have hb3 : Below w.heap.size w w2 := hb.trans (hb2.mono hb.size)
      go_wp2
      go_roundw
      case rel =>
        refine ⟨k + 1, ((cur.setIfInBounds (k * 3) (.int .i64 vs[k].k)).setIfInBounds (k * 3 + 1) (.int .i64 vs[k].n)).setIfInBounds (k * 3 + 2) (.string vs[k].s), by omega, by go_num, block_set (block_set (block_set hblk2 _) _) _, by simpa using hsz, ?_, ((hb3.setCell (Nat.le_refl _) _).setCell (Nat.le_refl _) _).setCell (Nat.le_refl _) _⟩
        intro j hj hjk
        by_cases e : j = k
        · subst e
          refine ⟨?_, ?_, ?_⟩
          · rw [set_else _ (by omega), set_else _ (by omega)]; exact set_self _ (by omega)
          · rw [set_else _ (by omega)]; exact set_self _ (by simp; omega)
          · exact set_self _ (by simp; omega)
        · obtain ⟨d1, d2, d3⟩ := hdone j hj (by omega)
          refine ⟨?_, ?_, ?_⟩
          · rw [set_else _ (by omega), set_else _ (by omega), set_else _ (by omega)]; exact d1
          · rw [set_else _ (by omega), set_else _ (by omega), set_else _ (by omega)]; exact d2
          · rw [set_else _ (by omega), set_else _ (by omega), set_else _ (by omega)]; exact d3
      case measure => simp [intOf]; omega
    · go_wp2
      go_ret
      refine ⟨rfl, fun j hj => ?_, ⟨cur, hblk, hsz⟩, hb⟩
      obtain ⟨d1, d2, d3⟩ := hdone j hj (by omega)
      exact ⟨w.heap.size, 0, rfl, Nat.le_refl _, by rw [block_cell hblk, Nat.zero_add]; exact d1, by rw [block_cell hblk, Nat.zero_add]; exact d2, by rw [block_cell hblk, Nat.zero_add]; exact d3⟩

set_option maxHeartbeats 400000 in
theorem toRec_any (a : Option Addr) (vs : List Vl) (cap : Nat) (w : World) (hn : vs.length ≤ 1048576) (hm : ValsAt w 0 a vs) :
    Calls Try.prog 61 #[.agg #[.slice a vs.length cap]] w fun e w' => ∃ g, w.heap.size ≤ g ∧ e = .returned (.agg #[.slice (some ⟨g, 0, none⟩) vs.length vs.length]) ∧ ValsAt w' w.heap.size (some ⟨g, 0, none⟩) vs ∧ Below w.heap.size w w' := by
  go_enter Try.func61, Try.ntmps61
  go_wp2_with fail
  have hbA : Below w.heap.size w (((w.alloc (.cells #[.slice a vs.length cap] 117)).alloc (.cells #[.slice none 0 0] 125)).alloc (.cells #[.slice none 0 0] 125)) :=
    (((Below.refl _ _).alloc (Nat.le_refl _) _).alloc (by simp) _).alloc (by simp; omega) _
  refine (toValueS_any a vs cap _ hn (hm.mono hbA)).mono ?_
  rintro e w1 ⟨rfl, hv, -, hb⟩
  have hR := block_kept (block_old (block_new (w.alloc (.cells #[.slice a vs.length cap] 117)) #[.slice none 0 0] 125) (.cells #[.slice none 0 0] 125)) hb
  have hO := block_kept (block_new ((w.alloc (.cells #[.slice a vs.length cap] 117)).alloc (.cells #[.slice none 0 0] 125)) #[.slice none 0 0] 125) hb
  simp only [World.size_alloc] at hR hO hv
  have r1 := block_cell hR
  have r2 := block_free hR
  have o1 := block_cell hO
  have o2 := block_free hO
  have hb1 : Below w.heap.size w w1 := hbA.trans (hb.mono (by simp; omega))
  go_wp2
  refine bodyPost_ret (v := .agg #[.slice (some ⟨w.heap.size + 1 + 1 + 1, 0, none⟩) vs.length vs.length]) (by simp [results, Try.results61, go_sem, r1]) rfl ⟨_, by omega, rfl, ?_, ?_⟩
  · exact (hv.above (((Above.refl _ _).setCell (by simp) _).setCell (by simp) _)).low (by omega)
  · exact (hb1.setCell (by simp; omega) _).setCell (by simp) _

set_option maxHeartbeats 1000000 in
theorem toFrame_any (f p : Int) (a a2 : Option Addr) (vs us : List Vl) (cap cap2 : Nat) (w : World) (hn : vs.length ≤ 1048576) (hn2 : us.length ≤ 1048576) (hm : ValsAt w 0 a vs) (hm2 : ValsAt w 0 a2 us) :
    Calls Try.prog 60 #[.agg #[.int .i64 f, .int .i64 p, .slice a vs.length cap, .slice a2 us.length cap2]] w fun e w' => ∃ g g2, w.heap.size ≤ g ∧ w.heap.size ≤ g2 ∧ e = .returned (.agg #[.int .i64 f, .int .i64 p, .slice (some ⟨g, 0, none⟩) vs.length vs.length, .slice (some ⟨g2, 0, none⟩) us.length us.length]) ∧ ValsAt w' w.heap.size (some ⟨g, 0, none⟩) vs ∧ ValsAt w' w.heap.size (some ⟨g2, 0, none⟩) us ∧ Below w.heap.size w w' := by
  go_enter Try.func60, Try.ntmps60
  go_wp2_with fail
  have hbA : Below w.heap.size w (((w.alloc (.cells #[.int .i64 f, .int .i64 p, .slice a vs.length cap, .slice a2 us.length cap2] 114)).alloc (.cells #[.int .i64 0, .int .i64 0, .slice none 0 0, .slice none 0 0] 122)).alloc (.cells #[.int .i64 f, .int .i64 p, .slice none 0 0, .slice none 0 0] 122)) :=
    (((Below.refl _ _).alloc (Nat.le_refl _) _).alloc (by simp) _).alloc (by simp; omega) _
  refine (toValueS_any a vs cap _ hn (hm.mono hbA)).mono ?_
  rintro e w1 ⟨rfl, hv, -, hb⟩
  have hI := block_kept (block_old (block_old (block_new w #[.int .i64 f, .int .i64 p, .slice a vs.length cap, .slice a2 us.length cap2] 114) (.cells #[.int .i64 0, .int .i64 0, .slice none 0 0, .slice none 0 0] 122)) (.cells #[.int .i64 f, .int .i64 p, .slice none 0 0, .slice none 0 0] 122)) hb
  have hR := block_kept (block_old (block_new (w.alloc (.cells #[.int .i64 f, .int .i64 p, .slice a vs.length cap, .slice a2 us.length cap2] 114)) #[.int .i64 0, .int .i64 0, .slice none 0 0, .slice none 0 0] 122) (.cells #[.int .i64 f, .int .i64 p, .slice none 0 0, .slice none 0 0] 122)) hb
  have hO := block_kept (block_new ((w.alloc (.cells #[.int .i64 f, .int .i64 p, .slice a vs.length cap, .slice a2 us.length cap2] 114)).alloc (.cells #[.int .i64 0, .int .i64 0, .slice none 0 0, .slice none 0 0] 122)) #[.int .i64 f, .int .i64 p, .slice none 0 0, .slice none 0 0] 122) hb
  simp only [World.size_alloc] at hI hR hO hv
  have hb1 : Below w.heap.size w w1 := hbA.trans (hb.mono (by simp; omega))
  have hz : w.heap.size + 1 + 1 < w1.heap.size := lt_block hO
  obtain ⟨wx, hwx⟩ : ∃ wx, wx = w1.setCell ⟨w.heap.size + 1 + 1, 2, none⟩ (.slice (some ⟨w.heap.size + 1 + 1 + 1, 0, none⟩) vs.length vs.length) := ⟨_, rfl⟩
  have hO' : wx.heap[w.heap.size + 1 + 1]? = some (.cells #[.int .i64 f, .int .i64 p, .slice (some ⟨w.heap.size + 1 + 1 + 1, 0, none⟩) vs.length vs.length, .slice none 0 0] 122 (0, 0)) := by
    rw [hwx]; simpa using block_set (i := 2) hO (.slice (some ⟨w.heap.size + 1 + 1 + 1, 0, none⟩) vs.length vs.length)
  have hR' : wx.heap[w.heap.size + 1]? = some (.cells #[.int .i64 0, .int .i64 0, .slice none 0 0, .slice none 0 0] 122 (0, 0)) := by
    rw [hwx, Below.heap_setCell _ _ _ _ (by simp)]; exact hR
  have hb2 : Below w.heap.size w wx := by rw [hwx]; exact hb1.setCell (by simp; omega) _
  have hv2 : ValsAt wx (w.heap.size + 1 + 1 + 1) (some ⟨w.heap.size + 1 + 1 + 1, 0, none⟩) vs := by rw [hwx]; exact hv.above ((Above.refl _ _).setCell (by simp) _)
  have hsz : wx.heap.size = w1.heap.size := by rw [hwx]; simp
  have i1 := block_cell hI
  have o1 := block_cell hO
  have o2 := block_free hO
  go_wp2_with fail
  rw [← hwx]
  clear hwx i1 o1 o2
  refine (toValueS_any a2 us cap2 _ hn2 (hm2.mono hb2)).mono ?_
  rintro e w3 ⟨rfl, hu, -, hb3⟩
  have hO3 := block_kept hO' hb3
  have hR3 := block_kept hR' hb3
  have hB3 := hb2.trans (hb3.mono hb2.size)
  have hv3 := hv2.mono hb3
  have r1 := block_cell hR3
  have r2 := block_free hR3
  have o1 := block_cell hO3
  have o2 := block_free hO3
  clear hO hR hI hv hb1 hb hbA
  go_wp2
  refine bodyPost_ret (v := .agg #[.int .i64 f, .int .i64 p, .slice (some ⟨w.heap.size + 1 + 1 + 1, 0, none⟩) vs.length vs.length, .slice (some ⟨wx.heap.size, 0, none⟩) us.length us.length]) (by simp [results, Try.results60, go_sem, r1]) rfl ⟨_, _, by omega, by omega, rfl, ?_, ?_, ?_⟩
  · exact (hv3.above (((((Above.refl _ _).setCell (by simp) _).setCell (by simp) _).setCell (by simp) _).setCell (by simp) _ |>.setCell (by simp) _)).low (by omega)
  · exact ((hu.low (by omega : w.heap.size + 1 + 1 + 1 ≤ wx.heap.size)).above (((((Above.refl _ _).setCell (by simp) _).setCell (by simp) _).setCell (by simp) _).setCell (by simp) _ |>.setCell (by simp) _)).low (by omega)
  · exact ((((hB3.setCell (by simp; omega) _).setCell (by simp) _).setCell (by simp) _).setCell (by simp) _).setCell (by simp) _

set_option maxHeartbeats 400000 in
theorem toRecS_any (a : Option Addr) (rs : List (List Vl)) (cap : Nat) (w : World) (hn : rs.length ≤ 1048576) (hc : ∀ r ∈ rs, ValsSmall r) (hm : RecsAt w 0 a rs) :
    Calls Try.prog 37 #[.slice a rs.length cap] w fun e w' => e = .returned (.slice (some ⟨w.heap.size, 0, none⟩) rs.length rs.length) ∧ RecsAt w' w.heap.size (some ⟨w.heap.size, 0, none⟩) rs ∧ Below w.heap.size w w' := by
  obtain ⟨i0, hi, hz0, hz1, hz2⟩ := info_parts info125
  go_enter Try.func37, Try.ntmps37
  go_wp2_with (first | (at_make; refine wpList_make_full _ rfl _ _ 38 rfl w.heap.size 125 i0 (.agg #[.slice none 0 0]) 1 Try.underlying38 hi hz0 hz1 _ _ _ _ rs.length rfl rfl rfl rfl (by rw [hz2]; omega) (by unfold maxLen; omega) (Nat.le_refl _) ?_; intro w1 hown hgrow))
  obtain ⟨cur0, hblk, hsz⟩ := made_block hown
  have hb0 : Below w.heap.size w w1 := (Below.refl _ _).grown hgrow (Nat.le_refl _) (by intro k hk; cases hk)
  clear hown hgrow hi hz0 hz1 hz2
  go_loopw [4] (fun i wr => ∃ (k : Nat) (cur : Array Value), k ≤ rs.length ∧ i = .int .i64 k ∧ wr.heap[w.heap.size]? = some (.cells cur 125 (0, 0)) ∧ cur.size = rs.length * 1 ∧
      (∀ j (hj : j < rs.length), j < k → ∃ g, cur[j]? = some (.slice (some ⟨g, 0, none⟩) rs[j].length rs[j].length) ∧ ValsAt wr (w.heap.size + 1) (some ⟨g, 0, none⟩) rs[j]) ∧ Below w.heap.size w wr) (fun i _ => rs.length - (intOf i).toNat)
  case atStart => exact ⟨0, cur0, by omega, rfl, hblk, hsz, fun j _ h => by omega, hb0⟩
  case round =>
    obtain ⟨k, cur, hk, rfl, hblk, hsz, hdone, hb⟩ := hrel
    by_cases hlt : k < rs.length
    · obtain ⟨b, off, ca, cc, rfl, -, c1, c4⟩ := hm k hlt
      have c1' := cell_later hb c1
      clear c1
      have hgs : w.heap.size < wr.heap.size := lt_block hblk
      have hck := (hc rs[k] (List.getElem_mem hlt)).1
      go_wp2_with fail
      refine (toRec_any _ _ _ _ hck (c4.mono hb)).mono ?_
      rintro e w2 ⟨g, hg, rfl, hcode, hb2⟩
      have hblk2 := block_kept hblk hb2
      have hfz := block_free hblk2
      have hcl : w2.cell? ⟨w.heap.size, k, none⟩ = some cur[k] := by rw [block_cell hblk2]; simp
      have hb3 : Below w.heap.size w w2 := hb.trans (hb2.mono hb.size)
      go_wp2
      go_roundw
      case rel =>
        have hab : Above (w.heap.size + 1) w2 (w2.setCell ⟨w.heap.size, k, none⟩ (.slice (some ⟨g, 0, none⟩) rs[k].length rs[k].length)) := (Above.refl _ _).setCell (by simp) _
        refine ⟨k + 1, cur.setIfInBounds k (.slice (some ⟨g, 0, none⟩) rs[k].length rs[k].length), by omega, by go_num, block_set hblk2 _, by simpa using hsz, ?_, hb3.setCell (Nat.le_refl _) _⟩
        intro j hj hjk
        by_cases e : j = k
        · subst e
          exact ⟨g, set_self _ (by omega), (hcode.low (by omega)).above hab⟩
        · obtain ⟨g', d3, d4⟩ := hdone j hj (by omega)
          exact ⟨g', by rw [set_else _ (by omega)]; exact d3, (d4.mono hb2).above hab⟩
      case measure => simp [intOf]; omega
    · go_wp2
      go_ret
      refine ⟨rfl, fun j hj => ?_, hb⟩
      obtain ⟨g', d3, d4⟩ := hdone j hj (by omega)
      exact ⟨w.heap.size, 0, some ⟨g', 0, none⟩, rs[j].length, rfl, Nat.le_refl _, by rw [block_cell hblk, Nat.zero_add]; exact d3, d4.low (by omega)⟩

set_option maxHeartbeats 1000000 in
theorem toFrameS_any (a : Option Addr) (fr : List Fr) (cap : Nat) (w : World) (hn : fr.length ≤ 1048576) (hc : ∀ f ∈ fr, ValsSmall f.locals) (hc2 : ∀ f ∈ fr, ValsSmall f.stack) (hm : FrsAt w 0 a fr) :
    Calls Try.prog 36 #[.slice a fr.length cap] w fun e w' => e = .returned (.slice (some ⟨w.heap.size, 0, none⟩) fr.length fr.length) ∧ FrsAt w' w.heap.size (some ⟨w.heap.size, 0, none⟩) fr ∧ Below w.heap.size w w' := by
  obtain ⟨i0, hi, hz0, hz1, hz2⟩ := info_parts info122
  go_enter Try.func36, Try.ntmps36
  go_wp2_with (first | (at_make; refine wpList_make_full _ rfl _ _ 37 rfl w.heap.size 122 i0 (.agg #[.int .i64 0, .int .i64 0, .slice none 0 0, .slice none 0 0]) 4 Try.underlying37 hi hz0 hz1 _ _ _ _ fr.length rfl rfl rfl rfl (by rw [hz2]; omega) (by unfold maxLen; omega) (Nat.le_refl _) ?_; intro w1 hown hgrow))
  obtain ⟨cur0, hblk, hsz⟩ := made_block hown
  have hb0 : Below w.heap.size w w1 := (Below.refl _ _).grown hgrow (Nat.le_refl _) (by intro k hk; cases hk)
  clear hown hgrow hi hz0 hz1 hz2
  go_loopw [4] (fun i wr => ∃ (k : Nat) (cur : Array Value), k ≤ fr.length ∧ i = .int .i64 k ∧ wr.heap[w.heap.size]? = some (.cells cur 122 (0, 0)) ∧ cur.size = fr.length * 4 ∧
      (∀ j (hj : j < fr.length), j < k → cur[j * 4]? = some (.int .i64 fr[j].fn) ∧ cur[j * 4 + 1]? = some (.int .i64 fr[j].pc) ∧ ∃ g g2, cur[j * 4 + 2]? = some (.slice (some ⟨g, 0, none⟩) fr[j].locals.length fr[j].locals.length) ∧ cur[j * 4 + 3]? = some (.slice (some ⟨g2, 0, none⟩) fr[j].stack.length fr[j].stack.length) ∧ ValsAt wr (w.heap.size + 1) (some ⟨g, 0, none⟩) fr[j].locals ∧ ValsAt wr (w.heap.size + 1) (some ⟨g2, 0, none⟩) fr[j].stack) ∧ Below w.heap.size w wr) (fun i _ => fr.length - (intOf i).toNat)
  case atStart => exact ⟨0, cur0, by omega, rfl, hblk, hsz, fun j _ h => by omega, hb0⟩
  case round =>
    obtain ⟨k, cur, hk, rfl, hblk, hsz, hdone, hb⟩ := hrel
    by_cases hlt : k < fr.length
    · obtain ⟨b, off, la, lc, sa, sc, rfl, -, c1, c2, c3, c4, c5, c6⟩ := hm k hlt
      have c1' := cell_later hb c1
      have c2' := cell_later hb c2
      have c3' := cell_later hb c3
      have c4' := cell_later hb c4
      clear c1 c2 c3 c4
      have hgs : w.heap.size < wr.heap.size := lt_block hblk
      have hck := (hc fr[k] (List.getElem_mem hlt)).1
      have hck2 := (hc2 fr[k] (List.getElem_mem hlt)).1
      go_wp2_with fail
      refine (toFrame_any _ _ _ _ _ _ _ _ _ hck hck2 (c5.mono hb) (c6.mono hb)).mono ?_
      rintro e w2 ⟨g, g2, hg, hg2, rfl, hl, hs, hb2⟩
      have hblk2 := block_kept hblk hb2
      have hfz := block_free hblk2
      have hcl : w2.cell? ⟨w.heap.size, k * 4, none⟩ = some cur[k * 4] := by rw [block_cell hblk2]; simp
      have hcl2 : w2.cell? ⟨w.heap.size, k * 4 + 1, none⟩ = some cur[k * 4 + 1] := by rw [block_cell hblk2]; simp
      have hcl3 : w2.cell? ⟨w.heap.size, k * 4 + 2, none⟩ = some cur[k * 4 + 2] := by rw [block_cell hblk2]; simp
      have hcl4 : w2.cell? ⟨w.heap.size, k * 4 + 3, none⟩ = some cur[k * 4 + 3] := by rw [block_cell hblk2]; simp
      have hb3 : Below w.heap.size w w2 := hb.trans (hb2.mono hb.size)
      go_wp2
      go_roundw
      case rel =>
        have hab : Above (w.heap.size + 1) w2 ((((w2.setCell ⟨w.heap.size, k * 4, none⟩ (.int .i64 fr[k].fn)).setCell ⟨w.heap.size, k * 4 + 1, none⟩ (.int .i64 fr[k].pc)).setCell ⟨w.heap.size, k * 4 + 2, none⟩ (.slice (some ⟨g, 0, none⟩) fr[k].locals.length fr[k].locals.length)).setCell ⟨w.heap.size, k * 4 + 3, none⟩ (.slice (some ⟨g2, 0, none⟩) fr[k].stack.length fr[k].stack.length)) :=
          ((((Above.refl _ _).setCell (by simp) _).setCell (by simp) _).setCell (by simp) _).setCell (by simp) _
        refine ⟨k + 1, (((cur.setIfInBounds (k * 4) (.int .i64 fr[k].fn)).setIfInBounds (k * 4 + 1) (.int .i64 fr[k].pc)).setIfInBounds (k * 4 + 2) (.slice (some ⟨g, 0, none⟩) fr[k].locals.length fr[k].locals.length)).setIfInBounds (k * 4 + 3) (.slice (some ⟨g2, 0, none⟩) fr[k].stack.length fr[k].stack.length), by omega, by go_num, block_set (block_set (block_set (block_set hblk2 _) _) _) _, by simpa using hsz, ?_, (((hb3.setCell (Nat.le_refl _) _).setCell (Nat.le_refl _) _).setCell (Nat.le_refl _) _).setCell (Nat.le_refl _) _⟩
        intro j hj hjk
        by_cases e : j = k
        · subst e
          refine ⟨?_, ?_, g, g2, ?_, ?_, (hl.low (by omega)).above hab, (hs.low (by omega)).above hab⟩
          · rw [set_else _ (by omega), set_else _ (by omega), set_else _ (by omega)]; exact set_self _ (by omega)
          · rw [set_else _ (by omega), set_else _ (by omega)]; exact set_self _ (by simp; omega)
          · rw [set_else _ (by omega)]; exact set_self _ (by simp; omega)
          · exact set_self _ (by simp; omega)
        · obtain ⟨d1, d2, g', g2', d3, d4, d5, d6⟩ := hdone j hj (by omega)
          refine ⟨?_, ?_, g', g2', ?_, ?_, (d5.mono hb2).above hab, (d6.mono hb2).above hab⟩
          · rw [set_else _ (by omega), set_else _ (by omega), set_else _ (by omega), set_else _ (by omega)]; exact d1
          · rw [set_else _ (by omega), set_else _ (by omega), set_else _ (by omega), set_else _ (by omega)]; exact d2
          · rw [set_else _ (by omega), set_else _ (by omega), set_else _ (by omega), set_else _ (by omega)]; exact d3
          · rw [set_else _ (by omega), set_else _ (by omega), set_else _ (by omega), set_else _ (by omega)]; exact d4
      case measure => simp [intOf]; omega
    · go_wp2
      go_ret
      refine ⟨rfl, fun j hj => ?_, hb⟩
      obtain ⟨d1, d2, g', g2', d3, d4, d5, d6⟩ := hdone j hj (by omega)
      exact ⟨w.heap.size, 0, some ⟨g', 0, none⟩, fr[j].locals.length, some ⟨g2', 0, none⟩, fr[j].stack.length, rfl, Nat.le_refl _, by rw [block_cell hblk, Nat.zero_add]; exact d1, by rw [block_cell hblk, Nat.zero_add]; exact d2, by rw [block_cell hblk, Nat.zero_add]; exact d3, by rw [block_cell hblk, Nat.zero_add]; exact d4, d5.low (by omega), d6.low (by omega)⟩
set_option maxRecDepth 100000 in
set_option maxHeartbeats 4000000 in
theorem toVm_any (fa ha oa : Option Addr) (fc hcp oc : Nat) (d : VmD) (w : World) (hx : VmSmall d) (hm : VmAt w 0 fa ha oa d) :
    Calls Try.prog 17 #[.agg (vmCells fa ha oa fc hcp oc d)] w fun e w' => ∃ g g2 g3, e = .returned (.agg (vmCells (some ⟨g, 0, none⟩) (some ⟨g2, 0, none⟩) (some ⟨g3, 0, none⟩) d.frames.length d.heap.length d.out.length d)) ∧ VmAt w' w.heap.size (some ⟨g, 0, none⟩) (some ⟨g2, 0, none⟩) (some ⟨g3, 0, none⟩) d ∧ Below w.heap.size w w' := by
  unfold vmCells
  have hbA : Below w.heap.size w (((w.alloc (.cells #[.slice fa d.frames.length fc, .slice ha d.heap.length hcp, .int .i64 d.made, .slice oa d.out.length oc, .int .i64 d.status, .int .i64 d.trap, .int .i64 d.value.k, .int .i64 d.value.n, .string d.value.s, .int .i64 d.steps] 28)).alloc (.cells #[.slice none 0 0, .slice none 0 0, .int .i64 0, .slice none 0 0, .int .i64 0, .int .i64 0, .int .i64 0, .int .i64 0, .string ⟨#[]⟩, .int .i64 0] 41)).alloc (.cells #[.slice none 0 0, .slice none 0 0, .int .i64 0, .slice none 0 0, .int .i64 0, .int .i64 0, .int .i64 0, .int .i64 0, .string ⟨#[]⟩, .int .i64 0] 41)) := (((Below.refl _ _).alloc (Nat.le_refl _) _).alloc (by simp) _).alloc (by simp; omega) _
  have hI0 := block_old (block_old (block_new w #[.slice fa d.frames.length fc, .slice ha d.heap.length hcp, .int .i64 d.made, .slice oa d.out.length oc, .int .i64 d.status, .int .i64 d.trap, .int .i64 d.value.k, .int .i64 d.value.n, .string d.value.s, .int .i64 d.steps] 28) (.cells #[.slice none 0 0, .slice none 0 0, .int .i64 0, .slice none 0 0, .int .i64 0, .int .i64 0, .int .i64 0, .int .i64 0, .string ⟨#[]⟩, .int .i64 0] 41)) (.cells #[.slice none 0 0, .slice none 0 0, .int .i64 0, .slice none 0 0, .int .i64 0, .int .i64 0, .int .i64 0, .int .i64 0, .string ⟨#[]⟩, .int .i64 0] 41)
  have hR0 := block_old (block_new (w.alloc (.cells #[.slice fa d.frames.length fc, .slice ha d.heap.length hcp, .int .i64 d.made, .slice oa d.out.length oc, .int .i64 d.status, .int .i64 d.trap, .int .i64 d.value.k, .int .i64 d.value.n, .string d.value.s, .int .i64 d.steps] 28)) #[.slice none 0 0, .slice none 0 0, .int .i64 0, .slice none 0 0, .int .i64 0, .int .i64 0, .int .i64 0, .int .i64 0, .string ⟨#[]⟩, .int .i64 0] 41) (.cells #[.slice none 0 0, .slice none 0 0, .int .i64 0, .slice none 0 0, .int .i64 0, .int .i64 0, .int .i64 0, .int .i64 0, .string ⟨#[]⟩, .int .i64 0] 41)
  have hO0 := block_new ((w.alloc (.cells #[.slice fa d.frames.length fc, .slice ha d.heap.length hcp, .int .i64 d.made, .slice oa d.out.length oc, .int .i64 d.status, .int .i64 d.trap, .int .i64 d.value.k, .int .i64 d.value.n, .string d.value.s, .int .i64 d.steps] 28)).alloc (.cells #[.slice none 0 0, .slice none 0 0, .int .i64 0, .slice none 0 0, .int .i64 0, .int .i64 0, .int .i64 0, .int .i64 0, .string ⟨#[]⟩, .int .i64 0] 41)) #[.slice none 0 0, .slice none 0 0, .int .i64 0, .slice none 0 0, .int .i64 0, .int .i64 0, .int .i64 0, .int .i64 0, .string ⟨#[]⟩, .int .i64 0] 41
  simp only [World.size_alloc] at hR0 hO0
  go_enter Try.func17, Try.ntmps17
  go_wp2_with fail
  refine (toFrameS_any fa d.frames fc _ hx.frames hx.locals hx.stack (hm.frs.mono hbA)).mono ?_
  rintro e w1 ⟨rfl, hfr, hb1⟩
  have hI1 := block_kept hI0 hb1
  have hR1 := block_kept hR0 hb1
  have hO1 := block_kept hO0 hb1
  have hB1 := hbA.trans (hb1.mono hbA.size)
  simp only [World.size_alloc] at hfr
  clear hI0 hR0 hO0 hbA hb1
  obtain ⟨x1, hx1⟩ : ∃ x1, x1 = (w1.setCell ⟨w.heap.size + 1 + 1, 0, none⟩ (.slice (some ⟨w.heap.size + 1 + 1 + 1, 0, none⟩) d.frames.length d.frames.length)) := ⟨_, rfl⟩
  have hOx : x1.heap[w.heap.size + 1 + 1]? = some (.cells #[.slice (some ⟨w.heap.size + 1 + 1 + 1, 0, none⟩) d.frames.length d.frames.length, .slice none 0 0, .int .i64 0, .slice none 0 0, .int .i64 0, .int .i64 0, .int .i64 0, .int .i64 0, .string ⟨#[]⟩, .int .i64 0] 41 (0, 0)) := by rw [hx1]; simpa using (block_set (i := 0) hO1 (.slice (some ⟨w.heap.size + 1 + 1 + 1, 0, none⟩) d.frames.length d.frames.length))
  have hRx : x1.heap[w.heap.size + 1]? = some (.cells #[.slice none 0 0, .slice none 0 0, .int .i64 0, .slice none 0 0, .int .i64 0, .int .i64 0, .int .i64 0, .int .i64 0, .string ⟨#[]⟩, .int .i64 0] 41 (0, 0)) := by rw [hx1, Below.heap_setCell _ _ _ _ (by simp)]; exact hR1
  have hIx : x1.heap[w.heap.size]? = some (.cells #[.slice fa d.frames.length fc, .slice ha d.heap.length hcp, .int .i64 d.made, .slice oa d.out.length oc, .int .i64 d.status, .int .i64 d.trap, .int .i64 d.value.k, .int .i64 d.value.n, .string d.value.s, .int .i64 d.steps] 28 (0, 0)) := by rw [hx1, Below.heap_setCell _ _ _ _ (by simp; omega)]; exact hI1
  have hBx : Below w.heap.size w x1 := by rw [hx1]; exact (hB1).setCell (by simp; omega) _
  have hzx : w.heap.size + 1 + 1 + 1 ≤ x1.heap.size := lt_block hOx
  have hfrx := hfr.above (w' := x1) (by rw [hx1]; exact ((Above.refl _ _).setCell (by simp) _))
  have i1 := block_cell hI1
  have o1 := block_cell hO1
  have o2 := block_free hO1
  go_wp2_with fail
  rw [← hx1]
  clear hx1 i1 o1 o2 hI1 hR1 hO1 hB1 hfr
  refine (toRecS_any ha d.heap hcp _ hx.heap hx.fields (hm.recs.mono hBx)).mono ?_
  rintro e w2 ⟨rfl, hnew, hbn⟩
  have hI2 := block_kept hIx hbn
  have hR2 := block_kept hRx hbn
  have hO2 := block_kept hOx hbn
  have hB2 := hBx.trans (hbn.mono hBx.size)
  have hfr := hfrx.mono hbn
  have hrc := hnew.low hzx
  clear hIx hRx hOx hBx hbn hnew hfrx hzx
  obtain ⟨x2, hx2⟩ : ∃ x2, x2 = ((w2.setCell ⟨w.heap.size + 1 + 1, 1, none⟩ (.slice (some ⟨x1.heap.size, 0, none⟩) d.heap.length d.heap.length)).setCell ⟨w.heap.size + 1 + 1, 2, none⟩ (.int .i64 d.made)) := ⟨_, rfl⟩
  have hOx : x2.heap[w.heap.size + 1 + 1]? = some (.cells #[.slice (some ⟨w.heap.size + 1 + 1 + 1, 0, none⟩) d.frames.length d.frames.length, .slice (some ⟨x1.heap.size, 0, none⟩) d.heap.length d.heap.length, .int .i64 d.made, .slice none 0 0, .int .i64 0, .int .i64 0, .int .i64 0, .int .i64 0, .string ⟨#[]⟩, .int .i64 0] 41 (0, 0)) := by rw [hx2]; simpa using (block_set (i := 2) (block_set (i := 1) hO2 (.slice (some ⟨x1.heap.size, 0, none⟩) d.heap.length d.heap.length)) (.int .i64 d.made))
  have hRx : x2.heap[w.heap.size + 1]? = some (.cells #[.slice none 0 0, .slice none 0 0, .int .i64 0, .slice none 0 0, .int .i64 0, .int .i64 0, .int .i64 0, .int .i64 0, .string ⟨#[]⟩, .int .i64 0] 41 (0, 0)) := by rw [hx2, Below.heap_setCell _ _ _ _ (by simp), Below.heap_setCell _ _ _ _ (by simp)]; exact hR2
  have hIx : x2.heap[w.heap.size]? = some (.cells #[.slice fa d.frames.length fc, .slice ha d.heap.length hcp, .int .i64 d.made, .slice oa d.out.length oc, .int .i64 d.status, .int .i64 d.trap, .int .i64 d.value.k, .int .i64 d.value.n, .string d.value.s, .int .i64 d.steps] 28 (0, 0)) := by rw [hx2, Below.heap_setCell _ _ _ _ (by simp; omega), Below.heap_setCell _ _ _ _ (by simp; omega)]; exact hI2
  have hBx : Below w.heap.size w x2 := by rw [hx2]; exact ((hB2).setCell (by simp; omega) _).setCell (by simp; omega) _
  have hzx : w.heap.size + 1 + 1 + 1 ≤ x2.heap.size := lt_block hOx
  have hfrx := hfr.above (w' := x2) (by rw [hx2]; exact (((Above.refl _ _).setCell (by simp) _).setCell (by simp) _))
  have hrcx := hrc.above (w' := x2) (by rw [hx2]; exact (((Above.refl _ _).setCell (by simp) _).setCell (by simp) _))
  have i1 := block_cell hI2
  have o1 := block_cell hO2
  have o2 := block_free hO2
  go_wp2_with fail
  rw [← hx2]
  clear hx2 i1 o1 o2 hI2 hR2 hO2 hB2 hfr hrc
  refine (toStringS_any oa d.out oc _ hx.out (hm.out.mono hBx)).mono ?_
  rintro e w3 ⟨rfl, hnew, hbn⟩
  have hI3 := block_kept hIx hbn
  have hR3 := block_kept hRx hbn
  have hO3 := block_kept hOx hbn
  have hB3 := hBx.trans (hbn.mono hBx.size)
  have hfr := hfrx.mono hbn
  have hrc := hrcx.mono hbn
  have hot := hnew.low hzx
  clear hIx hRx hOx hBx hbn hnew hfrx hrcx hzx
  obtain ⟨x3, hx3⟩ : ∃ x3, x3 = (((w3.setCell ⟨w.heap.size + 1 + 1, 3, none⟩ (.slice (some ⟨x2.heap.size, 0, none⟩) d.out.length d.out.length)).setCell ⟨w.heap.size + 1 + 1, 4, none⟩ (.int .i64 d.status)).setCell ⟨w.heap.size + 1 + 1, 5, none⟩ (.int .i64 d.trap)) := ⟨_, rfl⟩
  have hOx : x3.heap[w.heap.size + 1 + 1]? = some (.cells #[.slice (some ⟨w.heap.size + 1 + 1 + 1, 0, none⟩) d.frames.length d.frames.length, .slice (some ⟨x1.heap.size, 0, none⟩) d.heap.length d.heap.length, .int .i64 d.made, .slice (some ⟨x2.heap.size, 0, none⟩) d.out.length d.out.length, .int .i64 d.status, .int .i64 d.trap, .int .i64 0, .int .i64 0, .string ⟨#[]⟩, .int .i64 0] 41 (0, 0)) := by rw [hx3]; simpa using (block_set (i := 5) (block_set (i := 4) (block_set (i := 3) hO3 (.slice (some ⟨x2.heap.size, 0, none⟩) d.out.length d.out.length)) (.int .i64 d.status)) (.int .i64 d.trap))
  have hRx : x3.heap[w.heap.size + 1]? = some (.cells #[.slice none 0 0, .slice none 0 0, .int .i64 0, .slice none 0 0, .int .i64 0, .int .i64 0, .int .i64 0, .int .i64 0, .string ⟨#[]⟩, .int .i64 0] 41 (0, 0)) := by rw [hx3, Below.heap_setCell _ _ _ _ (by simp), Below.heap_setCell _ _ _ _ (by simp), Below.heap_setCell _ _ _ _ (by simp)]; exact hR3
  have hIx : x3.heap[w.heap.size]? = some (.cells #[.slice fa d.frames.length fc, .slice ha d.heap.length hcp, .int .i64 d.made, .slice oa d.out.length oc, .int .i64 d.status, .int .i64 d.trap, .int .i64 d.value.k, .int .i64 d.value.n, .string d.value.s, .int .i64 d.steps] 28 (0, 0)) := by rw [hx3, Below.heap_setCell _ _ _ _ (by simp; omega), Below.heap_setCell _ _ _ _ (by simp; omega), Below.heap_setCell _ _ _ _ (by simp; omega)]; exact hI3
  have hBx : Below w.heap.size w x3 := by rw [hx3]; exact (((hB3).setCell (by simp; omega) _).setCell (by simp; omega) _).setCell (by simp; omega) _
  have hzx : w.heap.size + 1 + 1 + 1 ≤ x3.heap.size := lt_block hOx
  have hfrx := hfr.above (w' := x3) (by rw [hx3]; exact ((((Above.refl _ _).setCell (by simp) _).setCell (by simp) _).setCell (by simp) _))
  have hrcx := hrc.above (w' := x3) (by rw [hx3]; exact ((((Above.refl _ _).setCell (by simp) _).setCell (by simp) _).setCell (by simp) _))
  have hotx := hot.above (w' := x3) (by rw [hx3]; exact ((((Above.refl _ _).setCell (by simp) _).setCell (by simp) _).setCell (by simp) _))
  have i1 := block_cell hI3
  have o1 := block_cell hO3
  have o2 := block_free hO3
  go_wp2_with fail
  rw [← hx3]
  clear hx3 i1 o1 o2 hI3 hR3 hO3 hB3 hfr hrc hot
  refine (toValue_any _ _ _ _).mono ?_
  rintro e w4 ⟨rfl, hbn⟩
  have hI4 := block_kept hIx hbn
  have hR4 := block_kept hRx hbn
  have hO4 := block_kept hOx hbn
  have hB4 := hBx.trans (hbn.mono hBx.size)
  have hfr := hfrx.mono hbn
  have hrc := hrcx.mono hbn
  have hot := hotx.mono hbn
  clear hIx hRx hOx hBx hbn  hfrx hrcx hotx hzx
  have i1 := block_cell hI4
  have o1 := block_cell hO4
  have o2 := block_free hO4
  have r1 := block_cell hR4
  have r2 := block_free hR4
  go_wp2
  refine bodyPost_ret (v := .agg #[.slice (some ⟨w.heap.size + 1 + 1 + 1, 0, none⟩) d.frames.length d.frames.length, .slice (some ⟨x1.heap.size, 0, none⟩) d.heap.length d.heap.length, .int .i64 d.made, .slice (some ⟨x2.heap.size, 0, none⟩) d.out.length d.out.length, .int .i64 d.status, .int .i64 d.trap, .int .i64 d.value.k, .int .i64 d.value.n, .string d.value.s, .int .i64 d.steps]) (by simp [results, Try.results17, go_sem, r1]) rfl ⟨w.heap.size + 1 + 1 + 1, x1.heap.size, x2.heap.size, rfl, ?_, ?_⟩
  · exact ((VmAt.mk hfr hrc hot).above (((((((((((((((Above.refl _ _).setCell (by simp) _).setCell (by simp) _).setCell (by simp) _).setCell (by simp) _).setCell (by simp) _).setCell (by simp) _).setCell (by simp) _).setCell (by simp) _).setCell (by simp) _).setCell (by simp) _).setCell (by simp) _).setCell (by simp) _).setCell (by simp) _).setCell (by simp) _)).low (by omega)
  · exact ((((((((((((((hB4.setCell (by simp; try omega) _).setCell (by simp; try omega) _).setCell (by simp; try omega) _).setCell (by simp; try omega) _).setCell (by simp; try omega) _).setCell (by simp; try omega) _).setCell (by simp; try omega) _).setCell (by simp; try omega) _).setCell (by simp; try omega) _).setCell (by simp; try omega) _).setCell (by simp; try omega) _).setCell (by simp; try omega) _).setCell (by simp; try omega) _).setCell (by simp; try omega) _)
set_option maxHeartbeats 400000 in
theorem eqValueS_any (a a2 : Option Addr) (vs : List Vl) (cap cap2 : Nat) (w : World) (hn : vs.length ≤ 1048576) (hm : ValsAt w 0 a vs) (hm2 : ValsAt w 0 a2 vs) :
    Calls Try.prog 78 #[.slice a vs.length cap, .slice a2 vs.length cap2] w fun e w' => e = .returned (.bool true) ∧ Below w.heap.size w w' := by
  go_enter Try.func78, Try.ntmps78
  go_wp2
  go_loopw [5] (fun i wr => ∃ (k : Nat), k ≤ vs.length ∧ i = .int .i64 k ∧ Below w.heap.size w wr) (fun i _ => vs.length - (intOf i).toNat)
  case atStart => exact ⟨0, by omega, rfl, Below.refl _ _⟩
  case round =>
    obtain ⟨k, hk, rfl, hb⟩ := hrel
    by_cases hlt : k < vs.length
    · obtain ⟨b, off, rfl, -, c1, d1, f1⟩ := hm k hlt
      obtain ⟨b2, off2, rfl, -, c2, d2, f2⟩ := hm2 k hlt
      have c1' := cell_later hb c1
      have c2' := cell_later hb c2
      have d1' := cell_later hb d1
      have d2' := cell_later hb d2
      have f1' := cell_later hb f1
      have f2' := cell_later hb f2
      clear c1 c2 d1 d2 f1 f2
      go_wp2
      go_region_with (go_at_call 47; refine (eqValue_same _ _ _ _).mono ?_; rintro e w1 ⟨rfl, hb1⟩)
      all_goals
        go_wp2
        go_roundw
        case rel =>
          refine ⟨k + 1, by omega, by go_num, Below.trans ?_ (hb1.mono ?_)⟩
          · repeat (first | exact hb | apply Below.drew)
          · exact hb.size
        case measure => simp [intOf]; omega
    · go_wp2
      go_ret
      exact ⟨rfl, hb⟩

set_option maxHeartbeats 400000 in
theorem eqRec_any (a a2 : Option Addr) (vs : List Vl) (cap cap2 : Nat) (w : World) (hn : vs.length ≤ 1048576) (hm : ValsAt w 0 a vs) (hm2 : ValsAt w 0 a2 vs) :
    Calls Try.prog 65 #[.agg #[.slice a vs.length cap], .agg #[.slice a2 vs.length cap2]] w fun e w' => e = .returned (.bool true) ∧ Below w.heap.size w w' := by
  go_enter Try.func65, Try.ntmps65
  go_wp2_with fail
  have hbA : Below w.heap.size w ((w.alloc (.cells #[.slice a vs.length cap] 125)).alloc (.cells #[.slice a2 vs.length cap2] 125)) := ((Below.refl _ _).alloc (Nat.le_refl _) _).alloc (by simp) _
  refine (eqValueS_any a a2 vs cap cap2 _ hn (hm.mono hbA) (hm2.mono hbA)).mono ?_
  rintro e w1 ⟨rfl, hb⟩
  go_wp2
  go_ret
  exact ⟨rfl, hbA.trans (hb.mono (by simp; omega))⟩

set_option maxHeartbeats 400000 in
theorem eqFrame_any (f p : Int) (a a2 b b2 : Option Addr) (vs us : List Vl) (c1 c2 e1 e2 : Nat) (w : World) (hn : vs.length ≤ 1048576) (hn2 : us.length ≤ 1048576) (hm : ValsAt w 0 a vs) (hm2 : ValsAt w 0 a2 vs) (hs : ValsAt w 0 b us) (hs2 : ValsAt w 0 b2 us) :
    Calls Try.prog 64 #[.agg #[.int .i64 f, .int .i64 p, .slice a vs.length c1, .slice b us.length e1], .agg #[.int .i64 f, .int .i64 p, .slice a2 vs.length c2, .slice b2 us.length e2]] w fun e w' => e = .returned (.bool true) ∧ Below w.heap.size w w' := by
  have hbA : Below w.heap.size w ((w.alloc (.cells #[.int .i64 f, .int .i64 p, .slice a vs.length c1, .slice b us.length e1] 122)).alloc (.cells #[.int .i64 f, .int .i64 p, .slice a2 vs.length c2, .slice b2 us.length e2] 122)) := ((Below.refl _ _).alloc (Nat.le_refl _) _).alloc (by simp) _
  have hX0 := block_old (block_new w #[.int .i64 f, .int .i64 p, .slice a vs.length c1, .slice b us.length e1] 122) (.cells #[.int .i64 f, .int .i64 p, .slice a2 vs.length c2, .slice b2 us.length e2] 122)
  have hY0 := block_new (w.alloc (.cells #[.int .i64 f, .int .i64 p, .slice a vs.length c1, .slice b us.length e1] 122)) #[.int .i64 f, .int .i64 p, .slice a2 vs.length c2, .slice b2 us.length e2] 122
  simp only [World.size_alloc] at hY0
  go_enter Try.func64, Try.ntmps64
  go_wp2_with fail
  refine (eqValueS_any a a2 vs c1 c2 _ hn (hm.mono hbA) (hm2.mono hbA)).mono ?_
  rintro e w1 ⟨rfl, hb⟩
  have hB1 := hbA.trans (hb.mono hbA.size)
  have x1 := block_cell (block_kept hX0 hb)
  have y1 := block_cell (block_kept hY0 hb)
  go_wp2_with fail
  refine (eqValueS_any b b2 us e1 e2 _ hn2 (hs.mono hB1) (hs2.mono hB1)).mono ?_
  rintro e w2 ⟨rfl, hb2⟩
  clear x1 y1
  go_wp2
  go_ret
  exact ⟨rfl, hB1.trans (hb2.mono hB1.size)⟩

set_option maxHeartbeats 400000 in
theorem eqRecS_any (a a2 : Option Addr) (rs : List (List Vl)) (cap cap2 : Nat) (w : World) (hn : rs.length ≤ 1048576) (hc : ∀ r ∈ rs, ValsSmall r) (hm : RecsAt w 0 a rs) (hm2 : RecsAt w 0 a2 rs) :
    Calls Try.prog 45 #[.slice a rs.length cap, .slice a2 rs.length cap2] w fun e w' => e = .returned (.bool true) ∧ Below w.heap.size w w' := by
  go_enter Try.func45, Try.ntmps45
  go_wp2
  go_loopw [5] (fun i wr => ∃ (k : Nat), k ≤ rs.length ∧ i = .int .i64 k ∧ Below w.heap.size w wr) (fun i _ => rs.length - (intOf i).toNat)
  case atStart => exact ⟨0, by omega, rfl, Below.refl _ _⟩
  case round =>
    obtain ⟨k, hk, rfl, hb⟩ := hrel
    by_cases hlt : k < rs.length
    · obtain ⟨b, off, ca, cc, rfl, -, c1, f1⟩ := hm k hlt
      obtain ⟨b2, off2, ca2, cc2, rfl, -, c2, f2⟩ := hm2 k hlt
      have c1' := cell_later hb c1
      have c2' := cell_later hb c2
      have hck := (hc rs[k] (List.getElem_mem hlt)).1
      clear c1 c2
      go_wp2
      go_region_with (go_at_call 65; refine (eqRec_any _ _ _ _ _ _ hck (by exact f1.mono (by repeat (first | exact hb | apply Below.drew))) (by exact f2.mono (by repeat (first | exact hb | apply Below.drew)))).mono ?_; rintro e w1 ⟨rfl, hb1⟩)
      all_goals
        go_wp2
        go_roundw
        case rel =>
          refine ⟨k + 1, by omega, by go_num, Below.trans ?_ (hb1.mono ?_)⟩
          · repeat (first | exact hb | apply Below.drew)
          · exact hb.size
        case measure => simp [intOf]; omega
    · go_wp2
      go_ret
      exact ⟨rfl, hb⟩

set_option maxHeartbeats 400000 in
theorem eqFrameS_any (a a2 : Option Addr) (fr : List Fr) (cap cap2 : Nat) (w : World) (hn : fr.length ≤ 1048576) (hc : ∀ f ∈ fr, ValsSmall f.locals) (hc2 : ∀ f ∈ fr, ValsSmall f.stack) (hm : FrsAt w 0 a fr) (hm2 : FrsAt w 0 a2 fr) :
    Calls Try.prog 44 #[.slice a fr.length cap, .slice a2 fr.length cap2] w fun e w' => e = .returned (.bool true) ∧ Below w.heap.size w w' := by
  go_enter Try.func44, Try.ntmps44
  go_wp2
  go_loopw [5] (fun i wr => ∃ (k : Nat), k ≤ fr.length ∧ i = .int .i64 k ∧ Below w.heap.size w wr) (fun i _ => fr.length - (intOf i).toNat)
  case atStart => exact ⟨0, by omega, rfl, Below.refl _ _⟩
  case round =>
    obtain ⟨k, hk, rfl, hb⟩ := hrel
    by_cases hlt : k < fr.length
    · obtain ⟨b, off, la, lc, sa, sc, rfl, -, c1, d1, e1, g1, p1, q1⟩ := hm k hlt
      obtain ⟨b2, off2, la2, lc2, sa2, sc2, rfl, -, c2, d2, e2, g2, p2, q2⟩ := hm2 k hlt
      have c1' := cell_later hb c1
      have c2' := cell_later hb c2
      have d1' := cell_later hb d1
      have d2' := cell_later hb d2
      have e1' := cell_later hb e1
      have e2' := cell_later hb e2
      have g1' := cell_later hb g1
      have g2' := cell_later hb g2
      have hck := (hc fr[k] (List.getElem_mem hlt)).1
      have hck2 := (hc2 fr[k] (List.getElem_mem hlt)).1
      clear c1 c2 d1 d2 e1 e2 g1 g2
      go_wp2
      go_region_with (go_at_call 64; refine (eqFrame_any _ _ _ _ _ _ _ _ _ _ _ _ _ hck hck2 (by exact p1.mono (by repeat (first | exact hb | apply Below.drew))) (by exact p2.mono (by repeat (first | exact hb | apply Below.drew))) (by exact q1.mono (by repeat (first | exact hb | apply Below.drew))) (by exact q2.mono (by repeat (first | exact hb | apply Below.drew)))).mono ?_; rintro e w1 ⟨rfl, hb1⟩)
      all_goals
        go_wp2
        go_roundw
        case rel =>
          refine ⟨k + 1, by omega, by go_num, Below.trans ?_ (hb1.mono ?_)⟩
          · repeat (first | exact hb | apply Below.drew)
          · exact hb.size
        case measure => simp [intOf]; omega
    · go_wp2
      go_ret
      exact ⟨rfl, hb⟩

set_option maxRecDepth 100000 in
set_option maxHeartbeats 2000000 in
theorem eqVm_any (fa ha oa fb hb' ob : Option Addr) (fc hcp oc fc2 hcp2 oc2 : Nat) (d : VmD) (w : World) (hx : VmSmall d) (hm : VmAt w 0 fa ha oa d) (hm2 : VmAt w 0 fb hb' ob d) :
    Calls Try.prog 23 #[.agg (vmCells fa ha oa fc hcp oc d), .agg (vmCells fb hb' ob fc2 hcp2 oc2 d)] w fun e w' => e = .returned (.bool true) ∧ Below w.heap.size w w' := by
  have hbA : Below w.heap.size w ((w.alloc (.cells (vmCells fa ha oa fc hcp oc d) 41)).alloc (.cells (vmCells fb hb' ob fc2 hcp2 oc2 d) 41)) := ((Below.refl _ _).alloc (Nat.le_refl _) _).alloc (by simp) _
  have hX0 := block_old (block_new w (vmCells fa ha oa fc hcp oc d) 41) (.cells (vmCells fb hb' ob fc2 hcp2 oc2 d) 41)
  have hY0 := block_new (w.alloc (.cells (vmCells fa ha oa fc hcp oc d) 41)) (vmCells fb hb' ob fc2 hcp2 oc2 d) 41
  simp only [World.size_alloc] at hY0
  unfold vmCells at hbA hX0 hY0 ⊢
  go_enter Try.func23, Try.ntmps23
  go_wp2_with fail
  refine (eqFrameS_any _ _ d.frames _ _ _ hx.frames hx.locals hx.stack (hm.frs.mono hbA) (hm2.frs.mono hbA)).mono ?_
  rintro e w1 ⟨rfl, hb⟩
  have hB1 := hbA.trans (hb.mono hbA.size)
  have hX1 := block_kept hX0 hb
  have hY1 := block_kept hY0 hb
  have x1 := block_cell hX1
  have y1 := block_cell hY1
  clear hbA hX0 hY0 hb
  go_wp2_with fail
  refine (eqRecS_any _ _ d.heap _ _ _ hx.heap hx.fields (hm.recs.mono hB1) (hm2.recs.mono hB1)).mono ?_
  rintro e w2 ⟨rfl, hb⟩
  have hB2 := hB1.trans (hb.mono hB1.size)
  have hX2 := block_kept hX1 hb
  have hY2 := block_kept hY1 hb
  clear x1 y1 hX1 hY1 hB1 hb
  have x2 := block_cell hX2
  have y2 := block_cell hY2
  go_wp2_with fail
  refine (eqStringS_any _ _ d.out _ _ _ hx.out (hm.out.mono hB2) (hm2.out.mono hB2)).mono ?_
  rintro e w3 ⟨rfl, hb⟩
  have hB3 := hB2.trans (hb.mono hB2.size)
  have hX3 := block_kept hX2 hb
  have hY3 := block_kept hY2 hb
  clear x2 y2 hX2 hY2 hB2 hb
  have x3 := block_cell hX3
  have y3 := block_cell hY3
  go_wp2_with fail
  refine (eqValue_same _ _ _ _).mono ?_
  rintro e w4 ⟨rfl, hb⟩
  have hB4 := hB3.trans (hb.mono hB3.size)
  have x4 := block_cell (block_kept hX3 hb)
  have y4 := block_cell (block_kept hY3 hb)
  clear x3 y3 hX3 hY3 hB3 hb
  go_wp2
  go_ret
  exact ⟨rfl, hB4⟩
end Go.Proofs.Ytopbdjplpnojmaa
