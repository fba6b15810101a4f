/-
  Copies of texts, records and frames: eachOf over them.
  Copies of frames: eachOf over them.
-/
import Derived.Test.YtcfbahaokmhbkaaGreatC6
import Derived.Test.YtcfbahaokmhbkaaGreatKC6
import Derived.Deep.CutRange
namespace Go.Proofs.YtcfbahaokmhbkaaGreat
open Go.RowKit

theorem ValsIs.other {w : World} {b g i : Nat} {vs : List Vl} (h : ValsIs w b vs) (hne : b ≠ g) (v : Value) : ValsIs (w.setCell ⟨g, i, none⟩ v) b vs := by
  unfold ValsIs
  rw [Below.heap_setCell _ _ _ _ hne]
  exact h

set_option maxHeartbeats 1000000 in
theorem ownRec_is (a : Option Addr) (vs : List Vl) (cap : Nat) (w : World) (hs : ValsSmall vs) (hm : ValsAt w 0 a vs) :
    Calls Tryz.prog 131 #[.agg #[.slice a vs.length cap]] w fun e w' => ∃ b, e = .returned (.agg #[.slice (some ⟨b, 0, none⟩) vs.length vs.length]) ∧ w.heap.size ≤ b ∧ ValsIs w' b vs ∧ Below w.heap.size w w' := by
  have hbA : Below w.heap.size w ((w.alloc (.cells #[.slice a vs.length cap] 94)).alloc (.cells #[.slice none 0 0] 94)) := ((Below.refl _ _).alloc (Nat.le_refl _) _).alloc (by simp) _
  have x0 := block_cell (block_old (block_new w #[.slice a vs.length cap] 94) (.cells #[.slice none 0 0] 94))
  have hR0 := block_new_at (w.alloc (.cells #[.slice a vs.length cap] 94)) #[.slice none 0 0] 94 (w.heap.size + 1) (by simp)
  go_enter Tryz.func131, Tryz.ntmps131
  go_wp2_with fail
  refine (ownValues_is a vs cap _ hs (hm.mono hbA)).mono ?_
  rintro e w1 ⟨rfl, h1, h2⟩
  obtain ⟨B, hB⟩ : ∃ B, B = ((w.alloc (.cells #[.slice a vs.length cap] 94)).alloc (.cells #[.slice none 0 0] 94)).heap.size := ⟨_, rfl⟩
  have hB2 : B = w.heap.size + 2 := by rw [hB]; simp
  rw [← hB] at h1 h2 ⊢
  have hR1 := block_kept hR0 (by rw [← hB]; exact h2)
  have r1 := block_cell hR1
  have r2 := block_free hR1
  have H : Hid (ValsIs w1 B vs ∧ Below w.heap.size w w1 ∧ B = w.heap.size + 2) := ⟨h1, hbA.trans (h2.mono (by omega)), hB2⟩
  clear h1 h2 x0 hB hB2
  go_wp2
  refine bodyPost_ret (v := .agg #[.slice (some ⟨B, 0, none⟩) vs.length vs.length]) (by simp [results, Tryz.results131, go_sem, r1]) rfl ?_
  obtain ⟨q1, q2, q3⟩ := H.out
  exact ⟨B, rfl, by omega, q1.other (by omega) _, q2.setCell (by simp) _⟩

set_option maxHeartbeats 1000000 in
theorem eachR_is (a : Option Addr) (rs : List (List Vl)) (cap : Nat) (w : World) (hn : rs.length ≤ 1048576) (hc : ∀ r ∈ rs, ValsSmall r) (hm : RecsAt w 0 a rs) :
    Calls Tryz.prog 130 #[.slice a rs.length cap, .func (.func 131) #[] #[]] w fun e w' => ∃ cur rb, e = .returned (.slice (some ⟨w.heap.size, 0, none⟩) rs.length rs.length) ∧ w'.heap[w.heap.size]? = some (.cells cur 94 (0, 0)) ∧ ReCells cur rb rs rs.length ∧ ReVals w' (w.heap.size + 1) rb rs rs.length ∧ Below w.heap.size w w' := by
  obtain ⟨i0, hi, hz0, hz1, hz2⟩ := info_parts info94
  go_enter Tryz.func130, Tryz.ntmps130
  go_wp2_with (first | (at_make; refine wpList_make_full _ rfl _ _ 35 rfl w.heap.size 94 i0 (.agg #[.slice none 0 0]) 1 Tryz.underlying35 hi hz0 hz1 _ _ _ _ rs.length rfl rfl rfl rfl (by rw [hz2]; omega) (by unfold maxLen; omega) (Nat.le_refl _) ?_; intro w1 hown hgrow))
  obtain ⟨cur0, hblk, hsz⟩ := made_block hown
  have hb0 : Below w.heap.size w w1 := (Below.refl _ _).grown hgrow (Nat.le_refl _) (by intro k hk; cases hk)
  clear hown hgrow hi hz0 hz1 hz2
  go_loopw [13] (fun i wr => ∃ (k : Nat) (cur : Array Value) (rb : Nat → Nat), k ≤ rs.length ∧ i = .int .i64 k ∧ wr.heap[w.heap.size]? = some (.cells cur 94 (0, 0)) ∧ Hid (ReCells cur rb rs k) ∧ Hid (ReVals wr (w.heap.size + 1) rb rs k) ∧ Below w.heap.size w wr) (fun i _ => rs.length - (intOf i).toNat)
  case atStart => exact ⟨0, cur0, fun _ => 0, by omega, rfl, hblk, ⟨by simpa using hsz, fun i _ h => absurd h (Nat.not_lt_zero _)⟩, ⟨fun i _ h => absurd h (Nat.not_lt_zero _), fun i h => absurd h (Nat.not_lt_zero _), fun i _ h => absurd h (Nat.not_lt_zero _)⟩, hb0⟩
  case round =>
    obtain ⟨k, cur, rb, hk, rfl, hblk, HC, HV, hb⟩ := hrel
    by_cases hlt : k < rs.length
    · obtain ⟨b, off, fa, fc, rfl, -, c1, c2⟩ := hm k hlt
      have c1' := cell_later hb c1
      clear c1
      have hck := hc rs[k] (List.getElem_mem hlt)
      have hsz := HC.out.1
      have hblkA := block_old hblk (.cells #[.slice fa rs[k].length fc] 94)
      have hbA := hb.alloc hb.size (.cells #[.slice fa rs[k].length fc] 94)
      go_wp2_with fail
      refine (ownRec_is fa rs[k] fc _ hck (c2.mono hbA)).mono ?_
      rintro e w2 ⟨nb, rfl, hnb, hv, hb2⟩
      have hblk2 := block_kept hblkA hb2
      have hfz := block_free hblk2
      have hcl : w2.cell? ⟨w.heap.size, k, none⟩ = some cur[k] := by rw [block_cell hblk2]; simp
      have hb3 : Below w.heap.size w w2 := hbA.trans (hb2.mono hbA.size)
      have hbw : Below wr.heap.size wr w2 := ((Below.refl _ _).alloc (Nat.le_refl _) _).trans (hb2.mono (by simp))
      have hws : wr.heap.size < nb := Nat.lt_of_lt_of_le (by simp) hnb
      have hwz := lt_block hblk
      have HV2 : Hid (ReVals w2 (w.heap.size + 1) (upd rb k nb) rs (k + 1)) := (HV.out.kept (fun b vs _ h => h.mono hbw)).more hlt hv (by omega) (fun i hi => by have l1 := lt_block (HV.out.fld i (by omega) hi); omega)
      clear hv hnb hws hblkA hbA hb2 hwz HV
      go_wp2
      go_roundw
      case rel =>
        exact ⟨k + 1, _, upd rb k nb, by omega, by go_num, block_set hblk2 _, HC.out.more hlt, HV2.out.kept (fun b vs hb h => h.other (by omega) _), hb3.setCell (Nat.le_refl _) _⟩
      case measure => simp [intOf]; omega
    · have hkn : k = rs.length := by omega
      subst hkn
      go_wp2
      go_ret
      exact ⟨cur, rb, rfl, hblk, HC.out, HV.out, hb⟩

set_option maxHeartbeats 1000000 in
theorem ownHeap_is (a : Option Addr) (rs : List (List Vl)) (cap : Nat) (w : World) (hn : rs.length ≤ 1048576) (hc : ∀ r ∈ rs, ValsSmall r) (hm : RecsAt w 0 a rs) :
    Calls Tryz.prog 103 #[.slice a rs.length cap] w fun e w' => ∃ cur rb, e = .returned (.slice (some ⟨w.heap.size, 0, none⟩) rs.length rs.length) ∧ w'.heap[w.heap.size]? = some (.cells cur 94 (0, 0)) ∧ ReCells cur rb rs rs.length ∧ ReVals w' (w.heap.size + 1) rb rs rs.length ∧ Below w.heap.size w w' := by
  go_enter Tryz.func103, Tryz.ntmps103
  go_wp2_with fail
  refine (eachR_is a rs cap w hn hc hm).mono ?_
  rintro e w1 ⟨cur, rb, rfl, h⟩
  have H := hid h
  clear h
  go_wp2
  go_ret
  exact ⟨cur, rb, rfl, H.out⟩

set_option maxHeartbeats 1000000 in
theorem eachS_is (a : Option Addr) (ss : List ByteArray) (cap : Nat) (w : World) (hn : ss.length ≤ 1048576) (hc : ∀ s ∈ ss, s.size ≤ 1048576) (hm : StrsAt w 0 a ss) :
    Calls Tryz.prog 104 #[.slice a ss.length cap, .func (.func 105) #[] #[]] w fun e w' => ∃ cur, e = .returned (.slice (some ⟨w.heap.size, 0, none⟩) ss.length ss.length) ∧ w'.heap[w.heap.size]? = some (.cells cur 9 (0, 0)) ∧ OuCells cur ss ss.length ∧ Below w.heap.size w w' := by
  obtain ⟨i0, hi, hz0, hz1, hz2⟩ := info_parts info9
  go_enter Tryz.func104, Tryz.ntmps104
  go_wp2_with (first | (at_make; refine wpList_make_full _ rfl _ _ 22 rfl w.heap.size 9 i0 (.string ByteArray.empty) 1 Tryz.underlying22 hi hz0 hz1 _ _ _ _ ss.length rfl rfl rfl rfl (by rw [hz2]; omega) (by unfold maxLen; omega) (Nat.le_refl _) ?_; intro w1 hown hgrow))
  obtain ⟨cur0, hblk, hsz⟩ := made_block hown
  have hb0 : Below w.heap.size w w1 := (Below.refl _ _).grown hgrow (Nat.le_refl _) (by intro k hk; cases hk)
  clear hown hgrow hi hz0 hz1 hz2
  go_loopw [13] (fun i wr => ∃ (k : Nat) (cur : Array Value), k ≤ ss.length ∧ i = .int .i64 k ∧ wr.heap[w.heap.size]? = some (.cells cur 9 (0, 0)) ∧ Hid (OuCells cur ss k) ∧ Below w.heap.size w wr) (fun i _ => ss.length - (intOf i).toNat)
  case atStart => exact ⟨0, cur0, by omega, rfl, hblk, ⟨by simpa using hsz, fun i _ h => absurd h (Nat.not_lt_zero _)⟩, hb0⟩
  case round =>
    obtain ⟨k, cur, hk, rfl, hblk, HC, hb⟩ := hrel
    by_cases hlt : k < ss.length
    · obtain ⟨b, off, rfl, -, c1⟩ := hm k hlt
      have c1' := cell_later hb c1
      clear c1
      have hck := hc ss[k] (List.getElem_mem hlt)
      have hsz := HC.out.1
      go_wp2_with fail
      refine (clone_any ss[k] _ hck).mono ?_
      rintro e w2 ⟨rfl, hb2⟩
      have hblk2 := block_kept hblk hb2
      have hfz := block_free hblk2
      have hcl : w2.cell? ⟨w.heap.size, k, none⟩ = some cur[k] := by rw [block_cell hblk2]; simp
      have hb3 : Below w.heap.size w w2 := hb.trans (hb2.mono hb.size)
      clear hb2
      go_wp2
      go_roundw
      case rel =>
        exact ⟨k + 1, _, by omega, by go_num, block_set hblk2 _, HC.out.more hlt, hb3.setCell (Nat.le_refl _) _⟩
      case measure => simp [intOf]; omega
    · have hkn : k = ss.length := by omega
      subst hkn
      go_wp2
      go_ret
      exact ⟨cur, rfl, hblk, HC.out, hb⟩
end Go.Proofs.YtcfbahaokmhbkaaGreat

namespace Go.Proofs.YtcfbahaokmhbkaaGreat
open Go.RowKit

set_option maxRecDepth 100000 in
set_option maxHeartbeats 4000000 in
theorem ownFrame_is (f : Fr) (xa ya : Option Addr) (xc yc : Nat) (w : World) (h1 : ValsSmall f.locals) (h2 : ValsSmall f.stack) (hx : ValsAt w 0 xa f.locals) (hy : ValsAt w 0 ya f.stack) :
    Calls Tryz.prog 101 #[.agg #[.int .i64 f.fn, .int .i64 f.pc, .slice xa f.locals.length xc, .slice ya f.stack.length yc]] w fun e w' => ∃ g1 g2, e = .returned (.agg #[.int .i64 f.fn, .int .i64 f.pc, .slice (some ⟨g1, 0, none⟩) f.locals.length f.locals.length, .slice (some ⟨g2, 0, none⟩) f.stack.length f.stack.length]) ∧ w.heap.size ≤ g1 ∧ g1 < g2 ∧ ValsIs w' g1 f.locals ∧ ValsIs w' g2 f.stack ∧ Below w.heap.size w w' := by
  obtain ⟨wA, hwA⟩ : ∃ wA, wA = (w.alloc (.cells #[.int .i64 f.fn, .int .i64 f.pc, .slice xa f.locals.length xc, .slice ya f.stack.length yc] 90)).alloc (.cells #[.int .i64 0, .int .i64 0, .slice none 0 0, .slice none 0 0] 90) := ⟨_, rfl⟩
  have hbA : Below w.heap.size w wA := by rw [hwA]; exact ((Below.refl _ _).alloc (Nat.le_refl _) _).alloc (by simp) _
  have hF0 : wA.heap[w.heap.size]? = some (.cells #[.int .i64 f.fn, .int .i64 f.pc, .slice xa f.locals.length xc, .slice ya f.stack.length yc] 90 (0, 0)) := by rw [hwA]; exact block_old (block_new _ _ _) _
  have hR0 : wA.heap[w.heap.size + 1]? = some (.cells #[.int .i64 0, .int .i64 0, .slice none 0 0, .slice none 0 0] 90 (0, 0)) := by rw [hwA]; exact block_new_at _ _ _ _ (by simp)
  have hsA : w.heap.size + 2 = wA.heap.size := by rw [hwA]; simp
  have hbd : Below wA.heap.size wA wA.drew := (Below.refl _ _).drew
  have hFd := block_kept hF0 hbd
  have hRd := block_kept hR0 hbd
  have hbD : Below w.heap.size w wA.drew := hbA.trans (hbd.mono hbA.size)
  have hh : (fun w' : World => w'.cell? ⟨w.heap.size, 0, none⟩ = some (.int .i64 f.fn) ∧ w'.cell? ⟨w.heap.size, 1, none⟩ = some (.int .i64 f.pc) ∧ w'.cell? ⟨w.heap.size, 2, none⟩ = some (.slice xa f.locals.length xc) ∧ w'.cell? ⟨w.heap.size, 3, none⟩ = some (.slice ya f.stack.length yc)) wA.drew := ⟨by rw [block_cell hFd]; rfl, by rw [block_cell hFd]; rfl, by rw [block_cell hFd]; rfl, by rw [block_cell hFd]; rfl⟩
  go_enter Tryz.func101, Tryz.ntmps101
  go_upto_region 1 with fail
  rw [← hwA]
  clear hwA
  refine wp_region_T (RS [] (fun w' : World => w'.cell? ⟨w.heap.size, 0, none⟩ = some (.int .i64 f.fn) ∧ w'.cell? ⟨w.heap.size, 1, none⟩ = some (.int .i64 f.pc) ∧ w'.cell? ⟨w.heap.size, 2, none⟩ = some (.slice xa f.locals.length xc) ∧ w'.cell? ⟨w.heap.size, 3, none⟩ = some (.slice ya f.stack.length yc))) (by kernel_rfl) ?_
  refine tkP (i := 0) (v := ?_) rfl (by kernel_rfl) (fun _ _ _ h => h) ?_ ?_
  rotate_left
  · intro w'
    go_simp
    try with_reducible rfl
  simp only [Act.put, List.setIfInBounds_toArray]
  refine tkS (i := 1) [] (v := ?_) rfl (by kernel_rfl) (by kernel_rfl) (fun _ _ _ h => h) ?_ hh ?_
  rotate_left
  · intro w' hSw
    obtain ⟨y0, y1, y2, y3⟩ := hSw
    go_simp
    try with_reducible rfl
  simp only [Act.put]
  refine tkP (i := 2) (v := ?_) rfl (by kernel_rfl) (fun _ _ _ h => h) ?_ ?_
  rotate_left
  · intro w'
    go_simp
    try with_reducible rfl
  simp only [Act.put]
  refine tkS (i := 3) [] (v := ?_) rfl (by kernel_rfl) (by kernel_rfl) (fun _ _ _ h => h) ?_ hh ?_
  rotate_left
  · intro w' hSw
    obtain ⟨y0, y1, y2, y3⟩ := hSw
    go_simp
    try with_reducible rfl
  simp only [Act.put]
  refine tkP (i := 4) (v := ?_) rfl (by kernel_rfl) (fun _ _ _ h => h) ?_ ?_
  rotate_left
  · intro w'
    go_simp
    try with_reducible rfl
  simp only [Act.put]
  refine tkS (i := 5) [] (v := ?_) rfl (by kernel_rfl) (by kernel_rfl) (fun _ _ _ h => h) ?_ hh ?_
  rotate_left
  · intro w' hSw
    obtain ⟨y0, y1, y2, y3⟩ := hSw
    go_simp
    try with_reducible rfl
  simp only [Act.put]
  refine tkP (i := 7) (v := ?_) rfl (by kernel_rfl) (fun _ _ _ h => h) ?_ ?_
  rotate_left
  · intro w'
    go_simp
    try with_reducible rfl
  simp only [Act.put]
  refine tkS (i := 8) [] (v := ?_) rfl (by kernel_rfl) (by kernel_rfl) (fun _ _ _ h => h) ?_ hh ?_
  rotate_left
  · intro w' hSw
    obtain ⟨y0, y1, y2, y3⟩ := hSw
    go_simp
    try with_reducible rfl
  simp only [Act.put]
  refine wpAnyT_one (i := 6) (o := _) (by kernel_rfl) rfl (fun Kq hK => ?_)
  go_simp
  refine (ownValues_is xa f.locals xc _ h1 (hx.mono hbD)).mono ?_
  rintro e w1 ⟨rfl, hv1, hb1⟩
  replace hv1 : ValsIs w1 wA.heap.size f.locals := hv1
  have hF1 := block_kept hFd hb1
  have hR1 := block_kept hRd hb1
  have hB1 : Below w.heap.size w w1 := hbD.trans (hb1.mono hbD.size)
  have hs1 : wA.heap.size < w1.heap.size := lt_block hv1
  refine hK.out _ _ (.inr (fun _ => ⟨by rw [block_cell hF1]; rfl, by rw [block_cell hF1]; rfl, by rw [block_cell hF1]; rfl, by rw [block_cell hF1]; rfl⟩)) ?_
  clear hK Kq
  try simp only [Act.put]
  refine wpAnyT_one (i := 9) (o := _) (by kernel_rfl) rfl (fun Kq hK => ?_)
  go_simp
  refine (ownValues_is ya f.stack yc _ h2 (hy.mono hB1)).mono ?_
  rintro e w2 ⟨rfl, hv2, hb2⟩
  have hF2 := block_kept hF1 hb2
  have hR2 := block_kept hR1 hb2
  have hB2 : Below w.heap.size w w2 := hB1.trans (hb2.mono hB1.size)
  refine hK.out _ _ (.inr (fun _ => ⟨by rw [block_cell hF2]; rfl, by rw [block_cell hF2]; rfl, by rw [block_cell hF2]; rfl, by rw [block_cell hF2]; rfl⟩)) ?_
  clear hK Kq
  try simp only [Act.put]
  refine tkP (i := 10) (v := ?_) rfl (by kernel_rfl) (fun _ _ _ h => h) ?_ ?_
  rotate_left
  · intro w'
    go_simp
    try with_reducible rfl
  simp only [Act.put]
  have r1 := block_cell hR2
  have r2 := block_free hR2
  refine wpAnyT_one (i := 11) (o := _) (by kernel_rfl) rfl (fun Kq hK => ?_)
  go_simp
  have hne : w.heap.size ≠ w.heap.size + 1 := by omega
  refine hK.out _ _ (.inr (fun _ => ?_)) ?_
  · have hX : ∀ (w' : World) (v : Value) (i : Nat), w'.heap[w.heap.size]? = some (.cells #[.int .i64 f.fn, .int .i64 f.pc, .slice xa f.locals.length xc, .slice ya f.stack.length yc] 90 (0, 0)) → (w'.setCell ⟨w.heap.size + 1, i, none⟩ v).heap[w.heap.size]? = some (.cells #[.int .i64 f.fn, .int .i64 f.pc, .slice xa f.locals.length xc, .slice ya f.stack.length yc] 90 (0, 0)) := fun w' v i h => by rw [Below.heap_setCell _ _ _ _ hne]; exact h
    have hF3 := hX _ (.slice (some ⟨w1.heap.size, 0, none⟩) f.stack.length f.stack.length) 3 (hX _ (.slice (some ⟨wA.heap.size, 0, none⟩) f.locals.length f.locals.length) 2 (hX _ (.int .i64 f.pc) 1 (hX _ (.int .i64 f.fn) 0 hF2)))
    exact ⟨by rw [block_cell hF3]; rfl, by rw [block_cell hF3]; rfl, by rw [block_cell hF3]; rfl, by rw [block_cell hF3]; rfl⟩
  clear hK Kq
  try simp only [Act.put]
  refine wpAnyT_done (by kernel_rfl) ?_ _
  have HE : Hid (ValsIs w2 wA.heap.size f.locals ∧ ValsIs w2 w1.heap.size f.stack ∧ Below w.heap.size w w2) := ⟨hv1.mono hb2, hv2, hB2⟩
  have hz : wA.heap.size = w.heap.size + 2 := hsA.symm
  have HS : Hid (wA.heap.size < w1.heap.size) := hs1
  clear hv1 hv2 hB1 hB2 hb1 hb2 hF0 hF1 hF2 hFd hR0 hR1 hRd hh hbD hbd hbA hx hy hs1
  go_wp2
  refine bodyPost_ret (v := .agg #[.int .i64 f.fn, .int .i64 f.pc, .slice (some ⟨wA.heap.size, 0, none⟩) f.locals.length f.locals.length, .slice (some ⟨w1.heap.size, 0, none⟩) f.stack.length f.stack.length]) (by simp [results, Tryz.results101, go_sem, r1]) rfl ?_
  obtain ⟨q1, q2, q3⟩ := HE.out
  have q4 := HS.out
  refine ⟨wA.heap.size, w1.heap.size, rfl, by omega, q4, ?_, ?_, ?_⟩
  · exact (((q1.other (by omega) _).other (by omega) _).other (by omega) _).other (by omega) _
  · exact (((q2.other (by omega) _).other (by omega) _).other (by omega) _).other (by omega) _
  · exact (((q3.setCell (by simp) _).setCell (by simp) _).setCell (by simp) _).setCell (by simp) _

set_option maxHeartbeats 2000000 in
theorem eachF_is (a : Option Addr) (fr : List Fr) (cap : Nat) (w : World) (hn : fr.length ≤ 1048576) (hl : ∀ f ∈ fr, ValsSmall f.locals) (hs : ∀ f ∈ fr, ValsSmall f.stack) (hm : FrsAt w 0 a fr) :
    Calls Tryz.prog 100 #[.slice a fr.length cap, .func (.func 101) #[] #[]] w fun e w' => ∃ cur la sa, e = .returned (.slice (some ⟨w.heap.size, 0, none⟩) fr.length fr.length) ∧ w'.heap[w.heap.size]? = some (.cells cur 90 (0, 0)) ∧ FrCells cur la sa fr fr.length ∧ FrVals w' (w.heap.size + 1) la sa fr fr.length ∧ Below w.heap.size w w' := by
  obtain ⟨i0, hi, hz0, hz1, hz2⟩ := info_parts info90
  go_enter Tryz.func100, Tryz.ntmps100
  go_wp2_with (first | (at_make; refine wpList_make_full _ rfl _ _ 34 rfl w.heap.size 90 i0 (.agg #[.int .i64 0, .int .i64 0, .slice none 0 0, .slice none 0 0]) 4 Tryz.underlying34 hi hz0 hz1 _ _ _ _ fr.length rfl rfl rfl rfl (by rw [hz2]; omega) (by unfold maxLen; omega) (Nat.le_refl _) ?_; intro w1 hown hgrow))
  obtain ⟨cur0, hblk, hsz⟩ := made_block hown
  have hb0 : Below w.heap.size w w1 := (Below.refl _ _).grown hgrow (Nat.le_refl _) (by intro k hk; cases hk)
  clear hown hgrow hi hz0 hz1 hz2
  go_loopw [13] (fun i wr => ∃ (k : Nat) (cur : Array Value) (la sa : Nat → Nat), k ≤ fr.length ∧ i = .int .i64 k ∧ wr.heap[w.heap.size]? = some (.cells cur 90 (0, 0)) ∧ Hid (FrCells cur la sa fr k) ∧ Hid (FrVals wr (w.heap.size + 1) la sa fr k) ∧ Below w.heap.size w wr) (fun i _ => fr.length - (intOf i).toNat)
  case atStart =>
    exact ⟨0, cur0, fun _ => 0, fun _ => 0, by omega, rfl, hblk, ⟨hsz, fun i _ h => absurd h (Nat.not_lt_zero _)⟩, ⟨fun i _ h => absurd h (Nat.not_lt_zero _), fun i _ h => absurd h (Nat.not_lt_zero _), fun i h => absurd h (Nat.not_lt_zero _), fun i h => absurd h (Nat.not_lt_zero _), fun i _ h => absurd h (Nat.not_lt_zero _), fun i _ h => absurd h (Nat.not_lt_zero _), fun i _ h => absurd h (Nat.not_lt_zero _)⟩, hb0⟩
  case round =>
    obtain ⟨k, cur, la, sa, hk, rfl, hblk, HC, HV, hb⟩ := hrel
    by_cases hlt : k < fr.length
    · obtain ⟨b, off, xa, xc, ya, yc, rfl, -, c1, c2, c3, c4, hvx, hvy⟩ := hm k hlt
      have c1' := cell_later hb c1
      have c2' := cell_later hb c2
      have c3' := cell_later hb c3
      have c4' := cell_later hb c4
      clear c1 c2 c3 c4
      have hsl := hl _ (List.getElem_mem hlt)
      have hss := hs _ (List.getElem_mem hlt)
      have hsz := HC.out.1
      have hblkA := block_old hblk (.cells #[.int .i64 fr[k].fn, .int .i64 fr[k].pc, .slice xa fr[k].locals.length xc, .slice ya fr[k].stack.length yc] 90)
      have hbA := hb.alloc hb.size (.cells #[.int .i64 fr[k].fn, .int .i64 fr[k].pc, .slice xa fr[k].locals.length xc, .slice ya fr[k].stack.length yc] 90)
      have HVX := hid (hvx.mono hbA)
      have HVY := hid (hvy.mono hbA)
      clear hvx hvy
      go_wp2_with fail
      refine (ownFrame_is fr[k] xa ya xc yc _ hsl hss HVX.out HVY.out).mono ?_
      rintro e w2 ⟨g1, g2, rfl, hg1, hg2, hv1, hv2, hb2⟩
      have hblk2 := block_kept hblkA hb2
      have hfz := block_free hblk2
      have hcl : w2.cell? ⟨w.heap.size, k * 4, none⟩ = some cur[k * 4] := by rw [block_cell hblk2]; simp
      have hcl2 : w2.cell? ⟨w.heap.size, k * 4 + 1, none⟩ = some cur[k * 4 + 1] := by rw [block_cell hblk2]; simp
      have hcl3 : w2.cell? ⟨w.heap.size, k * 4 + 2, none⟩ = some cur[k * 4 + 2] := by rw [block_cell hblk2]; simp
      have hcl4 : w2.cell? ⟨w.heap.size, k * 4 + 3, none⟩ = some cur[k * 4 + 3] := by rw [block_cell hblk2]; simp
      have hb3 : Below w.heap.size w w2 := hbA.trans (hb2.mono hbA.size)
      have hbw : Below wr.heap.size wr w2 := ((Below.refl _ _).alloc (Nat.le_refl _) _).trans (hb2.mono (by simp))
      have hws : wr.heap.size < g1 := Nat.lt_of_lt_of_le (by simp) hg1
      have hwz := lt_block hblk
      have HV2 : Hid (FrVals w2 (w.heap.size + 1) (upd la k g1) (upd sa k g2) fr (k + 1)) := (HV.out.kept (fun b vs _ h => h.mono hbw)).more hlt hv1 hv2 (by omega) (by omega) (by omega) (fun i hi => by
        have l1 := lt_block (HV.out.loc i (by omega) hi)
        have l2 := lt_block (HV.out.stk i (by omega) hi)
        omega)
      clear hv1 hv2 hg1 hg2 hws hblkA hbA hb2 hwz HV HVX HVY hsl hss
      go_wp2
      go_roundw
      case rel =>
        exact ⟨k + 1, _, upd la k g1, upd sa k g2, by omega, by go_num, block_set (block_set (block_set (block_set hblk2 _) _) _) _, HC.out.more hlt, HV2.out.kept (fun b vs hb h => (((h.other (by omega) _).other (by omega) _).other (by omega) _).other (by omega) _), (((hb3.setCell (Nat.le_refl _) _).setCell (Nat.le_refl _) _).setCell (Nat.le_refl _) _).setCell (Nat.le_refl _) _⟩
      case measure => simp [intOf]; omega
    · have hkn : k = fr.length := by omega
      subst hkn
      go_wp2
      go_ret
      exact ⟨cur, la, sa, rfl, hblk, HC.out, HV.out, hb⟩
end Go.Proofs.YtcfbahaokmhbkaaGreat
