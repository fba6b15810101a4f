/-
What impl.ExitHolds returns.
-/
import Derived.Test.YtoimokjohmhnaaaGreatDoorHQ3d
import Derived.Test.YtoimokjohmhnaaaGreatDoorHQ4
import Derived.Test.YtoimokjohmhnaaaGreatDoorHB
set_option maxRecDepth 100000
namespace Go.Proofs.YtoimokjohmhnaaaGreatDoor
open Go.RowKit
def HoldsP (ts : List ByteArray) (fs : List Fn) (D : FastD) (x : Int) (d : VmD) : Prop :=
 FastP ts fs D ∧ (Room d ∧ Frames fs d ∧ Vals fs.length d) ∧ d.status = 0 ∧ ∃ (k : Nat) (h : k < D.exits.length), x = k ∧ D.exits[k].frames.length ≤ d.frames.length ∧ SameAt D.exits[k].frames (d.frames.drop (d.frames.length - D.exits[k].frames.length))
set_option maxHeartbeats 8000000 in
theorem iHolds_any (a1 a2 oa ea : Option Addr) (c1 c2 oc ec : Nat) (ts : List ByteArray) (fs : List Fn) (D : FastD) (x : Int) (fa ha ua : Option Addr) (fc hcp uc : Nat) (d : VmD) (w : World) (hs : Small ts fs) (hd : FastSmall D) (hv : VmSmall d) (hm : StrsAt w 0 a1 ts) (hm2 : FnsAt w 0 a2 fs) (hf : FastAt w 0 oa ea D) (hw : VmAt w 0 fa ha ua d) (hcap : d.frames.length ≤ fc) (hsh : ShAt w) (hDB : DB w) :
  Calls Tryz.prog 36 #[.agg #[.slice a1 ts.length c1, .slice a2 fs.length c2], .agg (fastCells oa ea oc ec D), .int .i64 x, .agg (vmCells fa ha ua fc hcp uc d)] w fun e w' => e = .returned (.bool (pB (HoldsP ts fs D x d))) ∧ Below w.heap.size w w' := by
 obtain ⟨w0, hw0⟩ : ∃ w0, w0 = ((w.alloc (.cells #[.slice a1 ts.length c1, .slice a2 fs.length c2] 35)).alloc (.cells #[.int .i64 D.fn, .int .i64 D.entry, .int .i64 D.vals, .int .i64 D.nums, .slice oa D.ops.length oc, .slice ea D.exits.length ec] 40)).alloc (.cells #[.slice fa d.frames.length fc, .slice ha d.heap.length hcp, .int .i64 d.made, .slice ua d.out.length uc, .int .i64 d.status, .int .i64 d.trap, .int .i64 d.value.k, .int .i64 d.value.n, .string d.value.s, .int .i64 d.steps] 78) := ⟨_, rfl⟩
 have hb0 : Below w.heap.size w w0 := by rw [hw0]; exact (((Below.refl _ _).alloc (Nat.le_refl _) _).alloc (by simp) _).alloc (by simp; omega) _
 have hM0 : w0.heap[w.heap.size]? = some (.cells #[.slice a1 ts.length c1, .slice a2 fs.length c2] 35 (0, 0)) := by rw [hw0]; exact block_old (block_old (block_new _ _ _) _) _
 have hV0 : w0.heap[w.heap.size + 1 + 1]? = some (.cells #[.slice fa d.frames.length fc, .slice ha d.heap.length hcp, .int .i64 d.made, .slice ua d.out.length uc, .int .i64 d.status, .int .i64 d.trap, .int .i64 d.value.k, .int .i64 d.value.n, .string d.value.s, .int .i64 d.steps] 78 (0, 0)) := by rw [hw0]; exact block_new_at _ _ _ _ (by simp)
 have hxo := exitOf_any a1 a2 oa ea c1 c2 oc ec ts fs D x w0 hs hd (hm.mono hb0) (hm2.mono hb0) (hf.mono hb0) (hsh.mono hb0) (hDB.mono hb0)
 have hvo := fun w' => iVmOk_any a1 a2 c1 c2 ts fs fa ha ua fc hcp uc d w' hs
 unfold fastCells at hxo ⊢
 unfold vmCells at hvo ⊢
 go_enter Tryz.func36, Tryz.ntmps36
 go_wp2_with fail
 rw [← hw0]
 refine hxo.mono ?_
 clear hxo hw0
 rintro e w1 ⟨⟨b, E, xa, ya, xc, yc, rfl, hE⟩, hb1⟩
 have hB1 := hb0.trans (hb1.mono hb0.size)
 obtain ⟨w2, hw2⟩ : ∃ w2, w2 = w1.alloc (.cells #[.int .i64 E.kind, .int .i64 E.spec.f, .int .i64 E.spec.pc, .int .i64 E.spec.seen, .int .i64 E.spec.target, .slice xa E.frames.length xc, .slice ya E.recs.length yc] 123) := ⟨_, rfl⟩
 have hb2 : Below w1.heap.size w1 w2 := by rw [hw2]; exact (Below.refl _ _).alloc (Nat.le_refl _) _
 have hB2 := hB1.trans (hb2.mono hB1.size)
 have hM2 := block_kept (block_kept hM0 hb1) hb2
 have hV2 := block_kept (block_kept hV0 hb1) hb2
 have hX2 : w2.heap[w1.heap.size]? = some (.cells #[.int .i64 E.kind, .int .i64 E.spec.f, .int .i64 E.spec.pc, .int .i64 E.spec.seen, .int .i64 E.spec.target, .slice xa E.frames.length xc, .slice ya E.recs.length yc] 123 (0, 0)) := by rw [hw2]; exact block_new _ _ _
 have HS : Hid (∀ w', Below w2.heap.size w2 w' → w'.cell? ⟨w.heap.size, 0, none⟩ = some (.slice a1 ts.length c1) ∧ w'.cell? ⟨w.heap.size, 1, none⟩ = some (.slice a2 fs.length c2) ∧ w'.cell? ⟨w.heap.size + 1 + 1, 0, none⟩ = some (.slice fa d.frames.length fc) ∧ w'.cell? ⟨w.heap.size + 1 + 1, 1, none⟩ = some (.slice ha d.heap.length hcp) ∧ w'.cell? ⟨w.heap.size + 1 + 1, 2, none⟩ = some (.int .i64 d.made) ∧ w'.cell? ⟨w.heap.size + 1 + 1, 3, none⟩ = some (.slice ua d.out.length uc) ∧ w'.cell? ⟨w.heap.size + 1 + 1, 4, none⟩ = some (.int .i64 d.status) ∧ w'.cell? ⟨w.heap.size + 1 + 1, 5, none⟩ = some (.int .i64 d.trap) ∧ w'.cell? ⟨w.heap.size + 1 + 1, 6, none⟩ = some (.int .i64 d.value.k) ∧ w'.cell? ⟨w.heap.size + 1 + 1, 7, none⟩ = some (.int .i64 d.value.n) ∧ w'.cell? ⟨w.heap.size + 1 + 1, 8, none⟩ = some (.string d.value.s) ∧ w'.cell? ⟨w.heap.size + 1 + 1, 9, none⟩ = some (.int .i64 d.steps) ∧ w'.cell? ⟨w1.heap.size, 5, none⟩ = some (.slice xa E.frames.length xc)) := fun w' q => ⟨block_cell (block_kept hM2 q) 0, block_cell (block_kept hM2 q) 1, block_cell (block_kept hV2 q) 0, block_cell (block_kept hV2 q) 1, block_cell (block_kept hV2 q) 2, block_cell (block_kept hV2 q) 3, block_cell (block_kept hV2 q) 4, block_cell (block_kept hV2 q) 5, block_cell (block_kept hV2 q) 6, block_cell (block_kept hV2 q) 7, block_cell (block_kept hV2 q) 8, block_cell (block_kept hV2 q) 9, block_cell (block_kept hX2 q) 5⟩
 have HB2 : Hid (Below w.heap.size w w2) := hB2
 have HVO : Hid (∀ w', Below w2.heap.size w2 w' → Calls Tryz.prog 80 #[.agg #[.slice a1 ts.length c1, .slice a2 fs.length c2], .agg #[.slice fa d.frames.length fc, .slice ha d.heap.length hcp, .int .i64 d.made, .slice ua d.out.length uc, .int .i64 d.status, .int .i64 d.trap, .int .i64 d.value.k, .int .i64 d.value.n, .string d.value.s, .int .i64 d.steps]] w' fun e w'' => Says (VmGood ts fs d) e ∧ Below w'.heap.size w' w'') := fun w' q => hvo w' (hm.mono (hB2.trans (q.mono hB2.size))) (hm2.mono (hB2.trans (q.mono hB2.size))) hv (hw.mono (hB2.trans (q.mono hB2.size)))
 have HE : Hid (EFsAt w2 0 xa E.frames ∨ E.frames.length = 0) := by
  rcases hE with ⟨-, -, k, hk, -, -, q, -⟩ | ⟨-, -, rfl⟩
  · exact .inl (((q.mono hb1).mono hb2))
  · exact .inr rfl
 have HXX : Hid ((b = true ∧ FastP ts fs D ∧ ∃ (k : Nat) (h : k < D.exits.length), x = k ∧ E = D.exits[k]) ∨ (b = false ∧ ¬ (FastP ts fs D ∧ Reg x D.exits.length) ∧ E = zeroX)) := by
  rcases hE with ⟨p, p2, k, hk, e1, e2, -, -⟩ | q
  · exact .inl ⟨p, p2, k, hk, e1, e2⟩
  · exact .inr q
 have hEl : E.frames.length ≤ 1048576 := by
  rcases hE with ⟨-, -, k, hk, -, rfl, -, -⟩ | ⟨-, -, rfl⟩
  · exact (hd.2.2 _ (List.getElem_mem hk)).1.1
  · exact Nat.zero_le _
 have hfl := hv.frames
 have hX1 := block_cell hX2
 have hV1 := block_cell hV2
 have V1' := block_cell (block_kept hV0 hb1)
 have V2' := block_cell (block_old (block_kept hV0 hb1) (.cells #[.int .i64 E.kind, .int .i64 E.spec.f, .int .i64 E.spec.pc, .int .i64 E.spec.seen, .int .i64 E.spec.target, .slice xa E.frames.length xc, .slice ya E.recs.length yc] 123))
 have hX1' := block_cell (block_new w1 #[.int .i64 E.kind, .int .i64 E.spec.f, .int .i64 E.spec.pc, .int .i64 E.spec.seen, .int .i64 E.spec.target, .slice xa E.frames.length xc, .slice ya E.recs.length yc] 123)
 unfold exCells
 clear hE hvo hb1 hb2 hB1 hB2 hM2 hV2 hX2 hM0 hV0 hb0
 by_cases hle : E.frames.length ≤ d.frames.length
 case neg =>
  have hsub : IntKind.i64.wrap ((d.frames.length : Int) - (E.frames.length : Int)) = (d.frames.length : Int) - (E.frames.length : Int) := by rw [IntKind.wrap_i64]; omega
  have hng : ¬ (0 : Int) ≤ (d.frames.length : Int) - (E.frames.length : Int) := by omega
  have HN : Hid (¬ HoldsP ts fs D x d) := by
   rintro ⟨p1, p2, p3, k, hk, e1, hl, -⟩
   rcases HXX.out with ⟨-, -, k', hk', e1', e2⟩ | ⟨-, hn, -⟩
   ·
    obtain rfl : k' = k := by omega
    exact hle (by rw [e2]; exact hl)
   · exact hn ⟨p1, by rw [e1]; exact ⟨by omega, by omega⟩⟩
  clear hle
  cases b
  ·
   go_upto_region 3 with fail
   rw [← hw2]
   clear hw2 hX1 hV1 V1' V2' hX1'
   refine wp_below (by kernel_rfl) (by kernel_rfl) ?_
   iterate 2
    refine q_want (v := ?_) (by kernel_rfl) ?_ ?_
    rotate_left
    ·
     intro w' hC
     obtain ⟨j0, j1, j2, j3, j4, j5, j6, j7, j8, j9, j10, j11, j12⟩ := HS.out w' hC
     go_simp
     try with_reducible rfl
    try simp only [Act.put, sAr, sZe, sSu]
   iterate 2 go_big_quiet_skip
   iterate 2
    refine q_want (v := ?_) (by kernel_rfl) ?_ ?_
    rotate_left
    ·
     intro w' hC
     obtain ⟨j0, j1, j2, j3, j4, j5, j6, j7, j8, j9, j10, j11, j12⟩ := HS.out w' hC
     go_simp
     try with_reducible rfl
    try simp only [Act.put, sAr, sZe, sSu]
   iterate 3 go_big_quiet_skip
   iterate 2
    refine q_want (v := ?_) (by kernel_rfl) ?_ ?_
    rotate_left
    ·
     intro w' hC
     obtain ⟨j0, j1, j2, j3, j4, j5, j6, j7, j8, j9, j10, j11, j12⟩ := HS.out w' hC
     go_simp
     try with_reducible rfl
    try simp only [Act.put, sAr, sZe, sSu]
   iterate 3 go_big_quiet_skip
   iterate 2
    refine q_want (v := ?_) (by kernel_rfl) ?_ ?_
    rotate_left
    ·
     intro w' hC
     obtain ⟨j0, j1, j2, j3, j4, j5, j6, j7, j8, j9, j10, j11, j12⟩ := HS.out w' hC
     go_simp
     try with_reducible rfl
    try simp only [Act.put, sAr, sZe, sSu]
   iterate 7 go_big_quiet_skip
   iterate 2
    refine q_want (v := ?_) (by kernel_rfl) ?_ ?_
    rotate_left
    ·
     intro w' hC
     obtain ⟨j0, j1, j2, j3, j4, j5, j6, j7, j8, j9, j10, j11, j12⟩ := HS.out w' hC
     go_simp
     try with_reducible rfl
    try simp only [Act.put, sAr, sZe, sSu]
   refine wpQuiet_nil ?_
   intro w2 q2
   go_wp2
   go_ret
   exact ⟨ret_bool (pB_no HN.out).symm, HB2.out.trans (q2.mono HB2.out.size)⟩
  ·
   go_upto_region 3 with fail
   rw [← hw2]
   clear hw2 hX1 hV1 V1' V2' hX1'
   refine wp_below (by kernel_rfl) (by kernel_rfl) ?_
   iterate 3
    refine q_want (v := ?_) (by kernel_rfl) ?_ ?_
    rotate_left
    ·
     intro w' hC
     obtain ⟨j0, j1, j2, j3, j4, j5, j6, j7, j8, j9, j10, j11, j12⟩ := HS.out w' hC
     go_simp
     try with_reducible rfl
    try simp only [Act.put, sAr, sZe, sSu]
   refine q_want (v := .bool false) (by kernel_rfl) ?_ ?_
   ·
    intro w' hC
    obtain ⟨j0, j1, j2, j3, j4, j5, j6, j7, j8, j9, j10, j11, j12⟩ := HS.out w' hC
    go_simp
    (try simp); (try omega)
   try simp only [Act.put, sAr, sZe, sSu]
   iterate 2
    refine q_want (v := ?_) (by kernel_rfl) ?_ ?_
    rotate_left
    ·
     intro w' hC
     obtain ⟨j0, j1, j2, j3, j4, j5, j6, j7, j8, j9, j10, j11, j12⟩ := HS.out w' hC
     go_simp
     try with_reducible rfl
    try simp only [Act.put, sAr, sZe, sSu]
   iterate 3 go_big_quiet_skip
   iterate 2
    refine q_want (v := ?_) (by kernel_rfl) ?_ ?_
    rotate_left
    ·
     intro w' hC
     obtain ⟨j0, j1, j2, j3, j4, j5, j6, j7, j8, j9, j10, j11, j12⟩ := HS.out w' hC
     go_simp
     try with_reducible rfl
    try simp only [Act.put, sAr, sZe, sSu]
   iterate 3 go_big_quiet_skip
   iterate 2
    refine q_want (v := ?_) (by kernel_rfl) ?_ ?_
    rotate_left
    ·
     intro w' hC
     obtain ⟨j0, j1, j2, j3, j4, j5, j6, j7, j8, j9, j10, j11, j12⟩ := HS.out w' hC
     go_simp
     try with_reducible rfl
    try simp only [Act.put, sAr, sZe, sSu]
   iterate 7 go_big_quiet_skip
   iterate 2
    refine q_want (v := ?_) (by kernel_rfl) ?_ ?_
    rotate_left
    ·
     intro w' hC
     obtain ⟨j0, j1, j2, j3, j4, j5, j6, j7, j8, j9, j10, j11, j12⟩ := HS.out w' hC
     go_simp
     try with_reducible rfl
    try simp only [Act.put, sAr, sZe, sSu]
   refine wpQuiet_nil ?_
   intro w2 q2
   go_wp2
   go_ret
   exact ⟨ret_bool (pB_no HN.out).symm, HB2.out.trans (q2.mono HB2.out.size)⟩
 obtain ⟨bl, hbl⟩ : ∃ bl : Nat, bl = d.frames.length - E.frames.length := ⟨_, rfl⟩
 have hsub : IntKind.i64.wrap ((d.frames.length : Int) - (E.frames.length : Int)) = (bl : Int) := by rw [IntKind.wrap_i64]; omega
 have HBL : Hid (bl = d.frames.length - E.frames.length) := hbl
 have HLE : Hid (E.frames.length ≤ d.frames.length) := hle
 have hbn : bl ≤ d.frames.length := by omega
 have hpos : (0 : Int) ≤ (bl : Int) := by omega
 clear hbl hle
 cases b
 case false =>
  have HN : Hid (¬ HoldsP ts fs D x d) := by
   rintro ⟨p1, p2, p3, k, hk, e1, hl, -⟩
   rcases HXX.out with ⟨q, -⟩ | ⟨-, hn, -⟩
   · cases q
   · exact hn ⟨p1, by rw [e1]; exact ⟨by omega, by omega⟩⟩
  go_upto_region 3 with fail
  rw [← hw2]
  clear hw2 hX1 hV1 V1' V2' hX1'
  refine wp_below (by kernel_rfl) (by kernel_rfl) ?_
  iterate 2
   refine q_want (v := ?_) (by kernel_rfl) ?_ ?_
   rotate_left
   ·
    intro w' hC
    obtain ⟨j0, j1, j2, j3, j4, j5, j6, j7, j8, j9, j10, j11, j12⟩ := HS.out w' hC
    go_simp
    try with_reducible rfl
   try simp only [Act.put, sAr, sZe, sSu]
  iterate 2 go_big_quiet_skip
  iterate 2
   refine q_want (v := ?_) (by kernel_rfl) ?_ ?_
   rotate_left
   ·
    intro w' hC
    obtain ⟨j0, j1, j2, j3, j4, j5, j6, j7, j8, j9, j10, j11, j12⟩ := HS.out w' hC
    go_simp
    try with_reducible rfl
   try simp only [Act.put, sAr, sZe, sSu]
  iterate 3 go_big_quiet_skip
  iterate 2
   refine q_want (v := ?_) (by kernel_rfl) ?_ ?_
   rotate_left
   ·
    intro w' hC
    obtain ⟨j0, j1, j2, j3, j4, j5, j6, j7, j8, j9, j10, j11, j12⟩ := HS.out w' hC
    go_simp
    try with_reducible rfl
   try simp only [Act.put, sAr, sZe, sSu]
  iterate 3 go_big_quiet_skip
  iterate 2
   refine q_want (v := ?_) (by kernel_rfl) ?_ ?_
   rotate_left
   ·
    intro w' hC
    obtain ⟨j0, j1, j2, j3, j4, j5, j6, j7, j8, j9, j10, j11, j12⟩ := HS.out w' hC
    go_simp
    try with_reducible rfl
   try simp only [Act.put, sAr, sZe, sSu]
  iterate 7 go_big_quiet_skip
  iterate 2
   refine q_want (v := ?_) (by kernel_rfl) ?_ ?_
   rotate_left
   ·
    intro w' hC
    obtain ⟨j0, j1, j2, j3, j4, j5, j6, j7, j8, j9, j10, j11, j12⟩ := HS.out w' hC
    go_simp
    try with_reducible rfl
   try simp only [Act.put, sAr, sZe, sSu]
  refine wpQuiet_nil ?_
  intro w2 q2
  go_wp2
  go_ret
  exact ⟨ret_bool (pB_no HN.out).symm, HB2.out.trans (q2.mono HB2.out.size)⟩
 have hGD : ∃ (k : Nat) (h : k < D.exits.length), x = k ∧ E = D.exits[k] ∧ FastP ts fs D := by
  rcases HXX.out with ⟨-, p, k, hk, e1, e2⟩ | ⟨q, -⟩
  · exact ⟨k, hk, e1, e2, p⟩
  · cases q
 obtain ⟨k, hk, hxk, hEk, hFP⟩ := hGD
 have HK : Hid (HoldsP ts fs D x d ↔ (Room d ∧ Frames fs d ∧ Vals fs.length d) ∧ d.status = 0 ∧ SameAt E.frames (d.frames.drop bl)) := by
  show _ ↔ _
  rw [HBL.out, hEk]
  constructor
  ·
   rintro ⟨p1, p2, p3, k', hk', e1, hl, hsame⟩
   obtain rfl : k' = k := by omega
   exact ⟨p2, p3, hsame⟩
  ·
   rintro ⟨p2, p3, hsame⟩
   exact ⟨hFP, p2, p3, k, hk, hxk, by have := HLE.out; rwa [hEk] at this, hsame⟩
 have HGOOD : Hid (Good ts fs) := hFP.1
 have HE1 : Hid (1 ≤ E.frames.length) := by
  show _ ≤ _
  rw [hEk]
  exact (hFP.2.2.2.2 k hk).2.2.1.1
 clear hEk hFP hxk
 by_cases hG : VmGood ts fs d
 case neg =>
  have HC : Hid (∀ w', Below w2.heap.size w2 w' → Calls Tryz.prog 80 #[.agg #[.slice a1 ts.length c1, .slice a2 fs.length c2], .agg #[.slice fa d.frames.length fc, .slice ha d.heap.length hcp, .int .i64 d.made, .slice ua d.out.length uc, .int .i64 d.status, .int .i64 d.trap, .int .i64 d.value.k, .int .i64 d.value.n, .string d.value.s, .int .i64 d.steps]] w' fun e w'' => e = .returned (.bool false) ∧ Below w'.heap.size w' w'') := fun w' q => (HVO.out w' q).mono fun _ _ q => ⟨by rw [q.1.eq, pB_no hG], q.2⟩
  have HN : Hid (¬ HoldsP ts fs D x d) := fun q => hG ⟨HGOOD.out, (HK.out.1 q).1⟩
  clear hG
  go_upto_region 3 with fail
  rw [← hw2]
  clear hw2 hX1 hV1 V1' V2' hX1'
  refine wp_below (by kernel_rfl) (by kernel_rfl) ?_
  iterate 3
   refine q_want (v := ?_) (by kernel_rfl) ?_ ?_
   rotate_left
   ·
    intro w' hC
    obtain ⟨j0, j1, j2, j3, j4, j5, j6, j7, j8, j9, j10, j11, j12⟩ := HS.out w' hC
    go_simp
    try with_reducible rfl
   try simp only [Act.put, sAr, sZe, sSu]
  refine q_want (v := .bool true) (by kernel_rfl) ?_ ?_
  ·
   intro w' hC
   obtain ⟨j0, j1, j2, j3, j4, j5, j6, j7, j8, j9, j10, j11, j12⟩ := HS.out w' hC
   go_simp
   try simp
  try simp only [Act.put, sAr, sZe, sSu]
  iterate 4
   refine q_want (v := ?_) (by kernel_rfl) ?_ ?_
   rotate_left
   ·
    intro w' hC
    obtain ⟨j0, j1, j2, j3, j4, j5, j6, j7, j8, j9, j10, j11, j12⟩ := HS.out w' hC
    go_simp
    try with_reducible rfl
   try simp only [Act.put, sAr, sZe, sSu]
  refine q_want (v := .bool false) (by kernel_rfl) ?_ ?_
  ·
   intro w' hC
   go_simp
   refine (HC.out _ hC).mono ?_
   rintro e w'' ⟨rfl, hb2⟩
   exact ⟨rfl, hC.trans (hb2.mono hC.size)⟩
  try simp only [Act.put, sAr, sZe, sSu]
  iterate 2
   refine q_want (v := ?_) (by kernel_rfl) ?_ ?_
   rotate_left
   ·
    intro w' hC
    obtain ⟨j0, j1, j2, j3, j4, j5, j6, j7, j8, j9, j10, j11, j12⟩ := HS.out w' hC
    go_simp
    try with_reducible rfl
   try simp only [Act.put, sAr, sZe, sSu]
  iterate 3 go_big_quiet_skip
  iterate 2
   refine q_want (v := ?_) (by kernel_rfl) ?_ ?_
   rotate_left
   ·
    intro w' hC
    obtain ⟨j0, j1, j2, j3, j4, j5, j6, j7, j8, j9, j10, j11, j12⟩ := HS.out w' hC
    go_simp
    try with_reducible rfl
   try simp only [Act.put, sAr, sZe, sSu]
  iterate 7 go_big_quiet_skip
  iterate 2
   refine q_want (v := ?_) (by kernel_rfl) ?_ ?_
   rotate_left
   ·
    intro w' hC
    obtain ⟨j0, j1, j2, j3, j4, j5, j6, j7, j8, j9, j10, j11, j12⟩ := HS.out w' hC
    go_simp
    try with_reducible rfl
   try simp only [Act.put, sAr, sZe, sSu]
  refine wpQuiet_nil ?_
  intro w2 q2
  go_wp2
  go_ret
  exact ⟨ret_bool (pB_no HN.out).symm, HB2.out.trans (q2.mono HB2.out.size)⟩
 have HC : Hid (∀ w', Below w2.heap.size w2 w' → Calls Tryz.prog 80 #[.agg #[.slice a1 ts.length c1, .slice a2 fs.length c2], .agg #[.slice fa d.frames.length fc, .slice ha d.heap.length hcp, .int .i64 d.made, .slice ua d.out.length uc, .int .i64 d.status, .int .i64 d.trap, .int .i64 d.value.k, .int .i64 d.value.n, .string d.value.s, .int .i64 d.steps]] w' fun e w'' => e = .returned (.bool true) ∧ Below w'.heap.size w' w'') := fun w' q => (HVO.out w' q).mono fun _ _ q => ⟨by rw [q.1.eq, pB_yes hG], q.2⟩
 have HG : Hid (VmGood ts fs d) := hG
 clear hG
 by_cases hst : d.status = 0
 case neg =>
  have hs0 : (d.status == 0) = false := by simpa using hst
  have HN : Hid (¬ HoldsP ts fs D x d) := fun q => hst (HK.out.1 q).2.1
  clear hst
  go_upto_region 3 with fail
  rw [← hw2]
  clear hw2 hX1 hV1 V1' V2' hX1'
  refine wp_below (by kernel_rfl) (by kernel_rfl) ?_
  iterate 3
   refine q_want (v := ?_) (by kernel_rfl) ?_ ?_
   rotate_left
   ·
    intro w' hC
    obtain ⟨j0, j1, j2, j3, j4, j5, j6, j7, j8, j9, j10, j11, j12⟩ := HS.out w' hC
    go_simp
    try with_reducible rfl
   try simp only [Act.put, sAr, sZe, sSu]
  refine q_want (v := .bool true) (by kernel_rfl) ?_ ?_
  ·
   intro w' hC
   obtain ⟨j0, j1, j2, j3, j4, j5, j6, j7, j8, j9, j10, j11, j12⟩ := HS.out w' hC
   go_simp
   try simp
  try simp only [Act.put, sAr, sZe, sSu]
  iterate 4
   refine q_want (v := ?_) (by kernel_rfl) ?_ ?_
   rotate_left
   ·
    intro w' hC
    obtain ⟨j0, j1, j2, j3, j4, j5, j6, j7, j8, j9, j10, j11, j12⟩ := HS.out w' hC
    go_simp
    try with_reducible rfl
   try simp only [Act.put, sAr, sZe, sSu]
  refine q_want (v := .bool true) (by kernel_rfl) ?_ ?_
  ·
   intro w' hC
   go_simp
   refine (HC.out _ hC).mono ?_
   rintro e w'' ⟨rfl, hb2⟩
   exact ⟨rfl, hC.trans (hb2.mono hC.size)⟩
  try simp only [Act.put, sAr, sZe, sSu]
  iterate 7
   refine q_want (v := ?_) (by kernel_rfl) ?_ ?_
   rotate_left
   ·
    intro w' hC
    obtain ⟨j0, j1, j2, j3, j4, j5, j6, j7, j8, j9, j10, j11, j12⟩ := HS.out w' hC
    go_simp
    try with_reducible rfl
   try simp only [Act.put, sAr, sZe, sSu]
  iterate 7 go_big_quiet_skip
  iterate 2
   refine q_want (v := ?_) (by kernel_rfl) ?_ ?_
   rotate_left
   ·
    intro w' hC
    obtain ⟨j0, j1, j2, j3, j4, j5, j6, j7, j8, j9, j10, j11, j12⟩ := HS.out w' hC
    go_simp
    try with_reducible rfl
   try simp only [Act.put, sAr, sZe, sSu]
  refine wpQuiet_nil ?_
  intro w2 q2
  go_wp2
  go_ret
  exact ⟨ret_bool (pB_no HN.out).symm, HB2.out.trans (q2.mono HB2.out.size)⟩
 have HST : Hid (d.status = 0) := hst
 have hs0 : (d.status == 0) = true := by simpa using hst
 clear hst
 have hE1 := HE1.out
 have hfe : EFsAt w2 0 xa E.frames := HE.out.elim id (fun q => by omega)
 have h0 : 0 < d.frames.length := by have := HLE.out; omega
 obtain ⟨bb, off, -, -, -, -, hfa, -⟩ := hw.frs 0 h0
 subst hfa
 have HEQ : Hid (∀ w', Below w2.heap.size w2 w' → Calls Tryz.prog 81 #[.slice xa E.frames.length xc, .slice (some ⟨bb, off + bl * 4, none⟩) (d.frames.length - bl) (fc - bl), .func (.func 82) #[] #[]] w' fun e w'' => e = .returned (.bool (pB (SameAt E.frames (d.frames.drop bl)))) ∧ Below w'.heap.size w' w'') := fun w' q => by
  have := equalF_any xa (some ⟨bb, off + bl * 4, none⟩) E.frames (d.frames.drop bl) xc (fc - bl) w' hEl (hfe.mono q) ((hw.frs.mono (HB2.out.trans (q.mono HB2.out.size))).drop)
  rwa [List.length_drop] at this
 have hblt : bl < fc := by have := HBL.out; have := HLE.out; omega
 clear hfe
 go_upto_region 3 with fail
 rw [← hw2]
 clear hw2 hX1 hV1 V1' V2' hX1'
 refine wp_below (by kernel_rfl) (by kernel_rfl) ?_
 iterate 3
  refine q_want (v := ?_) (by kernel_rfl) ?_ ?_
  rotate_left
  ·
   intro w' hC
   obtain ⟨j0, j1, j2, j3, j4, j5, j6, j7, j8, j9, j10, j11, j12⟩ := HS.out w' hC
   go_simp
   try with_reducible rfl
  try simp only [Act.put, sAr, sZe, sSu]
 refine q_want (v := .bool true) (by kernel_rfl) ?_ ?_
 ·
  intro w' hC
  obtain ⟨j0, j1, j2, j3, j4, j5, j6, j7, j8, j9, j10, j11, j12⟩ := HS.out w' hC
  go_simp
  try simp
 try simp only [Act.put, sAr, sZe, sSu]
 iterate 4
  refine q_want (v := ?_) (by kernel_rfl) ?_ ?_
  rotate_left
  ·
   intro w' hC
   obtain ⟨j0, j1, j2, j3, j4, j5, j6, j7, j8, j9, j10, j11, j12⟩ := HS.out w' hC
   go_simp
   try with_reducible rfl
  try simp only [Act.put, sAr, sZe, sSu]
 refine q_want (v := .bool true) (by kernel_rfl) ?_ ?_
 ·
  intro w' hC
  go_simp
  refine (HC.out _ hC).mono ?_
  rintro e w'' ⟨rfl, hb2⟩
  exact ⟨rfl, hC.trans (hb2.mono hC.size)⟩
 try simp only [Act.put, sAr, sZe, sSu]
 iterate 12
  refine q_want (v := ?_) (by kernel_rfl) ?_ ?_
  rotate_left
  ·
   intro w' hC
   obtain ⟨j0, j1, j2, j3, j4, j5, j6, j7, j8, j9, j10, j11, j12⟩ := HS.out w' hC
   go_simp
   try with_reducible rfl
  try simp only [Act.put, sAr, sZe, sSu]
 refine q_want (v := .slice (some ⟨bb, off + bl * 4, none⟩) (d.frames.length - bl) (fc - bl)) (by kernel_rfl) ?_ ?_
 ·
  intro w' hC
  obtain ⟨j0, j1, j2, j3, j4, j5, j6, j7, j8, j9, j10, j11, j12⟩ := HS.out w' hC
  go_simp
  (try simp); (try omega)
 try simp only [Act.put, sAr, sZe, sSu]
 refine q_want (v := .bool (pB (SameAt E.frames (d.frames.drop bl)))) (by kernel_rfl) ?_ ?_
 ·
  intro w' hC
  go_simp
  refine (HEQ.out _ hC).mono ?_
  rintro e w'' ⟨rfl, hb2⟩
  exact ⟨rfl, hC.trans (hb2.mono hC.size)⟩
 try simp only [Act.put, sAr, sZe, sSu]
 iterate 2
  refine q_want (v := ?_) (by kernel_rfl) ?_ ?_
  rotate_left
  ·
   intro w' hC
   obtain ⟨j0, j1, j2, j3, j4, j5, j6, j7, j8, j9, j10, j11, j12⟩ := HS.out w' hC
   go_simp
   try with_reducible rfl
  try simp only [Act.put, sAr, sZe, sSu]
 refine wpQuiet_nil ?_
 intro w2 q2
 go_wp2
 go_ret
 exact ⟨ret_pB (by rw [pB_iff']; exact ⟨fun q => HK.out.2 ⟨HG.out.2, HST.out, q⟩, fun q => (HK.out.1 q).2.2⟩), HB2.out.trans (q2.mono HB2.out.size)⟩
end Go.Proofs.YtoimokjohmhnaaaGreatDoor
