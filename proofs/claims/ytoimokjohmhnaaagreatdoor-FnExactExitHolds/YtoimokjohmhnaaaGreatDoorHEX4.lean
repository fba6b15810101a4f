/-
What spec.ExitHolds returns.
-/
import Derived.Test.YtoimokjohmhnaaaGreatDoorHEX3
import Derived.Test.YtoimokjohmhnaaaGreatDoorHS1
import Derived.Test.YtoimokjohmhnaaaGreatDoorHJ
set_option maxRecDepth 100000
namespace Go.Proofs.YtoimokjohmhnaaaGreatDoor
open Go.RowKit
set_option maxHeartbeats 8000000 in
theorem sHolds_any (SF : SFast) (a1 a2 oa ea : Option Addr) (c1 c2 oc ec : Nat) (ts : List ByteArray) (fs : List Fn) (D : FastD) (x : Int) (fa ha ua : Option Addr) (fc hcp uc : Nat) (d : VmD) (w : World) (hs : Small ts fs) (hd : FastSmall D) (hv : VmSmall d) (hm : StrsAt w 0 a1 ts) (hm2 : FnsAt w 0 a2 fs) (hf : FastAt w 0 oa ea D) (hw : VmAt w 0 fa ha ua d) :
  Calls Tryz.prog 34 #[.agg #[.slice a1 ts.length c1, .slice a2 fs.length c2], .agg (fastCells oa ea oc ec D), .int .i64 x, .agg (vmCells fa ha ua fc hcp uc d)] w fun e w' => e = .returned (.bool (pB (HoldsP ts fs D x d))) ∧ Below w.heap.size w w' := by
 obtain ⟨w0, hw0⟩ : ∃ w0, w0 = ((w.alloc (.cells #[.slice a1 ts.length c1, .slice a2 fs.length c2] 35)).alloc (.cells #[.int .i64 D.fn, .int .i64 D.entry, .int .i64 D.vals, .int .i64 D.nums, .slice oa D.ops.length oc, .slice ea D.exits.length ec] 40)).alloc (.cells #[.slice fa d.frames.length fc, .slice ha d.heap.length hcp, .int .i64 d.made, .slice ua d.out.length uc, .int .i64 d.status, .int .i64 d.trap, .int .i64 d.value.k, .int .i64 d.value.n, .string d.value.s, .int .i64 d.steps] 78) := ⟨_, rfl⟩
 have hb0 : Below w.heap.size w w0 := by rw [hw0]; exact (((Below.refl _ _).alloc (Nat.le_refl _) _).alloc (by simp) _).alloc (by simp; omega) _
 have hM0 : w0.heap[w.heap.size]? = some (.cells #[.slice a1 ts.length c1, .slice a2 fs.length c2] 35 (0, 0)) := by rw [hw0]; exact block_old (block_old (block_new _ _ _) _) _
 have hF0 : w0.heap[w.heap.size + 1]? = some (.cells #[.int .i64 D.fn, .int .i64 D.entry, .int .i64 D.vals, .int .i64 D.nums, .slice oa D.ops.length oc, .slice ea D.exits.length ec] 40 (0, 0)) := by rw [hw0]; exact block_old (block_new_at _ _ _ _ (by simp)) _
 have hV0 : w0.heap[w.heap.size + 1 + 1]? = some (.cells #[.slice fa d.frames.length fc, .slice ha d.heap.length hcp, .int .i64 d.made, .slice ua d.out.length uc, .int .i64 d.status, .int .i64 d.trap, .int .i64 d.value.k, .int .i64 d.value.n, .string d.value.s, .int .i64 d.steps] 78 (0, 0)) := by rw [hw0]; exact block_new_at _ _ _ _ (by simp)
 have hfo := SF a1 a2 oa ea c1 c2 oc ec ts fs D w0 hs hd (hm.mono hb0) (hm2.mono hb0) (hf.mono hb0)
 unfold fastCells at hfo ⊢
 have hvo := fun (w' : World) (hG : Good ts fs) => sVm_any a1 a2 ts.length c1 c2 fs fa ha ua fc hcp uc d w' hs.funcs hv
 unfold vmCells at hvo ⊢
 have hwx : IntKind.i64.wrap ((D.exits.length : Int) - 1) = (D.exits.length : Int) - 1 := by have := hd.2.1; rw [IntKind.wrap_i64]; omega
 go_enter Tryz.func34, Tryz.ntmps34
 go_wp2_with fail
 rw [← hw0]
 refine hfo.mono ?_
 clear hfo hw0
 rintro e w1 ⟨rfl, hb1⟩
 have hB1 := hb0.trans (hb1.mono hb0.size)
 have hM1 := block_kept hM0 hb1
 have hF1 := block_kept hF0 hb1
 have hV1 := block_kept hV0 hb1
 clear hM0 hF0 hV0 hb0 hb1
 by_cases hP : FastP ts fs D
 case neg =>
  rw [pB_no hP]
  have HN : Hid (¬ HoldsP ts fs D x d) := fun q => hP q.1
  clear hP hvo
  go_wp2
  go_ret
  exact ⟨ret_bool (pB_no HN.out).symm, hB1⟩
 rw [pB_yes hP]
 have HP : Hid (FastP ts fs D) := hP
 have fx := block_cell hF1
 clear hP
 go_wp2_with fail
 refine (btw_any _ _ _ _).mono ?_
 rintro e w2 ⟨rfl, hw2⟩
 rw [hw2, btw_reg]
 clear hw2 w2 fx
 by_cases hr : Reg x D.exits.length
 case neg =>
  rw [pB_no hr]
  have HN : Hid (¬ HoldsP ts fs D x d) := by
   rintro ⟨-, -, -, k, hk, e1, -⟩
   exact hr ⟨by omega, by omega⟩
  clear hr hvo
  go_wp2
  go_ret
  exact ⟨ret_bool (pB_no HN.out).symm, hB1⟩
 rw [pB_yes hr]
 obtain ⟨k, hxk⟩ : ∃ k : Nat, x = k := ⟨x.toNat, by have := hr.1; omega⟩
 subst hxk
 have hk : k < D.exits.length := by have := hr.2; omega
 have zk : (k : Int) < (D.exits.length : Int) := by omega
 clear hr
 have mx := block_cell hM1
 have vx := block_cell hV1
 go_wp2_with fail
 refine (hvo w1 HP.out.1 (hw.mono hB1) (hm2.mono hB1) (fun k hk => fine_of (good_mod HP.out.1) hk)).mono ?_
 rintro e w2 ⟨hsay, hb2⟩
 have hB2 := hB1.trans (hb2.mono hB1.size)
 have hF2 := block_kept hF1 hb2
 have hV2 := block_kept hV1 hb2
 obtain rfl := hsay.eq
 clear hsay hb2 hvo mx vx hB1 hM1 hF1 hV1
 by_cases hG : Room d ∧ Frames fs d ∧ Vals fs.length d
 case neg =>
  rw [pB_no hG]
  have HN : Hid (¬ HoldsP ts fs D (k : Int) d) := fun q => hG q.2.1
  clear hG
  go_wp2
  go_ret
  exact ⟨ret_bool (pB_no HN.out).symm, hB2⟩
 rw [pB_yes hG]
 have HG : Hid (Room d ∧ Frames fs d ∧ Vals fs.length d) := hG
 clear hG
 have vx := block_cell hV2
 by_cases hst : d.status = 0
 case neg =>
  have g0 : (d.status != 0) = true := by simpa using hst
  have HN : Hid (¬ HoldsP ts fs D (k : Int) d) := fun q => hst q.2.2.1
  clear hst
  go_wp2
  go_ret
  exact ⟨ret_bool (pB_no HN.out).symm, hB2⟩
 have g0 : (d.status != 0) = false := by simpa using hst
 have HST : Hid (d.status = 0) := hst
 clear hst
 obtain ⟨be, oe, xa, xc, ya, yc, hea, -, -, -, -, -, -, e5, -, p0, -⟩ := hf.exits k hk
 subst hea
 have E5 := cell_later hB2 e5
 have fx := block_cell hF2
 have hEl := (hd.2.2 _ (List.getElem_mem hk)).1.1
 have hfl := hv.frames
 have HK : Hid (HoldsP ts fs D (k : Int) d ↔ D.exits[k].frames.length ≤ d.frames.length ∧ SameAt D.exits[k].frames (d.frames.drop (d.frames.length - D.exits[k].frames.length))) := by
  show _ ↔ _
  constructor
  ·
   rintro ⟨-, -, -, k', hk', e1, hl, hsame⟩
   obtain rfl : k' = k := by omega
   exact ⟨hl, hsame⟩
  ·
   rintro ⟨hl, hsame⟩
   exact ⟨HP.out, HG.out, HST.out, k, hk, rfl, hl, hsame⟩
 clear e5
 by_cases hle : D.exits[k].frames.length ≤ d.frames.length
 case neg =>
  have hsub : IntKind.i64.wrap ((d.frames.length : Int) - (D.exits[k].frames.length : Int)) = (d.frames.length : Int) - (D.exits[k].frames.length : Int) := by rw [IntKind.wrap_i64]; omega
  have hng : (d.frames.length : Int) - (D.exits[k].frames.length : Int) < 0 := by omega
  have HN : Hid (¬ HoldsP ts fs D (k : Int) d) := fun q => hle (HK.out.1 q).1
  clear hle
  go_wp2
  go_ret
  exact ⟨ret_bool (pB_no HN.out).symm, hB2⟩
 obtain ⟨bl, hbl⟩ : ∃ bl : Nat, bl = d.frames.length - D.exits[k].frames.length := ⟨_, rfl⟩
 have hsub : IntKind.i64.wrap ((d.frames.length : Int) - (D.exits[k].frames.length : Int)) = (bl : Int) := by rw [IntKind.wrap_i64]; omega
 rw [← hbl] at HK
 have HBL : Hid (bl + D.exits[k].frames.length = d.frames.length) := by show _ = _; omega
 have HLE : Hid (D.exits[k].frames.length ≤ d.frames.length) := hle
 have h1x : 1 ≤ D.exits[k].frames.length := (HP.out.2.2.2.2 k hk).2.2.1.1
 have h0 : 0 < d.frames.length := by omega
 obtain ⟨bb, off, -, -, -, -, hfa, -⟩ := hw.frs 0 h0
 subst hfa
 obtain ⟨xb, xo, -, -, -, -, hxa, -⟩ := p0 0 (by omega)
 subst hxa
 have hnn : ¬ ((bl : Int) < 0) := by omega
 clear hbl hle h0 h1x
 go_wp2
 clear fx vx E5
 go_loopw [11] (fun i wr => ∃ (j : Nat), j ≤ D.exits[k].frames.length ∧ i = .int .i64 j ∧ Hid (SameTo D.exits[k].frames (d.frames.drop bl) j) ∧ Below w2.heap.size w2 wr) (fun i _ => D.exits[k].frames.length - (intOf i).toNat)
 case atStart => exact ⟨0, by omega, rfl, fun _ _ _ h => absurd h (Nat.not_lt_zero _), Below.refl _ _⟩
 case round =>
  obtain ⟨j, hj, rfl, hall, hb⟩ := hrel
  by_cases hlt : j < D.exits[k].frames.length
  case neg =>
   obtain rfl : j = D.exits[k].frames.length := by omega
   have z2 : ¬ (D.exits[k].frames.length : Int) < (D.exits[k].frames.length : Int) := by omega
   have HF : Hid (HoldsP ts fs D (k : Int) d) := HK.out.2 ⟨HLE.out, by simp only [List.length_drop]; have := HBL.out; omega, fun i a b => hall.out i a b a⟩
   go_wp2
   go_ret
   exact ⟨ret_bool (pB_yes HF.out).symm, hB2.trans (hb.mono hB2.size)⟩
  obtain ⟨p, hp⟩ : ∃ p : Nat, p = bl + j := ⟨_, rfl⟩
  have hlj : p < d.frames.length := by have := HBL.out; omega
  have hl2 : j < (d.frames.drop bl).length := by simp; omega
  have hdj : (d.frames.drop bl)[j] = d.frames[p] := by simp [hp]
  obtain ⟨b3, o3, _, _, _, _, he3, -, q1, q2, -, -, -, -⟩ := (hw.frs.mono hB2).mono hb p hlj
  cases he3
  obtain ⟨b4, o4, _, _, _, _, he4, -, r1, r2, -, -, -, -⟩ := (p0.mono hB2).mono hb j hlt
  cases he4
  have hVw := block_kept hV2 hb
  have HS : Hid (∀ w', Below wr.heap.size wr w' → w'.cell? ⟨w.heap.size + 1 + 1, 0, none⟩ = some (.slice (some ⟨bb, off, none⟩) d.frames.length fc) ∧ w'.cell? ⟨bb, off + p * 4, none⟩ = some (.int .i64 (d.frames[p]'hlj).fn) ∧ w'.cell? ⟨bb, off + p * 4 + 1, none⟩ = some (.int .i64 (d.frames[p]'hlj).pc) ∧ w'.cell? ⟨xb, xo + j * 4, none⟩ = some (.int .i64 D.exits[k].frames[j].fn) ∧ w'.cell? ⟨xb, xo + j * 4 + 1, none⟩ = some (.int .i64 D.exits[k].frames[j].pc)) := fun w' q => ⟨block_cell (block_kept hVw q) 0, cell_later q q1, cell_later q q2, cell_later q r1, cell_later q r2⟩
  have hadd : IntKind.i64.wrap ((bl : Int) + (j : Int)) = (p : Int) := by rw [IntKind.wrap_i64]; omega
  have zj : (j : Int) < (D.exits[k].frames.length : Int) := by omega
  have zj0 : (0 : Int) ≤ (j : Int) := by omega
  have zb : (p : Int) < (d.frames.length : Int) := by omega
  have zb0 : (0 : Int) ≤ (p : Int) := by omega
  obtain ⟨wo, rfl⟩ : ∃ wo, wo = wr := ⟨_, rfl⟩
  have HST2 : Hid (Stands D.exits[k].frames[j] (d.frames.drop bl)[j] ↔ D.exits[k].frames[j].fn = d.frames[p].fn ∧ D.exits[k].frames[j].pc = d.frames[p].pc) := by rw [hdj]; exact Iff.rfl
  clear q1 q2 r1 r2 hVw hdj hp
  by_cases h1 : d.frames[p].fn = D.exits[k].frames[j].fn
  case neg =>
   have g1 : (d.frames[p].fn != D.exits[k].frames[j].fn) = true := by simpa using h1
   have HN : Hid (¬ HoldsP ts fs D (k : Int) d) := fun q => h1 (HST2.out.1 ((HK.out.1 q).2.2 j hlt hl2)).1.symm
   clear h1
   go_upto_region 10 with fail
   refine wp_below (by kernel_rfl) (by kernel_rfl) ?_
   iterate 15
    refine q_want (v := ?_) (by kernel_rfl) ?_ ?_
    rotate_left
    ·
     intro w' hC
     obtain ⟨j0, j1, j2, j3, j4⟩ := HS.out w' hC
     go_simp
     try with_reducible rfl
    try simp only [Act.put, sAr, sZe, sSu]
   iterate 14 go_big_quiet_skip
   refine q_want (v := ?_) (by kernel_rfl) ?_ ?_
   rotate_left
   ·
    intro w' hC
    obtain ⟨j0, j1, j2, j3, j4⟩ := HS.out w' hC
    go_simp
    try with_reducible rfl
   try simp only [Act.put, sAr, sZe, sSu]
   refine wpQuiet_nil ?_
   intro w3 QQ
   go_wp2
   go_ret
   exact ⟨ret_bool (pB_no HN.out).symm, hB2.trans ((hb.trans (QQ.mono hb.size)).mono hB2.size)⟩
  have g1 : (d.frames[p].fn != D.exits[k].frames[j].fn) = false := by simpa using h1
  have H1 : Hid (d.frames[p].fn = D.exits[k].frames[j].fn) := h1
  clear h1
  by_cases h2 : d.frames[p].pc = D.exits[k].frames[j].pc
  case neg =>
   have g2 : (d.frames[p].pc != D.exits[k].frames[j].pc) = true := by simpa using h2
   have HN : Hid (¬ HoldsP ts fs D (k : Int) d) := fun q => h2 (HST2.out.1 ((HK.out.1 q).2.2 j hlt hl2)).2.symm
   clear h2
   go_upto_region 10 with fail
   refine wp_below (by kernel_rfl) (by kernel_rfl) ?_
   iterate 30
    refine q_want (v := ?_) (by kernel_rfl) ?_ ?_
    rotate_left
    ·
     intro w' hC
     obtain ⟨j0, j1, j2, j3, j4⟩ := HS.out w' hC
     go_simp
     try with_reducible rfl
    try simp only [Act.put, sAr, sZe, sSu]
   refine wpQuiet_nil ?_
   intro w3 QQ
   go_wp2
   go_ret
   exact ⟨ret_bool (pB_no HN.out).symm, hB2.trans ((hb.trans (QQ.mono hb.size)).mono hB2.size)⟩
  have g2 : (d.frames[p].pc != D.exits[k].frames[j].pc) = false := by simpa using h2
  have H2 : Hid (d.frames[p].pc = D.exits[k].frames[j].pc) := h2
  clear h2
  go_upto_region 10 with fail
  refine wp_below (by kernel_rfl) (by kernel_rfl) ?_
  iterate 30
   refine q_want (v := ?_) (by kernel_rfl) ?_ ?_
   rotate_left
   ·
    intro w' hC
    obtain ⟨j0, j1, j2, j3, j4⟩ := HS.out w' hC
    go_simp
    try with_reducible rfl
   try simp only [Act.put, sAr, sZe, sSu]
  refine wpQuiet_nil ?_
  intro w3 QQ
  go_wp2
  go_roundw
  case rel => exact ⟨j + 1, by omega, by go_num, (SameTo.more hlt hl2).2 ⟨hall.out, HST2.out.2 ⟨H1.out.symm, H2.out.symm⟩⟩, hb.trans (QQ.mono hb.size)⟩
  case measure => simp [intOf]; omega
end Go.Proofs.YtoimokjohmhnaaaGreatDoor
