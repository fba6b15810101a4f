/-
  What spec.l05FrameOk returns.
-/
import Derived.Test.YtmmcockkbhnopaaGreatOV31
import Derived.Test.YtmmcockkbhnopaaGreatOV14
import Derived.Deep.QuietTactic
import Derived.BigQuiet
namespace Go.Proofs.YtmmcockkbhnopaaGreat
open Go.RowKit

def FrOk (fs : List Fn) (x : Fr) (r : Int) (last : Bool) : Prop := Fits fs x.fn x.pc x.locals.length x.stack.length last ∧ valsB x.locals fs.length r = true ∧ valsB x.stack fs.length r = true

set_option maxRecDepth 100000 in
set_option maxHeartbeats 4000000 in
theorem frameOk_any (a1 a2 la sa : Option Addr) (nt c1 c2 lc sc : Nat) (fs : List Fn) (x : Fr) (r : Int) (last : Bool) (w : World) (hn : fs.length ≤ 1048576) (hm : FnsAt w 0 a2 fs) (FF : ∀ k (hk : k < fs.length), Fine fs fs[k].code)
    (hsl : ValsSmall x.locals) (hss : ValsSmall x.stack) (hvl : ValsAt w 0 la x.locals) (hvs : ValsAt w 0 sa x.stack) :
    Calls Tryz.prog 61 #[.agg #[.slice a1 nt c1, .slice a2 fs.length c2], .agg #[.int .i64 x.fn, .int .i64 x.pc, .slice la x.locals.length lc, .slice sa x.stack.length sc], .int .i64 r, .bool last] w fun e w' => Says (FrOk fs x r last) e ∧ Below w.heap.size w w' := by
  have hbA : Below w.heap.size w ((w.alloc (.cells #[.slice a1 nt c1, .slice a2 fs.length c2] 40)).alloc (.cells #[.int .i64 x.fn, .int .i64 x.pc, .slice la x.locals.length lc, .slice sa x.stack.length sc] 110)) := ((Below.refl _ _).alloc (Nat.le_refl _) _).alloc (by simp) _
  have hll := hsl.1
  have hsl1 := hss.1
  by_cases hf : 0 ≤ x.fn ∧ x.fn < (fs.length : Int)
  case neg =>
    have hf' : (decide (0 ≤ x.fn) && decide (x.fn ≤ (fs.length : Int) - 1)) = false := by rw [Bool.eq_false_iff]; simp; omega
    go_enter Tryz.func61, Tryz.ntmps61
    go_wp2_with (go_at_call 57; refine (between_any _ _ _ _).mono ?_; rintro e w' ⟨rfl, hw⟩; rw [hw, hf']; clear hw w')
    go_ret
    exact ⟨Says.no rfl (fun h => absurd h.1 (fits_fn (by omega))), hbA⟩
  have hf' : (decide (0 ≤ x.fn) && decide (x.fn ≤ (fs.length : Int) - 1)) = true := by simp; omega
  obtain ⟨i, hxi⟩ : ∃ i : Nat, x.fn = i := ⟨x.fn.toNat, by omega⟩
  have hi : i < fs.length := by omega
  clear hf
  obtain ⟨b, off, ca, cc, rfl, -, d1, d2, d3, d4⟩ := hm i hi
  have d1' := cell_later hbA d1
  have d2' := cell_later hbA d2
  have d3' := cell_later hbA d3
  clear d1 d2 d3
  have F := FF i hi
  have hmost := F.most
  rw [hxi] at hf' hbA d1' d2' d3' ⊢
  have HXI : Hid (x.fn = (i : Int)) := hxi
  clear hxi
  obtain ⟨wx, hwx⟩ : ∃ wx, wx = ((w.alloc (.cells #[.slice a1 nt c1, .slice (some ⟨b, off, none⟩) fs.length c2] 40)).alloc (.cells #[.int .i64 (i : Int), .int .i64 x.pc, .slice la x.locals.length lc, .slice sa x.stack.length sc] 110)).alloc (.cells #[.int .i64 fs[i].params, .int .i64 fs[i].locals, .slice ca fs[i].code.length cc] 116) := ⟨_, rfl⟩
  have hMx : wx.heap[w.heap.size]? = some (.cells #[.slice a1 nt c1, .slice (some ⟨b, off, none⟩) fs.length c2] 40 (0, 0)) := by rw [hwx]; exact block_old (block_old (block_new _ _ _) _) _
  have hFx : wx.heap[w.heap.size + 1]? = some (.cells #[.int .i64 (i : Int), .int .i64 x.pc, .slice la x.locals.length lc, .slice sa x.stack.length sc] 110 (0, 0)) := by rw [hwx]; exact block_old (block_new_at _ _ _ _ (by simp)) _
  have hXx : wx.heap[w.heap.size + 1 + 1]? = some (.cells #[.int .i64 fs[i].params, .int .i64 fs[i].locals, .slice ca fs[i].code.length cc] 116 (0, 0)) := by rw [hwx]; exact block_new_at _ _ _ _ (by simp)
  have hbx : Below w.heap.size w wx := by rw [hwx]; exact hbA.alloc hbA.size _
  go_enter Tryz.func61, Tryz.ntmps61
  go_wp2_with (go_at_call 57; refine (between_any _ _ _ _).mono ?_; rintro e w' ⟨rfl, hw⟩; rw [hw, hf']; clear hw w')
  rw [← hwx]
  clear hwx d1' d2' d3' hf' hbA
  refine (sDepths_any _ _ _ _ _ fs i _ hi hn (hm.mono hbx) F).mono ?_
  rintro e w1 ⟨g, cap, d, rfl, -, hD, hH, hb1⟩
  have P := hD.hts F
  have hdl : Hid (d.length = fs[i].code.length) := P.len
  have hM1 := block_kept hMx hb1
  have hF1 := block_kept hFx hb1
  have hX1 := block_kept hXx hb1
  have hB1 := hbx.trans (hb1.mono hbx.size)
  have y1 := block_cell hM1
  have z1 := block_cell hF1
  have x1 := block_cell hX1
  clear hMx hFx hXx hb1 hbx
  by_cases hl : (x.locals.length : Int) = fs[i].locals
  case neg =>
    have hl' : ((x.locals.length : Int) != fs[i].locals) = true := by simpa using hl
    have HL : Hid ((x.locals.length : Int) ≠ fs[i].locals) := hl
    clear hl
    go_wp2
    go_ret
    exact ⟨Says.no rfl (fun h => absurd h.1 (by rw [HXI.out]; exact fits_locals hi HL.out)), hB1⟩
  have HL : Hid ((x.locals.length : Int) = fs[i].locals) := hl
  have hl' : ((x.locals.length : Int) != fs[i].locals) = false := by simpa using hl
  clear hl
  by_cases hp : 0 ≤ x.pc ∧ x.pc < (fs[i].code.length : Int)
  case neg =>
    have hp' : (decide (0 ≤ x.pc) && decide (x.pc ≤ (fs[i].code.length : Int) - 1)) = false := by rw [Bool.eq_false_iff]; simp; omega
    go_wp2_with (go_at_call 57; refine (between_any _ _ _ _).mono ?_; rintro e w' ⟨rfl, hw⟩; rw [hw, hp']; clear hw w')
    go_ret
    exact ⟨Says.no rfl (fun h => absurd h.1 (by rw [HXI.out]; exact fits_pc hi (by omega))), hB1⟩
  have hp' : (decide (0 ≤ x.pc) && decide (x.pc ≤ (fs[i].code.length : Int) - 1)) = true := by simp; omega
  obtain ⟨p, hxp⟩ : ∃ p : Nat, x.pc = p := ⟨x.pc.toNat, by omega⟩
  have hpl : p < fs[i].code.length := by omega
  have hpd : p < d.length := by rw [hdl.out]; exact hpl
  rw [hxp] at hp' hF1 z1 ⊢
  have HXP : Hid (x.pc = (p : Int)) := hxp
  clear hp hxp
  have hc0 := hH.cell hpd
  have hlow := P.low p hpd
  have hhigh := P.high p hpd
  by_cases hm1 : d[p] < 0
  · have HM : Hid (d[p] < 0) := hm1
    go_wp2_with (go_at_call 57; refine (between_any _ _ _ _).mono ?_; rintro e w' ⟨rfl, hw⟩; rw [hw, hp']; clear hw w')
    go_ret
    exact ⟨Says.no rfl (fun h => absurd h.1 (by rw [HXI.out, HXP.out]; exact fits_none hi hD hpd HM.out)), hB1⟩
  have HM : Hid (0 ≤ d[p]) := by show 0 ≤ d[p]; omega
  go_wp2_with (first | (go_at_call 57; refine (between_any _ _ _ _).mono ?_; rintro e w' ⟨rfl, hw⟩; rw [hw, hp']; clear hw w'))
  refine (sValues_any _ _ _ _ _ _ _ _ _ _ _ hn hsl (hvl.mono hB1)).mono ?_
  rintro e w2 ⟨rfl, hb2⟩
  have hM2 := block_kept hM1 hb2
  have hF2 := block_kept hF1 hb2
  have hX2 := block_kept hX1 hb2
  have hH2 := hH.mono hb2
  have hB2 := hB1.trans (hb2.mono hB1.size)
  have y2 := block_cell hM2
  have z2 := block_cell hF2
  have x2 := block_cell hX2
  clear y1 z1 x1 hM1 hF1 hX1 hB1 hb2 hc0 hH hp' hl'
  by_cases hv : valsB x.locals fs.length r = true
  case neg =>
    have HV : Hid (¬ valsB x.locals fs.length r = true) := hv
    have hv' : valsB x.locals fs.length r = false := by simpa using hv
    clear hv
    go_wp2
    go_ret
    exact ⟨Says.no rfl (fun h => HV.out h.2.1), hB2⟩
  have HV : Hid (valsB x.locals fs.length r = true) := hv
  go_wp2_with fail
  refine (sValues_any _ _ _ _ _ _ _ _ _ _ _ hn hss (hvs.mono hB2)).mono ?_
  rintro e w3 ⟨rfl, hb3⟩
  have hF3 := block_kept hF2 hb3
  have hX3 := block_kept hX2 hb3
  have hH3 := hH2.mono hb3
  have hB3 := hB2.trans (hb3.mono hB2.size)
  have z3 := block_cell hF3
  have x3 := block_cell hX3
  have hc3 := hH3.cell hpd
  clear y2 z2 x2 hM2 hF2 hX2 hb3 hH2 hv
  by_cases hu : valsB x.stack fs.length r = true
  case neg =>
    have HU : Hid (¬ valsB x.stack fs.length r = true) := hu
    have hu' : valsB x.stack fs.length r = false := by simpa using hu
    clear hu
    go_wp2
    go_ret
    exact ⟨Says.no rfl (fun h => HU.out h.2.2), hB3⟩
  have HU : Hid (valsB x.stack fs.length r = true) := hu
  have d4' := d4.mono hB3
  cases last with
  | true =>
    go_wp2
    go_quiet (fail)
    go_wp2
    go_ret
    refine ⟨⟨_, rfl, ?_⟩, below_draws hB3 _⟩
    unfold FrOk
    rw [HXI.out, HXP.out, fits_last hi hD hpd hdl.out HL.out HM.out]
    constructor
    · intro h
      exact ⟨by simpa using h, HV.out, HU.out⟩
    · rintro ⟨h, -⟩
      simpa using h
  | false =>
    cases p with
    | zero =>
      go_wp2
      go_ret
      exact ⟨Says.no rfl (fun h => absurd h.1 (by rw [HXI.out, HXP.out]; exact fits_first)), hB3⟩
    | succ p =>
      have hpd0 : p < d.length := by omega
      have hpl0 : p < fs[i].code.length := by omega
      obtain ⟨cb, coff, rfl, -, e1, -⟩ := d4' p hpl0
      have hc1 := hH3.cell hpd0
      have hlow0 := P.low p hpd0
      by_cases hm0 : d[p] < 0
      · have HM0 : Hid (d[p] < 0) := hm0
        go_wp2
        go_ret
        refine ⟨Says.no rfl (fun h => ?_), hB3⟩
        have h1 := h.1
        rw [HXI.out, HXP.out, fits_other hi hD hpd hdl.out HL.out HM.out] at h1
        exact absurd h1.1 (by have := HM0.out; omega)
      have HM0 : Hid (0 ≤ d[p]) := by show 0 ≤ d[p]; omega
      by_cases ho3 : fs[i].code[p].1 = 23
      · have HO : Hid (fs[i].code[p].1 = 23 ∨ fs[i].code[p].1 = 24) := .inl ho3
        have b3 : (fs[i].code[p].1 == 23) = true := by simpa using ho3
        clear ho3
        go_wp2
        go_quiet (fail)
        go_wp2
        go_ret
        refine ⟨⟨_, rfl, ?_⟩, below_draws hB3 _⟩
        unfold FrOk
        rw [HXI.out, HXP.out, fits_other hi hD hpd hdl.out HL.out HM.out]
        constructor
        · intro h
          exact ⟨⟨HM0.out, HO.out, by simpa using h⟩, HV.out, HU.out⟩
        · rintro ⟨⟨-, -, h⟩, -⟩
          simpa using h
      have b3 : (fs[i].code[p].1 == 23) = false := by simpa using ho3
      by_cases ho4 : fs[i].code[p].1 = 24
      · have HO : Hid (fs[i].code[p].1 = 23 ∨ fs[i].code[p].1 = 24) := .inr ho4
        have b4 : (fs[i].code[p].1 == 24) = true := by simpa using ho4
        clear ho3 ho4
        go_wp2
        go_quiet (fail)
        go_wp2
        go_ret
        refine ⟨⟨_, rfl, ?_⟩, below_draws hB3 _⟩
        unfold FrOk
        rw [HXI.out, HXP.out, fits_other hi hD hpd hdl.out HL.out HM.out]
        constructor
        · intro h
          exact ⟨⟨HM0.out, HO.out, by simpa using h⟩, HV.out, HU.out⟩
        · rintro ⟨⟨-, -, h⟩, -⟩
          simpa using h
      · have b4 : (fs[i].code[p].1 == 24) = false := by simpa using ho4
        have HO : Hid (¬ (fs[i].code[p].1 = 23 ∨ fs[i].code[p].1 = 24)) := fun h => h.elim ho3 ho4
        clear ho3 ho4
        go_wp2
        go_quiet (fail)
        go_wp2
        go_ret
        refine ⟨Says.no rfl (fun h => ?_), below_draws hB3 _⟩
        have h1 := h.1
        rw [HXI.out, HXP.out, fits_other hi hD hpd hdl.out HL.out HM.out] at h1
        exact HO.out h1.2.1
end Go.Proofs.YtmmcockkbhnopaaGreat
