/-
  What spec.l05FrameOk returns.
  What spec.l05VmOk returns, of a module that is good.
  What impl.roomOk returns.
  What impl.valuesOk returns.
  What impl.troubleAt returns: the trouble at an instruction, heights being known.
  What impl.heightsOfAll and impl.Verify return, for every module within the stated sizes.
  What impl.frameFits returns.
  What impl.framesOk returns.
  What impl.VmOk returns.
  What spec.Verify returns, for every module within the stated sizes.
  The comparing functions of the laws (eq..) return true where both arguments read as the same data.
  What the size functions of the laws return of lists of values, frames, records, and of states.
  What szVm returns.
  The comparing functions of the laws return true of lists of values, frames, records, and of states that read as the same data.
  Values: the law on ValueOk, walked.
  What spec.VmOk returns.
  The law laws.FnExactVmOk, walked.
-/
import Derived.Test.YtcebgbcgkkfedaaGreatQ2
import Derived.Test.YtcebgbcgkkfedaaGreatV6
import Derived.Deep.QuietTactic
import Derived.BigQuiet
import Derived.Deep.RegionWith
import Derived.Test.YtcebgbcgkkfedaaGreatV10
import Derived.Test.YtcebgbcgkkfedaaGreatV14a
import Derived.Deep.RegionHeld3
import Derived.Test.YtcebgbcgkkfedaaGreatW1
import Derived.Test.YtcebgbcgkkfedaaGreatM0
import Derived.Test.YtcebgbcgkkfedaaGreatX1
import Derived.Test.YtcebgbcgkkfedaaGreatM3
import Derived.Test.YtcebgbcgkkfedaaGreatX6
import Derived.Test.YtcebgbcgkkfedaaGreatW2
namespace Go.Proofs.YtcebgbcgkkfedaaGreat
open Go.RowKit

def FrOk (fs : List Fn) (x : Fr) (r : Int) (last : Bool) : Prop := Fits fs x.fn x.pc x.locals.length x.stack.length last ∧ valsB x.locals fs.length r = true ∧ valsB x.stack fs.length r = true

set_option maxRecDepth 100000 in
set_option maxHeartbeats 4000000 in
theorem frameOk_any (a1 a2 la sa : Option Addr) (nt c1 c2 lc sc : Nat) (fs : List Fn) (x : Fr) (r : Int) (last : Bool) (w : World) (hn : fs.length ≤ 1048576) (hm : FnsAt w 0 a2 fs) (FF : ∀ k (hk : k < fs.length), Fine fs fs[k].code)
    (hsl : ValsSmall x.locals) (hss : ValsSmall x.stack) (hvl : ValsAt w 0 la x.locals) (hvs : ValsAt w 0 sa x.stack) :
    Calls Tryz.prog 84 #[.agg #[.slice a1 nt c1, .slice a2 fs.length c2], .agg #[.int .i64 x.fn, .int .i64 x.pc, .slice la x.locals.length lc, .slice sa x.stack.length sc], .int .i64 r, .bool last] w fun e w' => Says (FrOk fs x r last) e ∧ Below w.heap.size w w' := by
  have hbA : Below w.heap.size w ((w.alloc (.cells #[.slice a1 nt c1, .slice a2 fs.length c2] 42)).alloc (.cells #[.int .i64 x.fn, .int .i64 x.pc, .slice la x.locals.length lc, .slice sa x.stack.length sc] 90)) := ((Below.refl _ _).alloc (Nat.le_refl _) _).alloc (by simp) _
  have hll := hsl.1
  have hsl1 := hss.1
  by_cases hf : 0 ≤ x.fn ∧ x.fn < (fs.length : Int)
  case neg =>
    have hf' : (decide (0 ≤ x.fn) && decide (x.fn ≤ (fs.length : Int) - 1)) = false := by rw [Bool.eq_false_iff]; simp; omega
    go_enter Tryz.func84, Tryz.ntmps84
    go_wp2_with (go_at_call 80; refine (between_any _ _ _ _).mono ?_; rintro e w' ⟨rfl, hw⟩; rw [hw, hf']; clear hw w')
    go_ret
    exact ⟨Says.no rfl (fun h => absurd h.1 (fits_fn (by omega))), hbA⟩
  have hf' : (decide (0 ≤ x.fn) && decide (x.fn ≤ (fs.length : Int) - 1)) = true := by simp; omega
  obtain ⟨i, hxi⟩ : ∃ i : Nat, x.fn = i := ⟨x.fn.toNat, by omega⟩
  have hi : i < fs.length := by omega
  clear hf
  obtain ⟨b, off, ca, cc, rfl, -, d1, d2, d3, d4⟩ := hm i hi
  have d1' := cell_later hbA d1
  have d2' := cell_later hbA d2
  have d3' := cell_later hbA d3
  clear d1 d2 d3
  have F := FF i hi
  have hmost := F.most
  rw [hxi] at hf' hbA d1' d2' d3' ⊢
  have HXI : Hid (x.fn = (i : Int)) := hxi
  clear hxi
  obtain ⟨wx, hwx⟩ : ∃ wx, wx = ((w.alloc (.cells #[.slice a1 nt c1, .slice (some ⟨b, off, none⟩) fs.length c2] 42)).alloc (.cells #[.int .i64 (i : Int), .int .i64 x.pc, .slice la x.locals.length lc, .slice sa x.stack.length sc] 90)).alloc (.cells #[.int .i64 fs[i].params, .int .i64 fs[i].locals, .slice ca fs[i].code.length cc] 97) := ⟨_, rfl⟩
  have hMx : wx.heap[w.heap.size]? = some (.cells #[.slice a1 nt c1, .slice (some ⟨b, off, none⟩) fs.length c2] 42 (0, 0)) := by rw [hwx]; exact block_old (block_old (block_new _ _ _) _) _
  have hFx : wx.heap[w.heap.size + 1]? = some (.cells #[.int .i64 (i : Int), .int .i64 x.pc, .slice la x.locals.length lc, .slice sa x.stack.length sc] 90 (0, 0)) := by rw [hwx]; exact block_old (block_new_at _ _ _ _ (by simp)) _
  have hXx : wx.heap[w.heap.size + 1 + 1]? = some (.cells #[.int .i64 fs[i].params, .int .i64 fs[i].locals, .slice ca fs[i].code.length cc] 97 (0, 0)) := by rw [hwx]; exact block_new_at _ _ _ _ (by simp)
  have hbx : Below w.heap.size w wx := by rw [hwx]; exact hbA.alloc hbA.size _
  go_enter Tryz.func84, Tryz.ntmps84
  go_wp2_with (go_at_call 80; refine (between_any _ _ _ _).mono ?_; rintro e w' ⟨rfl, hw⟩; rw [hw, hf']; clear hw w')
  rw [← hwx]
  clear hwx d1' d2' d3' hf' hbA
  refine (sDepths_any _ _ _ _ _ fs i _ hi hn (hm.mono hbx) F).mono ?_
  rintro e w1 ⟨g, cap, d, rfl, -, hD, hH, hb1⟩
  have P := hD.hts F
  have hdl : Hid (d.length = fs[i].code.length) := P.len
  have hM1 := block_kept hMx hb1
  have hF1 := block_kept hFx hb1
  have hX1 := block_kept hXx hb1
  have hB1 := hbx.trans (hb1.mono hbx.size)
  have y1 := block_cell hM1
  have z1 := block_cell hF1
  have x1 := block_cell hX1
  clear hMx hFx hXx hb1 hbx
  by_cases hl : (x.locals.length : Int) = fs[i].locals
  case neg =>
    have hl' : ((x.locals.length : Int) != fs[i].locals) = true := by simpa using hl
    have HL : Hid ((x.locals.length : Int) ≠ fs[i].locals) := hl
    clear hl
    go_wp2
    go_ret
    exact ⟨Says.no rfl (fun h => absurd h.1 (by rw [HXI.out]; exact fits_locals hi HL.out)), hB1⟩
  have HL : Hid ((x.locals.length : Int) = fs[i].locals) := hl
  have hl' : ((x.locals.length : Int) != fs[i].locals) = false := by simpa using hl
  clear hl
  by_cases hp : 0 ≤ x.pc ∧ x.pc < (fs[i].code.length : Int)
  case neg =>
    have hp' : (decide (0 ≤ x.pc) && decide (x.pc ≤ (fs[i].code.length : Int) - 1)) = false := by rw [Bool.eq_false_iff]; simp; omega
    go_wp2_with (go_at_call 80; refine (between_any _ _ _ _).mono ?_; rintro e w' ⟨rfl, hw⟩; rw [hw, hp']; clear hw w')
    go_ret
    exact ⟨Says.no rfl (fun h => absurd h.1 (by rw [HXI.out]; exact fits_pc hi (by omega))), hB1⟩
  have hp' : (decide (0 ≤ x.pc) && decide (x.pc ≤ (fs[i].code.length : Int) - 1)) = true := by simp; omega
  obtain ⟨p, hxp⟩ : ∃ p : Nat, x.pc = p := ⟨x.pc.toNat, by omega⟩
  have hpl : p < fs[i].code.length := by omega
  have hpd : p < d.length := by rw [hdl.out]; exact hpl
  rw [hxp] at hp' hF1 z1 ⊢
  have HXP : Hid (x.pc = (p : Int)) := hxp
  clear hp hxp
  have hc0 := hH.cell hpd
  have hlow := P.low p hpd
  have hhigh := P.high p hpd
  by_cases hm1 : d[p] < 0
  · have HM : Hid (d[p] < 0) := hm1
    go_wp2_with (go_at_call 80; refine (between_any _ _ _ _).mono ?_; rintro e w' ⟨rfl, hw⟩; rw [hw, hp']; clear hw w')
    go_ret
    exact ⟨Says.no rfl (fun h => absurd h.1 (by rw [HXI.out, HXP.out]; exact fits_none hi hD hpd HM.out)), hB1⟩
  have HM : Hid (0 ≤ d[p]) := by show 0 ≤ d[p]; omega
  go_wp2_with (first | (go_at_call 80; refine (between_any _ _ _ _).mono ?_; rintro e w' ⟨rfl, hw⟩; rw [hw, hp']; clear hw w'))
  refine (sValues_any _ _ _ _ _ _ _ _ _ _ _ hn hsl (hvl.mono hB1)).mono ?_
  rintro e w2 ⟨rfl, hb2⟩
  have hM2 := block_kept hM1 hb2
  have hF2 := block_kept hF1 hb2
  have hX2 := block_kept hX1 hb2
  have hH2 := hH.mono hb2
  have hB2 := hB1.trans (hb2.mono hB1.size)
  have y2 := block_cell hM2
  have z2 := block_cell hF2
  have x2 := block_cell hX2
  clear y1 z1 x1 hM1 hF1 hX1 hB1 hb2 hc0 hH hp' hl'
  by_cases hv : valsB x.locals fs.length r = true
  case neg =>
    have HV : Hid (¬ valsB x.locals fs.length r = true) := hv
    have hv' : valsB x.locals fs.length r = false := by simpa using hv
    clear hv
    go_wp2
    go_ret
    exact ⟨Says.no rfl (fun h => HV.out h.2.1), hB2⟩
  have HV : Hid (valsB x.locals fs.length r = true) := hv
  go_wp2_with fail
  refine (sValues_any _ _ _ _ _ _ _ _ _ _ _ hn hss (hvs.mono hB2)).mono ?_
  rintro e w3 ⟨rfl, hb3⟩
  have hF3 := block_kept hF2 hb3
  have hX3 := block_kept hX2 hb3
  have hH3 := hH2.mono hb3
  have hB3 := hB2.trans (hb3.mono hB2.size)
  have z3 := block_cell hF3
  have x3 := block_cell hX3
  have hc3 := hH3.cell hpd
  clear y2 z2 x2 hM2 hF2 hX2 hb3 hH2 hv
  by_cases hu : valsB x.stack fs.length r = true
  case neg =>
    have HU : Hid (¬ valsB x.stack fs.length r = true) := hu
    have hu' : valsB x.stack fs.length r = false := by simpa using hu
    clear hu
    go_wp2
    go_ret
    exact ⟨Says.no rfl (fun h => HU.out h.2.2), hB3⟩
  have HU : Hid (valsB x.stack fs.length r = true) := hu
  have d4' := d4.mono hB3
  cases last with
  | true =>
    go_wp2
    go_quiet (fail)
    go_wp2
    go_ret
    refine ⟨⟨_, rfl, ?_⟩, below_draws hB3 _⟩
    unfold FrOk
    rw [HXI.out, HXP.out, fits_last hi hD hpd hdl.out HL.out HM.out]
    constructor
    · intro h
      exact ⟨by simpa using h, HV.out, HU.out⟩
    · rintro ⟨h, -⟩
      simpa using h
  | false =>
    cases p with
    | zero =>
      go_wp2
      go_ret
      exact ⟨Says.no rfl (fun h => absurd h.1 (by rw [HXI.out, HXP.out]; exact fits_first)), hB3⟩
    | succ p =>
      have hpd0 : p < d.length := by omega
      have hpl0 : p < fs[i].code.length := by omega
      obtain ⟨cb, coff, rfl, -, e1, -⟩ := d4' p hpl0
      have hc1 := hH3.cell hpd0
      have hlow0 := P.low p hpd0
      by_cases hm0 : d[p] < 0
      · have HM0 : Hid (d[p] < 0) := hm0
        go_wp2
        go_ret
        refine ⟨Says.no rfl (fun h => ?_), hB3⟩
        have h1 := h.1
        rw [HXI.out, HXP.out, fits_other hi hD hpd hdl.out HL.out HM.out] at h1
        exact absurd h1.1 (by have := HM0.out; omega)
      have HM0 : Hid (0 ≤ d[p]) := by show 0 ≤ d[p]; omega
      by_cases ho3 : fs[i].code[p].1 = 23
      · have HO : Hid (fs[i].code[p].1 = 23 ∨ fs[i].code[p].1 = 24) := .inl ho3
        have b3 : (fs[i].code[p].1 == 23) = true := by simpa using ho3
        clear ho3
        go_wp2
        go_quiet (fail)
        go_wp2
        go_ret
        refine ⟨⟨_, rfl, ?_⟩, below_draws hB3 _⟩
        unfold FrOk
        rw [HXI.out, HXP.out, fits_other hi hD hpd hdl.out HL.out HM.out]
        constructor
        · intro h
          exact ⟨⟨HM0.out, HO.out, by simpa using h⟩, HV.out, HU.out⟩
        · rintro ⟨⟨-, -, h⟩, -⟩
          simpa using h
      have b3 : (fs[i].code[p].1 == 23) = false := by simpa using ho3
      by_cases ho4 : fs[i].code[p].1 = 24
      · have HO : Hid (fs[i].code[p].1 = 23 ∨ fs[i].code[p].1 = 24) := .inr ho4
        have b4 : (fs[i].code[p].1 == 24) = true := by simpa using ho4
        clear ho3 ho4
        go_wp2
        go_quiet (fail)
        go_wp2
        go_ret
        refine ⟨⟨_, rfl, ?_⟩, below_draws hB3 _⟩
        unfold FrOk
        rw [HXI.out, HXP.out, fits_other hi hD hpd hdl.out HL.out HM.out]
        constructor
        · intro h
          exact ⟨⟨HM0.out, HO.out, by simpa using h⟩, HV.out, HU.out⟩
        · rintro ⟨⟨-, -, h⟩, -⟩
          simpa using h
      · have b4 : (fs[i].code[p].1 == 24) = false := by simpa using ho4
        have HO : Hid (¬ (fs[i].code[p].1 = 23 ∨ fs[i].code[p].1 = 24)) := fun h => h.elim ho3 ho4
        clear ho3 ho4
        go_wp2
        go_quiet (fail)
        go_wp2
        go_ret
        refine ⟨Says.no rfl (fun h => ?_), below_draws hB3 _⟩
        have h1 := h.1
        rw [HXI.out, HXP.out, fits_other hi hD hpd hdl.out HL.out HM.out] at h1
        exact HO.out h1.2.1
end Go.Proofs.YtcebgbcgkkfedaaGreat

namespace Go.Proofs.YtcebgbcgkkfedaaGreat
open Go.RowKit

open Classical in
noncomputable def pB (P : Prop) : Bool := decide P
theorem Says.eq {P : Prop} {e : Ending} (h : Says P e) : e = .returned (.bool (pB P)) := by
  obtain ⟨b, rfl, hb⟩ := h
  rw [show b = pB P by rw [Bool.eq_iff_iff, hb]; simp [pB]]
theorem pB_yes {P : Prop} (h : P) : pB P = true := by simpa [pB] using h
theorem pB_no {P : Prop} (h : ¬ P) : pB P = false := by simpa [pB] using h

set_option maxRecDepth 100000 in
set_option maxHeartbeats 8000000 in
theorem sVm_any (a1 a2 : Option Addr) (nt c1 c2 : Nat) (fs : List Fn) (fa ha oa : Option Addr) (fc hcp oc : Nat) (d : VmD) (w : World) (hn : fs.length ≤ 1048576) (hx : VmSmall d) (hm : VmAt w 0 fa ha oa d) (hmf : FnsAt w 0 a2 fs) (FF : ∀ k (hk : k < fs.length), Fine fs fs[k].code) :
    Calls Tryz.prog 50 #[.agg #[.slice a1 nt c1, .slice a2 fs.length c2], .agg (vmCells fa ha oa fc hcp oc d)] w fun e w' => Says (Room d ∧ Frames fs d ∧ Vals fs.length d) e ∧ Below w.heap.size w w' := by
  have hbA : Below w.heap.size w ((w.alloc (.cells #[.slice a1 nt c1, .slice a2 fs.length c2] 42)).alloc (.cells #[.slice fa d.frames.length fc, .slice ha d.heap.length hcp, .int .i64 d.made, .slice oa d.out.length oc, .int .i64 d.status, .int .i64 d.trap, .int .i64 d.value.k, .int .i64 d.value.n, .string d.value.s, .int .i64 d.steps] 38)) := ((Below.refl _ _).alloc (Nat.le_refl _) _).alloc (by simp) _
  have hM0 := block_old (block_new w #[.slice a1 nt c1, .slice a2 fs.length c2] 42) (.cells #[.slice fa d.frames.length fc, .slice ha d.heap.length hcp, .int .i64 d.made, .slice oa d.out.length oc, .int .i64 d.status, .int .i64 d.trap, .int .i64 d.value.k, .int .i64 d.value.n, .string d.value.s, .int .i64 d.steps] 38)
  have hV0 := block_new_at (w.alloc (.cells #[.slice a1 nt c1, .slice a2 fs.length c2] 42)) #[.slice fa d.frames.length fc, .slice ha d.heap.length hcp, .int .i64 d.made, .slice oa d.out.length oc, .int .i64 d.status, .int .i64 d.trap, .int .i64 d.value.k, .int .i64 d.value.n, .string d.value.s, .int .i64 d.steps] 38 (w.heap.size + 1) (by simp)
  have hhl := hx.heap
  have hol := hx.out
  have hfl := hx.frames
  unfold vmCells
  by_cases h1 : 120 < d.heap.length
  · have h1I : 120 < (d.heap.length : Int) := by omega
    go_enter Tryz.func50, Tryz.ntmps50
    go_wp2_with (first | (go_at_call 80; refine (between_any _ _ _ _).mono ?_; rintro e w' ⟨rfl, hw⟩; rw [hw]; (first | rw [b2] | rw [b4] | rw [b6] | rw [b7]); clear hw w'))
    go_ret
    exact ⟨Says.no rfl (fun h => by have := h.1.1; have := h.1.2.1; omega), hbA⟩
  have h1I : ¬ 120 < (d.heap.length : Int) := by omega
  by_cases h2 : (d.heap.length : Int) ≤ d.made ∧ d.made ≤ 120
  case neg =>
    have b2 : (decide ((d.heap.length : Int) ≤ d.made) && decide (d.made ≤ 120)) = false := by rw [Bool.eq_false_iff]; simp; omega
    have H2 : Hid (¬ ((d.heap.length : Int) ≤ d.made ∧ d.made ≤ 120)) := h2
    clear h2
    go_enter Tryz.func50, Tryz.ntmps50
    go_wp2_with (first | (go_at_call 80; refine (between_any _ _ _ _).mono ?_; rintro e w' ⟨rfl, hw⟩; rw [hw]; (first | rw [b2] | rw [b4] | rw [b6] | rw [b7]); clear hw w'))
    go_ret
    exact ⟨Says.no rfl (fun h => H2.out ⟨h.1.1, h.1.2.1⟩), hbA⟩
  have b2 : (decide ((d.heap.length : Int) ≤ d.made) && decide (d.made ≤ 120)) = true := by simpa using h2
  have H2 : Hid ((d.heap.length : Int) ≤ d.made ∧ d.made ≤ 120) := h2
  clear h2
  by_cases h3 : 200 < d.out.length
  · have h3I : 200 < (d.out.length : Int) := by omega
    go_enter Tryz.func50, Tryz.ntmps50
    go_wp2_with (first | (go_at_call 80; refine (between_any _ _ _ _).mono ?_; rintro e w' ⟨rfl, hw⟩; rw [hw]; (first | rw [b2] | rw [b4] | rw [b6] | rw [b7]); clear hw w'))
    go_ret
    exact ⟨Says.no rfl (fun h => by have := h.1.2.2.2.1; omega), hbA⟩
  have h3I : ¬ 200 < (d.out.length : Int) := by omega
  by_cases h4 : 0 ≤ d.steps ∧ d.steps ≤ 50000
  case neg =>
    have b4 : (decide (0 ≤ d.steps) && decide (d.steps ≤ 50000)) = false := by rw [Bool.eq_false_iff]; simp; omega
    have H4 : Hid (¬ (0 ≤ d.steps ∧ d.steps ≤ 50000)) := h4
    clear h4
    go_enter Tryz.func50, Tryz.ntmps50
    go_wp2_with (first | (go_at_call 80; refine (between_any _ _ _ _).mono ?_; rintro e w' ⟨rfl, hw⟩; rw [hw]; (first | rw [b2] | rw [b4] | rw [b6] | rw [b7]); clear hw w'))
    go_ret
    exact ⟨Says.no rfl (fun h => H4.out ⟨h.1.2.2.2.2.1, h.1.2.2.2.2.2.1⟩), hbA⟩
  have b4 : (decide (0 ≤ d.steps) && decide (d.steps ≤ 50000)) = true := by simpa using h4
  have H4 : Hid (0 ≤ d.steps ∧ d.steps ≤ 50000) := h4
  clear h4
  go_enter Tryz.func50, Tryz.ntmps50
  go_wp2_with (first | (go_at_call 80; refine (between_any _ _ _ _).mono ?_; rintro e w' ⟨rfl, hw⟩; rw [hw]; (first | rw [b2] | rw [b4] | rw [b6] | rw [b7]); clear hw w'))
  refine (sOk_any _ _ _ _ _ _ _ _ _ _ _ hn hx.value).mono ?_
  rintro e w1 ⟨rfl, hb1⟩
  have hM1 := block_kept hM0 hb1
  have hV1 := block_kept hV0 hb1
  have hB1 := hbA.trans (hb1.mono hbA.size)
  clear hM0 hV0 hbA hb1 b2 b4
  by_cases h5 : valB d.value.k d.value.n d.value.s fs.length d.heap.length = true
  case neg =>
    have h5' : valB d.value.k d.value.n d.value.s fs.length d.heap.length = false := by simpa using h5
    have H5 : Hid (¬ okB fs.length d.heap.length d.value = true) := h5
    clear h5
    go_wp2
    go_ret
    exact ⟨Says.no rfl (fun h => H5.out h.2.2.2.2), hB1⟩
  have H5 : Hid (okB fs.length d.heap.length d.value = true) := h5
  go_wp2
  clear h5
  go_loopw [6] (fun i wr => ∃ (k : Nat), k ≤ d.heap.length ∧ i = .int .i64 k ∧ Hid ((d.heap.take k).all fewB = true) ∧ Hid ((d.heap.take k).all (reVals fs.length d.heap.length) = true) ∧ wr.heap[w.heap.size]? = some (.cells #[.slice a1 nt c1, .slice a2 fs.length c2] 42 (0, 0)) ∧ wr.heap[w.heap.size + 1]? = some (.cells #[.slice fa d.frames.length fc, .slice ha d.heap.length hcp, .int .i64 d.made, .slice oa d.out.length oc, .int .i64 d.status, .int .i64 d.trap, .int .i64 d.value.k, .int .i64 d.value.n, .string d.value.s, .int .i64 d.steps] 38 (0, 0)) ∧ Below w.heap.size w wr) (fun i _ => d.heap.length - (intOf i).toNat)
  case atStart => exact ⟨0, by omega, rfl, rfl, rfl, hM1, hV1, hB1⟩
  case round =>
    obtain ⟨k, hk, rfl, hal1, hal2, hM, hV, hb⟩ := hrel
    clear hM1 hV1 hB1
    by_cases hlt : k < d.heap.length
    · obtain ⟨b, off, ca, cc, rfl, -, e1, e2⟩ := hm.recs k hlt
      have e1' := cell_later hb e1
      clear e1
      have hsf := hx.fields _ (List.getElem_mem hlt)
      have hkl := hsf.1
      by_cases ho : 6 < d.heap[k].length
      · have HO : Hid (6 < d.heap[k].length) := ho
        have hoI : 6 < (d.heap[k].length : Int) := by omega
        have hoB : decide (6 < (d.heap[k].length : Int)) = true := by simpa using hoI
        have v1 := block_cell hV
        have m1 := block_cell hM
        go_wp2
        go_quiet (fail)
        go_wp2
        go_ret
        exact ⟨Says.no rfl (fun h => by
          have h3 := h.1.2.2.1
          rw [all_no hlt (show fewB d.heap[k] = false by simpa [fewB] using HO.out)] at h3
          cases h3), below_draws hb _⟩
      have HO : Hid (fewB d.heap[k] = true) := by show fewB d.heap[k] = true; simp [fewB]; omega
      have hoI : ¬ 6 < (d.heap[k].length : Int) := by omega
      have hoB : decide (6 < (d.heap[k].length : Int)) = false := by simpa using hoI
      have hS : ∀ w', Below wr.heap.size wr w' → w'.cell? ⟨w.heap.size, 0, none⟩ = some (.slice a1 nt c1) ∧ w'.cell? ⟨w.heap.size, 1, none⟩ = some (.slice a2 fs.length c2) ∧ w'.cell? ⟨w.heap.size + 1, 1, none⟩ = some (.slice (some ⟨b, off, none⟩) d.heap.length hcp) ∧ w'.cell? ⟨b, off + k, none⟩ = some (.slice ca d.heap[k].length cc) := fun w' hb =>
        ⟨by rw [block_cell (block_kept hM hb)]; rfl, by rw [block_cell (block_kept hM hb)]; rfl, by rw [block_cell (block_kept hV hb)]; rfl, cell_later hb e1'⟩
      have HS : Hid (∀ w', Below wr.heap.size wr w' → w'.cell? ⟨w.heap.size, 0, none⟩ = some (.slice a1 nt c1) ∧ w'.cell? ⟨w.heap.size, 1, none⟩ = some (.slice a2 fs.length c2) ∧ w'.cell? ⟨w.heap.size + 1, 1, none⟩ = some (.slice (some ⟨b, off, none⟩) d.heap.length hcp) ∧ w'.cell? ⟨b, off + k, none⟩ = some (.slice ca d.heap[k].length cc)) := hS
      obtain ⟨j0, j1, j2, j3⟩ := hS wr (Below.refl _ _)
      have q : Below wr.heap.size wr wr.drew := (Below.refl _ _).drew
      have HB : Hid (Below w.heap.size w wr) := hb
      have HM : Hid (wr.heap[w.heap.size]? = some (.cells #[.slice a1 nt c1, .slice a2 fs.length c2] 42 (0, 0))) := hM
      have HV : Hid (wr.heap[w.heap.size + 1]? = some (.cells #[.slice fa d.frames.length fc, .slice (some ⟨b, off, none⟩) d.heap.length hcp, .int .i64 d.made, .slice oa d.out.length oc, .int .i64 d.status, .int .i64 d.trap, .int .i64 d.value.k, .int .i64 d.value.n, .string d.value.s, .int .i64 d.steps] 38 (0, 0))) := hV
      clear hS hb hM hV e1' ho
      by_cases hv : valsB d.heap[k] fs.length d.heap.length = true
      · have HVv : Hid (valsB d.heap[k] fs.length d.heap.length = true) := hv
        have hvn : (!valsB d.heap[k] fs.length d.heap.length) = false := by rw [hv]; rfl
        go_wp2
        go_region_held3 (fun w' => w'.cell? ⟨w.heap.size, 0, none⟩ = some (.slice a1 nt c1) ∧ w'.cell? ⟨w.heap.size, 1, none⟩ = some (.slice a2 fs.length c2) ∧ w'.cell? ⟨w.heap.size + 1, 1, none⟩ = some (.slice (some ⟨b, off, none⟩) d.heap.length hcp) ∧ w'.cell? ⟨b, off + k, none⟩ = some (.slice ca d.heap[k].length cc))
          (first | exact ⟨j0, j1, j2, j3⟩ | exact HS.out _ q)
          (first
            | (go_at_call 82; refine (sValues_any _ _ _ _ _ _ _ _ _ _ _ hn hsf (by exact e2.mono (HB.out.trans (q.mono HB.out.size)))).mono ?_; rintro e w5 ⟨rfl, kd⟩; have q := q.trans (kd.mono q.size)))
        have hM5 := block_kept HM.out q
        have hV5 := block_kept HV.out q
        have hB5 := HB.out.trans (q.mono HB.out.size)
        clear HM HV HB HS j0 j1 j2 j3 q kd
        go_wp2
        go_roundw
        case rel => exact ⟨k + 1, by omega, by go_num, all_take hlt hal1.out HO.out, all_take hlt hal2.out HVv.out, hM5, hV5, hB5⟩
        case measure => simp [intOf]; omega
      · have hv' : valsB d.heap[k] fs.length d.heap.length = false := by simpa using hv
        have HVv : Hid (valsB d.heap[k] fs.length d.heap.length = false) := hv'
        have hvn : (!valsB d.heap[k] fs.length d.heap.length) = true := by rw [hv']; rfl
        clear hv
        go_wp2
        go_region_held3 (fun w' => w'.cell? ⟨w.heap.size, 0, none⟩ = some (.slice a1 nt c1) ∧ w'.cell? ⟨w.heap.size, 1, none⟩ = some (.slice a2 fs.length c2) ∧ w'.cell? ⟨w.heap.size + 1, 1, none⟩ = some (.slice (some ⟨b, off, none⟩) d.heap.length hcp) ∧ w'.cell? ⟨b, off + k, none⟩ = some (.slice ca d.heap[k].length cc))
          (first | exact ⟨j0, j1, j2, j3⟩ | exact HS.out _ q)
          (first
            | (go_at_call 82; refine (sValues_any _ _ _ _ _ _ _ _ _ _ _ hn hsf (by exact e2.mono (HB.out.trans (q.mono HB.out.size)))).mono ?_; rintro e w5 ⟨rfl, kd⟩; have q := q.trans (kd.mono q.size)))
        have hM5 := block_kept HM.out q
        have hV5 := block_kept HV.out q
        have hB5 := HB.out.trans (q.mono HB.out.size)
        clear HM HV HB HS j0 j1 j2 j3 q kd
        go_wp2
        go_ret
        exact ⟨Says.no rfl (fun h => by
          have h1 := h.2.2.2.1
          rw [all_no hlt (show reVals fs.length d.heap.length d.heap[k] = false from HVv.out)] at h1
          cases h1), hB5⟩
    · have HF : Hid (d.heap.all fewB = true) := all_end (by omega) hal1.out
      have HG : Hid (d.heap.all (reVals fs.length d.heap.length) = true) := all_end (by omega) hal2.out
      obtain ⟨wq, rfl⟩ : ∃ wq, wq = wr := ⟨_, rfl⟩
      clear hal1 hal2
      go_wp2
      go_loopw [7] (fun i wr => ∃ (k : Nat), k ≤ d.out.length ∧ i = .int .i64 k ∧ Hid ((d.out.take k).all textB = true) ∧ wr.heap[w.heap.size]? = some (.cells #[.slice a1 nt c1, .slice a2 fs.length c2] 42 (0, 0)) ∧ wr.heap[w.heap.size + 1]? = some (.cells #[.slice fa d.frames.length fc, .slice ha d.heap.length hcp, .int .i64 d.made, .slice oa d.out.length oc, .int .i64 d.status, .int .i64 d.trap, .int .i64 d.value.k, .int .i64 d.value.n, .string d.value.s, .int .i64 d.steps] 38 (0, 0)) ∧ Below w.heap.size w wr) (fun i _ => d.out.length - (intOf i).toNat)
      case atStart => exact ⟨0, by omega, rfl, rfl, hM, hV, hb⟩
      case round =>
        obtain ⟨k, hk, rfl, hal, hM, hV, hb⟩ := hrel
        have v1 := block_cell hV
        by_cases hlt : k < d.out.length
        · obtain ⟨b, off, rfl, -, e1⟩ := hm.out k hlt
          have e1' := cell_later hb e1
          clear e1
          have hck := hx.text _ (List.getElem_mem hlt)
          by_cases ho : textB d.out[k] = true
          · have HO : Hid (textB d.out[k] = true) := ho
            go_wp2_with (go_at_call 83; refine (l01Text_any _ _ hck).mono ?_; rintro e w1 ⟨rfl, hw⟩; rw [hw, ho]; clear hw w1)
            go_roundw
            case rel => exact ⟨k + 1, by omega, by go_num, all_take hlt hal.out HO.out, hM, hV, hb⟩
            case measure => simp [intOf]; omega
          · have ho' : textB d.out[k] = false := by simpa using ho
            have HO : Hid (textB d.out[k] = false) := ho'
            clear ho
            go_wp2_with (go_at_call 83; refine (l01Text_any _ _ hck).mono ?_; rintro e w1 ⟨rfl, hw⟩; rw [hw, ho']; clear hw w1)
            go_ret
            exact ⟨Says.no rfl (fun h => by
              have h1 := h.1.2.2.2.2.2.2
              rw [all_no hlt HO.out] at h1
              cases h1), hb⟩
        · have HT : Hid (d.out.all textB = true) := all_end (by omega) hal.out
          have HR : Hid (Room d) := ⟨H2.out.1, H2.out.2, HF.out, by omega, H4.out.1, H4.out.2, HT.out⟩
          obtain ⟨wp, rfl⟩ : ∃ wp, wp = wr := ⟨_, rfl⟩
          clear hal h1 h3
          by_cases s1 : d.status = 1
          · have HS1 : Hid (d.status = 1) := s1
            rw [s1] at v1
            by_cases f0 : d.frames.length = 0
            · have F0 : Hid (d.frames.length = 0) := f0
              have f0I : ((d.frames.length : Int) == 0) = true := by simpa using f0
              clear f0
              go_wp2
              go_ret
              refine ⟨⟨_, rfl, ?_⟩, hb⟩
              constructor
              · intro h
                refine ⟨HR.out, .inl ⟨HS1.out, F0.out, by simpa using h⟩, ?_, HG.out, H5.out⟩
                rw [List.eq_nil_of_length_eq_zero F0.out]; rfl
              · rintro ⟨-, ⟨-, -, h⟩ | ⟨⟨h, -⟩ | ⟨h, -⟩, -⟩, -⟩
                · simpa using h
                · rw [HS1.out] at h; cases h
                · rw [HS1.out] at h; cases h
            · have F0 : Hid (¬ d.frames.length = 0) := f0
              have f0I : ((d.frames.length : Int) == 0) = false := by simpa using f0
              clear f0
              go_wp2
              go_ret
              refine ⟨Says.no rfl ?_, hb⟩
              rintro ⟨-, ⟨-, h, -⟩ | ⟨⟨h, -⟩ | ⟨h, -⟩, -⟩, -⟩
              · exact F0.out h
              · rw [HS1.out] at h; cases h
              · rw [HS1.out] at h; cases h
          have HS1 : Hid (¬ d.status = 1) := s1
          have c1s : (d.status == 1) = false := by simpa using s1
          have HFR : Hid (Frames fs d → ((d.status = 0 ∧ d.trap = 0) ∨ (d.status = 2 ∧ 1 ≤ d.trap ∧ d.trap ≤ 8)) ∧ 1 ≤ d.frames.length ∧ d.frames.length ≤ 24 ∧ (d.value.k = 0 ∧ d.value.n = 0 ∧ d.value.s = ⟨#[]⟩) ∧ ∀ i (h : i < d.frames.length), Fits fs d.frames[i].fn d.frames[i].pc d.frames[i].locals.length d.frames[i].stack.length (decide ((i : Int) = (d.frames.length : Int) - 1))) := fun h => by
            rcases h with h | h
            · exact absurd h.1 HS1.out
            · exact h
          clear s1
          by_cases s02 : d.status = 0 ∨ d.status = 2
          case neg =>
            have n0 : (d.status != 0) = true := by simpa using fun h => s02 (.inl h)
            have n2 : (d.status != 2) = true := by simpa using fun h => s02 (.inr h)
            have HN : Hid (¬ Frames fs d) := fun h => by
              rcases (HFR.out h).1 with h | h
              · exact s02 (.inl h.1)
              · exact s02 (.inr h.1)
            clear s02
            go_wp2
            go_ret
            exact ⟨Says.no rfl (fun h => HN.out h.2.1), hb⟩
          have HZt : Hid (d.status = 0 ∨ d.status = 2) := s02
          by_cases hz : d.value.k = 0 ∧ d.value.n = 0 ∧ d.value.s = ⟨#[]⟩
          case neg =>
            have HN : Hid (¬ Frames fs d) := fun h => hz (HFR.out h).2.2.2.1
            rcases s02 with s0 | s0
            all_goals
              rw [s0] at v1
              by_cases z0 : d.value.k = 0
              · by_cases z1 : d.value.n = 0
                · have z2 : d.value.s ≠ ⟨#[]⟩ := fun h => hz ⟨z0, z1, h⟩
                  have e1 := (not_empty z2).1
                  have e2 := (not_empty z2).2
                  rw [z0, z1] at v1
                  clear hz z2 z0 z1 s0
                  go_wp2
                  go_ret
                  exact ⟨Says.no rfl (fun h => HN.out h.2.1), hb⟩
                · have e1 : (d.value.n == 0) = false := by simpa using z1
                  have e2 : (0 == d.value.n) = false := by simpa using fun h => z1 (h : (0 : Int) = d.value.n).symm
                  rw [z0] at v1
                  clear hz z0 z1 s0
                  go_wp2
                  go_ret
                  exact ⟨Says.no rfl (fun h => HN.out h.2.1), hb⟩
              · have e1 : (d.value.k == 0) = false := by simpa using z0
                have e2 : (0 == d.value.k) = false := by simpa using fun h => z0 (h : (0 : Int) = d.value.k).symm
                clear hz z0 s0
                go_wp2
                go_ret
                exact ⟨Says.no rfl (fun h => HN.out h.2.1), hb⟩
          have HZ : Hid (d.value.k = 0 ∧ d.value.n = 0 ∧ d.value.s = ⟨#[]⟩) := hz
          obtain ⟨z0, z1, z2⟩ := hz
          rw [z0, z1, z2] at v1
          clear z0 z1 z2
          by_cases hf6 : 1 ≤ d.frames.length ∧ d.frames.length ≤ 24
          case neg =>
            have b6 : (decide (1 ≤ (d.frames.length : Int)) && decide ((d.frames.length : Int) ≤ 24)) = false := by rw [Bool.eq_false_iff]; simp; omega
            have HN : Hid (¬ Frames fs d) := fun h => hf6 ⟨(HFR.out h).2.1, (HFR.out h).2.2.1⟩
            clear hf6
            rcases s02 with s0 | s0
            all_goals
              rw [s0] at v1
              clear s0
              go_wp2_with (first | (go_at_call 80; refine (between_any _ _ _ _).mono ?_; rintro e w' ⟨rfl, hw⟩; rw [hw]; (first | rw [b2] | rw [b4] | rw [b6] | rw [b7]); clear hw w'))
              go_ret
              exact ⟨Says.no rfl (fun h => HN.out h.2.1), hb⟩
          have b6 : (decide (1 ≤ (d.frames.length : Int)) && decide ((d.frames.length : Int) ≤ 24)) = true := by simp; omega
          have H6 : Hid (1 ≤ d.frames.length ∧ d.frames.length ≤ 24) := hf6
          by_cases hr : (d.status = 0 ∧ d.trap = 0) ∨ (d.status = 2 ∧ 1 ≤ d.trap ∧ d.trap ≤ 8)
          case neg =>
            have HN : Hid (¬ Frames fs d) := fun h => hr (HFR.out h).1
            rcases s02 with s0 | s0
            · have ht : (d.trap != 0) = true := by simpa using fun h => hr (.inl ⟨s0, h⟩)
              rw [s0] at v1
              clear s0 hr
              go_wp2_with (first | (go_at_call 80; refine (between_any _ _ _ _).mono ?_; rintro e w' ⟨rfl, hw⟩; rw [hw]; (first | rw [b2] | rw [b4] | rw [b6] | rw [b7]); clear hw w'))
              go_ret
              exact ⟨Says.no rfl (fun h => HN.out h.2.1), hb⟩
            · have b7 : (decide (1 ≤ d.trap) && decide (d.trap ≤ 8)) = false := by
                rw [Bool.eq_false_iff]
                intro h
                simp at h
                exact hr (.inr ⟨s0, h.1, h.2⟩)
              rw [s0] at v1
              clear s0 hr
              go_wp2_with (first | (go_at_call 80; refine (between_any _ _ _ _).mono ?_; rintro e w' ⟨rfl, hw⟩; rw [hw]; (first | rw [b2] | rw [b4] | rw [b6] | rw [b7]); clear hw w'))
              go_ret
              exact ⟨Says.no rfl (fun h => HN.out h.2.1), hb⟩
          have HRUN : Hid ((d.status = 0 ∧ d.trap = 0) ∨ (d.status = 2 ∧ 1 ≤ d.trap ∧ d.trap ≤ 8)) := hr
          clear s02
          rcases hr with ⟨s0, t0⟩ | ⟨s0, t1, t2⟩
          · rw [s0, t0] at v1
            clear s0 t0
            go_wp2_with (first | (go_at_call 80; refine (between_any _ _ _ _).mono ?_; rintro e w' ⟨rfl, hw⟩; rw [hw]; (first | rw [b2] | rw [b4] | rw [b6] | rw [b7]); clear hw w'))
            clear v1
            go_loopw [8] (fun i wr => ∃ (k : Nat), k ≤ d.frames.length ∧ i = .int .i64 k ∧ Hid (∀ q (h : q < d.frames.length), q < k → FrOk fs d.frames[q] d.heap.length (decide ((q : Int) = (d.frames.length : Int) - 1))) ∧ wr.heap[w.heap.size]? = some (.cells #[.slice a1 nt c1, .slice a2 fs.length c2] 42 (0, 0)) ∧ wr.heap[w.heap.size + 1]? = some (.cells #[.slice fa d.frames.length fc, .slice ha d.heap.length hcp, .int .i64 d.made, .slice oa d.out.length oc, .int .i64 d.status, .int .i64 d.trap, .int .i64 d.value.k, .int .i64 d.value.n, .string d.value.s, .int .i64 d.steps] 38 (0, 0)) ∧ Below w.heap.size w wr) (fun i _ => d.frames.length - (intOf i).toNat)
            case atStart => exact ⟨0, by omega, rfl, fun _ _ h => absurd h (Nat.not_lt_zero _), hM, hV, hb⟩
            case round =>
              obtain ⟨k, hk, rfl, hal, hM, hV, hb⟩ := hrel
              by_cases hlt : k < d.frames.length
              · obtain ⟨b, off, la, lc, sa, sc, rfl, -, e1, e2, e3, e4, e5, e6⟩ := hm.frs k hlt
                have e1' := cell_later hb e1
                have e2' := cell_later hb e2
                have e3' := cell_later hb e3
                have e4' := cell_later hb e4
                clear e1 e2 e3 e4
                have hsl := hx.locals _ (List.getElem_mem hlt)
                have hss := hx.stack _ (List.getElem_mem hlt)
                have hS : ∀ w', Below wr.heap.size wr w' → w'.cell? ⟨w.heap.size, 0, none⟩ = some (.slice a1 nt c1) ∧ w'.cell? ⟨w.heap.size, 1, none⟩ = some (.slice a2 fs.length c2) ∧ w'.cell? ⟨w.heap.size + 1, 0, none⟩ = some (.slice (some ⟨b, off, none⟩) d.frames.length fc) ∧ w'.cell? ⟨b, off + k * 4, none⟩ = some (.int .i64 d.frames[k].fn) ∧ w'.cell? ⟨b, off + k * 4 + 1, none⟩ = some (.int .i64 d.frames[k].pc) ∧ w'.cell? ⟨b, off + k * 4 + 2, none⟩ = some (.slice la d.frames[k].locals.length lc) ∧ w'.cell? ⟨b, off + k * 4 + 3, none⟩ = some (.slice sa d.frames[k].stack.length sc) := fun w' hb =>
                  ⟨by rw [block_cell (block_kept hM hb)]; rfl, by rw [block_cell (block_kept hM hb)]; rfl, by rw [block_cell (block_kept hV hb)]; rfl, cell_later hb e1', cell_later hb e2', cell_later hb e3', cell_later hb e4'⟩
                have HS : Hid (∀ w', Below wr.heap.size wr w' → w'.cell? ⟨w.heap.size, 0, none⟩ = some (.slice a1 nt c1) ∧ w'.cell? ⟨w.heap.size, 1, none⟩ = some (.slice a2 fs.length c2) ∧ w'.cell? ⟨w.heap.size + 1, 0, none⟩ = some (.slice (some ⟨b, off, none⟩) d.frames.length fc) ∧ w'.cell? ⟨b, off + k * 4, none⟩ = some (.int .i64 d.frames[k].fn) ∧ w'.cell? ⟨b, off + k * 4 + 1, none⟩ = some (.int .i64 d.frames[k].pc) ∧ w'.cell? ⟨b, off + k * 4 + 2, none⟩ = some (.slice la d.frames[k].locals.length lc) ∧ w'.cell? ⟨b, off + k * 4 + 3, none⟩ = some (.slice sa d.frames[k].stack.length sc)) := hS
                obtain ⟨j0, j1, j2, j3, j4, j5, j6⟩ := hS wr (Below.refl _ _)
                have q : Below wr.heap.size wr wr.drew := (Below.refl _ _).drew
                have HB : Hid (Below w.heap.size w wr) := hb
                have HM : Hid (wr.heap[w.heap.size]? = some (.cells #[.slice a1 nt c1, .slice a2 fs.length c2] 42 (0, 0))) := hM
                have HV : Hid (wr.heap[w.heap.size + 1]? = some (.cells #[.slice (some ⟨b, off, none⟩) d.frames.length fc, .slice ha d.heap.length hcp, .int .i64 d.made, .slice oa d.out.length oc, .int .i64 d.status, .int .i64 d.trap, .int .i64 d.value.k, .int .i64 d.value.n, .string d.value.s, .int .i64 d.steps] 38 (0, 0))) := hV
                clear hS hb hM hV e1' e2' e3' e4'
                by_cases ho : FrOk fs d.frames[k] d.heap.length (decide ((k : Int) = (d.frames.length : Int) - 1))
                · have HO : Hid (FrOk fs d.frames[k] d.heap.length (decide ((k : Int) = (d.frames.length : Int) - 1))) := ho
                  have hp : pB (FrOk fs d.frames[k] d.heap.length ((k : Int) == IntKind.i64.wrap ((d.frames.length : Int) - 1))) = true := by rw [show IntKind.i64.wrap ((d.frames.length : Int) - 1) = (d.frames.length : Int) - 1 by rw [IntKind.wrap_i64]; omega]; exact pB_yes ho
                  have hpn : (!pB (FrOk fs d.frames[k] d.heap.length ((k : Int) == IntKind.i64.wrap ((d.frames.length : Int) - 1)))) = false := by rw [hp]; rfl
                  clear ho
                  go_wp2
                  go_region_held3 (fun w' => w'.cell? ⟨w.heap.size, 0, none⟩ = some (.slice a1 nt c1) ∧ w'.cell? ⟨w.heap.size, 1, none⟩ = some (.slice a2 fs.length c2) ∧ w'.cell? ⟨w.heap.size + 1, 0, none⟩ = some (.slice (some ⟨b, off, none⟩) d.frames.length fc) ∧ w'.cell? ⟨b, off + k * 4, none⟩ = some (.int .i64 d.frames[k].fn) ∧ w'.cell? ⟨b, off + k * 4 + 1, none⟩ = some (.int .i64 d.frames[k].pc) ∧ w'.cell? ⟨b, off + k * 4 + 2, none⟩ = some (.slice la d.frames[k].locals.length lc) ∧ w'.cell? ⟨b, off + k * 4 + 3, none⟩ = some (.slice sa d.frames[k].stack.length sc))
                    (first | exact ⟨j0, j1, j2, j3, j4, j5, j6⟩ | exact HS.out _ q)
                    (first
                      | (go_at_call 84; refine (frameOk_any _ _ _ _ _ _ _ _ _ fs d.frames[k] _ _ _ hn (by exact hmf.mono (HB.out.trans (q.mono HB.out.size))) FF hsl hss (by exact e5.mono (HB.out.trans (q.mono HB.out.size))) (by exact e6.mono (HB.out.trans (q.mono HB.out.size)))).mono ?_; rintro e w5 ⟨hsay, kd⟩; obtain rfl := hsay.eq; clear hsay; have q := q.trans (kd.mono q.size)))
                  have hM5 := block_kept HM.out q
                  have hV5 := block_kept HV.out q
                  have hB5 := HB.out.trans (q.mono HB.out.size)
                  clear HM HV HB HS j0 j1 j2 j3 j4 j5 j6 q kd
                  go_wp2
                  go_roundw
                  case rel => exact ⟨k + 1, by omega, by go_num, fun q hq hqk => (by
                    by_cases e : q = k
                    · subst e; exact HO.out
                    · exact hal.out q hq (by omega)), hM5, hV5, hB5⟩
                  case measure => simp [intOf]; omega
                · have HO : Hid (¬ FrOk fs d.frames[k] d.heap.length (decide ((k : Int) = (d.frames.length : Int) - 1))) := ho
                  have hp : pB (FrOk fs d.frames[k] d.heap.length ((k : Int) == IntKind.i64.wrap ((d.frames.length : Int) - 1))) = false := by rw [show IntKind.i64.wrap ((d.frames.length : Int) - 1) = (d.frames.length : Int) - 1 by rw [IntKind.wrap_i64]; omega]; exact pB_no ho
                  have hpn : (!pB (FrOk fs d.frames[k] d.heap.length ((k : Int) == IntKind.i64.wrap ((d.frames.length : Int) - 1)))) = true := by rw [hp]; rfl
                  clear ho
                  go_wp2
                  go_region_held3 (fun w' => w'.cell? ⟨w.heap.size, 0, none⟩ = some (.slice a1 nt c1) ∧ w'.cell? ⟨w.heap.size, 1, none⟩ = some (.slice a2 fs.length c2) ∧ w'.cell? ⟨w.heap.size + 1, 0, none⟩ = some (.slice (some ⟨b, off, none⟩) d.frames.length fc) ∧ w'.cell? ⟨b, off + k * 4, none⟩ = some (.int .i64 d.frames[k].fn) ∧ w'.cell? ⟨b, off + k * 4 + 1, none⟩ = some (.int .i64 d.frames[k].pc) ∧ w'.cell? ⟨b, off + k * 4 + 2, none⟩ = some (.slice la d.frames[k].locals.length lc) ∧ w'.cell? ⟨b, off + k * 4 + 3, none⟩ = some (.slice sa d.frames[k].stack.length sc))
                    (first | exact ⟨j0, j1, j2, j3, j4, j5, j6⟩ | exact HS.out _ q)
                    (first
                      | (go_at_call 84; refine (frameOk_any _ _ _ _ _ _ _ _ _ fs d.frames[k] _ _ _ hn (by exact hmf.mono (HB.out.trans (q.mono HB.out.size))) FF hsl hss (by exact e5.mono (HB.out.trans (q.mono HB.out.size))) (by exact e6.mono (HB.out.trans (q.mono HB.out.size)))).mono ?_; rintro e w5 ⟨hsay, kd⟩; obtain rfl := hsay.eq; clear hsay; have q := q.trans (kd.mono q.size)))
                  have hM5 := block_kept HM.out q
                  have hV5 := block_kept HV.out q
                  have hB5 := HB.out.trans (q.mono HB.out.size)
                  clear HM HV HB HS j0 j1 j2 j3 j4 j5 j6 q kd
                  go_wp2
                  go_ret
                  exact ⟨Says.no rfl (fun h => HO.out (by
                    have h1 := (HFR.out h.2.1).2.2.2.2 k hlt
                    have h2 := List.all_eq_true.1 h.2.2.1 _ (List.getElem_mem hlt)
                    unfold frVals at h2
                    rw [Bool.and_eq_true] at h2
                    exact ⟨h1, h2.1, h2.2⟩)), hB5⟩
              · have v1 := block_cell hV
                go_wp2
                go_ret
                have hfr : ∀ i (hi : i < d.frames.length), FrOk fs d.frames[i] d.heap.length (decide ((i : Int) = (d.frames.length : Int) - 1)) := fun i hi => hal.out i hi (by omega)
                refine ⟨Says.yes rfl ⟨HR.out, .inr ⟨HRUN.out, H6.out.1, H6.out.2, HZ.out, fun i hi => (hfr i hi).1⟩, ?_, HG.out, H5.out⟩, hb⟩
                rw [List.all_eq_true]
                intro x hxm
                obtain ⟨i, hi, rfl⟩ := List.getElem_of_mem hxm
                unfold frVals
                rw [(hfr i hi).2.1, (hfr i hi).2.2]
                rfl
          · have b7 : (decide (1 ≤ d.trap) && decide (d.trap ≤ 8)) = true := by simp; omega
            rw [s0] at v1
            clear s0
            go_wp2_with (first | (go_at_call 80; refine (between_any _ _ _ _).mono ?_; rintro e w' ⟨rfl, hw⟩; rw [hw]; (first | rw [b2] | rw [b4] | rw [b6] | rw [b7]); clear hw w'))
            clear v1
            go_loopw [8] (fun i wr => ∃ (k : Nat), k ≤ d.frames.length ∧ i = .int .i64 k ∧ Hid (∀ q (h : q < d.frames.length), q < k → FrOk fs d.frames[q] d.heap.length (decide ((q : Int) = (d.frames.length : Int) - 1))) ∧ wr.heap[w.heap.size]? = some (.cells #[.slice a1 nt c1, .slice a2 fs.length c2] 42 (0, 0)) ∧ wr.heap[w.heap.size + 1]? = some (.cells #[.slice fa d.frames.length fc, .slice ha d.heap.length hcp, .int .i64 d.made, .slice oa d.out.length oc, .int .i64 d.status, .int .i64 d.trap, .int .i64 d.value.k, .int .i64 d.value.n, .string d.value.s, .int .i64 d.steps] 38 (0, 0)) ∧ Below w.heap.size w wr) (fun i _ => d.frames.length - (intOf i).toNat)
            case atStart => exact ⟨0, by omega, rfl, fun _ _ h => absurd h (Nat.not_lt_zero _), hM, hV, hb⟩
            case round =>
              obtain ⟨k, hk, rfl, hal, hM, hV, hb⟩ := hrel
              by_cases hlt : k < d.frames.length
              · obtain ⟨b, off, la, lc, sa, sc, rfl, -, e1, e2, e3, e4, e5, e6⟩ := hm.frs k hlt
                have e1' := cell_later hb e1
                have e2' := cell_later hb e2
                have e3' := cell_later hb e3
                have e4' := cell_later hb e4
                clear e1 e2 e3 e4
                have hsl := hx.locals _ (List.getElem_mem hlt)
                have hss := hx.stack _ (List.getElem_mem hlt)
                have hS : ∀ w', Below wr.heap.size wr w' → w'.cell? ⟨w.heap.size, 0, none⟩ = some (.slice a1 nt c1) ∧ w'.cell? ⟨w.heap.size, 1, none⟩ = some (.slice a2 fs.length c2) ∧ w'.cell? ⟨w.heap.size + 1, 0, none⟩ = some (.slice (some ⟨b, off, none⟩) d.frames.length fc) ∧ w'.cell? ⟨b, off + k * 4, none⟩ = some (.int .i64 d.frames[k].fn) ∧ w'.cell? ⟨b, off + k * 4 + 1, none⟩ = some (.int .i64 d.frames[k].pc) ∧ w'.cell? ⟨b, off + k * 4 + 2, none⟩ = some (.slice la d.frames[k].locals.length lc) ∧ w'.cell? ⟨b, off + k * 4 + 3, none⟩ = some (.slice sa d.frames[k].stack.length sc) := fun w' hb =>
                  ⟨by rw [block_cell (block_kept hM hb)]; rfl, by rw [block_cell (block_kept hM hb)]; rfl, by rw [block_cell (block_kept hV hb)]; rfl, cell_later hb e1', cell_later hb e2', cell_later hb e3', cell_later hb e4'⟩
                have HS : Hid (∀ w', Below wr.heap.size wr w' → w'.cell? ⟨w.heap.size, 0, none⟩ = some (.slice a1 nt c1) ∧ w'.cell? ⟨w.heap.size, 1, none⟩ = some (.slice a2 fs.length c2) ∧ w'.cell? ⟨w.heap.size + 1, 0, none⟩ = some (.slice (some ⟨b, off, none⟩) d.frames.length fc) ∧ w'.cell? ⟨b, off + k * 4, none⟩ = some (.int .i64 d.frames[k].fn) ∧ w'.cell? ⟨b, off + k * 4 + 1, none⟩ = some (.int .i64 d.frames[k].pc) ∧ w'.cell? ⟨b, off + k * 4 + 2, none⟩ = some (.slice la d.frames[k].locals.length lc) ∧ w'.cell? ⟨b, off + k * 4 + 3, none⟩ = some (.slice sa d.frames[k].stack.length sc)) := hS
                obtain ⟨j0, j1, j2, j3, j4, j5, j6⟩ := hS wr (Below.refl _ _)
                have q : Below wr.heap.size wr wr.drew := (Below.refl _ _).drew
                have HB : Hid (Below w.heap.size w wr) := hb
                have HM : Hid (wr.heap[w.heap.size]? = some (.cells #[.slice a1 nt c1, .slice a2 fs.length c2] 42 (0, 0))) := hM
                have HV : Hid (wr.heap[w.heap.size + 1]? = some (.cells #[.slice (some ⟨b, off, none⟩) d.frames.length fc, .slice ha d.heap.length hcp, .int .i64 d.made, .slice oa d.out.length oc, .int .i64 d.status, .int .i64 d.trap, .int .i64 d.value.k, .int .i64 d.value.n, .string d.value.s, .int .i64 d.steps] 38 (0, 0))) := hV
                clear hS hb hM hV e1' e2' e3' e4'
                by_cases ho : FrOk fs d.frames[k] d.heap.length (decide ((k : Int) = (d.frames.length : Int) - 1))
                · have HO : Hid (FrOk fs d.frames[k] d.heap.length (decide ((k : Int) = (d.frames.length : Int) - 1))) := ho
                  have hp : pB (FrOk fs d.frames[k] d.heap.length ((k : Int) == IntKind.i64.wrap ((d.frames.length : Int) - 1))) = true := by rw [show IntKind.i64.wrap ((d.frames.length : Int) - 1) = (d.frames.length : Int) - 1 by rw [IntKind.wrap_i64]; omega]; exact pB_yes ho
                  have hpn : (!pB (FrOk fs d.frames[k] d.heap.length ((k : Int) == IntKind.i64.wrap ((d.frames.length : Int) - 1)))) = false := by rw [hp]; rfl
                  clear ho
                  go_wp2
                  go_region_held3 (fun w' => w'.cell? ⟨w.heap.size, 0, none⟩ = some (.slice a1 nt c1) ∧ w'.cell? ⟨w.heap.size, 1, none⟩ = some (.slice a2 fs.length c2) ∧ w'.cell? ⟨w.heap.size + 1, 0, none⟩ = some (.slice (some ⟨b, off, none⟩) d.frames.length fc) ∧ w'.cell? ⟨b, off + k * 4, none⟩ = some (.int .i64 d.frames[k].fn) ∧ w'.cell? ⟨b, off + k * 4 + 1, none⟩ = some (.int .i64 d.frames[k].pc) ∧ w'.cell? ⟨b, off + k * 4 + 2, none⟩ = some (.slice la d.frames[k].locals.length lc) ∧ w'.cell? ⟨b, off + k * 4 + 3, none⟩ = some (.slice sa d.frames[k].stack.length sc))
                    (first | exact ⟨j0, j1, j2, j3, j4, j5, j6⟩ | exact HS.out _ q)
                    (first
                      | (go_at_call 84; refine (frameOk_any _ _ _ _ _ _ _ _ _ fs d.frames[k] _ _ _ hn (by exact hmf.mono (HB.out.trans (q.mono HB.out.size))) FF hsl hss (by exact e5.mono (HB.out.trans (q.mono HB.out.size))) (by exact e6.mono (HB.out.trans (q.mono HB.out.size)))).mono ?_; rintro e w5 ⟨hsay, kd⟩; obtain rfl := hsay.eq; clear hsay; have q := q.trans (kd.mono q.size)))
                  have hM5 := block_kept HM.out q
                  have hV5 := block_kept HV.out q
                  have hB5 := HB.out.trans (q.mono HB.out.size)
                  clear HM HV HB HS j0 j1 j2 j3 j4 j5 j6 q kd
                  go_wp2
                  go_roundw
                  case rel => exact ⟨k + 1, by omega, by go_num, fun q hq hqk => (by
                    by_cases e : q = k
                    · subst e; exact HO.out
                    · exact hal.out q hq (by omega)), hM5, hV5, hB5⟩
                  case measure => simp [intOf]; omega
                · have HO : Hid (¬ FrOk fs d.frames[k] d.heap.length (decide ((k : Int) = (d.frames.length : Int) - 1))) := ho
                  have hp : pB (FrOk fs d.frames[k] d.heap.length ((k : Int) == IntKind.i64.wrap ((d.frames.length : Int) - 1))) = false := by rw [show IntKind.i64.wrap ((d.frames.length : Int) - 1) = (d.frames.length : Int) - 1 by rw [IntKind.wrap_i64]; omega]; exact pB_no ho
                  have hpn : (!pB (FrOk fs d.frames[k] d.heap.length ((k : Int) == IntKind.i64.wrap ((d.frames.length : Int) - 1)))) = true := by rw [hp]; rfl
                  clear ho
                  go_wp2
                  go_region_held3 (fun w' => w'.cell? ⟨w.heap.size, 0, none⟩ = some (.slice a1 nt c1) ∧ w'.cell? ⟨w.heap.size, 1, none⟩ = some (.slice a2 fs.length c2) ∧ w'.cell? ⟨w.heap.size + 1, 0, none⟩ = some (.slice (some ⟨b, off, none⟩) d.frames.length fc) ∧ w'.cell? ⟨b, off + k * 4, none⟩ = some (.int .i64 d.frames[k].fn) ∧ w'.cell? ⟨b, off + k * 4 + 1, none⟩ = some (.int .i64 d.frames[k].pc) ∧ w'.cell? ⟨b, off + k * 4 + 2, none⟩ = some (.slice la d.frames[k].locals.length lc) ∧ w'.cell? ⟨b, off + k * 4 + 3, none⟩ = some (.slice sa d.frames[k].stack.length sc))
                    (first | exact ⟨j0, j1, j2, j3, j4, j5, j6⟩ | exact HS.out _ q)
                    (first
                      | (go_at_call 84; refine (frameOk_any _ _ _ _ _ _ _ _ _ fs d.frames[k] _ _ _ hn (by exact hmf.mono (HB.out.trans (q.mono HB.out.size))) FF hsl hss (by exact e5.mono (HB.out.trans (q.mono HB.out.size))) (by exact e6.mono (HB.out.trans (q.mono HB.out.size)))).mono ?_; rintro e w5 ⟨hsay, kd⟩; obtain rfl := hsay.eq; clear hsay; have q := q.trans (kd.mono q.size)))
                  have hM5 := block_kept HM.out q
                  have hV5 := block_kept HV.out q
                  have hB5 := HB.out.trans (q.mono HB.out.size)
                  clear HM HV HB HS j0 j1 j2 j3 j4 j5 j6 q kd
                  go_wp2
                  go_ret
                  exact ⟨Says.no rfl (fun h => HO.out (by
                    have h1 := (HFR.out h.2.1).2.2.2.2 k hlt
                    have h2 := List.all_eq_true.1 h.2.2.1 _ (List.getElem_mem hlt)
                    unfold frVals at h2
                    rw [Bool.and_eq_true] at h2
                    exact ⟨h1, h2.1, h2.2⟩)), hB5⟩
              · have v1 := block_cell hV
                go_wp2
                go_ret
                have hfr : ∀ i (hi : i < d.frames.length), FrOk fs d.frames[i] d.heap.length (decide ((i : Int) = (d.frames.length : Int) - 1)) := fun i hi => hal.out i hi (by omega)
                refine ⟨Says.yes rfl ⟨HR.out, .inr ⟨HRUN.out, H6.out.1, H6.out.2, HZ.out, fun i hi => (hfr i hi).1⟩, ?_, HG.out, H5.out⟩, hb⟩
                rw [List.all_eq_true]
                intro x hxm
                obtain ⟨i, hi, rfl⟩ := List.getElem_of_mem hxm
                unfold frVals
                rw [(hfr i hi).2.1, (hfr i hi).2.2]
                rfl
end Go.Proofs.YtcebgbcgkkfedaaGreat

namespace Go.Proofs.YtcebgbcgkkfedaaGreat
open Go.RowKit

set_option maxRecDepth 100000 in
set_option maxHeartbeats 2000000 in
theorem roomOk_any (fa ha oa : Option Addr) (fc hcp oc : Nat) (d : VmD) (w : World) (hx : VmSmall d) (hm : VmAt w 0 fa ha oa d) :
    Calls Tryz.prog 57 #[.agg (vmCells fa ha oa fc hcp oc d)] w fun e w' => Says (Room d) e ∧ Below w.heap.size w w' := by
  have hbA : Below w.heap.size w (w.alloc (.cells #[.slice fa d.frames.length fc, .slice ha d.heap.length hcp, .int .i64 d.made, .slice oa d.out.length oc, .int .i64 d.status, .int .i64 d.trap, .int .i64 d.value.k, .int .i64 d.value.n, .string d.value.s, .int .i64 d.steps] 38)) := (Below.refl _ _).alloc (Nat.le_refl _) _
  have hV0 := block_new w #[.slice fa d.frames.length fc, .slice ha d.heap.length hcp, .int .i64 d.made, .slice oa d.out.length oc, .int .i64 d.status, .int .i64 d.trap, .int .i64 d.value.k, .int .i64 d.value.n, .string d.value.s, .int .i64 d.steps] 38
  have hhl := hx.heap
  have hol := hx.out
  unfold vmCells
  by_cases h1 : d.made < (d.heap.length : Int)
  · go_enter Tryz.func57, Tryz.ntmps57
    go_wp2
    go_ret
    exact ⟨Says.no rfl (fun h => by have := h.1; omega), hbA⟩
  by_cases h2 : 120 < d.made
  · go_enter Tryz.func57, Tryz.ntmps57
    go_wp2
    go_ret
    exact ⟨Says.no rfl (fun h => by have := h.2.1; omega), hbA⟩
  go_enter Tryz.func57, Tryz.ntmps57
  go_wp2
  go_loopw [19] (fun i wr => ∃ (k : Nat), k ≤ d.heap.length ∧ i = .int .i64 k ∧ Hid ((d.heap.take k).all fewB = true) ∧ wr.heap[w.heap.size]? = some (.cells #[.slice fa d.frames.length fc, .slice ha d.heap.length hcp, .int .i64 d.made, .slice oa d.out.length oc, .int .i64 d.status, .int .i64 d.trap, .int .i64 d.value.k, .int .i64 d.value.n, .string d.value.s, .int .i64 d.steps] 38 (0, 0)) ∧ Below w.heap.size w wr) (fun i _ => d.heap.length - (intOf i).toNat)
  case atStart => exact ⟨0, by omega, rfl, rfl, hV0, hbA⟩
  case round =>
    obtain ⟨k, hk, rfl, hall, hV, hb⟩ := hrel
    clear hV0 hbA
    by_cases hlt : k < d.heap.length
    · obtain ⟨b, off, ca, cc, rfl, -, e1, e2⟩ := hm.recs k hlt
      have e1' := cell_later hb e1
      clear e1 e2
      have hkl := (hx.fields _ (List.getElem_mem hlt)).1
      have hVn := block_old hV (.cells #[.slice ca d.heap[k].length cc] 94)
      by_cases ho : 6 < d.heap[k].length
      · have HO : Hid (6 < d.heap[k].length) := ho
        have hoI : (6 : Int) < (d.heap[k].length : Int) := by omega
        go_wp2
        go_ret
        exact ⟨Says.no rfl (fun h => by
          have h3 := h.2.2.1
          rw [all_no hlt (show fewB d.heap[k] = false by simpa [fewB] using HO.out)] at h3
          cases h3), hb.alloc hb.size _⟩
      · have HO : Hid (¬ 6 < d.heap[k].length) := ho
        have hoI : ¬ (6 : Int) < (d.heap[k].length : Int) := by omega
        go_wp2
        go_roundw
        case rel => exact ⟨k + 1, by omega, by go_num, all_take hlt hall.out (by have := HO.out; simpa [fewB] using this), hVn, hb.alloc hb.size _⟩
        case measure => simp [intOf]; omega
    · have HF : Hid (d.heap.all fewB = true) := all_end (by omega) hall.out
      have v1 := block_cell hV
      have H1 : Hid ((d.heap.length : Int) ≤ d.made) := by show (d.heap.length : Int) ≤ d.made; omega
      have H2 : Hid (d.made ≤ 120) := by show d.made ≤ 120; omega
      by_cases h3 : 200 < d.out.length
      · have h3I : (200 : Int) < (d.out.length : Int) := by omega
        go_wp2
        go_ret
        exact ⟨Says.no rfl (fun h => by have := h.2.2.2.1; omega), hb⟩
      have h3I : ¬ (200 : Int) < (d.out.length : Int) := by omega
      by_cases h4 : d.steps < 0
      · go_wp2
        go_ret
        exact ⟨Says.no rfl (fun h => by have := h.2.2.2.2.1; omega), hb⟩
      by_cases h5 : 50000 < d.steps
      · go_wp2
        go_ret
        exact ⟨Says.no rfl (fun h => by have := h.2.2.2.2.2.1; omega), hb⟩
      go_wp2_with fail
      refine (hasBadT_any _ d.out _ _ hx.out hx.text (hm.out.mono hb)).mono ?_
      rintro e w1 ⟨rfl, hb1⟩
      clear v1
      go_wp2
      go_ret
      refine ⟨⟨_, rfl, ?_⟩, hb.trans (hb1.mono hb.size)⟩
      constructor
      · intro h
        exact ⟨H1.out, H2.out, HF.out, by omega, by omega, by omega, by simpa using h⟩
      · intro h
        simpa using h.2.2.2.2.2.2
end Go.Proofs.YtcebgbcgkkfedaaGreat
namespace Go.Proofs.YtcebgbcgkkfedaaGreat
open Go.RowKit

set_option maxRecDepth 100000 in
set_option maxHeartbeats 4000000 in
theorem valuesOk_any (a1 a2 : Option Addr) (nt c1 nf c2 : Nat) (fa ha oa : Option Addr) (fc hcp oc : Nat) (d : VmD) (w : World) (hx : VmSmall d) (hm : VmAt w 0 fa ha oa d) :
    Calls Tryz.prog 59 #[.agg #[.slice a1 nt c1, .slice a2 nf c2], .agg (vmCells fa ha oa fc hcp oc d)] w fun e w' => Says (Vals nf d) e ∧ Below w.heap.size w w' := by
  have hbA : Below w.heap.size w ((w.alloc (.cells #[.slice a1 nt c1, .slice a2 nf c2] 42)).alloc (.cells #[.slice fa d.frames.length fc, .slice ha d.heap.length hcp, .int .i64 d.made, .slice oa d.out.length oc, .int .i64 d.status, .int .i64 d.trap, .int .i64 d.value.k, .int .i64 d.value.n, .string d.value.s, .int .i64 d.steps] 38)) := ((Below.refl _ _).alloc (Nat.le_refl _) _).alloc (by simp) _
  have hM0 := block_old (block_new w #[.slice a1 nt c1, .slice a2 nf c2] 42) (.cells #[.slice fa d.frames.length fc, .slice ha d.heap.length hcp, .int .i64 d.made, .slice oa d.out.length oc, .int .i64 d.status, .int .i64 d.trap, .int .i64 d.value.k, .int .i64 d.value.n, .string d.value.s, .int .i64 d.steps] 38)
  have hV0 := block_new_at (w.alloc (.cells #[.slice a1 nt c1, .slice a2 nf c2] 42)) #[.slice fa d.frames.length fc, .slice ha d.heap.length hcp, .int .i64 d.made, .slice oa d.out.length oc, .int .i64 d.status, .int .i64 d.trap, .int .i64 d.value.k, .int .i64 d.value.n, .string d.value.s, .int .i64 d.steps] 38 (w.heap.size + 1) (by simp)
  have hhl := hx.heap
  have hfl := hx.frames
  unfold vmCells
  go_enter Tryz.func59, Tryz.ntmps59
  go_wp2
  go_loopw [16] (fun i wr => ∃ (k : Nat), k ≤ d.frames.length ∧ i = .int .i64 k ∧ Hid ((d.frames.take k).all (frVals nf d.heap.length) = true) ∧ wr.heap[w.heap.size]? = some (.cells #[.slice a1 nt c1, .slice a2 nf c2] 42 (0, 0)) ∧ wr.heap[w.heap.size + 1]? = some (.cells #[.slice fa d.frames.length fc, .slice ha d.heap.length hcp, .int .i64 d.made, .slice oa d.out.length oc, .int .i64 d.status, .int .i64 d.trap, .int .i64 d.value.k, .int .i64 d.value.n, .string d.value.s, .int .i64 d.steps] 38 (0, 0)) ∧ Below w.heap.size w wr) (fun i _ => d.frames.length - (intOf i).toNat)
  case atStart => exact ⟨0, by omega, rfl, rfl, hM0, hV0, hbA⟩
  case round =>
    obtain ⟨k, hk, rfl, hall, hM, hV, hb⟩ := hrel
    clear hV0 hbA hM0
    by_cases hlt : k < d.frames.length
    · obtain ⟨b, off, la, lc, sa, sc, rfl, -, e1, e2, e3, e4, e5, e6⟩ := hm.frs k hlt
      have e1' := cell_later hb e1
      have e2' := cell_later hb e2
      have e3' := cell_later hb e3
      have e4' := cell_later hb e4
      clear e1 e2 e3 e4
      have hsl := hx.locals _ (List.getElem_mem hlt)
      have hss := hx.stack _ (List.getElem_mem hlt)
      have hMn := block_old hM (.cells #[.int .i64 d.frames[k].fn, .int .i64 d.frames[k].pc, .slice la d.frames[k].locals.length lc, .slice sa d.frames[k].stack.length sc] 90)
      have hVn := block_old hV (.cells #[.int .i64 d.frames[k].fn, .int .i64 d.frames[k].pc, .slice la d.frames[k].locals.length lc, .slice sa d.frames[k].stack.length sc] 90)
      have hXn := block_new wr #[.int .i64 d.frames[k].fn, .int .i64 d.frames[k].pc, .slice la d.frames[k].locals.length lc, .slice sa d.frames[k].stack.length sc] 90
      have hBn := hb.alloc hb.size (.cells #[.int .i64 d.frames[k].fn, .int .i64 d.frames[k].pc, .slice la d.frames[k].locals.length lc, .slice sa d.frames[k].stack.length sc] 90)
      have m1 := block_cell hMn
      go_wp2_with fail
      refine (allIn_any _ _ _ _ _ _ _ _ _ _ _ hsl (e5.mono hBn)).mono ?_
      rintro e w1 ⟨rfl, hb1⟩
      have hM1 := block_kept hMn hb1
      have hV1 := block_kept hVn hb1
      have hX1 := block_kept hXn hb1
      have hB1 := hBn.trans (hb1.mono hBn.size)
      clear e1' e2' e3' e4' hMn hVn hXn hBn m1 hb1 hM hV hb
      by_cases ho : valsB d.frames[k].locals nf d.heap.length = true
      case neg =>
        have ho' : valsB d.frames[k].locals nf d.heap.length = false := by simpa using ho
        have HO : Hid (valsB d.frames[k].locals nf d.heap.length = false) := ho'
        clear ho
        go_wp2
        go_ret
        exact ⟨Says.no rfl (fun h => by
          have h1 := h.1
          rw [all_no hlt (show frVals nf d.heap.length d.frames[k] = false by unfold frVals; rw [HO.out]; rfl)] at h1
          cases h1), hB1⟩
      have HO : Hid (valsB d.frames[k].locals nf d.heap.length = true) := ho
      have m1 := block_cell hM1
      have x1 := block_cell hX1
      go_wp2_with fail
      refine (allIn_any _ _ _ _ _ _ _ _ _ _ _ hss (e6.mono hB1)).mono ?_
      rintro e w2 ⟨rfl, hb2⟩
      have hM2 := block_kept hM1 hb2
      have hV2 := block_kept hV1 hb2
      have hB2 := hB1.trans (hb2.mono hB1.size)
      clear m1 x1 hM1 hV1 hX1 hB1 hb2 ho
      by_cases hu : valsB d.frames[k].stack nf d.heap.length = true
      · have HU : Hid (valsB d.frames[k].stack nf d.heap.length = true) := hu
        go_wp2
        go_roundw
        case rel => exact ⟨k + 1, by omega, by go_num, all_take hlt hall.out (by unfold frVals; rw [HO.out, HU.out]; rfl), hM2, hV2, hB2⟩
        case measure => simp [intOf]; omega
      · have hu' : valsB d.frames[k].stack nf d.heap.length = false := by simpa using hu
        have HU : Hid (valsB d.frames[k].stack nf d.heap.length = false) := hu'
        clear hu
        go_wp2
        go_ret
        exact ⟨Says.no rfl (fun h => by
          have h1 := h.1
          rw [all_no hlt (show frVals nf d.heap.length d.frames[k] = false by unfold frVals; rw [HU.out, Bool.and_false])] at h1
          cases h1), hB2⟩
    · have HF : Hid (d.frames.all (frVals nf d.heap.length) = true) := all_end (by omega) hall.out
      have v1 := block_cell hV
      obtain ⟨wq, rfl⟩ : ∃ wq, wq = wr := ⟨_, rfl⟩
      go_wp2
      clear v1
      go_loopw [38] (fun i wr => ∃ (k : Nat), k ≤ d.heap.length ∧ i = .int .i64 k ∧ Hid ((d.heap.take k).all (reVals nf d.heap.length) = true) ∧ wr.heap[w.heap.size]? = some (.cells #[.slice a1 nt c1, .slice a2 nf c2] 42 (0, 0)) ∧ wr.heap[w.heap.size + 1]? = some (.cells #[.slice fa d.frames.length fc, .slice ha d.heap.length hcp, .int .i64 d.made, .slice oa d.out.length oc, .int .i64 d.status, .int .i64 d.trap, .int .i64 d.value.k, .int .i64 d.value.n, .string d.value.s, .int .i64 d.steps] 38 (0, 0)) ∧ Below w.heap.size w wr) (fun i _ => d.heap.length - (intOf i).toNat)
      case atStart => exact ⟨0, by omega, rfl, rfl, hM, hV, hb⟩
      case round =>
        obtain ⟨k, hk, rfl, hall, hM, hV, hb⟩ := hrel
        by_cases hlt : k < d.heap.length
        · obtain ⟨b, off, ca, cc, rfl, -, e1, e2⟩ := hm.recs k hlt
          have e1' := cell_later hb e1
          clear e1
          have hsf := hx.fields _ (List.getElem_mem hlt)
          have hMn := block_old hM (.cells #[.slice ca d.heap[k].length cc] 94)
          have hVn := block_old hV (.cells #[.slice ca d.heap[k].length cc] 94)
          have hBn := hb.alloc hb.size (.cells #[.slice ca d.heap[k].length cc] 94)
          have m1 := block_cell hMn
          go_wp2_with fail
          refine (allIn_any _ _ _ _ _ _ _ _ _ _ _ hsf (e2.mono hBn)).mono ?_
          rintro e w1 ⟨rfl, hb1⟩
          have hM1 := block_kept hMn hb1
          have hV1 := block_kept hVn hb1
          have hB1 := hBn.trans (hb1.mono hBn.size)
          clear e1' hMn hVn hBn m1 hb1 hM hV hb
          by_cases ho : valsB d.heap[k] nf d.heap.length = true
          · have HO : Hid (valsB d.heap[k] nf d.heap.length = true) := ho
            go_wp2
            go_roundw
            case rel => exact ⟨k + 1, by omega, by go_num, all_take hlt hall.out HO.out, hM1, hV1, hB1⟩
            case measure => simp [intOf]; omega
          · have ho' : valsB d.heap[k] nf d.heap.length = false := by simpa using ho
            have HO : Hid (valsB d.heap[k] nf d.heap.length = false) := ho'
            clear ho
            go_wp2
            go_ret
            exact ⟨Says.no rfl (fun h => by
              have h1 := h.2.1
              rw [all_no hlt (show reVals nf d.heap.length d.heap[k] = false from HO.out)] at h1
              cases h1), hB1⟩
        · have HG : Hid (d.heap.all (reVals nf d.heap.length) = true) := all_end (by omega) hall.out
          have v2 := block_cell hV
          have m2 := block_cell hM
          go_wp2_with fail
          refine (iIn_any _ _ _ _ _ _ _ _ _ _ _ hx.value).mono ?_
          rintro e w1 ⟨rfl, hb1⟩
          clear v2 m2
          go_wp2
          go_ret
          exact ⟨⟨_, rfl, ⟨fun h => ⟨HF.out, HG.out, h⟩, fun h => h.2.2⟩⟩, hb.trans (hb1.mono hb.size)⟩
end Go.Proofs.YtcebgbcgkkfedaaGreat

namespace Go.Proofs.YtcebgbcgkkfedaaGreat
open Go.RowKit

section
variable {fs : List Fn} {code : List (Int × Int)} {d : List Int} {pc : Nat} {z t l : Int}

theorem trouble_none (hk : pc < code.length) (hz : d.getD pc (-1) = z) (h : z < 0) : troubleB fs code d pc = 0 := by
  unfold troubleB
  simp only [getD_code hk, hz]
  rw [if_pos h]
theorem trouble_stack (hk : pc < code.length) (hz : d.getD pc (-1) = z) (ht : (usesB fs code[pc].1 code[pc].2).1 = t) (hl : (usesB fs code[pc].1 code[pc].2).2 = l) (h : ¬ z < 0) (hc : z < t ∨ 16 < z - t + l) : troubleB fs code d pc = 2 := by
  unfold troubleB
  simp only [getD_code hk, hz, ht, hl]
  rw [if_neg h, if_pos hc]
theorem trouble_end (hk : pc < code.length) (hz : d.getD pc (-1) = z) (ht : (usesB fs code[pc].1 code[pc].2).1 = t) (hl : (usesB fs code[pc].1 code[pc].2).2 = l) (h : ¬ z < 0) (hc : ¬ (z < t ∨ 16 < z - t + l))
    (hn : (nextB code[pc].1 code[pc].2 pc).any (fun nx => decide ((code.length : Int) ≤ nx)) = true) : troubleB fs code d pc = 3 := by
  unfold troubleB
  simp only [getD_code hk, hz, ht, hl]
  rw [if_neg h, if_neg hc, if_pos hn]
theorem trouble_join (hk : pc < code.length) (hz : d.getD pc (-1) = z) (ht : (usesB fs code[pc].1 code[pc].2).1 = t) (hl : (usesB fs code[pc].1 code[pc].2).2 = l) (h : ¬ z < 0) (hc : ¬ (z < t ∨ 16 < z - t + l))
    (hn : (nextB code[pc].1 code[pc].2 pc).any (fun nx => decide ((code.length : Int) ≤ nx)) = false) (hj : (nextB code[pc].1 code[pc].2 pc).any (fun nx => decide (d.getD nx.toNat (-1) ≠ z - t + l)) = true) : troubleB fs code d pc = 4 := by
  unfold troubleB
  simp only [getD_code hk, hz, ht, hl]
  rw [if_neg h, if_neg hc, if_neg (by rw [hn]; simp), if_pos hj]
theorem trouble_fine (hk : pc < code.length) (hz : d.getD pc (-1) = z) (ht : (usesB fs code[pc].1 code[pc].2).1 = t) (hl : (usesB fs code[pc].1 code[pc].2).2 = l) (h : ¬ z < 0) (hc : ¬ (z < t ∨ 16 < z - t + l))
    (hn : (nextB code[pc].1 code[pc].2 pc).any (fun nx => decide ((code.length : Int) ≤ nx)) = false) (hj : (nextB code[pc].1 code[pc].2 pc).any (fun nx => decide (d.getD nx.toNat (-1) ≠ z - t + l)) = false) : troubleB fs code d pc = 0 := by
  unfold troubleB
  simp only [getD_code hk, hz, ht, hl]
  rw [if_neg h, if_neg hc, if_neg (by rw [hn]; simp), if_neg (by rw [hj]; simp)]
end

theorem any_take_no {α : Type} {p : α → Bool} {l : List α} {k : Nat} (hk : k < l.length) (h : (l.take k).any p = false) (hx : p l[k] = false) : (l.take (k + 1)).any p = false := by
  rw [List.take_succ_eq_append_getElem hk, List.any_append, h]
  simp [hx]
theorem any_yes {α : Type} {p : α → Bool} {l : List α} {k : Nat} (hk : k < l.length) (hx : p l[k] = true) : l.any p = true := by
  rw [List.any_eq_true]
  exact ⟨l[k], List.getElem_mem hk, hx⟩
theorem any_end {α : Type} {p : α → Bool} {l : List α} {k : Nat} (hk : l.length ≤ k) (h : (l.take k).any p = false) : l.any p = false := by
  rwa [List.take_of_length_le hk] at h

/-- The last one is behind the code just where one of them is it. -/
theorem any_ends {n : Int} {l : List Int} (h : ∀ x ∈ l, x ≤ n) : l.any (fun x => decide (x = n)) = l.any (fun x => decide (n ≤ x)) := by
  rw [Bool.eq_iff_iff, List.any_eq_true, List.any_eq_true]
  constructor
  · rintro ⟨x, hx, he⟩
    exact ⟨x, hx, by simp at he ⊢; omega⟩
  · rintro ⟨x, hx, he⟩
    have := h x hx
    exact ⟨x, hx, by simp at he ⊢; omega⟩

set_option maxRecDepth 100000 in
set_option maxHeartbeats 2000000 in
theorem trouble_any (a1 a2 ca : Option Addr) (nt c1 c2 cc : Nat) (fs : List Fn) (code : List (Int × Int)) (d : List Int) (g cap pc : Nat) (w : World) (hm : FnsAt w 0 a2 fs) (d4 : CodeAt w 0 ca code) (F : Fine fs code) (P : Hts code.length d) (hH : Ht w g cap d) (hlt : pc < code.length) :
    Calls Tryz.prog 89 #[.agg #[.slice a1 nt c1, .slice a2 fs.length c2], .slice ca code.length cc, .slice (some ⟨g, 0, none⟩) code.length cap, .int .i64 pc] w fun e w' => e = .returned (.int .i64 (troubleB fs code d pc)) ∧ Below w.heap.size w w' := by
  have hmost := F.most
  have hbA : Below w.heap.size w (w.alloc (.cells #[.slice a1 nt c1, .slice a2 fs.length c2] 42)) := (Below.refl _ _).alloc (Nat.le_refl _) _
  have hM0 := block_new w #[.slice a1 nt c1, .slice a2 fs.length c2] 42
  have hlen : pc < d.length := by rw [P.len]; exact hlt
  have HZ : Hid (d.getD pc (-1) = d[pc]) := P.get hlt
  have z0 := P.low pc hlen
  have z1 := P.high pc hlen
  have hcl := cell_later hbA (hH.cell hlen)
  have hH0 := hH.mono hbA
  obtain ⟨cb, co, rfl, -, e1, e2⟩ := d4 pc hlt
  have e1' := cell_later hbA e1
  have e2' := cell_later hbA e2
  have y1 := block_cell hM0
  obtain ⟨u0, u1, u2, u3⟩ := usesB_ok F.params code[pc].1 code[pc].2
  clear e1 e2
  by_cases hneg : d[pc] < 0
  · have hb : (d[pc] == -1) = true := by rw [beq_iff_eq]; omega
    have HT : Hid (troubleB fs code d pc = 0) := trouble_none hlt HZ.out hneg
    clear hneg
    go_enter Tryz.func89, Tryz.ntmps89
    go_wp2
    go_ret
    exact ⟨ret_int HT.out.symm, hbA⟩
  have hb : (d[pc] == -1) = false := by rw [beq_eq_false_iff_ne]; omega
  have HNN : Hid (¬ d[pc] < 0) := hneg
  obtain ⟨wx, hwx⟩ : ∃ wx, wx = w.alloc (.cells #[.slice a1 nt c1, .slice a2 fs.length c2] 42) := ⟨_, rfl⟩
  have HWX : Hid (wx = w.alloc (.cells #[.slice a1 nt c1, .slice a2 fs.length c2] 42)) := hwx
  by_cases hfit : d[pc] < (usesB fs code[pc].1 code[pc].2).1 ∨ 16 < d[pc] - (usesB fs code[pc].1 code[pc].2).1 + (usesB fs code[pc].1 code[pc].2).2
  · have HT : Hid (troubleB fs code d pc = 2) := trouble_stack hlt HZ.out rfl rfl hneg hfit
    have HF : Hid (d[pc] < (usesB fs code[pc].1 code[pc].2).1 ∨ 16 < d[pc] - (usesB fs code[pc].1 code[pc].2).1 + (usesB fs code[pc].1 code[pc].2).2) := hfit
    clear hfit hneg hwx
    go_enter Tryz.func89, Tryz.ntmps89
    go_wp2
    rw [← HWX.out] at hbA hM0 hcl hH0 e1' e2' y1 ⊢
    go_region_held3 (fun w' => w'.cell? ⟨w.heap.size, 0, none⟩ = some (.slice a1 nt c1) ∧ w'.cell? ⟨w.heap.size, 1, none⟩ = some (.slice a2 fs.length c2) ∧ w'.cell? ⟨cb, co + pc * 2, none⟩ = some (.int .i64 code[pc].1) ∧ w'.cell? ⟨cb, co + pc * 2 + 1, none⟩ = some (.int .i64 code[pc].2) ∧ w'.cell? ⟨g, pc, none⟩ = some (.int .i64 d[pc]))
      (first | exact ⟨(y1 0).trans rfl, (y1 1).trans rfl, e1', e2', hcl⟩ | exact ⟨by rw [block_cell (block_kept hM0 k6)]; rfl, by rw [block_cell (block_kept hM0 k6)]; rfl, cell_later k6 e1', cell_later k6 e2', cell_later k6 hcl⟩)
      (first | (go_at_call 111; refine (iLeft_any _ _ _ _ _ fs code[pc].1 code[pc].2 d[pc] _ (by exact hm.mono hbA.drew) F.params (by exact z0) (by exact z1)).mono ?_; rintro e w4 ⟨hL, k6d⟩; have k6 := below_undraw k6d; obtain ⟨qq, rfl⟩ := hL.no HF.out))
    go_wp2
    go_ret
    exact ⟨ret_int HT.out.symm, hbA.trans (k6.mono hbA.size)⟩
  obtain ⟨left, hleft⟩ : ∃ left, left = d[pc] - (usesB fs code[pc].1 code[pc].2).1 + (usesB fs code[pc].1 code[pc].2).2 := ⟨_, rfl⟩
  have HL : Hid (left = d[pc] - (usesB fs code[pc].1 code[pc].2).1 + (usesB fs code[pc].1 code[pc].2).2) := hleft
  have HF : Hid (¬ (d[pc] < (usesB fs code[pc].1 code[pc].2).1 ∨ 16 < d[pc] - (usesB fs code[pc].1 code[pc].2).1 + (usesB fs code[pc].1 code[pc].2).2)) := hfit
  have hnx := next_in F hlt
  clear hfit hneg hwx hleft
  go_enter Tryz.func89, Tryz.ntmps89
  go_wp2
  rw [← HWX.out] at hbA hM0 hcl hH0 e1' e2' y1 ⊢
  go_region_held3 (fun w' => w'.cell? ⟨w.heap.size, 0, none⟩ = some (.slice a1 nt c1) ∧ w'.cell? ⟨w.heap.size, 1, none⟩ = some (.slice a2 fs.length c2) ∧ w'.cell? ⟨cb, co + pc * 2, none⟩ = some (.int .i64 code[pc].1) ∧ w'.cell? ⟨cb, co + pc * 2 + 1, none⟩ = some (.int .i64 code[pc].2) ∧ w'.cell? ⟨g, pc, none⟩ = some (.int .i64 d[pc]))
    (first | exact ⟨(y1 0).trans rfl, (y1 1).trans rfl, e1', e2', hcl⟩ | exact ⟨by rw [block_cell (block_kept hM0 k6)]; rfl, by rw [block_cell (block_kept hM0 k6)]; rfl, cell_later k6 e1', cell_later k6 e2', cell_later k6 hcl⟩)
    (first | (go_at_call 111; refine (iLeft_any _ _ _ _ _ fs code[pc].1 code[pc].2 d[pc] _ (by exact hm.mono hbA.drew) F.params (by exact z0) (by exact z1)).mono ?_; rintro e w4 ⟨hL, k6d⟩; have k6 := below_undraw k6d; obtain rfl := hL.yes HF.out; rw [← HL.out]))
  have hH4 := hH0.mono k6
  have hb4 : Below w.heap.size w w4 := hbA.trans (k6.mono hbA.size)
  have e14 := cell_later k6 e1'
  have e24 := cell_later k6 e2'
  clear hbA hM0 hcl hH0 e1' e2' y1 k6 k6d HWX
  go_wp2_with fail
  refine (iNext_any code[pc].1 code[pc].2 pc _ (by omega)).mono ?_
  rintro e w5 ⟨ad, ncap, rfl, hI, k7⟩
  have hH5 := hH4.mono k7
  have hb5 : Below w.heap.size w w5 := hb4.trans (k7.mono hb4.size)
  obtain ⟨nx, hnxe⟩ : ∃ nx, nx = nextB code[pc].1 code[pc].2 pc := ⟨_, rfl⟩
  have HX : Hid (nx = nextB code[pc].1 code[pc].2 pc) := hnxe
  rw [← hnxe] at hI hnx ⊢
  have hnl : nx.length ≤ 2 := by rw [hnxe]; exact next_len _ _ _
  have HE : Hid (nx.any (fun x => decide (x = (code.length : Int))) = nx.any (fun x => decide ((code.length : Int) ≤ x))) := any_ends fun x hx => (hnx x hx).2
  clear hH4 hb4 k7 e14 e24 hnxe
  go_wp2_with fail
  refine (contains_any ad nx ncap (code.length : Int) _ (by omega) (hI.low (Nat.zero_le _))).mono ?_
  rintro e w6 ⟨rfl, hw6⟩
  rw [hw6]
  clear hw6 w6
  by_cases hend : nx.any (fun x => decide (x = (code.length : Int))) = true
  · have HT : Hid (troubleB fs code d pc = 3) := by
      refine trouble_end hlt HZ.out rfl rfl (by have := HNN.out; omega) (by have := HF.out; omega) ?_
      rw [← HX.out, ← HE.out]; exact hend
    go_wp2
    go_ret
    exact ⟨ret_int HT.out.symm, hb5⟩
  have hend' : nx.any (fun x => decide (x = (code.length : Int))) = false := by rw [Bool.eq_false_iff]; exact hend
  have HN : Hid (nx.any (fun x => decide ((code.length : Int) ≤ x)) = false) := by show _ = _; rw [← HE.out]; exact hend'
  clear hend
  go_wp2
  clear hend'
  go_loop [46] (fun i => ∃ (q : Nat), q ≤ nx.length ∧ i = .int .i64 q ∧ Hid ((nx.take q).any (fun x => decide (d.getD x.toNat (-1) ≠ left)) = false)) (fun i => nx.length - (intOf i).toNat)
  case atStart => exact ⟨0, by omega, rfl, by show _ = _; simp⟩
  case round =>
    obtain ⟨q, hq, rfl, hno⟩ := hrel
    by_cases hlq : q < nx.length
    · obtain ⟨v0, v1⟩ := hnx nx[q] (List.getElem_mem hlq)
      obtain ⟨nb, no, rfl, hnb, m1⟩ := hI q hlq
      obtain ⟨nk, hnk⟩ : ∃ nk : Nat, nx[q] = (nk : Int) := ⟨nx[q].toNat, by omega⟩
      have hin : nk < code.length := by
        rcases Nat.lt_or_ge nk code.length with h | h
        · exact h
        · have := any_yes (p := fun x => decide ((code.length : Int) ≤ x)) hlq (by simp; omega)
          rw [HN.out] at this
          cases this
      rw [hnk] at m1
      have hkl : nk < d.length := by rw [P.len]; exact hin
      have m2 := hH5.cell hkl
      have hget : d.getD nx[q].toNat (-1) = d[nk] := by rw [hnk, Int.toNat_natCast]; exact P.get hin
      by_cases he : d[nk] = left
      · have HQ : Hid ((nx.take (q + 1)).any (fun x => decide (d.getD x.toNat (-1) ≠ left)) = false) := any_take_no hlq hno.out (by simp only [hget, he]; simp)
        have b1 : (d[nk] != left) = false := by simp [he]
        clear hno hget hnk he
        go_wp2
        go_round
        case rel => exact ⟨q + 1, by omega, by go_num, HQ⟩
        case measure => simp [intOf]; omega
      · have HT : Hid (troubleB fs code d pc = 4) := by
          refine trouble_join hlt HZ.out rfl rfl (by have := HNN.out; omega) (by have := HF.out; omega) (by rw [← HX.out]; exact HN.out) ?_
          rw [← HX.out, ← HL.out]
          exact any_yes (p := fun x => decide (d.getD x.toNat (-1) ≠ left)) hlq (by simp only [hget]; simpa using he)
        have b1 : (d[nk] != left) = true := by simpa using he
        clear hno hget hnk he
        go_wp2
        go_ret
        exact ⟨ret_int HT.out.symm, hb5⟩
    · have HT : Hid (troubleB fs code d pc = 0) := by
        refine trouble_fine hlt HZ.out rfl rfl (by have := HNN.out; omega) (by have := HF.out; omega) (by rw [← HX.out]; exact HN.out) ?_
        rw [← HX.out, ← HL.out]
        exact any_end (by omega) hno.out
      clear hno
      go_wp2
      go_ret
      exact ⟨ret_int HT.out.symm, hb5⟩
end Go.Proofs.YtcebgbcgkkfedaaGreat

namespace Go.Proofs.YtcebgbcgkkfedaaGreat
open Go.RowKit

theorem info85 : (Tryz.prog.info? 85).map (fun i => (i.zero, i.size, i.bytes)) = some (some (.slice none 0 0), 1, 24) := by kernel_rfl

/-- What heightsOfAll is to answer. -/
def APost (ts : List ByteArray) (fs : List Fn) (base : Nat) (w' : World) (e : Ending) : Prop := ∃ v c f a, e = .returned (.tuple #[v, .agg #[.int .i64 c, .int .i64 f, .int .i64 a]]) ∧ VPost ts fs c f a ∧ (c = 0 → ∃ G, v = .slice (some ⟨G, 0, none⟩) fs.length fs.length ∧ Hs w' base G fs.length fs)

set_option maxRecDepth 100000 in
set_option maxHeartbeats 4000000 in
theorem iAll_any (a1 a2 : Option Addr) (c1 c2 : Nat) (ts : List ByteArray) (fs : List Fn) (w : World) (hs : Small ts fs) (hm : StrsAt w 0 a1 ts) (hm2 : FnsAt w 0 a2 fs) :
    Calls Tryz.prog 56 #[.agg #[.slice a1 ts.length c1, .slice a2 fs.length c2]] w fun e w' => APost ts fs w.heap.size w' e ∧ Below w.heap.size w w' := by
  obtain ⟨i0, hi, hz0, hz1, hz2⟩ := info_parts info85
  have hn := hs.funcs
  have hbA : Below w.heap.size w ((w.alloc (.cells #[.slice a1 ts.length c1, .slice a2 fs.length c2] 42)).alloc (.cells #[.int .i64 0, .int .i64 0, .int .i64 0] 103)) := ((Below.refl _ _).alloc (Nat.le_refl _) _).alloc (by simp) _
  have hM0 := block_old (block_new w #[.slice a1 ts.length c1, .slice a2 fs.length c2] 42) (.cells #[.int .i64 0, .int .i64 0, .int .i64 0] 103)
  have hR0 := block_new (w.alloc (.cells #[.slice a1 ts.length c1, .slice a2 fs.length c2] 42)) #[.int .i64 0, .int .i64 0, .int .i64 0] 103
  rw [World.size_alloc] at hR0
  go_enter Tryz.func56, Tryz.ntmps56
  go_wp2_with fail
  refine (iModuleOk_any _ _ ts fs _ _ _ hs (hm.mono hbA) (hm2.mono hbA)).mono ?_
  rintro e w1 ⟨rfl, hb⟩
  have hM1 := block_kept hM0 hb
  have hR1 := block_kept hR0 hb
  have hb1 : Below w.heap.size w w1 := hbA.trans (hb.mono (by simp; omega))
  have y1 := block_cell hM1
  have r1 := block_cell hR1
  have r2 := block_free hR1
  clear hbA hM0 hR0 hb
  by_cases hok : modB ts fs = true
  · have HO : Hid (modB ts fs = true) := hok
    have FF : ∀ k (hk : k < fs.length), Fine fs fs[k].code := fun k hk => fine_of hok hk
    go_wp2_with (first | (at_make; refine wpList_make_full _ rfl _ _ 101 rfl w1.heap.size 85 i0 (.slice none 0 0) 1 Tryz.underlying101 hi hz0 hz1 _ _ _ _ fs.length rfl rfl rfl rfl (by rw [hz2]; omega) (by unfold maxLen; omega) (Nat.le_refl _) ?_; intro w2 hown hgrow; have hbm : Below w1.heap.size w1 w2 := (Below.refl _ _).grown hgrow (Nat.le_refl _) (by intro k hk; cases hk); have hM2 := block_kept hM1 hbm; have y2 := block_cell hM2))
    have hR2 := block_kept hR1 hbm
    have hb2 := hb1.trans (hbm.mono hb1.size)
    obtain ⟨cur0, hblk, hsz⟩ := made_block hown
    have hH0 : Hs w2 w.heap.size w1.heap.size 0 fs := ⟨hb1.size, cur0, hblk, by omega, fun _ _ h => absurd h (Nat.not_lt_zero _)⟩
    clear hok r1 r2 y1 y2 hown hgrow hi hz0 hz1 hz2 hblk hsz hM1 hR1 hbm
    have HZ1 : Hid (w.heap.size ≤ w1.heap.size) := hb1.size
    go_loopw [20] (fun i wr => ∃ (k : Nat), k ≤ fs.length ∧ i = .int .i64 k ∧ Hid (∀ q (hq : q < fs.length), q < k → Clear fs fs[q].code fs[q].code.length) ∧ Hs wr w.heap.size w1.heap.size k fs ∧ wr.heap[w.heap.size]? = some (.cells #[.slice a1 ts.length c1, .slice a2 fs.length c2] 42 (0, 0)) ∧ wr.heap[w.heap.size + 1]? = some (.cells #[.int .i64 0, .int .i64 0, .int .i64 0] 103 (0, 0)) ∧ Below w.heap.size w wr) (fun i _ => fs.length - (intOf i).toNat)
    case atStart => exact ⟨0, by omega, rfl, fun _ _ h => absurd h (Nat.not_lt_zero _), hH0, hM2, hR2, hb2⟩
    case round =>
      obtain ⟨k, hk, rfl, hcl, hHs, hM, hR, hb⟩ := hrel
      obtain ⟨wo, rfl⟩ : ∃ wo, wo = wr := ⟨_, rfl⟩
      clear hM2 hR2 hb2 hH0 hb1
      by_cases hlt : k < fs.length
      · have F := FF k hlt
        have hmost := F.most
        obtain ⟨b, off, ca, cc, rfl, -, d1, d2, d3, d4⟩ := hm2 k hlt
        have d1' := cell_later hb d1
        have d2' := cell_later hb d2
        have d3' := cell_later hb d3
        clear d1 d2 d3
        obtain ⟨wx, hwx⟩ : ∃ wx, wx = wo.alloc (.cells #[.int .i64 fs[k].params, .int .i64 fs[k].locals, .slice ca fs[k].code.length cc] 97) := ⟨_, rfl⟩
        have hkx : Below wo.heap.size wo wx := by rw [hwx]; exact (Below.refl _ _).alloc (Nat.le_refl _) _
        have hXx : wx.heap[wo.heap.size]? = some (.cells #[.int .i64 fs[k].params, .int .i64 fs[k].locals, .slice ca fs[k].code.length cc] 97 (0, 0)) := by rw [hwx]; exact block_new _ _ _
        have hMx := block_kept hM hkx
        have hRx := block_kept hR hkx
        have hHx := hHs.mono hkx
        have hbx : Below w.heap.size w wx := hb.trans (hkx.mono hb.size)
        have HWX : Hid (wx = wo.alloc (.cells #[.int .i64 fs[k].params, .int .i64 fs[k].locals, .slice ca fs[k].code.length cc] 97)) := hwx
        have y0 := block_cell (block_old hM (.cells #[.int .i64 fs[k].params, .int .i64 fs[k].locals, .slice ca fs[k].code.length cc] 97))
        have z0 := block_cell (block_new wo #[.int .i64 fs[k].params, .int .i64 fs[k].locals, .slice ca fs[k].code.length cc] 97)
        clear hwx hkx
        go_wp2_with fail
        rw [← HWX.out]
        refine (iHeights_any _ _ _ _ _ _ _ fs fs[k].code _ (hm2.mono hbx) (d4.mono hbx) F).mono ?_
        rintro e w2 ⟨g, d, rfl, hg, hD, hH, k2⟩
        have P := hD.hts F
        have hM2 := block_kept hMx k2
        have hR2 := block_kept hRx k2
        have hX2 := block_kept hXx k2
        have hHs2 := hHx.mono k2
        have hb2 : Below w.heap.size w w2 := hbx.trans (k2.mono hbx.size)
        have hgw : w.heap.size ≤ g := Nat.le_trans hbx.size hg
        have hGk := hHs2.put hlt hgw hD hH
        obtain ⟨vg, hvg⟩ := hHs2.cell hlt
        have hfz := hHs2.free k
        have hne1 : w.heap.size ≠ w1.heap.size := by
          obtain ⟨-, cur, h1, -⟩ := hHs2
          intro e; rw [← e, hM2] at h1; simp at h1
        have hne2 : w.heap.size + 1 ≠ w1.heap.size := by
          obtain ⟨-, cur, h1, -⟩ := hHs2
          intro e; rw [← e, hR2] at h1; simp at h1
        have hne3 : wo.heap.size ≠ w1.heap.size := by
          obtain ⟨-, cur, h1, -⟩ := hHs2
          intro e; rw [← e, hX2] at h1; simp at h1
        obtain ⟨wy, hwy⟩ : ∃ wy, wy = w2.setCell ⟨w1.heap.size, k, none⟩ (.slice (some ⟨g, 0, none⟩) fs[k].code.length fs[k].code.length) := ⟨_, rfl⟩
        have hM3 : wy.heap[w.heap.size]? = some (.cells #[.slice a1 ts.length c1, .slice (some ⟨b, off, none⟩) fs.length c2] 42 (0, 0)) := by rw [hwy, Below.heap_setCell _ _ _ _ hne1]; exact hM2
        have hR3 : wy.heap[w.heap.size + 1]? = some (.cells #[.int .i64 0, .int .i64 0, .int .i64 0] 103 (0, 0)) := by rw [hwy, Below.heap_setCell _ _ _ _ hne2]; exact hR2
        have hX3 : wy.heap[wo.heap.size]? = some (.cells #[.int .i64 fs[k].params, .int .i64 fs[k].locals, .slice ca fs[k].code.length cc] 97 (0, 0)) := by rw [hwy, Below.heap_setCell _ _ _ _ hne3]; exact hX2
        have hH3 : Ht wy g fs[k].code.length d := by
          obtain ⟨-, cur, h1, -⟩ := hHs2
          rw [hwy]; exact hH.other h1 _
        have hc3 : wy.cell? ⟨w1.heap.size, k, none⟩ = some (.slice (some ⟨g, 0, none⟩) fs[k].code.length fs[k].code.length) := by
          obtain ⟨-, cur, h1, h2, -⟩ := hHs2
          rw [hwy, block_cell (block_set h1 _)]; exact set_self _ (by omega)
        have hb3 : Below w.heap.size w wy := by rw [hwy]; exact hb2.setCell HZ1.out _
        rw [← hwy] at hGk
        have v2 := block_cell hX2
        have v3 := block_cell hX3
        clear hMx hRx hXx hbx k2 d1' d2' d3' hM hR hb y0 z0 hHs hHx hM2 hR2 hH hb2 hHs2 hne1 hne2
        have HN3 : Hid (wo.heap.size ≠ w1.heap.size) := hne3
        clear hX2
        go_wp2_with fail
        try rw [← hwy]
        clear v2 v3 hvg hfz hwy hne3
        go_loopw [35] (fun i ws => ∃ (j : Nat), j ≤ fs[k].code.length ∧ i = .int .i64 j ∧ Hid (∀ q, q < j → troubleB fs fs[k].code d q = 0) ∧ Ht ws g fs[k].code.length d ∧ Hs ws w.heap.size w1.heap.size (k + 1) fs ∧ ws.cell? ⟨w1.heap.size, k, none⟩ = some (.slice (some ⟨g, 0, none⟩) fs[k].code.length fs[k].code.length) ∧ ws.heap[w.heap.size]? = some (.cells #[.slice a1 ts.length c1, .slice (some ⟨b, off, none⟩) fs.length c2] 42 (0, 0)) ∧ ws.heap[w.heap.size + 1]? = some (.cells #[.int .i64 0, .int .i64 0, .int .i64 0] 103 (0, 0)) ∧ ws.heap[wo.heap.size]? = some (.cells #[.int .i64 fs[k].params, .int .i64 fs[k].locals, .slice ca fs[k].code.length cc] 97 (0, 0)) ∧ Below w.heap.size w ws) (fun i _ => fs[k].code.length - (intOf i).toNat)
        case atStart => exact ⟨0, by omega, rfl, fun _ h => absurd h (Nat.not_lt_zero _), hH3, hGk, hc3, hM3, hR3, hX3, hb3⟩
        case round =>
          obtain ⟨j, hj, rfl, hno, hH4, hG4, hc4, hM4, hR4, hX4, hb4⟩ := hrel
          obtain ⟨ws, rfl⟩ : ∃ ws, ws = wr := ⟨_, rfl⟩
          clear hH3 hGk hc3 hM3 hR3 hX3 hb3
          by_cases hlj : j < fs[k].code.length
          · have hS : ∀ w', Below ws.heap.size ws w' → w'.cell? ⟨w.heap.size, 0, none⟩ = some (.slice a1 ts.length c1) ∧ w'.cell? ⟨w.heap.size, 1, none⟩ = some (.slice (some ⟨b, off, none⟩) fs.length c2) ∧ w'.cell? ⟨wo.heap.size, 2, none⟩ = some (.slice ca fs[k].code.length cc) ∧ w'.cell? ⟨w1.heap.size, k, none⟩ = some (.slice (some ⟨g, 0, none⟩) fs[k].code.length fs[k].code.length) := fun w' hb =>
              ⟨by rw [block_cell (block_kept hM4 hb)]; rfl, by rw [block_cell (block_kept hM4 hb)]; rfl, by rw [block_cell (block_kept hX4 hb)]; rfl, cell_later hb hc4⟩
            have HS : Hid (∀ w', Below ws.heap.size ws w' → w'.cell? ⟨w.heap.size, 0, none⟩ = some (.slice a1 ts.length c1) ∧ w'.cell? ⟨w.heap.size, 1, none⟩ = some (.slice (some ⟨b, off, none⟩) fs.length c2) ∧ w'.cell? ⟨wo.heap.size, 2, none⟩ = some (.slice ca fs[k].code.length cc) ∧ w'.cell? ⟨w1.heap.size, k, none⟩ = some (.slice (some ⟨g, 0, none⟩) fs[k].code.length fs[k].code.length)) := hS
            obtain ⟨j0, j1, j2, j3⟩ := hS ws (Below.refl _ _)
            have q : Below ws.heap.size ws ws.drew := (Below.refl _ _).drew
            have HB : Hid (Below w.heap.size w ws) := hb4
            have HM : Hid (ws.heap[w.heap.size]? = some (.cells #[.slice a1 ts.length c1, .slice (some ⟨b, off, none⟩) fs.length c2] 42 (0, 0))) := hM4
            have HR : Hid (ws.heap[w.heap.size + 1]? = some (.cells #[.int .i64 0, .int .i64 0, .int .i64 0] 103 (0, 0))) := hR4
            have HX : Hid (ws.heap[wo.heap.size]? = some (.cells #[.int .i64 fs[k].params, .int .i64 fs[k].locals, .slice ca fs[k].code.length cc] 97 (0, 0))) := hX4
            clear hS hb4 hM4 hR4 hX4 hc4
            go_wp2
            go_region_held3 (fun w' => w'.cell? ⟨w.heap.size, 0, none⟩ = some (.slice a1 ts.length c1) ∧ w'.cell? ⟨w.heap.size, 1, none⟩ = some (.slice (some ⟨b, off, none⟩) fs.length c2) ∧ w'.cell? ⟨wo.heap.size, 2, none⟩ = some (.slice ca fs[k].code.length cc) ∧ w'.cell? ⟨w1.heap.size, k, none⟩ = some (.slice (some ⟨g, 0, none⟩) fs[k].code.length fs[k].code.length))
              (first | exact ⟨j0, j1, j2, j3⟩ | exact HS.out _ q)
              (first
                | (go_at_call 89; refine (trouble_any _ _ _ _ _ _ _ fs fs[k].code d g _ j _ (by exact hm2.mono (HB.out.trans (q.mono HB.out.size))) (by exact d4.mono (HB.out.trans (q.mono HB.out.size))) F P (by exact hH4.mono q) hlj).mono ?_; rintro e w5 ⟨rfl, kd⟩; have q := q.trans (kd.mono q.size)))
            have hM5 := block_kept HM.out q
            have hR5 := block_kept HR.out q
            have hX5 := block_kept HX.out q
            have hH5 := hH4.mono q
            have hG5 := hG4.mono q
            have hb5 : Below w.heap.size w w5 := HB.out.trans (q.mono HB.out.size)
            have hc5 := (HS.out _ q).2.2.2
            clear HM HR HX HB HS j0 j1 j2 j3 hH4 hG4 kd q
            by_cases hz : troubleB fs fs[k].code d j = 0
            · have HZ : Hid (troubleB fs fs[k].code d j = 0) := hz
              go_wp2
              go_roundw
              case rel => exact ⟨j + 1, by omega, by go_num, fun q hq => (by
                by_cases e : q = j
                · subst e; exact HZ.out
                · exact hno.out q (by omega)), hH5, hG5, hc5, hM5, hR5, hX5, hb5⟩
              case measure => simp [intOf]; omega
            · have HZ : Hid (¬ troubleB fs fs[k].code d j = 0) := hz
              have bz : (troubleB fs fs[k].code d j != 0) = true := by simpa using hz
              have r4 := block_cell hR5
              have q4 := block_free hR5
              clear hz
              go_wp2
              have rr := block_cell (three_set (x := (troubleB fs fs[k].code d j)) (y := (k : Int)) (z := (j : Int)) hR5)
              refine bodyPost_ret (v := .tuple #[.slice none 0 0, .agg #[.int .i64 (troubleB fs fs[k].code d j), .int .i64 (k : Int), .int .i64 (j : Int)]]) (by simp [results, Tryz.results56, go_sem, rr]) rfl ⟨⟨_, (troubleB fs fs[k].code d j), (k : Int), (j : Int), rfl, .inr ⟨HO.out, .inr ⟨k, hlt, j, d, rfl, rfl, hlj, hD, rfl, HZ.out, clear_of hD hno.out, hcl.out⟩⟩, fun h => absurd h HZ.out⟩, ?_⟩
              exact ((hb5.setCell (by simp) _).setCell (by simp) _).setCell (by simp) _
          · have hjn : j = fs[k].code.length := by omega
            subst hjn
            go_wp2
            go_roundw
            case rel => exact ⟨k + 1, by omega, by go_num, fun q hq hqk => (by
                by_cases e : q = k
                · subst e; exact clear_of hD hno.out
                · exact hcl.out q hq (by omega)), hG4, hM4, hR4, hb4⟩
            case measure => simp [intOf]; omega
      · have hkn : k = fs.length := by omega
        subst hkn
        have r4 := block_cell hR
        have q4 := block_free hR
        go_wp2
        have rr := block_cell (three_set (x := 0) (y := 0) (z := 0) hR)
        have hbz : Below (w.heap.size + 2) wo (((wo.setCell ⟨w.heap.size + 1, 0, none⟩ (.int .i64 0)).setCell ⟨w.heap.size + 1, 1, none⟩ (.int .i64 0)).setCell ⟨w.heap.size + 1, 2, none⟩ (.int .i64 0)) → True := fun _ => trivial
        clear hbz
        refine bodyPost_ret (v := .tuple #[.slice (some ⟨w1.heap.size, 0, none⟩) fs.length fs.length, .agg #[.int .i64 0, .int .i64 0, .int .i64 0]]) (by simp [results, Tryz.results56, go_sem, rr]) rfl ⟨⟨_, 0, 0, 0, rfl, .inr ⟨HO.out, .inl ⟨rfl, rfl, rfl, fun q hq => hcl.out q hq (by omega)⟩⟩, fun _ => ⟨_, rfl, ?_⟩⟩, ?_⟩
        · exact hHs.three hR
        · exact ((hb.setCell (by simp) _).setCell (by simp) _).setCell (by simp) _
  · have hok' : modB ts fs = false := by simpa using hok
    have HO : Hid (modB ts fs = false) := hok'
    clear hok
    go_wp2
    have rr := block_cell (three_set (x := 1) (y := 0) (z := 0) hR1)
    refine bodyPost_ret (v := .tuple #[.slice none 0 0, .agg #[.int .i64 1, .int .i64 0, .int .i64 0]]) (by simp [results, Tryz.results56, go_sem, rr]) rfl ⟨⟨_, 1, 0, 0, rfl, .inl ⟨HO.out, rfl, rfl, rfl⟩, fun h => absurd h (by decide)⟩, ?_⟩
    exact ((hb1.setCell (by simp) _).setCell (by simp) _).setCell (by simp) _

end Go.Proofs.YtcebgbcgkkfedaaGreat

namespace Go.Proofs.YtcebgbcgkkfedaaGreat
open Go.RowKit

set_option maxHeartbeats 400000 in
theorem callOp_any (op : Int) (w : World) : Calls Tryz.prog 115 #[.int .i64 op] w fun e w' => e = .returned (.bool (decide (op = 23) || decide (op = 24))) ∧ w' = w := by
  by_cases h1 : op = 23
  · subst h1
    go_enter Tryz.func115, Tryz.ntmps115
    go_wp2
    go_ret
    exact ⟨rfl, rfl⟩
  · by_cases h2 : op = 24
    · subst h2
      go_enter Tryz.func115, Tryz.ntmps115
      go_wp2
      go_ret
      exact ⟨rfl, rfl⟩
    · have b1 : (op == 23) = false := by simpa using h1
      have b2 : (op == 24) = false := by simpa using h2
      go_enter Tryz.func115, Tryz.ntmps115
      go_wp2
      go_ret
      exact ⟨ret_bool (by simp [h1, h2]), rfl⟩

set_option maxRecDepth 100000 in
set_option maxHeartbeats 4000000 in
theorem fits_any (a1 a2 : Option Addr) (nt c1 c2 : Nat) (fs : List Fn) (base G : Nat) (f pc nl ns : Int) (last : Bool) (w : World) (hm : FnsAt w 0 a2 fs) (hH : Hs w base G fs.length fs) (FF : ∀ k (hk : k < fs.length), Fine fs fs[k].code) :
    Calls Tryz.prog 93 #[.agg #[.slice a1 nt c1, .slice a2 fs.length c2], .slice (some ⟨G, 0, none⟩) fs.length fs.length, .int .i64 f, .int .i64 pc, .int .i64 nl, .int .i64 ns, .bool last] w fun e w' => Says (Fits fs f pc nl ns last) e ∧ Below w.heap.size w w' := by
  have hbA : Below w.heap.size w (w.alloc (.cells #[.slice a1 nt c1, .slice a2 fs.length c2] 42)) := (Below.refl _ _).alloc (Nat.le_refl _) _
  by_cases hf0 : f < 0
  · go_enter Tryz.func93, Tryz.ntmps93
    go_wp2
    go_ret
    exact ⟨Says.no rfl (fits_fn (.inl hf0)), hbA⟩
  by_cases hf1 : (fs.length : Int) ≤ f
  · go_enter Tryz.func93, Tryz.ntmps93
    go_wp2
    go_ret
    exact ⟨Says.no rfl (fits_fn (.inr hf1)), hbA⟩
  obtain ⟨i, rfl⟩ : ∃ i : Nat, f = i := ⟨f.toNat, by omega⟩
  have hi : i < fs.length := by omega
  clear hf0 hf1
  obtain ⟨b, off, ca, cc, rfl, -, d1, d2, d3, d4⟩ := hm i hi
  have d2' := cell_later hbA d2
  have d3' := cell_later hbA d3
  clear d1 d2 d3
  by_cases hl : nl = fs[i].locals
  case neg =>
    have hl' : (nl != fs[i].locals) = true := by simpa using hl
    have HL : Hid (nl ≠ fs[i].locals) := hl
    clear hl
    go_enter Tryz.func93, Tryz.ntmps93
    go_wp2
    go_ret
    exact ⟨Says.no rfl (fits_locals hi HL.out), hbA⟩
  have HL : Hid (nl = fs[i].locals) := hl
  have hl' : (nl != fs[i].locals) = false := by simpa using hl
  clear hl
  obtain ⟨g, d, hg, hD, hHt⟩ := hH.at hi hi
  have F := FF i hi
  have P := hD.hts F
  have hmost := F.most
  have hdl : Hid (d.length = fs[i].code.length) := P.len
  have hg' := cell_later hbA hg
  clear hg
  go_enter Tryz.func93, Tryz.ntmps93
  go_wp2
  go_quiet (fail)
  clear d2' d3' hl'
  by_cases hp0 : pc < 0
  · go_wp2
    go_ret
    exact ⟨Says.no rfl (fits_pc hi (.inl hp0)), below_draws hbA _⟩
  by_cases hp1 : (fs[i].code.length : Int) ≤ pc
  · go_wp2
    go_ret
    exact ⟨Says.no rfl (fits_pc hi (.inr hp1)), below_draws hbA _⟩
  obtain ⟨p, rfl⟩ : ∃ p : Nat, pc = p := ⟨pc.toNat, by omega⟩
  have hpd : p < d.length := by rw [hdl.out]; omega
  have hpl : p < fs[i].code.length := by omega
  clear hp0 hp1
  have hHA := hHt.mono hbA
  have hc0 := hHA.cell hpd
  have hlow := P.low p hpd
  have hhigh := P.high p hpd
  by_cases hm1 : d[p] = -1
  · have HM : Hid (d[p] = -1) := hm1
    have hm1' : (d[p] == -1) = true := by simpa using hm1
    go_wp2
    go_ret
    exact ⟨Says.no rfl (fits_none hi hD hpd (by rw [HM.out]; decide)), below_draws hbA _⟩
  have HM : Hid (0 ≤ d[p]) := by show 0 ≤ d[p]; omega
  have hm1' : (d[p] == -1) = false := by simpa using hm1
  clear hm1
  cases last with
  | true =>
    go_wp2
    go_ret
    refine ⟨⟨_, rfl, ?_⟩, below_draws hbA _⟩
    rw [fits_last hi hD hpd hdl.out HL.out HM.out]
    simp
  | false =>
    cases p with
    | zero =>
      go_wp2
      all_goals go_ret
      all_goals exact ⟨Says.no rfl fits_first, below_draws hbA _⟩
    | succ p =>
      have hpd0 : p < d.length := by omega
      have hpl0 : p < fs[i].code.length := by omega
      obtain ⟨cb, coff, rfl, -, e1, -⟩ := d4 p hpl0
      have e1' := cell_later hbA e1
      have hc1 := hHA.cell hpd0
      have hlow0 := P.low p hpd0
      clear e1
      by_cases ho : fs[i].code[p].1 = 23 ∨ fs[i].code[p].1 = 24
      case neg =>
        have ho' : (decide (fs[i].code[p].1 = 23) || decide (fs[i].code[p].1 = 24)) = false := by simpa using ho
        have HO : Hid (¬ (fs[i].code[p].1 = 23 ∨ fs[i].code[p].1 = 24)) := ho
        clear ho
        go_wp2_with (go_at_call 115; refine (callOp_any _ _).mono ?_; rintro e w' ⟨rfl, hw⟩; rw [hw]; clear hw w')
        go_ret
        refine ⟨Says.no rfl ?_, below_draws hbA _⟩
        rw [fits_other hi hD hpd hdl.out HL.out HM.out]
        exact fun h => HO.out h.2.1
      have ho' : (decide (fs[i].code[p].1 = 23) || decide (fs[i].code[p].1 = 24)) = true := by simpa using ho
      have HO : Hid (fs[i].code[p].1 = 23 ∨ fs[i].code[p].1 = 24) := ho
      clear ho
      by_cases hm0 : d[p] = -1
      · have HM0 : Hid (d[p] = -1) := hm0
        have hm0' : (d[p] != -1) = false := by simpa using hm0
        clear hm0
        go_wp2_with (go_at_call 115; refine (callOp_any _ _).mono ?_; rintro e w' ⟨rfl, hw⟩; rw [hw]; clear hw w')
        go_ret
        refine ⟨Says.no rfl ?_, below_draws hbA _⟩
        rw [fits_other hi hD hpd hdl.out HL.out HM.out]
        exact fun h => absurd h.1 (by rw [HM0.out]; decide)
      · have HM0 : Hid (0 ≤ d[p]) := by show 0 ≤ d[p]; omega
        have hm0' : (d[p] != -1) = true := by simpa using hm0
        clear hm0
        go_wp2_with (go_at_call 115; refine (callOp_any _ _).mono ?_; rintro e w' ⟨rfl, hw⟩; rw [hw]; clear hw w')
        go_ret
        refine ⟨⟨_, rfl, ?_⟩, below_draws hbA _⟩
        rw [fits_other hi hD hpd hdl.out HL.out HM.out]
        constructor
        · intro h
          exact ⟨HM0.out, HO.out, by simpa using h⟩
        · rintro ⟨-, -, h⟩
          simpa using h
end Go.Proofs.YtcebgbcgkkfedaaGreat

namespace Go.Proofs.YtcebgbcgkkfedaaGreat
open Go.RowKit

theorem frames_run {fs : List Fn} {d : VmD} (h : Frames fs d) (hs : d.status ≠ 1) : ((d.status = 0 ∧ d.trap = 0) ∨ (d.status = 2 ∧ 1 ≤ d.trap ∧ d.trap ≤ 8)) ∧ 1 ≤ d.frames.length ∧ d.frames.length ≤ 24 ∧ (d.value.k = 0 ∧ d.value.n = 0 ∧ d.value.s = ⟨#[]⟩) ∧
    ∀ i (h : i < d.frames.length), Fits fs d.frames[i].fn d.frames[i].pc d.frames[i].locals.length d.frames[i].stack.length (decide ((i : Int) = (d.frames.length : Int) - 1)) := by
  rcases h with h | h
  · exact absurd h.1 hs
  · exact h

/-- The loop over the frames, and what lies ahead of it, where Status and Trap are as they may be. -/
def Run (d : VmD) : Prop := (d.status = 0 ∧ d.trap = 0) ∨ (d.status = 2 ∧ 1 ≤ d.trap ∧ d.trap ≤ 8)

set_option maxRecDepth 100000 in
set_option maxHeartbeats 4000000 in
theorem frames_done (a1 a2 : Option Addr) (nt c1 c2 : Nat) (fs : List Fn) (G : Nat) (fa ha oa : Option Addr) (fc hcp oc : Nat) (d : VmD) (w : World) (hx : VmSmall d) (hs : d.status = 1) :
    Calls Tryz.prog 58 #[.agg #[.slice a1 nt c1, .slice a2 fs.length c2], .slice (some ⟨G, 0, none⟩) fs.length fs.length, .agg (vmCells fa ha oa fc hcp oc d)] w fun e w' => Says (Frames fs d) e ∧ Below w.heap.size w w' := by
  have hbA : Below w.heap.size w ((w.alloc (.cells #[.slice a1 nt c1, .slice a2 fs.length c2] 42)).alloc (.cells #[.slice fa d.frames.length fc, .slice ha d.heap.length hcp, .int .i64 d.made, .slice oa d.out.length oc, .int .i64 d.status, .int .i64 d.trap, .int .i64 d.value.k, .int .i64 d.value.n, .string d.value.s, .int .i64 d.steps] 38)) := ((Below.refl _ _).alloc (Nat.le_refl _) _).alloc (by simp) _
  have hfl := hx.frames
  unfold vmCells
  have HS : Hid (d.status = 1) := hs
  rw [hs] at hbA ⊢
  clear hs
  by_cases h1 : d.frames.length = 0
  · have h1I : ((d.frames.length : Int) == 0) = true := by simpa using h1
    have H1 : Hid (d.frames.length = 0) := h1
    clear h1
    go_enter Tryz.func58, Tryz.ntmps58
    go_wp2
    go_ret
    refine ⟨⟨_, rfl, ?_⟩, hbA⟩
    constructor
    · intro h
      exact .inl ⟨HS.out, H1.out, by simpa using h⟩
    · rintro (⟨-, -, h⟩ | ⟨⟨h, -⟩ | ⟨h, -⟩, -⟩)
      · simpa using h
      · rw [HS.out] at h; cases h
      · rw [HS.out] at h; cases h
  · have h1I : ((d.frames.length : Int) == 0) = false := by simpa using h1
    have H1 : Hid (¬ d.frames.length = 0) := h1
    clear h1
    go_enter Tryz.func58, Tryz.ntmps58
    go_wp2
    go_ret
    refine ⟨Says.no rfl ?_, hbA⟩
    rintro (⟨-, h, -⟩ | ⟨⟨h, -⟩ | ⟨h, -⟩, -⟩)
    · exact H1.out h
    · rw [HS.out] at h; cases h
    · rw [HS.out] at h; cases h

set_option maxRecDepth 100000 in
set_option maxHeartbeats 4000000 in
theorem frames_bad (a1 a2 : Option Addr) (nt c1 c2 : Nat) (fs : List Fn) (G : Nat) (fa ha oa : Option Addr) (fc hcp oc : Nat) (d : VmD) (w : World) (hx : VmSmall d) (hs : d.status ≠ 1) (hr : ¬ Run d) :
    Calls Tryz.prog 58 #[.agg #[.slice a1 nt c1, .slice a2 fs.length c2], .slice (some ⟨G, 0, none⟩) fs.length fs.length, .agg (vmCells fa ha oa fc hcp oc d)] w fun e w' => Says (Frames fs d) e ∧ Below w.heap.size w w' := by
  have hbA : Below w.heap.size w ((w.alloc (.cells #[.slice a1 nt c1, .slice a2 fs.length c2] 42)).alloc (.cells #[.slice fa d.frames.length fc, .slice ha d.heap.length hcp, .int .i64 d.made, .slice oa d.out.length oc, .int .i64 d.status, .int .i64 d.trap, .int .i64 d.value.k, .int .i64 d.value.n, .string d.value.s, .int .i64 d.steps] 38)) := ((Below.refl _ _).alloc (Nat.le_refl _) _).alloc (by simp) _
  have hfl := hx.frames
  unfold vmCells
  have HW : Hid (¬ Frames fs d) := fun h => hr (frames_run h hs).1
  by_cases h0 : d.status = 0
  · have ht : (d.trap != 0) = true := by simpa using fun h => hr (.inl ⟨h0, h⟩)
    rw [h0] at hbA ⊢
    clear hs hr h0
    go_enter Tryz.func58, Tryz.ntmps58
    go_wp2
    all_goals go_ret
    all_goals exact ⟨Says.no rfl (HW.out), hbA⟩
  · by_cases h2 : d.status = 2
    · have ht : d.trap < 1 ∨ 8 < d.trap := by
        by_cases ha : 1 ≤ d.trap
        · by_cases hb : d.trap ≤ 8
          · exact absurd (.inr ⟨h2, ha, hb⟩) hr
          · omega
        · omega
      rw [h2] at hbA ⊢
      clear hs hr h0 h2
      rcases ht with ht | ht
      · go_enter Tryz.func58, Tryz.ntmps58
        go_wp2
        all_goals go_ret
        all_goals exact ⟨Says.no rfl HW.out, hbA⟩
      · by_cases hu : d.trap < 1
        · omega
        · go_enter Tryz.func58, Tryz.ntmps58
          go_wp2
          all_goals go_ret
          all_goals exact ⟨Says.no rfl HW.out, hbA⟩
    · have b0 : (d.status == 0) = false := by simpa using h0
      have b1 : (d.status == 1) = false := by simpa using hs
      have b2 : (d.status == 2) = false := by simpa using h2
      clear hs hr h0 h2
      go_enter Tryz.func58, Tryz.ntmps58
      go_wp2
      all_goals go_ret
      all_goals exact ⟨Says.no rfl (HW.out), hbA⟩

set_option maxRecDepth 100000 in
set_option maxHeartbeats 4000000 in
theorem frames_some (a1 a2 : Option Addr) (nt c1 c2 : Nat) (fs : List Fn) (base G : Nat) (fa ha oa : Option Addr) (fc hcp oc : Nat) (d : VmD) (w : World) (hx : VmSmall d) (hm : VmAt w 0 fa ha oa d) (hmf : FnsAt w 0 a2 fs) (hH : Hs w base G fs.length fs) (FF : ∀ k (hk : k < fs.length), Fine fs fs[k].code) (st tr : Int) (hst : d.status = st) (htr : d.trap = tr) (hr : (st = 0 ∧ tr = 0) ∨ (st = 2 ∧ 1 ≤ tr ∧ tr ≤ 8)) :
    Calls Tryz.prog 58 #[.agg #[.slice a1 nt c1, .slice a2 fs.length c2], .slice (some ⟨G, 0, none⟩) fs.length fs.length, .agg (vmCells fa ha oa fc hcp oc d)] w fun e w' => Says (Frames fs d) e ∧ Below w.heap.size w w' := by
  have hne : d.status ≠ 1 := by rcases hr with h | h <;> omega
  have HR : Hid (Run d) := by show Run d; unfold Run; rw [hst, htr]; exact hr
  have HF : Hid (Frames fs d → 1 ≤ d.frames.length ∧ d.frames.length ≤ 24 ∧ (d.value.k = 0 ∧ d.value.n = 0 ∧ d.value.s = ⟨#[]⟩) ∧ ∀ i (h : i < d.frames.length), Fits fs d.frames[i].fn d.frames[i].pc d.frames[i].locals.length d.frames[i].stack.length (decide ((i : Int) = (d.frames.length : Int) - 1))) := fun h => (frames_run h hne).2
  have hbA : Below w.heap.size w ((w.alloc (.cells #[.slice a1 nt c1, .slice a2 fs.length c2] 42)).alloc (.cells #[.slice fa d.frames.length fc, .slice ha d.heap.length hcp, .int .i64 d.made, .slice oa d.out.length oc, .int .i64 d.status, .int .i64 d.trap, .int .i64 d.value.k, .int .i64 d.value.n, .string d.value.s, .int .i64 d.steps] 38)) := ((Below.refl _ _).alloc (Nat.le_refl _) _).alloc (by simp) _
  have hfl := hx.frames
  unfold vmCells
  have hM0 := block_old (block_new w #[.slice a1 nt c1, .slice a2 fs.length c2] 42) (.cells #[.slice fa d.frames.length fc, .slice ha d.heap.length hcp, .int .i64 d.made, .slice oa d.out.length oc, .int .i64 d.status, .int .i64 d.trap, .int .i64 d.value.k, .int .i64 d.value.n, .string d.value.s, .int .i64 d.steps] 38)
  have hV0 := block_new_at (w.alloc (.cells #[.slice a1 nt c1, .slice a2 fs.length c2] 42)) #[.slice fa d.frames.length fc, .slice ha d.heap.length hcp, .int .i64 d.made, .slice oa d.out.length oc, .int .i64 d.status, .int .i64 d.trap, .int .i64 d.value.k, .int .i64 d.value.n, .string d.value.s, .int .i64 d.steps] 38 (w.heap.size + 1) (by simp)
  rw [hst, htr] at hbA hM0 hV0 ⊢
  clear hst htr hne
  by_cases h1 : d.frames.length < 1
  · have h1I : (d.frames.length : Int) < 1 := by omega
    have HN : Hid (¬ Frames fs d) := fun h => by have := (HF.out h).1; omega
    rcases hr with ⟨rfl, rfl⟩ | ⟨rfl, ht1, ht2⟩
    · go_enter Tryz.func58, Tryz.ntmps58
      go_wp2
      all_goals go_ret
      all_goals exact ⟨Says.no rfl (HN.out), hbA⟩
    · go_enter Tryz.func58, Tryz.ntmps58
      go_wp2
      all_goals go_ret
      all_goals exact ⟨Says.no rfl (HN.out), hbA⟩
  by_cases h2 : 24 < d.frames.length
  · have h2I : 24 < (d.frames.length : Int) := by omega
    have h1I : ¬ (d.frames.length : Int) < 1 := by omega
    have HN : Hid (¬ Frames fs d) := fun h => by have := (HF.out h).2.1; omega
    rcases hr with ⟨rfl, rfl⟩ | ⟨rfl, ht1, ht2⟩
    · go_enter Tryz.func58, Tryz.ntmps58
      go_wp2
      all_goals go_ret
      all_goals exact ⟨Says.no rfl (HN.out), hbA⟩
    · go_enter Tryz.func58, Tryz.ntmps58
      go_wp2
      all_goals go_ret
      all_goals exact ⟨Says.no rfl (HN.out), hbA⟩
  have h1I : ¬ (d.frames.length : Int) < 1 := by omega
  have h2I : ¬ 24 < (d.frames.length : Int) := by omega
  by_cases hz : d.value.k = 0 ∧ d.value.n = 0 ∧ d.value.s = ⟨#[]⟩
  case neg =>
    have HN : Hid (¬ Frames fs d) := fun h => hz (HF.out h).2.2.1
    by_cases z0 : d.value.k = 0
    · by_cases z1 : d.value.n = 0
      · have z2 : d.value.s ≠ ⟨#[]⟩ := fun h => hz ⟨z0, z1, h⟩
        have e1 := (not_empty z2).1
        have e2 := (not_empty z2).2
        rw [z0, z1] at hbA ⊢
        clear hz z2 z0 z1
        rcases hr with ⟨rfl, rfl⟩ | ⟨rfl, ht1, ht2⟩
        · go_enter Tryz.func58, Tryz.ntmps58
          go_wp2
          all_goals go_ret
          all_goals exact ⟨Says.no rfl (HN.out), hbA⟩
        · go_enter Tryz.func58, Tryz.ntmps58
          go_wp2
          all_goals go_ret
          all_goals exact ⟨Says.no rfl (HN.out), hbA⟩
      · have e1 : (d.value.n == 0) = false := by simpa using z1
        have e2 : (0 == d.value.n) = false := by simpa using fun h => z1 (h : (0 : Int) = d.value.n).symm
        rw [z0] at hbA ⊢
        clear hz z0 z1
        rcases hr with ⟨rfl, rfl⟩ | ⟨rfl, ht1, ht2⟩
        · go_enter Tryz.func58, Tryz.ntmps58
          go_wp2
          all_goals go_ret
          all_goals exact ⟨Says.no rfl (HN.out), hbA⟩
        · go_enter Tryz.func58, Tryz.ntmps58
          go_wp2
          all_goals go_ret
          all_goals exact ⟨Says.no rfl (HN.out), hbA⟩
    · have e1 : (d.value.k == 0) = false := by simpa using z0
      have e2 : (0 == d.value.k) = false := by simpa using fun h => z0 (h : (0 : Int) = d.value.k).symm
      clear hz z0
      rcases hr with ⟨rfl, rfl⟩ | ⟨rfl, ht1, ht2⟩
      · go_enter Tryz.func58, Tryz.ntmps58
        go_wp2
        all_goals go_ret
        all_goals exact ⟨Says.no rfl (HN.out), hbA⟩
      · go_enter Tryz.func58, Tryz.ntmps58
        go_wp2
        all_goals go_ret
        all_goals exact ⟨Says.no rfl (HN.out), hbA⟩
  obtain ⟨z0, z1, z2⟩ := hz
  have HZ : Hid (d.value.k = 0 ∧ d.value.n = 0 ∧ d.value.s = ⟨#[]⟩) := ⟨z0, z1, z2⟩
  rw [z0, z1, z2] at hbA hM0 hV0 ⊢
  clear z0 z1 z2
  rcases hr with ⟨rfl, rfl⟩ | ⟨rfl, ht1, ht2⟩
  · go_enter Tryz.func58, Tryz.ntmps58
    go_wp2
    go_loopw [57] (fun i wr => ∃ (k : Nat), k ≤ d.frames.length ∧ i = .int .i64 k ∧ Hid (∀ q (h : q < d.frames.length), q < k → Fits fs d.frames[q].fn d.frames[q].pc d.frames[q].locals.length d.frames[q].stack.length (decide ((q : Int) = (d.frames.length : Int) - 1))) ∧ wr.heap[w.heap.size]? = some (.cells #[.slice a1 nt c1, .slice a2 fs.length c2] 42 (0, 0)) ∧ wr.heap[w.heap.size + 1]? = some (.cells #[.slice fa d.frames.length fc, .slice ha d.heap.length hcp, .int .i64 d.made, .slice oa d.out.length oc, .int .i64 0, .int .i64 0, .int .i64 0, .int .i64 0, .string ⟨#[]⟩, .int .i64 d.steps] 38 (0, 0)) ∧ Below w.heap.size w wr) (fun i _ => d.frames.length - (intOf i).toNat)
    case atStart => exact ⟨0, by omega, rfl, fun _ _ h => absurd h (Nat.not_lt_zero _), hM0, hV0, hbA⟩
    case round =>
      obtain ⟨k, hk, rfl, hall, hM, hV, hb⟩ := hrel
      clear hM0 hV0 hbA
      by_cases hlt : k < d.frames.length
      · obtain ⟨b, off, la, lc, sa, sc, rfl, -, e1, e2, e3, e4, -, -⟩ := hm.frs k hlt
        have e1' := cell_later hb e1
        have e2' := cell_later hb e2
        have e3' := cell_later hb e3
        have e4' := cell_later hb e4
        clear e1 e2 e3 e4
        have hsl := (hx.locals _ (List.getElem_mem hlt)).1
        have hss := (hx.stack _ (List.getElem_mem hlt)).1
        have hMn := block_old hM (.cells #[.int .i64 d.frames[k].fn, .int .i64 d.frames[k].pc, .slice la d.frames[k].locals.length lc, .slice sa d.frames[k].stack.length sc] 90)
        have hVn := block_old hV (.cells #[.int .i64 d.frames[k].fn, .int .i64 d.frames[k].pc, .slice la d.frames[k].locals.length lc, .slice sa d.frames[k].stack.length sc] 90)
        have hBn := hb.alloc hb.size (.cells #[.int .i64 d.frames[k].fn, .int .i64 d.frames[k].pc, .slice la d.frames[k].locals.length lc, .slice sa d.frames[k].stack.length sc] 90)
        have m1 := block_cell hMn
        have v1 := block_cell hVn
        go_wp2_with fail
        refine (fits_any _ _ _ _ _ fs base G _ _ _ _ _ _ (hmf.mono hBn) (hH.mono hBn) FF).mono ?_
        rintro e w1 ⟨⟨q, rfl, hq⟩, hb1⟩
        have hM1 := block_kept hMn hb1
        have hV1 := block_kept hVn hb1
        have hB1 := hBn.trans (hb1.mono hBn.size)
        have HQ : Hid (q = true ↔ Fits fs d.frames[k].fn d.frames[k].pc d.frames[k].locals.length d.frames[k].stack.length (decide ((k : Int) = (d.frames.length : Int) - 1))) := hq
        clear e1' e2' e3' e4' hMn hVn hBn m1 v1 hb1 hM hV hb hq
        cases q with
        | true =>
          go_wp2
          go_roundw
          case rel => exact ⟨k + 1, by omega, by go_num, fun q hq hqk => (by
            by_cases e : q = k
            · subst e; exact HQ.out.1 (by simp)
            · exact hall.out q hq (by omega)), hM1, hV1, hB1⟩
          case measure => simp [intOf]; omega
        | false =>
          go_wp2
          go_ret
          exact ⟨Says.no rfl (fun h => by have := HQ.out.2 ((HF.out h).2.2.2 k hlt); cases this), hB1⟩
      · go_wp2
        go_ret
        exact ⟨Says.yes rfl (.inr ⟨HR.out, by omega, by omega, HZ.out, fun i hi => hall.out i hi (by omega)⟩), hb⟩
  · go_enter Tryz.func58, Tryz.ntmps58
    go_wp2
    go_loopw [57] (fun i wr => ∃ (k : Nat), k ≤ d.frames.length ∧ i = .int .i64 k ∧ Hid (∀ q (h : q < d.frames.length), q < k → Fits fs d.frames[q].fn d.frames[q].pc d.frames[q].locals.length d.frames[q].stack.length (decide ((q : Int) = (d.frames.length : Int) - 1))) ∧ wr.heap[w.heap.size]? = some (.cells #[.slice a1 nt c1, .slice a2 fs.length c2] 42 (0, 0)) ∧ wr.heap[w.heap.size + 1]? = some (.cells #[.slice fa d.frames.length fc, .slice ha d.heap.length hcp, .int .i64 d.made, .slice oa d.out.length oc, .int .i64 2, .int .i64 tr, .int .i64 0, .int .i64 0, .string ⟨#[]⟩, .int .i64 d.steps] 38 (0, 0)) ∧ Below w.heap.size w wr) (fun i _ => d.frames.length - (intOf i).toNat)
    case atStart => exact ⟨0, by omega, rfl, fun _ _ h => absurd h (Nat.not_lt_zero _), hM0, hV0, hbA⟩
    case round =>
      obtain ⟨k, hk, rfl, hall, hM, hV, hb⟩ := hrel
      clear hM0 hV0 hbA
      by_cases hlt : k < d.frames.length
      · obtain ⟨b, off, la, lc, sa, sc, rfl, -, e1, e2, e3, e4, -, -⟩ := hm.frs k hlt
        have e1' := cell_later hb e1
        have e2' := cell_later hb e2
        have e3' := cell_later hb e3
        have e4' := cell_later hb e4
        clear e1 e2 e3 e4
        have hsl := (hx.locals _ (List.getElem_mem hlt)).1
        have hss := (hx.stack _ (List.getElem_mem hlt)).1
        have hMn := block_old hM (.cells #[.int .i64 d.frames[k].fn, .int .i64 d.frames[k].pc, .slice la d.frames[k].locals.length lc, .slice sa d.frames[k].stack.length sc] 90)
        have hVn := block_old hV (.cells #[.int .i64 d.frames[k].fn, .int .i64 d.frames[k].pc, .slice la d.frames[k].locals.length lc, .slice sa d.frames[k].stack.length sc] 90)
        have hBn := hb.alloc hb.size (.cells #[.int .i64 d.frames[k].fn, .int .i64 d.frames[k].pc, .slice la d.frames[k].locals.length lc, .slice sa d.frames[k].stack.length sc] 90)
        have m1 := block_cell hMn
        have v1 := block_cell hVn
        go_wp2_with fail
        refine (fits_any _ _ _ _ _ fs base G _ _ _ _ _ _ (hmf.mono hBn) (hH.mono hBn) FF).mono ?_
        rintro e w1 ⟨⟨q, rfl, hq⟩, hb1⟩
        have hM1 := block_kept hMn hb1
        have hV1 := block_kept hVn hb1
        have hB1 := hBn.trans (hb1.mono hBn.size)
        have HQ : Hid (q = true ↔ Fits fs d.frames[k].fn d.frames[k].pc d.frames[k].locals.length d.frames[k].stack.length (decide ((k : Int) = (d.frames.length : Int) - 1))) := hq
        clear e1' e2' e3' e4' hMn hVn hBn m1 v1 hb1 hM hV hb hq
        cases q with
        | true =>
          go_wp2
          go_roundw
          case rel => exact ⟨k + 1, by omega, by go_num, fun q hq hqk => (by
            by_cases e : q = k
            · subst e; exact HQ.out.1 (by simp)
            · exact hall.out q hq (by omega)), hM1, hV1, hB1⟩
          case measure => simp [intOf]; omega
        | false =>
          go_wp2
          go_ret
          exact ⟨Says.no rfl (fun h => by have := HQ.out.2 ((HF.out h).2.2.2 k hlt); cases this), hB1⟩
      · go_wp2
        go_ret
        exact ⟨Says.yes rfl (.inr ⟨HR.out, by omega, by omega, HZ.out, fun i hi => hall.out i hi (by omega)⟩), hb⟩

theorem framesOk_any (a1 a2 : Option Addr) (nt c1 c2 : Nat) (fs : List Fn) (base G : Nat) (fa ha oa : Option Addr) (fc hcp oc : Nat) (d : VmD) (w : World) (hx : VmSmall d) (hm : VmAt w 0 fa ha oa d) (hmf : FnsAt w 0 a2 fs) (hH : Hs w base G fs.length fs) (FF : ∀ k (hk : k < fs.length), Fine fs fs[k].code) :
    Calls Tryz.prog 58 #[.agg #[.slice a1 nt c1, .slice a2 fs.length c2], .slice (some ⟨G, 0, none⟩) fs.length fs.length, .agg (vmCells fa ha oa fc hcp oc d)] w fun e w' => Says (Frames fs d) e ∧ Below w.heap.size w w' := by
  by_cases hs : d.status = 1
  · exact frames_done a1 a2 nt c1 c2 fs G fa ha oa fc hcp oc d w hx hs
  · by_cases hr : Run d
    · exact frames_some a1 a2 nt c1 c2 fs base G fa ha oa fc hcp oc d w hx hm hmf hH FF _ _ rfl rfl hr
    · exact frames_bad a1 a2 nt c1 c2 fs G fa ha oa fc hcp oc d w hx hs hr
end Go.Proofs.YtcebgbcgkkfedaaGreat

namespace Go.Proofs.YtcebgbcgkkfedaaGreat
open Go.RowKit

/-- The module is good. -/
def Good (ts : List ByteArray) (fs : List Fn) : Prop := ∃ f a, VPost ts fs 0 f a
theorem VPost.good {ts : List ByteArray} {fs : List Fn} {c f a : Int} (h : VPost ts fs c f a) : c = 0 ↔ Good ts fs := by
  constructor
  · rintro rfl
    exact ⟨f, a, h⟩
  · rintro ⟨f', a', h'⟩
    exact (h.one h').1
theorem Good.ok {ts : List ByteArray} {fs : List Fn} (h : Good ts fs) : modB ts fs = true := by
  obtain ⟨f, a, ⟨-, h, -⟩ | ⟨h, -⟩⟩ := h
  · exact absurd h (by decide)
  · exact h
def VmGood (ts : List ByteArray) (fs : List Fn) (d : VmD) : Prop := Good ts fs ∧ Room d ∧ Frames fs d ∧ Vals fs.length d

set_option maxRecDepth 100000 in
set_option maxHeartbeats 4000000 in
theorem iVmOk_any (a1 a2 : Option Addr) (c1 c2 : Nat) (ts : List ByteArray) (fs : List Fn) (fa ha oa : Option Addr) (fc hcp oc : Nat) (d : VmD) (w : World) (hs : Small ts fs) (hst : StrsAt w 0 a1 ts) (hfn : FnsAt w 0 a2 fs) (hx : VmSmall d) (hm : VmAt w 0 fa ha oa d) :
    Calls Tryz.prog 30 #[.agg #[.slice a1 ts.length c1, .slice a2 fs.length c2], .agg (vmCells fa ha oa fc hcp oc d)] w fun e w' => Says (VmGood ts fs d) e ∧ Below w.heap.size w w' := by
  have hbA : Below w.heap.size w ((w.alloc (.cells #[.slice a1 ts.length c1, .slice a2 fs.length c2] 42)).alloc (.cells (vmCells fa ha oa fc hcp oc d) 38)) := ((Below.refl _ _).alloc (Nat.le_refl _) _).alloc (by simp) _
  have hM0 := block_old (block_new w #[.slice a1 ts.length c1, .slice a2 fs.length c2] 42) (.cells (vmCells fa ha oa fc hcp oc d) 38)
  have hV0 := block_new_at (w.alloc (.cells #[.slice a1 ts.length c1, .slice a2 fs.length c2] 42)) (vmCells fa ha oa fc hcp oc d) 38 (w.heap.size + 1) (by simp)
  unfold vmCells at hbA hM0 hV0 ⊢
  go_enter Tryz.func30, Tryz.ntmps30
  go_wp2_with fail
  refine (iAll_any _ _ _ _ ts fs _ hs (hst.mono hbA) (hfn.mono hbA)).mono ?_
  rintro e w1 ⟨⟨v, c, f, a, rfl, hV, hG⟩, hb1⟩
  have hM1 := block_kept hM0 hb1
  have hV1 := block_kept hV0 hb1
  have hB1 := hbA.trans (hb1.mono hbA.size)
  have HG : Hid (c = 0 ↔ Good ts fs) := hV.good
  have HH : Hid (c = 0 → ∃ G, v = .slice (some ⟨G, 0, none⟩) fs.length fs.length ∧ Hs w1 ((w.alloc (.cells #[.slice a1 ts.length c1, .slice a2 fs.length c2] 42)).alloc (.cells #[.slice fa d.frames.length fc, .slice ha d.heap.length hcp, .int .i64 d.made, .slice oa d.out.length oc, .int .i64 d.status, .int .i64 d.trap, .int .i64 d.value.k, .int .i64 d.value.n, .string d.value.s, .int .i64 d.steps] 38)).heap.size G fs.length fs) := hG
  clear hM0 hV0 hb1 hbA hV hG
  by_cases hc : c = 0
  case neg =>
    have hc' : (c == 0) = false := by simpa using hc
    have HC : Hid (¬ c = 0) := hc
    clear hc
    go_wp2
    go_ret
    exact ⟨Says.no rfl (fun h => HC.out (HG.out.2 h.1)), hB1.alloc hB1.size _⟩
  subst hc
  obtain ⟨G, rfl, hHs⟩ := HH.out rfl
  have hgood := HG.out.1 rfl
  have HGD : Hid (Good ts fs) := hgood
  have FF : ∀ k (hk : k < fs.length), Fine fs fs[k].code := fun k hk => fine_of hgood.ok hk
  obtain ⟨w2, hw2⟩ : ∃ w2, w2 = w1.alloc (.cells #[.int .i64 0, .int .i64 f, .int .i64 a] 103) := ⟨_, rfl⟩
  have hb2 : Below w1.heap.size w1 w2 := by rw [hw2]; exact (Below.refl _ _).alloc (Nat.le_refl _) _
  have hB2 := hB1.trans (hb2.mono hB1.size)
  have hM2 := block_kept hM1 hb2
  have hV2 := block_kept hV1 hb2
  have hHs2 := hHs.mono hb2
  have v1 := block_cell (block_old hV1 (.cells #[.int .i64 0, .int .i64 f, .int .i64 a] 103))
  clear HG HH hgood hb2 hM1 hV1 hHs hB1
  go_wp2_with fail
  rw [← hw2]
  clear v1 hw2
  refine (roomOk_any fa ha oa fc hcp oc d _ hx (hm.mono hB2)).mono ?_
  rintro e w3 ⟨⟨q, rfl, hq⟩, hb3⟩
  have HQ : Hid (q = true ↔ Room d) := hq
  have hB3 := hB2.trans (hb3.mono hB2.size)
  have hM3 := block_kept hM2 hb3
  have hV3 := block_kept hV2 hb3
  have hHs3 := hHs2.mono hb3
  clear hq hb3 hM2 hV2 hHs2 hB2
  have HQn : Hid (q = false → ¬ Room d) := fun h hr => by rw [HQ.out.2 hr] at h; cases h
  have HQy : Hid (q = true → Room d) := HQ.out.1
  clear HQ
  cases hqc : q with
  | false =>
    have HN : Hid (¬ Room d) := HQn.out hqc
    clear hqc HQn HQy
    go_wp2
    go_ret
    exact ⟨Says.no rfl (fun h => HN.out h.2.1), hB3⟩
  | true =>
    have HR : Hid (Room d) := HQy.out hqc
    clear hqc HQn HQy
    have m3 := block_cell hM3
    have v3 := block_cell hV3
    go_wp2_with fail
    refine (framesOk_any a1 a2 ts.length c1 c2 fs _ G fa ha oa fc hcp oc d _ hx (hm.mono hB3) (hfn.mono hB3) hHs3 FF).mono ?_
    rintro e w4 ⟨⟨q4, rfl, hq4⟩, hb4⟩
    have hB4 := hB3.trans (hb4.mono hB3.size)
    have hM4 := block_kept hM3 hb4
    have hV4 := block_kept hV3 hb4
    have HQn : Hid (q4 = false → ¬ Frames fs d) := fun h hr => by rw [hq4.2 hr] at h; cases h
    have HQy : Hid (q4 = true → Frames fs d) := hq4.1
    clear hq4 hb4 hM3 hV3 hHs3 hB3 m3 v3
    cases hqc : q4 with
    | false =>
      have HN : Hid (¬ Frames fs d) := HQn.out hqc
      clear hqc HQn HQy
      go_wp2
      go_ret
      exact ⟨Says.no rfl (fun h => HN.out h.2.2.1), hB4⟩
    | true =>
      have HF : Hid (Frames fs d) := HQy.out hqc
      clear hqc HQn HQy
      have m4 := block_cell hM4
      have v4 := block_cell hV4
      go_wp2_with fail
      refine (valuesOk_any a1 a2 ts.length c1 fs.length c2 fa ha oa fc hcp oc d _ hx (hm.mono hB4)).mono ?_
      rintro e w5 ⟨⟨q5, rfl, hq5⟩, hb5⟩
      have HQ5 : Hid (q5 = true ↔ Vals fs.length d) := hq5
      clear hq5 m4 v4
      go_wp2
      go_ret
      exact ⟨⟨q5, rfl, ⟨fun h => ⟨HGD.out, HR.out, HF.out, HQ5.out.1 h⟩, fun h => HQ5.out.2 h.2.2.2⟩⟩, hB4.trans (hb5.mono hB4.size)⟩
end Go.Proofs.YtcebgbcgkkfedaaGreat

namespace Go.Proofs.YtcebgbcgkkfedaaGreat
open Go.RowKit

set_option maxRecDepth 100000 in
set_option maxHeartbeats 4000000 in
theorem sVerify_any (a1 a2 : Option Addr) (c1 c2 : Nat) (ts : List ByteArray) (fs : List Fn) (w : World) (hs : Small ts fs) (hm : StrsAt w 0 a1 ts) (hm2 : FnsAt w 0 a2 fs) :
    Calls Tryz.prog 79 #[.agg #[.slice a1 ts.length c1, .slice a2 fs.length c2]] w fun e w' => ∃ c f a, e = .returned (.agg #[.int .i64 c, .int .i64 f, .int .i64 a]) ∧ VPost ts fs c f a ∧ Below w.heap.size w w' := by
  have hn := hs.funcs
  have hbA : Below w.heap.size w ((w.alloc (.cells #[.slice a1 ts.length c1, .slice a2 fs.length c2] 42)).alloc (.cells #[.int .i64 0, .int .i64 0, .int .i64 0] 103)) := ((Below.refl _ _).alloc (Nat.le_refl _) _).alloc (by simp) _
  have hM0 := block_old (block_new w #[.slice a1 ts.length c1, .slice a2 fs.length c2] 42) (.cells #[.int .i64 0, .int .i64 0, .int .i64 0] 103)
  have hR0 := block_new (w.alloc (.cells #[.slice a1 ts.length c1, .slice a2 fs.length c2] 42)) #[.int .i64 0, .int .i64 0, .int .i64 0] 103
  rw [World.size_alloc] at hR0
  go_enter Tryz.func79, Tryz.ntmps79
  go_wp2_with fail
  refine (sModuleOk_any _ _ ts fs _ _ _ hs (hm.mono hbA) (hm2.mono hbA)).mono ?_
  rintro e w1 ⟨rfl, hb⟩
  have hM1 := block_kept hM0 hb
  have hR1 := block_kept hR0 hb
  have hb1 : Below w.heap.size w w1 := hbA.trans (hb.mono (by simp; omega))
  have r1 := block_cell hR1
  have r2 := block_free hR1
  clear hbA hM0 hR0 hb
  by_cases hok : modB ts fs = true
  · have HO : Hid (modB ts fs = true) := hok
    have FF : ∀ k (hk : k < fs.length), Fine fs fs[k].code := fun k hk => fine_of hok hk
    go_wp2
    clear hok r1 r2
    go_loopw [3] (fun i wr => ∃ (k : Nat), k ≤ fs.length ∧ i = .int .i64 k ∧ Hid (∀ q (hq : q < fs.length), q < k → Clear fs fs[q].code fs[q].code.length) ∧ wr.heap[w.heap.size]? = some (.cells #[.slice a1 ts.length c1, .slice a2 fs.length c2] 42 (0, 0)) ∧ wr.heap[w.heap.size + 1]? = some (.cells #[.int .i64 0, .int .i64 0, .int .i64 0] 103 (0, 0)) ∧ Below w.heap.size w wr) (fun i _ => fs.length - (intOf i).toNat)
    case atStart => exact ⟨0, by omega, rfl, fun _ _ h => absurd h (Nat.not_lt_zero _), hM1, hR1, hb1⟩
    case round =>
      obtain ⟨k, hk, rfl, hcl, hM, hR, hb⟩ := hrel
      obtain ⟨wo, rfl⟩ : ∃ wo, wo = wr := ⟨_, rfl⟩
      clear hM1 hR1 hb1
      have y0 := block_cell hM
      by_cases hlt : k < fs.length
      · have F := FF k hlt
        have hmost := F.most
        obtain ⟨b, off, ca, cc, rfl, -, d1, d2, d3, d4⟩ := hm2 k hlt
        have d3' := cell_later hb d3
        clear d1 d2 d3
        go_wp2_with fail
        refine (sDepths_any _ _ _ _ _ fs k _ hlt hn (hm2.mono hb) F).mono ?_
        rintro e w2 ⟨g, cap, d, rfl, hg, hD, hH, k2⟩
        have P := hD.hts F
        have hM2 := block_kept hM k2
        have hR2 := block_kept hR k2
        have hb2 : Below w.heap.size w w2 := hb.trans (k2.mono hb.size)
        clear k2 d3' hM hR hb y0
        go_wp2
        go_loopw [6] (fun i ws => ∃ (j : Nat), j ≤ fs[k].code.length ∧ i = .int .i64 j ∧ Hid (∀ q, q < j → troubleB fs fs[k].code d q = 0) ∧ Ht ws g cap d ∧ ws.heap[w.heap.size]? = some (.cells #[.slice a1 ts.length c1, .slice (some ⟨b, off, none⟩) fs.length c2] 42 (0, 0)) ∧ ws.heap[w.heap.size + 1]? = some (.cells #[.int .i64 0, .int .i64 0, .int .i64 0] 103 (0, 0)) ∧ Below w.heap.size w ws) (fun i _ => fs[k].code.length - (intOf i).toNat)
        case atStart => exact ⟨0, by omega, rfl, fun _ h => absurd h (Nat.not_lt_zero _), hH, hM2, hR2, hb2⟩
        case round =>
          obtain ⟨j, hj, rfl, hno, hH3, hM3, hR3, hb3⟩ := hrel
          obtain ⟨ws, rfl⟩ : ∃ ws, ws = wr := ⟨_, rfl⟩
          clear hH hM2 hR2 hb2
          by_cases hlj : j < fs[k].code.length
          · have hlen : j < d.length := by rw [P.len]; exact hlj
            have HZ : Hid (d.getD j (-1) = d[j]) := P.get hlj
            have z0 := P.low j hlen
            have z1 := P.high j hlen
            have hcell := hH3.cell hlen
            by_cases hneg : d[j] < 0
            · have HT : Hid (troubleB fs fs[k].code d j = 0) := trouble_none hlj HZ.out hneg
              go_wp2
              go_roundw
              case rel => exact ⟨j + 1, by omega, by go_num, fun q hq => (by
                by_cases e : q = j
                · subst e; exact HT.out
                · exact hno.out q (by omega)), hH3, hM3, hR3, hb3⟩
              case measure => simp [intOf]; omega
            have HNN : Hid (0 ≤ d[j]) := (show 0 ≤ d[j] by omega)
            obtain ⟨cb, co, rfl, -, e1, e2⟩ := d4 j hlj
            have e1' := cell_later hb3 e1
            have e2' := cell_later hb3 e2
            have y1 := block_cell hM3
            obtain ⟨u0, u1, u2, u3⟩ := usesB_ok F.params fs[k].code[j].1 fs[k].code[j].2
            clear e1 e2
            go_wp2
            go_region_held3 (fun w' => w'.cell? ⟨w.heap.size, 0, none⟩ = some (.slice a1 ts.length c1) ∧ w'.cell? ⟨w.heap.size, 1, none⟩ = some (.slice (some ⟨b, off, none⟩) fs.length c2) ∧ w'.cell? ⟨cb, co + j * 2, none⟩ = some (.int .i64 fs[k].code[j].1) ∧ w'.cell? ⟨cb, co + j * 2 + 1, none⟩ = some (.int .i64 fs[k].code[j].2))
              (first | exact ⟨(y1 0).trans rfl, (y1 1).trans rfl, e1', e2'⟩ | exact ⟨by rw [block_cell (block_kept hM3 k6)]; rfl, by rw [block_cell (block_kept hM3 k6)]; rfl, cell_later k6 e1', cell_later k6 e2'⟩)
              (first | (go_at_call 105; refine (sUses_any _ _ _ _ _ fs fs[k].code[j].1 fs[k].code[j].2 _ hn (by exact hm2.mono hb3.drew)).mono ?_; rintro e w4 ⟨rfl, k6d⟩; have k6 := below_undraw k6d))
            have hM4 := block_kept hM3 k6
            have hR4 := block_kept hR3 k6
            have hH4 := hH3.mono k6
            have hb4 : Below w.heap.size w w4 := hb3.trans (k6.mono hb3.size)
            have hcell4 := hH4.cell hlen
            have e14 := cell_later k6 e1'
            have e24 := cell_later k6 e2'
            clear hM3 hR3 hH3 hb3 hcell y1 e1' e2' k6 k6d
            by_cases hfit : d[j] < (usesB fs fs[k].code[j].1 fs[k].code[j].2).1 ∨ 16 < d[j] - (usesB fs fs[k].code[j].1 fs[k].code[j].2).1 + (usesB fs fs[k].code[j].1 fs[k].code[j].2).2
            · have HT : Hid (troubleB fs fs[k].code d j = 2) := trouble_stack hlj HZ.out rfl rfl (by have := HNN.out; omega) hfit
              have r4 := block_cell hR4
              have q4 := block_free hR4
              rcases (show d[j] < (usesB fs fs[k].code[j].1 fs[k].code[j].2).1 ∨ ((usesB fs fs[k].code[j].1 fs[k].code[j].2).1 ≤ d[j] ∧ 16 < d[j] - (usesB fs fs[k].code[j].1 fs[k].code[j].2).1 + (usesB fs fs[k].code[j].1 fs[k].code[j].2).2) by omega) with hx | ⟨hx, hy⟩
              all_goals
                clear hfit
                go_wp2
                have rr := block_cell (three_set (x := 2) (y := (k : Int)) (z := (j : Int)) hR4)
                refine bodyPost_ret (v := .agg #[.int .i64 2, .int .i64 (k : Int), .int .i64 (j : Int)]) (by simp [results, Tryz.results79, go_sem, rr]) rfl ⟨2, (k : Int), (j : Int), rfl, .inr ⟨HO.out, .inr ⟨k, hlt, j, d, rfl, rfl, hlj, hD, HT.out, by decide, clear_of hD hno.out, hcl.out⟩⟩, ?_⟩
                exact ((hb4.setCell (by simp) _).setCell (by simp) _).setCell (by simp) _
            obtain ⟨left, hleft⟩ : ∃ left, left = d[j] - (usesB fs fs[k].code[j].1 fs[k].code[j].2).1 + (usesB fs fs[k].code[j].1 fs[k].code[j].2).2 := ⟨_, rfl⟩
            have HL : Hid (left = d[j] - (usesB fs fs[k].code[j].1 fs[k].code[j].2).1 + (usesB fs fs[k].code[j].1 fs[k].code[j].2).2) := hleft
            have hx : (usesB fs fs[k].code[j].1 fs[k].code[j].2).1 ≤ d[j] := by omega
            have hy : d[j] - (usesB fs fs[k].code[j].1 fs[k].code[j].2).1 + (usesB fs fs[k].code[j].1 fs[k].code[j].2).2 ≤ 16 := by omega
            have HF : Hid ((usesB fs fs[k].code[j].1 fs[k].code[j].2).1 ≤ d[j] ∧ d[j] - (usesB fs fs[k].code[j].1 fs[k].code[j].2).1 + (usesB fs fs[k].code[j].1 fs[k].code[j].2).2 ≤ 16) := ⟨hx, hy⟩
            have hnx := next_in F hlj
            clear hfit hleft
            go_wp2_with fail
            rw [← HL.out]
            refine (sNext_any fs[k].code[j].1 fs[k].code[j].2 j _ (by omega)).mono ?_
            rintro e w5 ⟨ad, ncap, rfl, hI, k7⟩
            have hM5 := block_kept hM4 k7
            have hR5 := block_kept hR4 k7
            have hH5 := hH4.mono k7
            have hb5 : Below w.heap.size w w5 := hb4.trans (k7.mono hb4.size)
            have r5 := block_cell hR5
            have q5 := block_free hR5
            obtain ⟨nx, hnxe⟩ : ∃ nx, nx = nextB fs[k].code[j].1 fs[k].code[j].2 j := ⟨_, rfl⟩
            have HX : Hid (nx = nextB fs[k].code[j].1 fs[k].code[j].2 j) := hnxe
            rw [← hnxe] at hI hnx ⊢
            have hnl : nx.length ≤ 2 := by rw [hnxe]; exact next_len _ _ _
            clear hM4 hR4 hH4 hb4 k7 hcell4 e14 e24 hnxe
            go_wp2
            go_loop [11] (fun i => ∃ (q : Nat), q ≤ nx.length ∧ i = .int .i64 q ∧ Hid ((nx.take q).any (fun x => decide ((fs[k].code.length : Int) ≤ x)) = false)) (fun i => nx.length - (intOf i).toNat)
            case atStart => exact ⟨0, by omega, rfl, by show _ = _; simp⟩
            case round =>
              obtain ⟨q, hq, rfl, hqn⟩ := hrel
              by_cases hlq : q < nx.length
              · obtain ⟨v0, v1⟩ := hnx nx[q] (List.getElem_mem hlq)
                obtain ⟨nb, no, rfl, hnb, m1⟩ := hI q hlq
                by_cases hend : (fs[k].code.length : Int) ≤ nx[q]
                · have HT : Hid (troubleB fs fs[k].code d j = 3) := by
                    refine trouble_end hlj HZ.out rfl rfl (by have := HNN.out; omega) (by have := HF.out; omega) ?_
                    rw [← HX.out]
                    exact any_yes (p := fun x => decide ((fs[k].code.length : Int) ≤ x)) hlq (by simpa using hend)
                  clear hqn
                  go_wp2
                  have rr := block_cell (three_set (x := 3) (y := (k : Int)) (z := (j : Int)) hR5)
                  refine bodyPost_ret (v := .agg #[.int .i64 3, .int .i64 (k : Int), .int .i64 (j : Int)]) (by simp [results, Tryz.results79, go_sem, rr]) rfl ⟨3, (k : Int), (j : Int), rfl, .inr ⟨HO.out, .inr ⟨k, hlt, j, d, rfl, rfl, hlj, hD, HT.out, by decide, clear_of hD hno.out, hcl.out⟩⟩, ?_⟩
                  exact ((hb5.setCell (by simp) _).setCell (by simp) _).setCell (by simp) _
                · have HQ : Hid ((nx.take (q + 1)).any (fun x => decide ((fs[k].code.length : Int) ≤ x)) = false) := any_take_no hlq hqn.out (by simpa using hend)
                  clear hqn
                  go_wp2
                  go_round
                  case rel => exact ⟨q + 1, by omega, by go_num, HQ⟩
                  case measure => simp [intOf]; omega
              · have HN : Hid (nx.any (fun x => decide ((fs[k].code.length : Int) ≤ x)) = false) := any_end (by omega) hqn.out
                clear hqn
                go_wp2
                go_loop [12] (fun i => ∃ (q : Nat), q ≤ nx.length ∧ i = .int .i64 q ∧ Hid ((nx.take q).any (fun x => decide (d.getD x.toNat (-1) ≠ left)) = false)) (fun i => nx.length - (intOf i).toNat)
                case atStart => exact ⟨0, by omega, rfl, by show _ = _; simp⟩
                case round =>
                  obtain ⟨p, hp, rfl, hpn⟩ := hrel
                  by_cases hlp : p < nx.length
                  · obtain ⟨v0, v1⟩ := hnx nx[p] (List.getElem_mem hlp)
                    obtain ⟨nb, no, rfl, hnb, m1⟩ := hI p hlp
                    obtain ⟨nk, hnk⟩ : ∃ nk : Nat, nx[p] = (nk : Int) := ⟨nx[p].toNat, by omega⟩
                    have hin : nk < fs[k].code.length := by
                      rcases Nat.lt_or_ge nk fs[k].code.length with h | h
                      · exact h
                      · have := any_yes (p := fun x => decide ((fs[k].code.length : Int) ≤ x)) hlp (by simp; omega)
                        rw [HN.out] at this
                        cases this
                    rw [hnk] at m1
                    have hkl : nk < d.length := by rw [P.len]; exact hin
                    have m2 := hH5.cell hkl
                    have hget : d.getD nx[p].toNat (-1) = d[nk] := by rw [hnk, Int.toNat_natCast]; exact P.get hin
                    by_cases he : d[nk] = left
                    · have HQ : Hid ((nx.take (p + 1)).any (fun x => decide (d.getD x.toNat (-1) ≠ left)) = false) := any_take_no hlp hpn.out (by simp only [hget, he]; simp)
                      have b1 : (d[nk] != left) = false := by simp [he]
                      clear hpn hget hnk he
                      go_wp2
                      go_round
                      case rel => exact ⟨p + 1, by omega, by go_num, HQ⟩
                      case measure => simp [intOf]; omega
                    · have HT : Hid (troubleB fs fs[k].code d j = 4) := by
                        refine trouble_join hlj HZ.out rfl rfl (by have := HNN.out; omega) (by have := HF.out; omega) (by rw [← HX.out]; exact HN.out) ?_
                        rw [← HX.out, ← HL.out]
                        exact any_yes (p := fun x => decide (d.getD x.toNat (-1) ≠ left)) hlp (by simp only [hget]; simpa using he)
                      have b1 : (d[nk] != left) = true := by simpa using he
                      clear hpn hget hnk he
                      go_wp2
                      have rr := block_cell (three_set (x := 4) (y := (k : Int)) (z := (j : Int)) hR5)
                      refine bodyPost_ret (v := .agg #[.int .i64 4, .int .i64 (k : Int), .int .i64 (j : Int)]) (by simp [results, Tryz.results79, go_sem, rr]) rfl ⟨4, (k : Int), (j : Int), rfl, .inr ⟨HO.out, .inr ⟨k, hlt, j, d, rfl, rfl, hlj, hD, HT.out, by decide, clear_of hD hno.out, hcl.out⟩⟩, ?_⟩
                      exact ((hb5.setCell (by simp) _).setCell (by simp) _).setCell (by simp) _
                  · have HT : Hid (troubleB fs fs[k].code d j = 0) := by
                      refine trouble_fine hlj HZ.out rfl rfl (by have := HNN.out; omega) (by have := HF.out; omega) (by rw [← HX.out]; exact HN.out) ?_
                      rw [← HX.out, ← HL.out]
                      exact any_end (by omega) hpn.out
                    clear hpn
                    go_wp2
                    go_roundw
                    case rel => exact ⟨j + 1, by omega, by go_num, fun q hq => (by
                      by_cases e : q = j
                      · subst e; exact HT.out
                      · exact hno.out q (by omega)), hH5, hM5, hR5, hb5⟩
                    case measure => simp [intOf]; omega
          · have hjn : j = fs[k].code.length := by omega
            subst hjn
            go_wp2
            go_roundw
            case rel => exact ⟨k + 1, by omega, by go_num, fun q hq hqk => (by
                by_cases e : q = k
                · subst e; exact clear_of hD hno.out
                · exact hcl.out q hq (by omega)), hM3, hR3, hb3⟩
            case measure => simp [intOf]; omega
      · have r4 := block_cell hR
        have q4 := block_free hR
        go_wp2
        have rr := block_cell (three_set (x := 0) (y := 0) (z := 0) hR)
        refine bodyPost_ret (v := .agg #[.int .i64 0, .int .i64 0, .int .i64 0]) (by simp [results, Tryz.results79, go_sem, rr]) rfl ⟨0, 0, 0, rfl, .inr ⟨HO.out, .inl ⟨rfl, rfl, rfl, fun q hq => hcl.out q hq (by omega)⟩⟩, ?_⟩
        exact ((hb.setCell (by simp) _).setCell (by simp) _).setCell (by simp) _
  · have hok' : modB ts fs = false := by simpa using hok
    have HO : Hid (modB ts fs = false) := hok'
    clear hok
    go_wp2
    have rr := block_cell (three_set (x := 1) (y := 0) (z := 0) hR1)
    refine bodyPost_ret (v := .agg #[.int .i64 1, .int .i64 0, .int .i64 0]) (by simp [results, Tryz.results79, go_sem, rr]) rfl ⟨1, 0, 0, rfl, .inl ⟨HO.out, rfl, rfl, rfl⟩, ?_⟩
    exact ((hb1.setCell (by simp) _).setCell (by simp) _).setCell (by simp) _
end Go.Proofs.YtcebgbcgkkfedaaGreat

namespace Go.Proofs.YtcebgbcgkkfedaaGreat
open Go.RowKit


set_option maxHeartbeats 400000 in
theorem eqStringS_any (a a2 : Option Addr) (ss : List ByteArray) (cap cap2 : Nat) (w : World) (hn : ss.length ≤ 1048576) (hm : StrsAt w 0 a ss) (hm2 : StrsAt w 0 a2 ss) :
    Calls Tryz.prog 34 #[.slice a ss.length cap, .slice a2 ss.length cap2] w fun e w' => e = .returned (.bool true) ∧ Below w.heap.size w w' := by
  go_enter Tryz.func34, Tryz.ntmps34
  go_wp2
  go_loopw [5] (fun i wr => ∃ (k : Nat), k ≤ ss.length ∧ i = .int .i64 k ∧ Below w.heap.size w wr) (fun i _ => ss.length - (intOf i).toNat)
  case atStart => exact ⟨0, by omega, rfl, Below.refl _ _⟩
  case round =>
    obtain ⟨k, hk, rfl, hb⟩ := hrel
    by_cases hlt : k < ss.length
    · obtain ⟨b, off, rfl, -, c1⟩ := hm k hlt
      obtain ⟨b2, off2, rfl, -, c2⟩ := hm2 k hlt
      have c1' := cell_later hb c1
      have c2' := cell_later hb c2
      clear c1 c2
      go_wp2
      go_quiet (fail)
      go_wp2
      go_roundw
      case rel => exact ⟨k + 1, by omega, by go_num, below_draws hb _⟩
      case measure => simp [intOf]; omega
    · go_wp2
      go_ret
      exact ⟨rfl, hb⟩

set_option maxHeartbeats 400000 in
theorem eqIns_same (o a : Int) (w : World) :
    Calls Tryz.prog 120 #[.agg #[.int .i64 o, .int .i64 a], .agg #[.int .i64 o, .int .i64 a]] w fun e w' => e = .returned (.bool true) ∧ Below w.heap.size w w' := by
  go_enter Tryz.func120, Tryz.ntmps120
  go_wp2
  go_ret
  exact ⟨rfl, ((Below.refl _ _).alloc (Nat.le_refl _) _).alloc (by simp) _⟩

set_option maxHeartbeats 400000 in
theorem eqInsS_any (a a2 : Option Addr) (xs : List (Int × Int)) (cap cap2 : Nat) (w : World) (hn : xs.length ≤ 1048576) (hm : CodeAt w 0 a xs) (hm2 : CodeAt w 0 a2 xs) :
    Calls Tryz.prog 100 #[.slice a xs.length cap, .slice a2 xs.length cap2] w fun e w' => e = .returned (.bool true) ∧ Below w.heap.size w w' := by
  go_enter Tryz.func100, Tryz.ntmps100
  go_wp2
  go_loopw [5] (fun i wr => ∃ (k : Nat), k ≤ xs.length ∧ i = .int .i64 k ∧ Below w.heap.size w wr) (fun i _ => xs.length - (intOf i).toNat)
  case atStart => exact ⟨0, by omega, rfl, Below.refl _ _⟩
  case round =>
    obtain ⟨k, hk, rfl, hb⟩ := hrel
    by_cases hlt : k < xs.length
    · obtain ⟨b, off, rfl, -, c1, d1⟩ := hm k hlt
      obtain ⟨b2, off2, rfl, -, c2, d2⟩ := hm2 k hlt
      have c1' := cell_later hb c1
      have c2' := cell_later hb c2
      have d1' := cell_later hb d1
      have d2' := cell_later hb d2
      clear c1 c2 d1 d2
      go_wp2
      go_region_with (go_at_call 120; refine (eqIns_same _ _ _).mono ?_; rintro e w1 ⟨rfl, hb1⟩)
      all_goals
        go_wp2
        go_roundw
        case rel =>
          refine ⟨k + 1, by omega, by go_num, Below.trans ?_ (hb1.mono ?_)⟩
          · repeat (first | exact hb | apply Below.drew)
          · exact hb.size
        case measure => simp [intOf]; omega
    · go_wp2
      go_ret
      exact ⟨rfl, hb⟩

set_option maxHeartbeats 400000 in
theorem eqFunc_any (p l : Int) (a a2 : Option Addr) (xs : List (Int × Int)) (cap cap2 : Nat) (w : World) (hn : xs.length ≤ 1048576) (hm : CodeAt w 0 a xs) (hm2 : CodeAt w 0 a2 xs) :
    Calls Tryz.prog 66 #[.agg #[.int .i64 p, .int .i64 l, .slice a xs.length cap], .agg #[.int .i64 p, .int .i64 l, .slice a2 xs.length cap2]] w fun e w' => e = .returned (.bool true) ∧ Below w.heap.size w w' := by
  go_enter Tryz.func66, Tryz.ntmps66
  go_wp2_with fail
  have hbA : Below w.heap.size w ((w.alloc (.cells #[.int .i64 p, .int .i64 l, .slice a xs.length cap] 97)).alloc (.cells #[.int .i64 p, .int .i64 l, .slice a2 xs.length cap2] 97)) := ((Below.refl _ _).alloc (Nat.le_refl _) _).alloc (by simp) _
  refine (eqInsS_any a a2 xs cap cap2 _ hn (hm.mono hbA) (hm2.mono hbA)).mono ?_
  rintro e w1 ⟨rfl, hb⟩
  go_wp2
  go_ret
  exact ⟨rfl, hbA.trans (hb.mono (by simp; omega))⟩

set_option maxHeartbeats 400000 in
theorem eqFuncS_any (a a2 : Option Addr) (fs : List Fn) (cap cap2 : Nat) (w : World) (hn : fs.length ≤ 1048576) (hc : ∀ f ∈ fs, f.code.length ≤ 1048576) (hm : FnsAt w 0 a fs) (hm2 : FnsAt w 0 a2 fs) :
    Calls Tryz.prog 36 #[.slice a fs.length cap, .slice a2 fs.length cap2] w fun e w' => e = .returned (.bool true) ∧ Below w.heap.size w w' := by
  go_enter Tryz.func36, Tryz.ntmps36
  go_wp2
  go_loopw [5] (fun i wr => ∃ (k : Nat), k ≤ fs.length ∧ i = .int .i64 k ∧ Below w.heap.size w wr) (fun i _ => fs.length - (intOf i).toNat)
  case atStart => exact ⟨0, by omega, rfl, Below.refl _ _⟩
  case round =>
    obtain ⟨k, hk, rfl, hb⟩ := hrel
    by_cases hlt : k < fs.length
    · obtain ⟨b, off, ca, cc, rfl, -, c1, d1, e1, f1⟩ := hm k hlt
      obtain ⟨b2, off2, ca2, cc2, rfl, -, c2, d2, e2, f2⟩ := hm2 k hlt
      have c1' := cell_later hb c1
      have c2' := cell_later hb c2
      have d1' := cell_later hb d1
      have d2' := cell_later hb d2
      have e1' := cell_later hb e1
      have e2' := cell_later hb e2
      have hck := hc fs[k] (List.getElem_mem hlt)
      clear c1 c2 d1 d2 e1 e2
      go_wp2
      go_region_with (go_at_call 66; refine (eqFunc_any _ _ _ _ _ _ _ _ hck (by exact f1.mono (by repeat (first | exact hb | apply Below.drew))) (by exact f2.mono (by repeat (first | exact hb | apply Below.drew)))).mono ?_; rintro e w1 ⟨rfl, hb1⟩)
      all_goals
        go_wp2
        go_roundw
        case rel =>
          refine ⟨k + 1, by omega, by go_num, Below.trans ?_ (hb1.mono ?_)⟩
          · repeat (first | exact hb | apply Below.drew)
          · exact hb.size
        case measure => simp [intOf]; omega
    · go_wp2
      go_ret
      exact ⟨rfl, hb⟩

set_option maxHeartbeats 400000 in
theorem eqModule_any (a1 a2 : Option Addr) (b1 b2 : Option Addr) (ts : List ByteArray) (fs : List Fn) (c1 c2 d1 d2 : Nat) (w : World) (hs : Small ts fs) (hm : StrsAt w 0 a1 ts) (hm2 : StrsAt w 0 b1 ts) (hf : FnsAt w 0 a2 fs) (hf2 : FnsAt w 0 b2 fs) :
    Calls Tryz.prog 12 #[.agg #[.slice a1 ts.length c1, .slice a2 fs.length c2], .agg #[.slice b1 ts.length d1, .slice b2 fs.length d2]] w fun e w' => e = .returned (.bool true) ∧ Below w.heap.size w w' := by
  go_enter Tryz.func12, Tryz.ntmps12
  go_wp2_with fail
  have hbA : Below w.heap.size w ((w.alloc (.cells #[.slice a1 ts.length c1, .slice a2 fs.length c2] 42)).alloc (.cells #[.slice b1 ts.length d1, .slice b2 fs.length d2] 42)) := ((Below.refl _ _).alloc (Nat.le_refl _) _).alloc (by simp) _
  refine (eqStringS_any a1 b1 ts c1 d1 _ hs.texts (hm.mono hbA) (hm2.mono hbA)).mono ?_
  rintro e w1 ⟨rfl, hb⟩
  have hA := block_kept (block_old (block_new w #[.slice a1 ts.length c1, .slice a2 fs.length c2] 42) (.cells #[.slice b1 ts.length d1, .slice b2 fs.length d2] 42)) hb
  have hB := block_kept (block_new (w.alloc (.cells #[.slice a1 ts.length c1, .slice a2 fs.length c2] 42)) #[.slice b1 ts.length d1, .slice b2 fs.length d2] 42) hb
  simp only [World.size_alloc] at hA hB
  have x1 := block_cell hA
  have x2 := block_cell hB
  have hb1 : Below w.heap.size w w1 := hbA.trans (hb.mono (by simp; omega))
  clear hA hB
  go_wp2_with fail
  refine (eqFuncS_any a2 b2 fs c2 d2 _ hs.funcs hs.code (hf.mono hb1) (hf2.mono hb1)).mono ?_
  rintro e w2 ⟨rfl, hb2⟩
  go_wp2
  go_ret
  exact ⟨rfl, hb1.trans (hb2.mono hb1.size)⟩
end Go.Proofs.YtcebgbcgkkfedaaGreat

namespace Go.Proofs.YtcebgbcgkkfedaaGreat
open Go.RowKit

set_option maxHeartbeats 400000 in
theorem szValueS_any (a : Option Addr) (vs : List Vl) (cap : Nat) (left : Int) (w : World) (h0 : 0 ≤ left) (h1 : left ≤ 1048576) (hx : ValsMax vs) (hm : ValsAt w 0 a vs) :
    Calls Tryz.prog 78 #[.slice a vs.length cap, .int .i64 left] w fun e w' => ∃ r : Int, e = .returned (.int .i64 r) ∧ r ≤ left ∧ (0 ≤ r → ValsSmall vs) ∧ Below w.heap.size w w' := by
  obtain ⟨hn, hc⟩ := hx
  have hn' := hn
  unfold maxLen at hn
  by_cases h : left < vs.length
  · go_enter Tryz.func78, Tryz.ntmps78
    go_wp2
    go_ret
    exact ⟨-1, rfl, by omega, by omega, Below.refl _ _⟩
  · go_enter Tryz.func78, Tryz.ntmps78
    go_wp2
    go_loopw [1, 5] (fun l i wr => ∃ (k : Nat) (q : Int), k ≤ vs.length ∧ i = .int .i64 k ∧ l = .int .i64 q ∧ 0 ≤ q ∧ q ≤ left - vs.length ∧ (∀ f ∈ vs.take k, f.s.size ≤ 1048576) ∧ Below w.heap.size w wr) (fun _ i _ => vs.length - (intOf i).toNat)
    case atStart => exact ⟨0, _, by omega, rfl, rfl, by omega, by omega, by simp, Below.refl _ _⟩
    case round =>
      obtain ⟨k, q, hk, rfl, rfl, hq0, hq1, hall, hb⟩ := hrel
      by_cases hlt : k < vs.length
      · obtain ⟨b, off, rfl, -, c1, c2, c3⟩ := hm k hlt
        have c1' := cell_later hb c1
        have c2' := cell_later hb c2
        have c3' := cell_later hb c3
        clear c1 c2 c3
        have hck := hc vs[k] (List.getElem_mem hlt)
        by_cases hs : q < vs[k].s.size
        · go_wp2_with (go_at_call 22; refine (szVal_any _ _ _ _ _ hq0 (by omega) hck).mono ?_; rintro e w' ⟨rfl, hb'⟩)
          go_ret
          exact ⟨_, rfl, by omega, by omega, hb.trans (hb'.mono hb.size)⟩
        · go_wp2_with (go_at_call 22; refine (szVal_any _ _ _ _ _ hq0 (by omega) hck).mono ?_; rintro e w' ⟨rfl, hb'⟩)
          go_roundw
          case rel => exact ⟨k + 1, q - vs[k].s.size, by omega, by go_num, by rw [if_neg (by omega)], by omega, by omega, take_succ_mem hlt hall (by omega), hb.trans (hb'.mono hb.size)⟩
          case measure => simp [intOf]; omega
      · go_wp2
        go_ret
        exact ⟨q, rfl, by omega, fun _ => ⟨by omega, by rwa [List.take_of_length_le (by omega)] at hall⟩, hb⟩

set_option maxHeartbeats 400000 in
theorem szRec_any (a : Option Addr) (vs : List Vl) (cap : Nat) (left : Int) (w : World) (h0 : 0 ≤ left) (h1 : left ≤ 1048576) (hx : ValsMax vs) (hm : ValsAt w 0 a vs) :
    Calls Tryz.prog 48 #[.agg #[.slice a vs.length cap], .int .i64 left] w fun e w' => ∃ r : Int, e = .returned (.int .i64 r) ∧ r ≤ left ∧ (0 ≤ r → ValsSmall vs) ∧ Below w.heap.size w w' := by
  have hbA : Below w.heap.size w (w.alloc (.cells #[.slice a vs.length cap] 82)) := (Below.refl _ _).alloc (Nat.le_refl _) _
  go_enter Tryz.func48, Tryz.ntmps48
  go_wp2_with fail
  refine (szValueS_any a vs cap left _ h0 h1 hx (hm.mono hbA)).mono ?_
  rintro e w1 ⟨r, rfl, hr, hs, hb⟩
  have hB := hbA.trans (hb.mono hbA.size)
  by_cases hr0 : r < 0
  · go_wp2
    go_ret
    exact ⟨-1, rfl, by omega, by omega, hB⟩
  · go_wp2
    go_ret
    exact ⟨r, rfl, hr, hs, hB⟩

set_option maxHeartbeats 400000 in
theorem szFrame_any (f p : Int) (a a2 : Option Addr) (vs us : List Vl) (cap cap2 : Nat) (left : Int) (w : World) (h0 : 0 ≤ left) (h1 : left ≤ 1048576) (hx : ValsMax vs) (hx2 : ValsMax us) (hm : ValsAt w 0 a vs) (hm2 : ValsAt w 0 a2 us) :
    Calls Tryz.prog 47 #[.agg #[.int .i64 f, .int .i64 p, .slice a vs.length cap, .slice a2 us.length cap2], .int .i64 left] w fun e w' => ∃ r : Int, e = .returned (.int .i64 r) ∧ r ≤ left ∧ (0 ≤ r → ValsSmall vs ∧ ValsSmall us) ∧ Below w.heap.size w w' := by
  have hbA : Below w.heap.size w (w.alloc (.cells #[.int .i64 f, .int .i64 p, .slice a vs.length cap, .slice a2 us.length cap2] 79)) := (Below.refl _ _).alloc (Nat.le_refl _) _
  have hM0 := block_new w #[.int .i64 f, .int .i64 p, .slice a vs.length cap, .slice a2 us.length cap2] 79
  go_enter Tryz.func47, Tryz.ntmps47
  go_wp2_with fail
  refine (szValueS_any a vs cap left _ h0 h1 hx (hm.mono hbA)).mono ?_
  rintro e w1 ⟨r, rfl, hr, hs, hb⟩
  have hB := hbA.trans (hb.mono hbA.size)
  by_cases hr0 : r < 0
  · go_wp2
    go_ret
    exact ⟨-1, rfl, by omega, by omega, hB⟩
  · have y := block_cell (block_kept hM0 hb)
    go_wp2_with fail
    refine (szValueS_any a2 us cap2 r _ (by omega) (by omega) hx2 (hm2.mono hB)).mono ?_
    rintro e w2 ⟨r2, rfl, hr2, hs2, hb2⟩
    have hB2 := hB.trans (hb2.mono hB.size)
    clear y
    by_cases hr0 : r2 < 0
    · go_wp2
      go_ret
      exact ⟨-1, rfl, by omega, by omega, hB2⟩
    · go_wp2
      go_ret
      exact ⟨r2, rfl, by omega, fun _ => ⟨hs (by omega), hs2 (by omega)⟩, hB2⟩

set_option maxHeartbeats 400000 in
theorem szRecS_any (a : Option Addr) (rs : List (List Vl)) (cap : Nat) (left : Int) (w : World) (h0 : 0 ≤ left) (h1 : left ≤ 1048576) (hn : rs.length ≤ maxLen) (hc : ∀ r ∈ rs, ValsMax r) (hm : RecsAt w 0 a rs) :
    Calls Tryz.prog 21 #[.slice a rs.length cap, .int .i64 left] w fun e w' => ∃ r : Int, e = .returned (.int .i64 r) ∧ r ≤ left ∧ (0 ≤ r → rs.length ≤ 1048576 ∧ ∀ r ∈ rs, ValsSmall r) ∧ Below w.heap.size w w' := by
  unfold maxLen at hn
  by_cases h : left < rs.length
  · go_enter Tryz.func21, Tryz.ntmps21
    go_wp2
    go_ret
    exact ⟨-1, rfl, by omega, by omega, Below.refl _ _⟩
  · go_enter Tryz.func21, Tryz.ntmps21
    go_wp2
    go_loopw [1, 5] (fun l i wr => ∃ (k : Nat) (q : Int), k ≤ rs.length ∧ i = .int .i64 k ∧ l = .int .i64 q ∧ 0 ≤ q ∧ q ≤ left - rs.length ∧ Hid (∀ f ∈ rs.take k, ValsSmall f) ∧ Below w.heap.size w wr) (fun _ i _ => rs.length - (intOf i).toNat)
    case atStart => exact ⟨0, _, by omega, rfl, rfl, by omega, by omega, by intro f hf; simp at hf, Below.refl _ _⟩
    case round =>
      obtain ⟨k, q, hk, rfl, rfl, hq0, hq1, hall, hb⟩ := hrel
      by_cases hlt : k < rs.length
      · obtain ⟨b, off, fa, fc, rfl, -, c1, c2⟩ := hm k hlt
        have c1' := cell_later hb c1
        clear c1
        have hck := hc rs[k] (List.getElem_mem hlt)
        go_wp2_with fail
        refine (szRec_any _ _ _ _ _ hq0 (by omega) hck (c2.mono hb)).mono ?_
        rintro e w2 ⟨r, rfl, hr, hs, hb'⟩
        have hB := hb.trans (hb'.mono hb.size)
        clear c1' hb' c2
        by_cases hr0 : r < 0
        · go_wp2
          go_ret
          exact ⟨-1, rfl, by omega, by omega, hB⟩
        · go_wp2
          go_roundw
          case rel => exact ⟨k + 1, r, by omega, by go_num, rfl, by omega, by omega, take_succ_mem hlt hall.out (hs (by omega)), hB⟩
          case measure => simp [intOf]; omega
      · go_wp2
        go_ret
        exact ⟨q, rfl, by omega, fun _ => ⟨by omega, by have := hall.out; rwa [List.take_of_length_le (by omega)] at this⟩, hb⟩

set_option maxHeartbeats 400000 in
theorem szFrameS_any (a : Option Addr) (fr : List Fr) (cap : Nat) (left : Int) (w : World) (h0 : 0 ≤ left) (h1 : left ≤ 1048576) (hn : fr.length ≤ maxLen) (hc : ∀ f ∈ fr, ValsMax f.locals) (hc2 : ∀ f ∈ fr, ValsMax f.stack) (hm : FrsAt w 0 a fr) :
    Calls Tryz.prog 20 #[.slice a fr.length cap, .int .i64 left] w fun e w' => ∃ r : Int, e = .returned (.int .i64 r) ∧ r ≤ left ∧ (0 ≤ r → fr.length ≤ 1048576 ∧ ∀ f ∈ fr, ValsSmall f.locals ∧ ValsSmall f.stack) ∧ Below w.heap.size w w' := by
  unfold maxLen at hn
  by_cases h : left < fr.length
  · go_enter Tryz.func20, Tryz.ntmps20
    go_wp2
    go_ret
    exact ⟨-1, rfl, by omega, by omega, Below.refl _ _⟩
  · go_enter Tryz.func20, Tryz.ntmps20
    go_wp2
    go_loopw [1, 5] (fun l i wr => ∃ (k : Nat) (q : Int), k ≤ fr.length ∧ i = .int .i64 k ∧ l = .int .i64 q ∧ 0 ≤ q ∧ q ≤ left - fr.length ∧ Hid (∀ f ∈ fr.take k, ValsSmall f.locals ∧ ValsSmall f.stack) ∧ Below w.heap.size w wr) (fun _ i _ => fr.length - (intOf i).toNat)
    case atStart => exact ⟨0, _, by omega, rfl, rfl, by omega, by omega, by intro f hf; simp at hf, Below.refl _ _⟩
    case round =>
      obtain ⟨k, q, hk, rfl, rfl, hq0, hq1, hall, hb⟩ := hrel
      by_cases hlt : k < fr.length
      · obtain ⟨b, off, la, lc, sa, sc, rfl, -, c1, c2, c3, c4, c5, c6⟩ := hm k hlt
        have c1' := cell_later hb c1
        have c2' := cell_later hb c2
        have c3' := cell_later hb c3
        have c4' := cell_later hb c4
        clear c1 c2 c3 c4
        have hck := hc fr[k] (List.getElem_mem hlt)
        have hck2 := hc2 fr[k] (List.getElem_mem hlt)
        go_wp2_with fail
        refine (szFrame_any _ _ _ _ _ _ _ _ _ _ hq0 (by omega) hck hck2 (c5.mono hb) (c6.mono hb)).mono ?_
        rintro e w2 ⟨r, rfl, hr, hs, hb'⟩
        have hB := hb.trans (hb'.mono hb.size)
        clear c1' c2' c3' c4' hb' c5 c6
        by_cases hr0 : r < 0
        · go_wp2
          go_ret
          exact ⟨-1, rfl, by omega, by omega, hB⟩
        · go_wp2
          go_roundw
          case rel => exact ⟨k + 1, r, by omega, by go_num, rfl, by omega, by omega, take_succ_mem (p := fun f => ValsSmall f.locals ∧ ValsSmall f.stack) hlt hall.out (hs (by omega)), hB⟩
          case measure => simp [intOf]; omega
      · go_wp2
        go_ret
        exact ⟨q, rfl, by omega, fun _ => ⟨by omega, by have := hall.out; rwa [List.take_of_length_le (by omega)] at this⟩, hb⟩
end Go.Proofs.YtcebgbcgkkfedaaGreat
namespace Go.Proofs.YtcebgbcgkkfedaaGreat
open Go.RowKit

set_option maxRecDepth 100000 in
set_option maxHeartbeats 1000000 in
theorem szVm_any (fa ha oa : Option Addr) (fc hcp oc : Nat) (d : VmD) (left : Int) (w : World) (h0 : 0 ≤ left) (h1 : left ≤ 1048576) (hx : VmMax d) (hf : FrsAt w 0 fa d.frames) (hh : RecsAt w 0 ha d.heap) (ho : StrsAt w 0 oa d.out) :
    Calls Tryz.prog 6 #[.agg #[.slice fa d.frames.length fc, .slice ha d.heap.length hcp, .int .i64 d.made, .slice oa d.out.length oc, .int .i64 d.status, .int .i64 d.trap, .int .i64 d.value.k, .int .i64 d.value.n, .string d.value.s, .int .i64 d.steps], .int .i64 left] w fun e w' => ∃ r : Int, e = .returned (.int .i64 r) ∧ r ≤ left ∧ (0 ≤ r → VmSmall d) ∧ Below w.heap.size w w' := by
  have hbA : Below w.heap.size w (w.alloc (.cells #[.slice fa d.frames.length fc, .slice ha d.heap.length hcp, .int .i64 d.made, .slice oa d.out.length oc, .int .i64 d.status, .int .i64 d.trap, .int .i64 d.value.k, .int .i64 d.value.n, .string d.value.s, .int .i64 d.steps] 31)) := (Below.refl _ _).alloc (Nat.le_refl _) _
  have hM0 := block_new w #[.slice fa d.frames.length fc, .slice ha d.heap.length hcp, .int .i64 d.made, .slice oa d.out.length oc, .int .i64 d.status, .int .i64 d.trap, .int .i64 d.value.k, .int .i64 d.value.n, .string d.value.s, .int .i64 d.steps] 31
  go_enter Tryz.func6, Tryz.ntmps6
  go_wp2_with fail
  refine (szFrameS_any fa d.frames fc left _ h0 h1 hx.frames hx.locals hx.stack (hf.mono hbA)).mono ?_
  rintro e w1 ⟨r1, rfl, hr1, hs1, hb1⟩
  have hB1 := hbA.trans (hb1.mono hbA.size)
  have hM1 := block_kept hM0 hb1
  clear hM0 hb1 hbA
  by_cases hn1 : r1 < 0
  · go_wp2
    go_ret
    exact ⟨-1, rfl, by omega, by omega, hB1⟩
  have y1 := block_cell hM1
  go_wp2_with fail
  refine (szRecS_any ha d.heap hcp r1 _ (by omega) (by omega) hx.heap hx.fields (hh.mono hB1)).mono ?_
  rintro e w2 ⟨r2, rfl, hr2, hs2, hb2⟩
  have hB2 := hB1.trans (hb2.mono hB1.size)
  have hM2 := block_kept hM1 hb2
  clear hM1 hb2 hB1 y1
  by_cases hn2 : r2 < 0
  · go_wp2
    go_ret
    exact ⟨-1, rfl, by omega, by omega, hB2⟩
  have y2 := block_cell hM2
  go_wp2_with fail
  refine (szStringS_any oa d.out oc r2 _ (by omega) (by omega) hx.out hx.text (ho.mono hB2)).mono ?_
  rintro e w3 ⟨r3, rfl, hr3, hs3, hb3⟩
  have hB3 := hB2.trans (hb3.mono hB2.size)
  have hM3 := block_kept hM2 hb3
  clear hM2 hb3 hB2 y2
  by_cases hn3 : r3 < 0
  · go_wp2
    go_ret
    exact ⟨-1, rfl, by omega, by omega, hB3⟩
  have y3 := block_cell hM3
  go_wp2_with fail
  refine (szVal_any _ _ _ _ _ (by omega) (by omega) hx.value).mono ?_
  rintro e w4 ⟨rfl, hb4⟩
  have hB4 := hB3.trans (hb4.mono hB3.size)
  clear hM3 hb4 hB3 y3
  by_cases hn4 : r3 < (d.value.s.size : Int)
  · rw [if_pos hn4]
    go_wp2
    go_ret
    exact ⟨-1, rfl, by omega, by omega, hB4⟩
  · rw [if_neg hn4]
    have hn5 : ¬ (r3 - (d.value.s.size : Int)) < 0 := by omega
    go_wp2
    go_ret
    exact ⟨_, rfl, by omega, fun _ => ⟨(hs1 (by omega)).1, fun f hf => ((hs1 (by omega)).2 f hf).1, fun f hf => ((hs1 (by omega)).2 f hf).2, (hs2 (by omega)).1, (hs2 (by omega)).2, (hs3 (by omega)).1, (hs3 (by omega)).2, by omega⟩, hB4⟩
end Go.Proofs.YtcebgbcgkkfedaaGreat

namespace Go.Proofs.YtcebgbcgkkfedaaGreat
open Go.RowKit

set_option maxHeartbeats 400000 in
theorem eqValue_same (k n : Int) (s : ByteArray) (w : World) :
    Calls Tryz.prog 35 #[.agg #[.int .i64 k, .int .i64 n, .string s], .agg #[.int .i64 k, .int .i64 n, .string s]] w fun e w' => e = .returned (.bool true) ∧ Below w.heap.size w w' := by
  go_enter Tryz.func35, Tryz.ntmps35
  go_wp2
  go_ret
  exact ⟨rfl, ((Below.refl _ _).alloc (Nat.le_refl _) _).alloc (by simp) _⟩

set_option maxHeartbeats 400000 in
theorem eqValueS_any (a a2 : Option Addr) (vs : List Vl) (cap cap2 : Nat) (w : World) (hn : vs.length ≤ 1048576) (hm : ValsAt w 0 a vs) (hm2 : ValsAt w 0 a2 vs) :
    Calls Tryz.prog 99 #[.slice a vs.length cap, .slice a2 vs.length cap2] w fun e w' => e = .returned (.bool true) ∧ Below w.heap.size w w' := by
  go_enter Tryz.func99, Tryz.ntmps99
  go_wp2
  go_loopw [5] (fun i wr => ∃ (k : Nat), k ≤ vs.length ∧ i = .int .i64 k ∧ Below w.heap.size w wr) (fun i _ => vs.length - (intOf i).toNat)
  case atStart => exact ⟨0, by omega, rfl, Below.refl _ _⟩
  case round =>
    obtain ⟨k, hk, rfl, hb⟩ := hrel
    by_cases hlt : k < vs.length
    · obtain ⟨b, off, rfl, -, c1, d1, f1⟩ := hm k hlt
      obtain ⟨b2, off2, rfl, -, c2, d2, f2⟩ := hm2 k hlt
      have c1' := cell_later hb c1
      have c2' := cell_later hb c2
      have d1' := cell_later hb d1
      have d2' := cell_later hb d2
      have f1' := cell_later hb f1
      have f2' := cell_later hb f2
      clear c1 c2 d1 d2 f1 f2
      go_wp2
      go_region_with (go_at_call 35; refine (eqValue_same _ _ _ _).mono ?_; rintro e w1 ⟨rfl, hb1⟩)
      all_goals
        go_wp2
        go_roundw
        case rel =>
          refine ⟨k + 1, by omega, by go_num, Below.trans ?_ (hb1.mono ?_)⟩
          · repeat (first | exact hb | apply Below.drew)
          · exact hb.size
        case measure => simp [intOf]; omega
    · go_wp2
      go_ret
      exact ⟨rfl, hb⟩

set_option maxHeartbeats 400000 in
theorem eqRec_any (a a2 : Option Addr) (vs : List Vl) (cap cap2 : Nat) (w : World) (hn : vs.length ≤ 1048576) (hm : ValsAt w 0 a vs) (hm2 : ValsAt w 0 a2 vs) :
    Calls Tryz.prog 65 #[.agg #[.slice a vs.length cap], .agg #[.slice a2 vs.length cap2]] w fun e w' => e = .returned (.bool true) ∧ Below w.heap.size w w' := by
  go_enter Tryz.func65, Tryz.ntmps65
  go_wp2_with fail
  have hbA : Below w.heap.size w ((w.alloc (.cells #[.slice a vs.length cap] 94)).alloc (.cells #[.slice a2 vs.length cap2] 94)) := ((Below.refl _ _).alloc (Nat.le_refl _) _).alloc (by simp) _
  refine (eqValueS_any a a2 vs cap cap2 _ hn (hm.mono hbA) (hm2.mono hbA)).mono ?_
  rintro e w1 ⟨rfl, hb⟩
  go_wp2
  go_ret
  exact ⟨rfl, hbA.trans (hb.mono (by simp; omega))⟩

set_option maxHeartbeats 400000 in
theorem eqFrame_any (f p : Int) (a a2 b b2 : Option Addr) (vs us : List Vl) (c1 c2 e1 e2 : Nat) (w : World) (hn : vs.length ≤ 1048576) (hn2 : us.length ≤ 1048576) (hm : ValsAt w 0 a vs) (hm2 : ValsAt w 0 a2 vs) (hs : ValsAt w 0 b us) (hs2 : ValsAt w 0 b2 us) :
    Calls Tryz.prog 64 #[.agg #[.int .i64 f, .int .i64 p, .slice a vs.length c1, .slice b us.length e1], .agg #[.int .i64 f, .int .i64 p, .slice a2 vs.length c2, .slice b2 us.length e2]] w fun e w' => e = .returned (.bool true) ∧ Below w.heap.size w w' := by
  have hbA : Below w.heap.size w ((w.alloc (.cells #[.int .i64 f, .int .i64 p, .slice a vs.length c1, .slice b us.length e1] 90)).alloc (.cells #[.int .i64 f, .int .i64 p, .slice a2 vs.length c2, .slice b2 us.length e2] 90)) := ((Below.refl _ _).alloc (Nat.le_refl _) _).alloc (by simp) _
  have hX0 := block_old (block_new w #[.int .i64 f, .int .i64 p, .slice a vs.length c1, .slice b us.length e1] 90) (.cells #[.int .i64 f, .int .i64 p, .slice a2 vs.length c2, .slice b2 us.length e2] 90)
  have hY0 := block_new (w.alloc (.cells #[.int .i64 f, .int .i64 p, .slice a vs.length c1, .slice b us.length e1] 90)) #[.int .i64 f, .int .i64 p, .slice a2 vs.length c2, .slice b2 us.length e2] 90
  simp only [World.size_alloc] at hY0
  go_enter Tryz.func64, Tryz.ntmps64
  go_wp2_with fail
  refine (eqValueS_any a a2 vs c1 c2 _ hn (hm.mono hbA) (hm2.mono hbA)).mono ?_
  rintro e w1 ⟨rfl, hb⟩
  have hB1 := hbA.trans (hb.mono hbA.size)
  have x1 := block_cell (block_kept hX0 hb)
  have y1 := block_cell (block_kept hY0 hb)
  go_wp2_with fail
  refine (eqValueS_any b b2 us e1 e2 _ hn2 (hs.mono hB1) (hs2.mono hB1)).mono ?_
  rintro e w2 ⟨rfl, hb2⟩
  clear x1 y1
  go_wp2
  go_ret
  exact ⟨rfl, hB1.trans (hb2.mono hB1.size)⟩

set_option maxHeartbeats 400000 in
theorem eqRecS_any (a a2 : Option Addr) (rs : List (List Vl)) (cap cap2 : Nat) (w : World) (hn : rs.length ≤ 1048576) (hc : ∀ r ∈ rs, ValsSmall r) (hm : RecsAt w 0 a rs) (hm2 : RecsAt w 0 a2 rs) :
    Calls Tryz.prog 33 #[.slice a rs.length cap, .slice a2 rs.length cap2] w fun e w' => e = .returned (.bool true) ∧ Below w.heap.size w w' := by
  go_enter Tryz.func33, Tryz.ntmps33
  go_wp2
  go_loopw [5] (fun i wr => ∃ (k : Nat), k ≤ rs.length ∧ i = .int .i64 k ∧ Below w.heap.size w wr) (fun i _ => rs.length - (intOf i).toNat)
  case atStart => exact ⟨0, by omega, rfl, Below.refl _ _⟩
  case round =>
    obtain ⟨k, hk, rfl, hb⟩ := hrel
    by_cases hlt : k < rs.length
    · obtain ⟨b, off, ca, cc, rfl, -, c1, f1⟩ := hm k hlt
      obtain ⟨b2, off2, ca2, cc2, rfl, -, c2, f2⟩ := hm2 k hlt
      have c1' := cell_later hb c1
      have c2' := cell_later hb c2
      have hck := (hc rs[k] (List.getElem_mem hlt)).1
      clear c1 c2
      go_wp2
      go_region_with (go_at_call 65; refine (eqRec_any _ _ _ _ _ _ hck (by exact f1.mono (by repeat (first | exact hb | apply Below.drew))) (by exact f2.mono (by repeat (first | exact hb | apply Below.drew)))).mono ?_; rintro e w1 ⟨rfl, hb1⟩)
      all_goals
        go_wp2
        go_roundw
        case rel =>
          refine ⟨k + 1, by omega, by go_num, Below.trans ?_ (hb1.mono ?_)⟩
          · repeat (first | exact hb | apply Below.drew)
          · exact hb.size
        case measure => simp [intOf]; omega
    · go_wp2
      go_ret
      exact ⟨rfl, hb⟩

set_option maxHeartbeats 400000 in
theorem eqFrameS_any (a a2 : Option Addr) (fr : List Fr) (cap cap2 : Nat) (w : World) (hn : fr.length ≤ 1048576) (hc : ∀ f ∈ fr, ValsSmall f.locals) (hc2 : ∀ f ∈ fr, ValsSmall f.stack) (hm : FrsAt w 0 a fr) (hm2 : FrsAt w 0 a2 fr) :
    Calls Tryz.prog 32 #[.slice a fr.length cap, .slice a2 fr.length cap2] w fun e w' => e = .returned (.bool true) ∧ Below w.heap.size w w' := by
  go_enter Tryz.func32, Tryz.ntmps32
  go_wp2
  go_loopw [5] (fun i wr => ∃ (k : Nat), k ≤ fr.length ∧ i = .int .i64 k ∧ Below w.heap.size w wr) (fun i _ => fr.length - (intOf i).toNat)
  case atStart => exact ⟨0, by omega, rfl, Below.refl _ _⟩
  case round =>
    obtain ⟨k, hk, rfl, hb⟩ := hrel
    by_cases hlt : k < fr.length
    · obtain ⟨b, off, la, lc, sa, sc, rfl, -, c1, d1, e1, g1, p1, q1⟩ := hm k hlt
      obtain ⟨b2, off2, la2, lc2, sa2, sc2, rfl, -, c2, d2, e2, g2, p2, q2⟩ := hm2 k hlt
      have c1' := cell_later hb c1
      have c2' := cell_later hb c2
      have d1' := cell_later hb d1
      have d2' := cell_later hb d2
      have e1' := cell_later hb e1
      have e2' := cell_later hb e2
      have g1' := cell_later hb g1
      have g2' := cell_later hb g2
      have hck := (hc fr[k] (List.getElem_mem hlt)).1
      have hck2 := (hc2 fr[k] (List.getElem_mem hlt)).1
      clear c1 c2 d1 d2 e1 e2 g1 g2
      go_wp2
      go_region_with (go_at_call 64; refine (eqFrame_any _ _ _ _ _ _ _ _ _ _ _ _ _ hck hck2 (by exact p1.mono (by repeat (first | exact hb | apply Below.drew))) (by exact p2.mono (by repeat (first | exact hb | apply Below.drew))) (by exact q1.mono (by repeat (first | exact hb | apply Below.drew))) (by exact q2.mono (by repeat (first | exact hb | apply Below.drew)))).mono ?_; rintro e w1 ⟨rfl, hb1⟩)
      all_goals
        go_wp2
        go_roundw
        case rel =>
          refine ⟨k + 1, by omega, by go_num, Below.trans ?_ (hb1.mono ?_)⟩
          · repeat (first | exact hb | apply Below.drew)
          · exact hb.size
        case measure => simp [intOf]; omega
    · go_wp2
      go_ret
      exact ⟨rfl, hb⟩

set_option maxRecDepth 100000 in
set_option maxHeartbeats 2000000 in
theorem eqVm_any (fa ha oa fb hb' ob : Option Addr) (fc hcp oc fc2 hcp2 oc2 : Nat) (d : VmD) (w : World) (hx : VmSmall d) (hm : VmAt w 0 fa ha oa d) (hm2 : VmAt w 0 fb hb' ob d) :
    Calls Tryz.prog 11 #[.agg (vmCells fa ha oa fc hcp oc d), .agg (vmCells fb hb' ob fc2 hcp2 oc2 d)] w fun e w' => e = .returned (.bool true) ∧ Below w.heap.size w w' := by
  have hbA : Below w.heap.size w ((w.alloc (.cells (vmCells fa ha oa fc hcp oc d) 38)).alloc (.cells (vmCells fb hb' ob fc2 hcp2 oc2 d) 38)) := ((Below.refl _ _).alloc (Nat.le_refl _) _).alloc (by simp) _
  have hX0 := block_old (block_new w (vmCells fa ha oa fc hcp oc d) 38) (.cells (vmCells fb hb' ob fc2 hcp2 oc2 d) 38)
  have hY0 := block_new (w.alloc (.cells (vmCells fa ha oa fc hcp oc d) 38)) (vmCells fb hb' ob fc2 hcp2 oc2 d) 38
  simp only [World.size_alloc] at hY0
  unfold vmCells at hbA hX0 hY0 ⊢
  go_enter Tryz.func11, Tryz.ntmps11
  go_wp2_with fail
  refine (eqFrameS_any _ _ d.frames _ _ _ hx.frames hx.locals hx.stack (hm.frs.mono hbA) (hm2.frs.mono hbA)).mono ?_
  rintro e w1 ⟨rfl, hb⟩
  have hB1 := hbA.trans (hb.mono hbA.size)
  have hX1 := block_kept hX0 hb
  have hY1 := block_kept hY0 hb
  have x1 := block_cell hX1
  have y1 := block_cell hY1
  clear hbA hX0 hY0 hb
  go_wp2_with fail
  refine (eqRecS_any _ _ d.heap _ _ _ hx.heap hx.fields (hm.recs.mono hB1) (hm2.recs.mono hB1)).mono ?_
  rintro e w2 ⟨rfl, hb⟩
  have hB2 := hB1.trans (hb.mono hB1.size)
  have hX2 := block_kept hX1 hb
  have hY2 := block_kept hY1 hb
  clear x1 y1 hX1 hY1 hB1 hb
  have x2 := block_cell hX2
  have y2 := block_cell hY2
  go_wp2_with fail
  refine (eqStringS_any _ _ d.out _ _ _ hx.out (hm.out.mono hB2) (hm2.out.mono hB2)).mono ?_
  rintro e w3 ⟨rfl, hb⟩
  have hB3 := hB2.trans (hb.mono hB2.size)
  have hX3 := block_kept hX2 hb
  have hY3 := block_kept hY2 hb
  clear x2 y2 hX2 hY2 hB2 hb
  have x3 := block_cell hX3
  have y3 := block_cell hY3
  go_wp2_with fail
  refine (eqValue_same _ _ _ _).mono ?_
  rintro e w4 ⟨rfl, hb⟩
  have hB4 := hB3.trans (hb.mono hB3.size)
  have x4 := block_cell (block_kept hX3 hb)
  have y4 := block_cell (block_kept hY3 hb)
  clear x3 y3 hX3 hY3 hB3 hb
  go_wp2
  go_ret
  exact ⟨rfl, hB4⟩
end Go.Proofs.YtcebgbcgkkfedaaGreat

namespace Go.Proofs.YtcebgbcgkkfedaaGreat
open Go.RowKit

set_option maxHeartbeats 400000 in
theorem szModule_le (a a2 : Option Addr) (ts : List ByteArray) (fs : List Fn) (cap cap2 : Nat) (w : World) (hn : ts.length ≤ maxLen) (hc : ∀ s ∈ ts, s.size ≤ maxLen) (hm : StrsAt w 0 a ts)
    (hn2 : fs.length ≤ maxLen) (hc2 : ∀ f ∈ fs, f.code.length ≤ maxLen) (hm2 : FnsAt w 0 a2 fs) :
    Calls Tryz.prog 5 #[.agg #[.slice a ts.length cap, .slice a2 fs.length cap2], .int .i64 1048576] w fun e w' => ∃ r : Int, e = .returned (.int .i64 r) ∧ r ≤ 1048576 ∧ (0 ≤ r → Small ts fs) ∧ Below w.heap.size w w' := by
  go_enter Tryz.func5, Tryz.ntmps5
  go_wp2_with fail
  refine (szStringS_any a ts cap 1048576 _ (by omega) (by omega) hn hc (hm.mono ((Below.refl _ _).alloc (Nat.le_refl _) _))).mono ?_
  rintro e w1 ⟨r, rfl, hr, hs, hb⟩
  have hb1 : Below w.heap.size w w1 := ((Below.refl _ _).alloc (Nat.le_refl _) _).trans (hb.mono (by simp))
  obtain ⟨hx, hf⟩ : w1.cell? ⟨w.heap.size, 0, none⟩ = some (.slice a ts.length cap) ∧ w1.cell? ⟨w.heap.size, 1, none⟩ = some (.slice a2 fs.length cap2) := by
    constructor
    · exact cell_later hb (cell_new _ _ _ 0)
    · exact cell_later hb (cell_new _ _ _ 1)
  by_cases h0 : r < 0
  · go_wp2_with fail
    go_ret
    exact ⟨_, rfl, by omega, by omega, hb1⟩
  · go_wp2_with fail
    refine (szFuncS_any a2 fs cap2 r _ (by omega) (by omega) hn2 hc2 (hm2.mono hb1)).mono ?_
    rintro e w2 ⟨r2, rfl, hr2, hs2, hb2⟩
    have hb3 : Below w.heap.size w w2 := hb1.trans (hb2.mono hb1.size)
    by_cases h2 : r2 < 0
    · go_wp2_with fail
      go_ret
      exact ⟨_, rfl, by omega, by omega, hb3⟩
    · go_wp2_with fail
      go_ret
      exact ⟨_, rfl, by omega, fun _ => ⟨(hs (by omega)).1, (hs (by omega)).2, (hs2 (by omega)).1, (hs2 (by omega)).2⟩, hb3⟩

end Go.Proofs.YtcebgbcgkkfedaaGreat

namespace Go.Proofs.YtcebgbcgkkfedaaGreat
open Go.RowKit

set_option maxRecDepth 100000 in
set_option maxHeartbeats 1000000 in
theorem sGood_any (a1 a2 : Option Addr) (c1 c2 : Nat) (ts : List ByteArray) (fs : List Fn) (w : World) (hs : Small ts fs) (hst : StrsAt w 0 a1 ts) (hfn : FnsAt w 0 a2 fs) :
    Calls Tryz.prog 49 #[.agg #[.slice a1 ts.length c1, .slice a2 fs.length c2]] w fun e w' => Says (Good ts fs) e ∧ Below w.heap.size w w' := by
  have hbA : Below w.heap.size w (w.alloc (.cells #[.slice a1 ts.length c1, .slice a2 fs.length c2] 42)) := (Below.refl _ _).alloc (Nat.le_refl _) _
  go_enter Tryz.func49, Tryz.ntmps49
  go_wp2_with fail
  refine (sVerify_any _ _ _ _ ts fs _ hs (hst.mono hbA) (hfn.mono hbA)).mono ?_
  rintro e w1 ⟨c, f, a, rfl, hV, hb⟩
  have HG : Hid (c = 0 ↔ Good ts fs) := hV.good
  clear hV
  have hfld : (Instr.field 103 (.agg #[.int .i64 c, .int .i64 f, .int .i64 a]) 0).run Tryz.prog w1 = .ok (.int .i64 c) w1 := by kernel_rfl
  go_wp2
  go_ret
  refine ⟨⟨_, rfl, ?_⟩, hbA.trans (hb.mono hbA.size)⟩
  rw [← HG.out]
  simp

set_option maxRecDepth 100000 in
set_option maxHeartbeats 4000000 in
theorem sVmOk_any (a1 a2 : Option Addr) (c1 c2 : Nat) (ts : List ByteArray) (fs : List Fn) (fa ha oa : Option Addr) (fc hcp oc : Nat) (d : VmD) (w : World) (hs : Small ts fs) (hst : StrsAt w 0 a1 ts) (hfn : FnsAt w 0 a2 fs) (hx : VmSmall d) (hm : VmAt w 0 fa ha oa d) :
    Calls Tryz.prog 23 #[.agg #[.slice a1 ts.length c1, .slice a2 fs.length c2], .agg (vmCells fa ha oa fc hcp oc d)] w fun e w' => Says (VmGood ts fs d) e ∧ Below w.heap.size w w' := by
  have hbA : Below w.heap.size w ((w.alloc (.cells #[.slice a1 ts.length c1, .slice a2 fs.length c2] 42)).alloc (.cells (vmCells fa ha oa fc hcp oc d) 38)) := ((Below.refl _ _).alloc (Nat.le_refl _) _).alloc (by simp) _
  have hM0 := block_old (block_new w #[.slice a1 ts.length c1, .slice a2 fs.length c2] 42) (.cells (vmCells fa ha oa fc hcp oc d) 38)
  have hV0 := block_new_at (w.alloc (.cells #[.slice a1 ts.length c1, .slice a2 fs.length c2] 42)) (vmCells fa ha oa fc hcp oc d) 38 (w.heap.size + 1) (by simp)
  unfold vmCells at hbA hM0 hV0 ⊢
  go_enter Tryz.func23, Tryz.ntmps23
  go_wp2_with fail
  refine (sGood_any _ _ _ _ ts fs _ hs (hst.mono hbA) (hfn.mono hbA)).mono ?_
  rintro e w1 ⟨⟨q, rfl, hq⟩, hb1⟩
  have hM1 := block_kept hM0 hb1
  have hV1 := block_kept hV0 hb1
  have hB1 := hbA.trans (hb1.mono hbA.size)
  have HQn : Hid (q = false → ¬ Good ts fs) := fun h hr => by rw [hq.2 hr] at h; cases h
  have HQy : Hid (q = true → Good ts fs) := hq.1
  clear hq hM0 hV0 hb1 hbA
  cases hqc : q with
  | false =>
    have HN : Hid (¬ Good ts fs) := HQn.out hqc
    clear hqc HQn HQy
    go_wp2
    go_ret
    exact ⟨Says.no rfl (fun h => HN.out h.1), hB1⟩
  | true =>
    have hg := HQy.out hqc
    have HG : Hid (Good ts fs) := hg
    have FF : ∀ k (hk : k < fs.length), Fine fs fs[k].code := fun k hk => fine_of hg.ok hk
    clear hqc HQn HQy hg
    have m1 := block_cell hM1
    have v1 := block_cell hV1
    go_wp2_with fail
    refine (sVm_any a1 a2 ts.length c1 c2 fs fa ha oa fc hcp oc d _ hs.funcs hx (hm.mono hB1) (hfn.mono hB1) FF).mono ?_
    rintro e w2 ⟨⟨q2, rfl, hq2⟩, hb2⟩
    have HQ : Hid (q2 = true ↔ (Room d ∧ Frames fs d ∧ Vals fs.length d)) := hq2
    clear hq2 m1 v1
    go_wp2
    go_ret
    exact ⟨⟨q2, rfl, ⟨fun h => ⟨HG.out, HQ.out.1 h⟩, fun h => HQ.out.2 h.2⟩⟩, hB1.trans (hb2.mono hB1.size)⟩
end Go.Proofs.YtcebgbcgkkfedaaGreat
namespace Go.Proofs.YtcebgbcgkkfedaaGreat
open Go.RowKit

end Go.Proofs.YtcebgbcgkkfedaaGreat
