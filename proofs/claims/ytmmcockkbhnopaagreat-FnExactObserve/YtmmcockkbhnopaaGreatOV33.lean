/-
  What impl.frameFits returns.
  What impl.framesOk returns.
-/
import Derived.Test.YtmmcockkbhnopaaGreatOV31
import Derived.Test.YtmmcockkbhnopaaGreatOV21
import Derived.Deep.QuietTactic
import Derived.BigQuiet
namespace Go.Proofs.YtmmcockkbhnopaaGreat
open Go.RowKit

set_option maxHeartbeats 400000 in
theorem callOp_any (op : Int) (w : World) : Calls Tryz.prog 129 #[.int .i64 op] w fun e w' => e = .returned (.bool (decide (op = 23) || decide (op = 24))) ∧ w' = w := by
  by_cases h1 : op = 23
  · subst h1
    go_enter Tryz.func129, Tryz.ntmps129
    go_wp2
    go_ret
    exact ⟨rfl, rfl⟩
  · by_cases h2 : op = 24
    · subst h2
      go_enter Tryz.func129, Tryz.ntmps129
      go_wp2
      go_ret
      exact ⟨rfl, rfl⟩
    · have b1 : (op == 23) = false := by simpa using h1
      have b2 : (op == 24) = false := by simpa using h2
      go_enter Tryz.func129, Tryz.ntmps129
      go_wp2
      go_ret
      exact ⟨ret_bool (by simp [h1, h2]), rfl⟩

set_option maxRecDepth 100000 in
set_option maxHeartbeats 4000000 in
theorem fits_any (a1 a2 : Option Addr) (nt c1 c2 : Nat) (fs : List Fn) (base G : Nat) (f pc nl ns : Int) (last : Bool) (w : World) (hm : FnsAt w 0 a2 fs) (hH : Hs w base G fs.length fs) (FF : ∀ k (hk : k < fs.length), Fine fs fs[k].code) :
    Calls Tryz.prog 104 #[.agg #[.slice a1 nt c1, .slice a2 fs.length c2], .slice (some ⟨G, 0, none⟩) fs.length fs.length, .int .i64 f, .int .i64 pc, .int .i64 nl, .int .i64 ns, .bool last] w fun e w' => Says (Fits fs f pc nl ns last) e ∧ Below w.heap.size w w' := by
  have hbA : Below w.heap.size w (w.alloc (.cells #[.slice a1 nt c1, .slice a2 fs.length c2] 40)) := (Below.refl _ _).alloc (Nat.le_refl _) _
  by_cases hf0 : f < 0
  · go_enter Tryz.func104, Tryz.ntmps104
    go_wp2
    go_ret
    exact ⟨Says.no rfl (fits_fn (.inl hf0)), hbA⟩
  by_cases hf1 : (fs.length : Int) ≤ f
  · go_enter Tryz.func104, Tryz.ntmps104
    go_wp2
    go_ret
    exact ⟨Says.no rfl (fits_fn (.inr hf1)), hbA⟩
  obtain ⟨i, rfl⟩ : ∃ i : Nat, f = i := ⟨f.toNat, by omega⟩
  have hi : i < fs.length := by omega
  clear hf0 hf1
  obtain ⟨b, off, ca, cc, rfl, -, d1, d2, d3, d4⟩ := hm i hi
  have d2' := cell_later hbA d2
  have d3' := cell_later hbA d3
  clear d1 d2 d3
  by_cases hl : nl = fs[i].locals
  case neg =>
    have hl' : (nl != fs[i].locals) = true := by simpa using hl
    have HL : Hid (nl ≠ fs[i].locals) := hl
    clear hl
    go_enter Tryz.func104, Tryz.ntmps104
    go_wp2
    go_ret
    exact ⟨Says.no rfl (fits_locals hi HL.out), hbA⟩
  have HL : Hid (nl = fs[i].locals) := hl
  have hl' : (nl != fs[i].locals) = false := by simpa using hl
  clear hl
  obtain ⟨g, d, hg, hD, hHt⟩ := hH.at hi hi
  have F := FF i hi
  have P := hD.hts F
  have hmost := F.most
  have hdl : Hid (d.length = fs[i].code.length) := P.len
  have hg' := cell_later hbA hg
  clear hg
  go_enter Tryz.func104, Tryz.ntmps104
  go_wp2
  go_quiet (fail)
  clear d2' d3' hl'
  by_cases hp0 : pc < 0
  · go_wp2
    go_ret
    exact ⟨Says.no rfl (fits_pc hi (.inl hp0)), below_draws hbA _⟩
  by_cases hp1 : (fs[i].code.length : Int) ≤ pc
  · go_wp2
    go_ret
    exact ⟨Says.no rfl (fits_pc hi (.inr hp1)), below_draws hbA _⟩
  obtain ⟨p, rfl⟩ : ∃ p : Nat, pc = p := ⟨pc.toNat, by omega⟩
  have hpd : p < d.length := by rw [hdl.out]; omega
  have hpl : p < fs[i].code.length := by omega
  clear hp0 hp1
  have hHA := hHt.mono hbA
  have hc0 := hHA.cell hpd
  have hlow := P.low p hpd
  have hhigh := P.high p hpd
  by_cases hm1 : d[p] = -1
  · have HM : Hid (d[p] = -1) := hm1
    have hm1' : (d[p] == -1) = true := by simpa using hm1
    go_wp2
    go_ret
    exact ⟨Says.no rfl (fits_none hi hD hpd (by rw [HM.out]; decide)), below_draws hbA _⟩
  have HM : Hid (0 ≤ d[p]) := by show 0 ≤ d[p]; omega
  have hm1' : (d[p] == -1) = false := by simpa using hm1
  clear hm1
  cases last with
  | true =>
    go_wp2
    go_ret
    refine ⟨⟨_, rfl, ?_⟩, below_draws hbA _⟩
    rw [fits_last hi hD hpd hdl.out HL.out HM.out]
    simp
  | false =>
    cases p with
    | zero =>
      go_wp2
      all_goals go_ret
      all_goals exact ⟨Says.no rfl fits_first, below_draws hbA _⟩
    | succ p =>
      have hpd0 : p < d.length := by omega
      have hpl0 : p < fs[i].code.length := by omega
      obtain ⟨cb, coff, rfl, -, e1, -⟩ := d4 p hpl0
      have e1' := cell_later hbA e1
      have hc1 := hHA.cell hpd0
      have hlow0 := P.low p hpd0
      clear e1
      by_cases ho : fs[i].code[p].1 = 23 ∨ fs[i].code[p].1 = 24
      case neg =>
        have ho' : (decide (fs[i].code[p].1 = 23) || decide (fs[i].code[p].1 = 24)) = false := by simpa using ho
        have HO : Hid (¬ (fs[i].code[p].1 = 23 ∨ fs[i].code[p].1 = 24)) := ho
        clear ho
        go_wp2_with (go_at_call 129; refine (callOp_any _ _).mono ?_; rintro e w' ⟨rfl, hw⟩; rw [hw]; clear hw w')
        go_ret
        refine ⟨Says.no rfl ?_, below_draws hbA _⟩
        rw [fits_other hi hD hpd hdl.out HL.out HM.out]
        exact fun h => HO.out h.2.1
      have ho' : (decide (fs[i].code[p].1 = 23) || decide (fs[i].code[p].1 = 24)) = true := by simpa using ho
      have HO : Hid (fs[i].code[p].1 = 23 ∨ fs[i].code[p].1 = 24) := ho
      clear ho
      by_cases hm0 : d[p] = -1
      · have HM0 : Hid (d[p] = -1) := hm0
        have hm0' : (d[p] != -1) = false := by simpa using hm0
        clear hm0
        go_wp2_with (go_at_call 129; refine (callOp_any _ _).mono ?_; rintro e w' ⟨rfl, hw⟩; rw [hw]; clear hw w')
        go_ret
        refine ⟨Says.no rfl ?_, below_draws hbA _⟩
        rw [fits_other hi hD hpd hdl.out HL.out HM.out]
        exact fun h => absurd h.1 (by rw [HM0.out]; decide)
      · have HM0 : Hid (0 ≤ d[p]) := by show 0 ≤ d[p]; omega
        have hm0' : (d[p] != -1) = true := by simpa using hm0
        clear hm0
        go_wp2_with (go_at_call 129; refine (callOp_any _ _).mono ?_; rintro e w' ⟨rfl, hw⟩; rw [hw]; clear hw w')
        go_ret
        refine ⟨⟨_, rfl, ?_⟩, below_draws hbA _⟩
        rw [fits_other hi hD hpd hdl.out HL.out HM.out]
        constructor
        · intro h
          exact ⟨HM0.out, HO.out, by simpa using h⟩
        · rintro ⟨-, -, h⟩
          simpa using h
end Go.Proofs.YtmmcockkbhnopaaGreat

namespace Go.Proofs.YtmmcockkbhnopaaGreat
open Go.RowKit

theorem frames_run {fs : List Fn} {d : VmD} (h : Frames fs d) (hs : d.status ≠ 1) : ((d.status = 0 ∧ d.trap = 0) ∨ (d.status = 2 ∧ 1 ≤ d.trap ∧ d.trap ≤ 8)) ∧ 1 ≤ d.frames.length ∧ d.frames.length ≤ 24 ∧ (d.value.k = 0 ∧ d.value.n = 0 ∧ d.value.s = ⟨#[]⟩) ∧
    ∀ i (h : i < d.frames.length), Fits fs d.frames[i].fn d.frames[i].pc d.frames[i].locals.length d.frames[i].stack.length (decide ((i : Int) = (d.frames.length : Int) - 1)) := by
  rcases h with h | h
  · exact absurd h.1 hs
  · exact h

/-- The loop over the frames, and what lies ahead of it, where Status and Trap are as they may be. -/
def Run (d : VmD) : Prop := (d.status = 0 ∧ d.trap = 0) ∨ (d.status = 2 ∧ 1 ≤ d.trap ∧ d.trap ≤ 8)

set_option maxRecDepth 100000 in
set_option maxHeartbeats 4000000 in
theorem frames_done (a1 a2 : Option Addr) (nt c1 c2 : Nat) (fs : List Fn) (G : Nat) (fa ha oa : Option Addr) (fc hcp oc : Nat) (d : VmD) (w : World) (hx : VmSmall d) (hs : d.status = 1) :
    Calls Tryz.prog 71 #[.agg #[.slice a1 nt c1, .slice a2 fs.length c2], .slice (some ⟨G, 0, none⟩) fs.length fs.length, .agg (vmCells fa ha oa fc hcp oc d)] w fun e w' => Says (Frames fs d) e ∧ Below w.heap.size w w' := by
  have hbA : Below w.heap.size w ((w.alloc (.cells #[.slice a1 nt c1, .slice a2 fs.length c2] 40)).alloc (.cells #[.slice fa d.frames.length fc, .slice ha d.heap.length hcp, .int .i64 d.made, .slice oa d.out.length oc, .int .i64 d.status, .int .i64 d.trap, .int .i64 d.value.k, .int .i64 d.value.n, .string d.value.s, .int .i64 d.steps] 47)) := ((Below.refl _ _).alloc (Nat.le_refl _) _).alloc (by simp) _
  have hfl := hx.frames
  unfold vmCells
  have HS : Hid (d.status = 1) := hs
  rw [hs] at hbA ⊢
  clear hs
  by_cases h1 : d.frames.length = 0
  · have h1I : ((d.frames.length : Int) == 0) = true := by simpa using h1
    have H1 : Hid (d.frames.length = 0) := h1
    clear h1
    go_enter Tryz.func71, Tryz.ntmps71
    go_wp2
    go_ret
    refine ⟨⟨_, rfl, ?_⟩, hbA⟩
    constructor
    · intro h
      exact .inl ⟨HS.out, H1.out, by simpa using h⟩
    · rintro (⟨-, -, h⟩ | ⟨⟨h, -⟩ | ⟨h, -⟩, -⟩)
      · simpa using h
      · rw [HS.out] at h; cases h
      · rw [HS.out] at h; cases h
  · have h1I : ((d.frames.length : Int) == 0) = false := by simpa using h1
    have H1 : Hid (¬ d.frames.length = 0) := h1
    clear h1
    go_enter Tryz.func71, Tryz.ntmps71
    go_wp2
    go_ret
    refine ⟨Says.no rfl ?_, hbA⟩
    rintro (⟨-, h, -⟩ | ⟨⟨h, -⟩ | ⟨h, -⟩, -⟩)
    · exact H1.out h
    · rw [HS.out] at h; cases h
    · rw [HS.out] at h; cases h

set_option maxRecDepth 100000 in
set_option maxHeartbeats 4000000 in
theorem frames_bad (a1 a2 : Option Addr) (nt c1 c2 : Nat) (fs : List Fn) (G : Nat) (fa ha oa : Option Addr) (fc hcp oc : Nat) (d : VmD) (w : World) (hx : VmSmall d) (hs : d.status ≠ 1) (hr : ¬ Run d) :
    Calls Tryz.prog 71 #[.agg #[.slice a1 nt c1, .slice a2 fs.length c2], .slice (some ⟨G, 0, none⟩) fs.length fs.length, .agg (vmCells fa ha oa fc hcp oc d)] w fun e w' => Says (Frames fs d) e ∧ Below w.heap.size w w' := by
  have hbA : Below w.heap.size w ((w.alloc (.cells #[.slice a1 nt c1, .slice a2 fs.length c2] 40)).alloc (.cells #[.slice fa d.frames.length fc, .slice ha d.heap.length hcp, .int .i64 d.made, .slice oa d.out.length oc, .int .i64 d.status, .int .i64 d.trap, .int .i64 d.value.k, .int .i64 d.value.n, .string d.value.s, .int .i64 d.steps] 47)) := ((Below.refl _ _).alloc (Nat.le_refl _) _).alloc (by simp) _
  have hfl := hx.frames
  unfold vmCells
  have HW : Hid (¬ Frames fs d) := fun h => hr (frames_run h hs).1
  by_cases h0 : d.status = 0
  · have ht : (d.trap != 0) = true := by simpa using fun h => hr (.inl ⟨h0, h⟩)
    rw [h0] at hbA ⊢
    clear hs hr h0
    go_enter Tryz.func71, Tryz.ntmps71
    go_wp2
    all_goals go_ret
    all_goals exact ⟨Says.no rfl (HW.out), hbA⟩
  · by_cases h2 : d.status = 2
    · have ht : d.trap < 1 ∨ 8 < d.trap := by
        by_cases ha : 1 ≤ d.trap
        · by_cases hb : d.trap ≤ 8
          · exact absurd (.inr ⟨h2, ha, hb⟩) hr
          · omega
        · omega
      rw [h2] at hbA ⊢
      clear hs hr h0 h2
      rcases ht with ht | ht
      · go_enter Tryz.func71, Tryz.ntmps71
        go_wp2
        all_goals go_ret
        all_goals exact ⟨Says.no rfl HW.out, hbA⟩
      · by_cases hu : d.trap < 1
        · omega
        · go_enter Tryz.func71, Tryz.ntmps71
          go_wp2
          all_goals go_ret
          all_goals exact ⟨Says.no rfl HW.out, hbA⟩
    · have b0 : (d.status == 0) = false := by simpa using h0
      have b1 : (d.status == 1) = false := by simpa using hs
      have b2 : (d.status == 2) = false := by simpa using h2
      clear hs hr h0 h2
      go_enter Tryz.func71, Tryz.ntmps71
      go_wp2
      all_goals go_ret
      all_goals exact ⟨Says.no rfl (HW.out), hbA⟩

set_option maxRecDepth 100000 in
set_option maxHeartbeats 4000000 in
theorem frames_some (a1 a2 : Option Addr) (nt c1 c2 : Nat) (fs : List Fn) (base G : Nat) (fa ha oa : Option Addr) (fc hcp oc : Nat) (d : VmD) (w : World) (hx : VmSmall d) (hm : VmAt w 0 fa ha oa d) (hmf : FnsAt w 0 a2 fs) (hH : Hs w base G fs.length fs) (FF : ∀ k (hk : k < fs.length), Fine fs fs[k].code) (st tr : Int) (hst : d.status = st) (htr : d.trap = tr) (hr : (st = 0 ∧ tr = 0) ∨ (st = 2 ∧ 1 ≤ tr ∧ tr ≤ 8)) :
    Calls Tryz.prog 71 #[.agg #[.slice a1 nt c1, .slice a2 fs.length c2], .slice (some ⟨G, 0, none⟩) fs.length fs.length, .agg (vmCells fa ha oa fc hcp oc d)] w fun e w' => Says (Frames fs d) e ∧ Below w.heap.size w w' := by
  have hne : d.status ≠ 1 := by rcases hr with h | h <;> omega
  have HR : Hid (Run d) := by show Run d; unfold Run; rw [hst, htr]; exact hr
  have HF : Hid (Frames fs d → 1 ≤ d.frames.length ∧ d.frames.length ≤ 24 ∧ (d.value.k = 0 ∧ d.value.n = 0 ∧ d.value.s = ⟨#[]⟩) ∧ ∀ i (h : i < d.frames.length), Fits fs d.frames[i].fn d.frames[i].pc d.frames[i].locals.length d.frames[i].stack.length (decide ((i : Int) = (d.frames.length : Int) - 1))) := fun h => (frames_run h hne).2
  have hbA : Below w.heap.size w ((w.alloc (.cells #[.slice a1 nt c1, .slice a2 fs.length c2] 40)).alloc (.cells #[.slice fa d.frames.length fc, .slice ha d.heap.length hcp, .int .i64 d.made, .slice oa d.out.length oc, .int .i64 d.status, .int .i64 d.trap, .int .i64 d.value.k, .int .i64 d.value.n, .string d.value.s, .int .i64 d.steps] 47)) := ((Below.refl _ _).alloc (Nat.le_refl _) _).alloc (by simp) _
  have hfl := hx.frames
  unfold vmCells
  have hM0 := block_old (block_new w #[.slice a1 nt c1, .slice a2 fs.length c2] 40) (.cells #[.slice fa d.frames.length fc, .slice ha d.heap.length hcp, .int .i64 d.made, .slice oa d.out.length oc, .int .i64 d.status, .int .i64 d.trap, .int .i64 d.value.k, .int .i64 d.value.n, .string d.value.s, .int .i64 d.steps] 47)
  have hV0 := block_new_at (w.alloc (.cells #[.slice a1 nt c1, .slice a2 fs.length c2] 40)) #[.slice fa d.frames.length fc, .slice ha d.heap.length hcp, .int .i64 d.made, .slice oa d.out.length oc, .int .i64 d.status, .int .i64 d.trap, .int .i64 d.value.k, .int .i64 d.value.n, .string d.value.s, .int .i64 d.steps] 47 (w.heap.size + 1) (by simp)
  rw [hst, htr] at hbA hM0 hV0 ⊢
  clear hst htr hne
  by_cases h1 : d.frames.length < 1
  · have h1I : (d.frames.length : Int) < 1 := by omega
    have HN : Hid (¬ Frames fs d) := fun h => by have := (HF.out h).1; omega
    rcases hr with ⟨rfl, rfl⟩ | ⟨rfl, ht1, ht2⟩
    · go_enter Tryz.func71, Tryz.ntmps71
      go_wp2
      all_goals go_ret
      all_goals exact ⟨Says.no rfl (HN.out), hbA⟩
    · go_enter Tryz.func71, Tryz.ntmps71
      go_wp2
      all_goals go_ret
      all_goals exact ⟨Says.no rfl (HN.out), hbA⟩
  by_cases h2 : 24 < d.frames.length
  · have h2I : 24 < (d.frames.length : Int) := by omega
    have h1I : ¬ (d.frames.length : Int) < 1 := by omega
    have HN : Hid (¬ Frames fs d) := fun h => by have := (HF.out h).2.1; omega
    rcases hr with ⟨rfl, rfl⟩ | ⟨rfl, ht1, ht2⟩
    · go_enter Tryz.func71, Tryz.ntmps71
      go_wp2
      all_goals go_ret
      all_goals exact ⟨Says.no rfl (HN.out), hbA⟩
    · go_enter Tryz.func71, Tryz.ntmps71
      go_wp2
      all_goals go_ret
      all_goals exact ⟨Says.no rfl (HN.out), hbA⟩
  have h1I : ¬ (d.frames.length : Int) < 1 := by omega
  have h2I : ¬ 24 < (d.frames.length : Int) := by omega
  by_cases hz : d.value.k = 0 ∧ d.value.n = 0 ∧ d.value.s = ⟨#[]⟩
  case neg =>
    have HN : Hid (¬ Frames fs d) := fun h => hz (HF.out h).2.2.1
    by_cases z0 : d.value.k = 0
    · by_cases z1 : d.value.n = 0
      · have z2 : d.value.s ≠ ⟨#[]⟩ := fun h => hz ⟨z0, z1, h⟩
        have e1 := (not_empty z2).1
        have e2 := (not_empty z2).2
        rw [z0, z1] at hbA ⊢
        clear hz z2 z0 z1
        rcases hr with ⟨rfl, rfl⟩ | ⟨rfl, ht1, ht2⟩
        · go_enter Tryz.func71, Tryz.ntmps71
          go_wp2
          all_goals go_ret
          all_goals exact ⟨Says.no rfl (HN.out), hbA⟩
        · go_enter Tryz.func71, Tryz.ntmps71
          go_wp2
          all_goals go_ret
          all_goals exact ⟨Says.no rfl (HN.out), hbA⟩
      · have e1 : (d.value.n == 0) = false := by simpa using z1
        have e2 : (0 == d.value.n) = false := by simpa using fun h => z1 (h : (0 : Int) = d.value.n).symm
        rw [z0] at hbA ⊢
        clear hz z0 z1
        rcases hr with ⟨rfl, rfl⟩ | ⟨rfl, ht1, ht2⟩
        · go_enter Tryz.func71, Tryz.ntmps71
          go_wp2
          all_goals go_ret
          all_goals exact ⟨Says.no rfl (HN.out), hbA⟩
        · go_enter Tryz.func71, Tryz.ntmps71
          go_wp2
          all_goals go_ret
          all_goals exact ⟨Says.no rfl (HN.out), hbA⟩
    · have e1 : (d.value.k == 0) = false := by simpa using z0
      have e2 : (0 == d.value.k) = false := by simpa using fun h => z0 (h : (0 : Int) = d.value.k).symm
      clear hz z0
      rcases hr with ⟨rfl, rfl⟩ | ⟨rfl, ht1, ht2⟩
      · go_enter Tryz.func71, Tryz.ntmps71
        go_wp2
        all_goals go_ret
        all_goals exact ⟨Says.no rfl (HN.out), hbA⟩
      · go_enter Tryz.func71, Tryz.ntmps71
        go_wp2
        all_goals go_ret
        all_goals exact ⟨Says.no rfl (HN.out), hbA⟩
  obtain ⟨z0, z1, z2⟩ := hz
  have HZ : Hid (d.value.k = 0 ∧ d.value.n = 0 ∧ d.value.s = ⟨#[]⟩) := ⟨z0, z1, z2⟩
  rw [z0, z1, z2] at hbA hM0 hV0 ⊢
  clear z0 z1 z2
  rcases hr with ⟨rfl, rfl⟩ | ⟨rfl, ht1, ht2⟩
  · go_enter Tryz.func71, Tryz.ntmps71
    go_wp2
    go_loopw [57] (fun i wr => ∃ (k : Nat), k ≤ d.frames.length ∧ i = .int .i64 k ∧ Hid (∀ q (h : q < d.frames.length), q < k → Fits fs d.frames[q].fn d.frames[q].pc d.frames[q].locals.length d.frames[q].stack.length (decide ((q : Int) = (d.frames.length : Int) - 1))) ∧ wr.heap[w.heap.size]? = some (.cells #[.slice a1 nt c1, .slice a2 fs.length c2] 40 (0, 0)) ∧ wr.heap[w.heap.size + 1]? = some (.cells #[.slice fa d.frames.length fc, .slice ha d.heap.length hcp, .int .i64 d.made, .slice oa d.out.length oc, .int .i64 0, .int .i64 0, .int .i64 0, .int .i64 0, .string ⟨#[]⟩, .int .i64 d.steps] 47 (0, 0)) ∧ Below w.heap.size w wr) (fun i _ => d.frames.length - (intOf i).toNat)
    case atStart => exact ⟨0, by omega, rfl, fun _ _ h => absurd h (Nat.not_lt_zero _), hM0, hV0, hbA⟩
    case round =>
      obtain ⟨k, hk, rfl, hall, hM, hV, hb⟩ := hrel
      clear hM0 hV0 hbA
      by_cases hlt : k < d.frames.length
      · obtain ⟨b, off, la, lc, sa, sc, rfl, -, e1, e2, e3, e4, -, -⟩ := hm.frs k hlt
        have e1' := cell_later hb e1
        have e2' := cell_later hb e2
        have e3' := cell_later hb e3
        have e4' := cell_later hb e4
        clear e1 e2 e3 e4
        have hsl := (hx.locals _ (List.getElem_mem hlt)).1
        have hss := (hx.stack _ (List.getElem_mem hlt)).1
        have hMn := block_old hM (.cells #[.int .i64 d.frames[k].fn, .int .i64 d.frames[k].pc, .slice la d.frames[k].locals.length lc, .slice sa d.frames[k].stack.length sc] 110)
        have hVn := block_old hV (.cells #[.int .i64 d.frames[k].fn, .int .i64 d.frames[k].pc, .slice la d.frames[k].locals.length lc, .slice sa d.frames[k].stack.length sc] 110)
        have hBn := hb.alloc hb.size (.cells #[.int .i64 d.frames[k].fn, .int .i64 d.frames[k].pc, .slice la d.frames[k].locals.length lc, .slice sa d.frames[k].stack.length sc] 110)
        have m1 := block_cell hMn
        have v1 := block_cell hVn
        go_wp2_with fail
        refine (fits_any _ _ _ _ _ fs base G _ _ _ _ _ _ (hmf.mono hBn) (hH.mono hBn) FF).mono ?_
        rintro e w1 ⟨⟨q, rfl, hq⟩, hb1⟩
        have hM1 := block_kept hMn hb1
        have hV1 := block_kept hVn hb1
        have hB1 := hBn.trans (hb1.mono hBn.size)
        have HQ : Hid (q = true ↔ Fits fs d.frames[k].fn d.frames[k].pc d.frames[k].locals.length d.frames[k].stack.length (decide ((k : Int) = (d.frames.length : Int) - 1))) := hq
        clear e1' e2' e3' e4' hMn hVn hBn m1 v1 hb1 hM hV hb hq
        cases q with
        | true =>
          go_wp2
          go_roundw
          case rel => exact ⟨k + 1, by omega, by go_num, fun q hq hqk => (by
            by_cases e : q = k
            · subst e; exact HQ.out.1 (by simp)
            · exact hall.out q hq (by omega)), hM1, hV1, hB1⟩
          case measure => simp [intOf]; omega
        | false =>
          go_wp2
          go_ret
          exact ⟨Says.no rfl (fun h => by have := HQ.out.2 ((HF.out h).2.2.2 k hlt); cases this), hB1⟩
      · go_wp2
        go_ret
        exact ⟨Says.yes rfl (.inr ⟨HR.out, by omega, by omega, HZ.out, fun i hi => hall.out i hi (by omega)⟩), hb⟩
  · go_enter Tryz.func71, Tryz.ntmps71
    go_wp2
    go_loopw [57] (fun i wr => ∃ (k : Nat), k ≤ d.frames.length ∧ i = .int .i64 k ∧ Hid (∀ q (h : q < d.frames.length), q < k → Fits fs d.frames[q].fn d.frames[q].pc d.frames[q].locals.length d.frames[q].stack.length (decide ((q : Int) = (d.frames.length : Int) - 1))) ∧ wr.heap[w.heap.size]? = some (.cells #[.slice a1 nt c1, .slice a2 fs.length c2] 40 (0, 0)) ∧ wr.heap[w.heap.size + 1]? = some (.cells #[.slice fa d.frames.length fc, .slice ha d.heap.length hcp, .int .i64 d.made, .slice oa d.out.length oc, .int .i64 2, .int .i64 tr, .int .i64 0, .int .i64 0, .string ⟨#[]⟩, .int .i64 d.steps] 47 (0, 0)) ∧ Below w.heap.size w wr) (fun i _ => d.frames.length - (intOf i).toNat)
    case atStart => exact ⟨0, by omega, rfl, fun _ _ h => absurd h (Nat.not_lt_zero _), hM0, hV0, hbA⟩
    case round =>
      obtain ⟨k, hk, rfl, hall, hM, hV, hb⟩ := hrel
      clear hM0 hV0 hbA
      by_cases hlt : k < d.frames.length
      · obtain ⟨b, off, la, lc, sa, sc, rfl, -, e1, e2, e3, e4, -, -⟩ := hm.frs k hlt
        have e1' := cell_later hb e1
        have e2' := cell_later hb e2
        have e3' := cell_later hb e3
        have e4' := cell_later hb e4
        clear e1 e2 e3 e4
        have hsl := (hx.locals _ (List.getElem_mem hlt)).1
        have hss := (hx.stack _ (List.getElem_mem hlt)).1
        have hMn := block_old hM (.cells #[.int .i64 d.frames[k].fn, .int .i64 d.frames[k].pc, .slice la d.frames[k].locals.length lc, .slice sa d.frames[k].stack.length sc] 110)
        have hVn := block_old hV (.cells #[.int .i64 d.frames[k].fn, .int .i64 d.frames[k].pc, .slice la d.frames[k].locals.length lc, .slice sa d.frames[k].stack.length sc] 110)
        have hBn := hb.alloc hb.size (.cells #[.int .i64 d.frames[k].fn, .int .i64 d.frames[k].pc, .slice la d.frames[k].locals.length lc, .slice sa d.frames[k].stack.length sc] 110)
        have m1 := block_cell hMn
        have v1 := block_cell hVn
        go_wp2_with fail
        refine (fits_any _ _ _ _ _ fs base G _ _ _ _ _ _ (hmf.mono hBn) (hH.mono hBn) FF).mono ?_
        rintro e w1 ⟨⟨q, rfl, hq⟩, hb1⟩
        have hM1 := block_kept hMn hb1
        have hV1 := block_kept hVn hb1
        have hB1 := hBn.trans (hb1.mono hBn.size)
        have HQ : Hid (q = true ↔ Fits fs d.frames[k].fn d.frames[k].pc d.frames[k].locals.length d.frames[k].stack.length (decide ((k : Int) = (d.frames.length : Int) - 1))) := hq
        clear e1' e2' e3' e4' hMn hVn hBn m1 v1 hb1 hM hV hb hq
        cases q with
        | true =>
          go_wp2
          go_roundw
          case rel => exact ⟨k + 1, by omega, by go_num, fun q hq hqk => (by
            by_cases e : q = k
            · subst e; exact HQ.out.1 (by simp)
            · exact hall.out q hq (by omega)), hM1, hV1, hB1⟩
          case measure => simp [intOf]; omega
        | false =>
          go_wp2
          go_ret
          exact ⟨Says.no rfl (fun h => by have := HQ.out.2 ((HF.out h).2.2.2 k hlt); cases this), hB1⟩
      · go_wp2
        go_ret
        exact ⟨Says.yes rfl (.inr ⟨HR.out, by omega, by omega, HZ.out, fun i hi => hall.out i hi (by omega)⟩), hb⟩

theorem framesOk_any (a1 a2 : Option Addr) (nt c1 c2 : Nat) (fs : List Fn) (base G : Nat) (fa ha oa : Option Addr) (fc hcp oc : Nat) (d : VmD) (w : World) (hx : VmSmall d) (hm : VmAt w 0 fa ha oa d) (hmf : FnsAt w 0 a2 fs) (hH : Hs w base G fs.length fs) (FF : ∀ k (hk : k < fs.length), Fine fs fs[k].code) :
    Calls Tryz.prog 71 #[.agg #[.slice a1 nt c1, .slice a2 fs.length c2], .slice (some ⟨G, 0, none⟩) fs.length fs.length, .agg (vmCells fa ha oa fc hcp oc d)] w fun e w' => Says (Frames fs d) e ∧ Below w.heap.size w w' := by
  by_cases hs : d.status = 1
  · exact frames_done a1 a2 nt c1 c2 fs G fa ha oa fc hcp oc d w hx hs
  · by_cases hr : Run d
    · exact frames_some a1 a2 nt c1 c2 fs base G fa ha oa fc hcp oc d w hx hm hmf hH FF _ _ rfl rfl hr
    · exact frames_bad a1 a2 nt c1 c2 fs G fa ha oa fc hcp oc d w hx hs hr
end Go.Proofs.YtmmcockkbhnopaaGreat
