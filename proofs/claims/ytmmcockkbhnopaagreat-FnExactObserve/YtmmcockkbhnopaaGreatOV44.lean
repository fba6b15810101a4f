/-
  What spec.l05VmOk returns, of a module that is good.
-/
import Derived.Test.YtmmcockkbhnopaaGreatOV32
import Derived.Test.YtmmcockkbhnopaaGreatOV43
import Derived.Deep.QuietTactic
import Derived.BigQuiet
import Derived.Deep.RegionWith
namespace Go.Proofs.YtmmcockkbhnopaaGreat
open Go.RowKit

set_option maxRecDepth 100000 in
set_option maxHeartbeats 8000000 in
theorem sVm_any (a1 a2 : Option Addr) (nt c1 c2 : Nat) (fs : List Fn) (fa ha oa : Option Addr) (fc hcp oc : Nat) (d : VmD) (w : World) (hn : fs.length ≤ 1048576) (hx : VmSmall d) (hm : VmAt w 0 fa ha oa d) (hmf : FnsAt w 0 a2 fs) (FF : ∀ k (hk : k < fs.length), Fine fs fs[k].code) :
    Calls Tryz.prog 28 #[.agg #[.slice a1 nt c1, .slice a2 fs.length c2], .agg (vmCells fa ha oa fc hcp oc d)] w fun e w' => Says (Room d ∧ Frames fs d ∧ Vals fs.length d) e ∧ Below w.heap.size w w' := by
  have hbA : Below w.heap.size w ((w.alloc (.cells #[.slice a1 nt c1, .slice a2 fs.length c2] 40)).alloc (.cells #[.slice fa d.frames.length fc, .slice ha d.heap.length hcp, .int .i64 d.made, .slice oa d.out.length oc, .int .i64 d.status, .int .i64 d.trap, .int .i64 d.value.k, .int .i64 d.value.n, .string d.value.s, .int .i64 d.steps] 47)) := ((Below.refl _ _).alloc (Nat.le_refl _) _).alloc (by simp) _
  have hM0 := block_old (block_new w #[.slice a1 nt c1, .slice a2 fs.length c2] 40) (.cells #[.slice fa d.frames.length fc, .slice ha d.heap.length hcp, .int .i64 d.made, .slice oa d.out.length oc, .int .i64 d.status, .int .i64 d.trap, .int .i64 d.value.k, .int .i64 d.value.n, .string d.value.s, .int .i64 d.steps] 47)
  have hV0 := block_new_at (w.alloc (.cells #[.slice a1 nt c1, .slice a2 fs.length c2] 40)) #[.slice fa d.frames.length fc, .slice ha d.heap.length hcp, .int .i64 d.made, .slice oa d.out.length oc, .int .i64 d.status, .int .i64 d.trap, .int .i64 d.value.k, .int .i64 d.value.n, .string d.value.s, .int .i64 d.steps] 47 (w.heap.size + 1) (by simp)
  have hhl := hx.heap
  have hol := hx.out
  have hfl := hx.frames
  unfold vmCells
  by_cases h1 : 120 < d.heap.length
  · have h1I : 120 < (d.heap.length : Int) := by omega
    go_enter Tryz.func28, Tryz.ntmps28
    go_wp2_with (first | (go_at_call 57; refine (between_any _ _ _ _).mono ?_; rintro e w' ⟨rfl, hw⟩; rw [hw]; (first | rw [b2] | rw [b4] | rw [b6] | rw [b7]); clear hw w'))
    go_ret
    exact ⟨Says.no rfl (fun h => by have := h.1.1; have := h.1.2.1; omega), hbA⟩
  have h1I : ¬ 120 < (d.heap.length : Int) := by omega
  by_cases h2 : (d.heap.length : Int) ≤ d.made ∧ d.made ≤ 120
  case neg =>
    have b2 : (decide ((d.heap.length : Int) ≤ d.made) && decide (d.made ≤ 120)) = false := by rw [Bool.eq_false_iff]; simp; omega
    have H2 : Hid (¬ ((d.heap.length : Int) ≤ d.made ∧ d.made ≤ 120)) := h2
    clear h2
    go_enter Tryz.func28, Tryz.ntmps28
    go_wp2_with (first | (go_at_call 57; refine (between_any _ _ _ _).mono ?_; rintro e w' ⟨rfl, hw⟩; rw [hw]; (first | rw [b2] | rw [b4] | rw [b6] | rw [b7]); clear hw w'))
    go_ret
    exact ⟨Says.no rfl (fun h => H2.out ⟨h.1.1, h.1.2.1⟩), hbA⟩
  have b2 : (decide ((d.heap.length : Int) ≤ d.made) && decide (d.made ≤ 120)) = true := by simpa using h2
  have H2 : Hid ((d.heap.length : Int) ≤ d.made ∧ d.made ≤ 120) := h2
  clear h2
  by_cases h3 : 200 < d.out.length
  · have h3I : 200 < (d.out.length : Int) := by omega
    go_enter Tryz.func28, Tryz.ntmps28
    go_wp2_with (first | (go_at_call 57; refine (between_any _ _ _ _).mono ?_; rintro e w' ⟨rfl, hw⟩; rw [hw]; (first | rw [b2] | rw [b4] | rw [b6] | rw [b7]); clear hw w'))
    go_ret
    exact ⟨Says.no rfl (fun h => by have := h.1.2.2.2.1; omega), hbA⟩
  have h3I : ¬ 200 < (d.out.length : Int) := by omega
  by_cases h4 : 0 ≤ d.steps ∧ d.steps ≤ 50000
  case neg =>
    have b4 : (decide (0 ≤ d.steps) && decide (d.steps ≤ 50000)) = false := by rw [Bool.eq_false_iff]; simp; omega
    have H4 : Hid (¬ (0 ≤ d.steps ∧ d.steps ≤ 50000)) := h4
    clear h4
    go_enter Tryz.func28, Tryz.ntmps28
    go_wp2_with (first | (go_at_call 57; refine (between_any _ _ _ _).mono ?_; rintro e w' ⟨rfl, hw⟩; rw [hw]; (first | rw [b2] | rw [b4] | rw [b6] | rw [b7]); clear hw w'))
    go_ret
    exact ⟨Says.no rfl (fun h => H4.out ⟨h.1.2.2.2.2.1, h.1.2.2.2.2.2.1⟩), hbA⟩
  have b4 : (decide (0 ≤ d.steps) && decide (d.steps ≤ 50000)) = true := by simpa using h4
  have H4 : Hid (0 ≤ d.steps ∧ d.steps ≤ 50000) := h4
  clear h4
  go_enter Tryz.func28, Tryz.ntmps28
  go_wp2_with (first | (go_at_call 57; refine (between_any _ _ _ _).mono ?_; rintro e w' ⟨rfl, hw⟩; rw [hw]; (first | rw [b2] | rw [b4] | rw [b6] | rw [b7]); clear hw w'))
  refine (sOk_any _ _ _ _ _ _ _ _ _ _ _ hn hx.value).mono ?_
  rintro e w1 ⟨rfl, hb1⟩
  have hM1 := block_kept hM0 hb1
  have hV1 := block_kept hV0 hb1
  have hB1 := hbA.trans (hb1.mono hbA.size)
  clear hM0 hV0 hbA hb1 b2 b4
  by_cases h5 : valB d.value.k d.value.n d.value.s fs.length d.heap.length = true
  case neg =>
    have h5' : valB d.value.k d.value.n d.value.s fs.length d.heap.length = false := by simpa using h5
    have H5 : Hid (¬ okB fs.length d.heap.length d.value = true) := h5
    clear h5
    go_wp2
    go_ret
    exact ⟨Says.no rfl (fun h => H5.out h.2.2.2.2), hB1⟩
  have H5 : Hid (okB fs.length d.heap.length d.value = true) := h5
  go_wp2
  clear h5
  go_loopw [6] (fun i wr => ∃ (k : Nat), k ≤ d.heap.length ∧ i = .int .i64 k ∧ Hid ((d.heap.take k).all fewB = true) ∧ Hid ((d.heap.take k).all (reVals fs.length d.heap.length) = true) ∧ wr.heap[w.heap.size]? = some (.cells #[.slice a1 nt c1, .slice a2 fs.length c2] 40 (0, 0)) ∧ wr.heap[w.heap.size + 1]? = some (.cells #[.slice fa d.frames.length fc, .slice ha d.heap.length hcp, .int .i64 d.made, .slice oa d.out.length oc, .int .i64 d.status, .int .i64 d.trap, .int .i64 d.value.k, .int .i64 d.value.n, .string d.value.s, .int .i64 d.steps] 47 (0, 0)) ∧ Below w.heap.size w wr) (fun i _ => d.heap.length - (intOf i).toNat)
  case atStart => exact ⟨0, by omega, rfl, rfl, rfl, hM1, hV1, hB1⟩
  case round =>
    obtain ⟨k, hk, rfl, hal1, hal2, hM, hV, hb⟩ := hrel
    clear hM1 hV1 hB1
    by_cases hlt : k < d.heap.length
    · obtain ⟨b, off, ca, cc, rfl, -, e1, e2⟩ := hm.recs k hlt
      have e1' := cell_later hb e1
      clear e1
      have hsf := hx.fields _ (List.getElem_mem hlt)
      have hkl := hsf.1
      by_cases ho : 6 < d.heap[k].length
      · have HO : Hid (6 < d.heap[k].length) := ho
        have hoI : 6 < (d.heap[k].length : Int) := by omega
        have hoB : decide (6 < (d.heap[k].length : Int)) = true := by simpa using hoI
        have v1 := block_cell hV
        have m1 := block_cell hM
        go_wp2
        go_quiet (fail)
        go_wp2
        go_ret
        exact ⟨Says.no rfl (fun h => by
          have h3 := h.1.2.2.1
          rw [all_no hlt (show fewB d.heap[k] = false by simpa [fewB] using HO.out)] at h3
          cases h3), below_draws hb _⟩
      have HO : Hid (fewB d.heap[k] = true) := by show fewB d.heap[k] = true; simp [fewB]; omega
      have hoI : ¬ 6 < (d.heap[k].length : Int) := by omega
      have hoB : decide (6 < (d.heap[k].length : Int)) = false := by simpa using hoI
      have hS : ∀ w', Below wr.heap.size wr w' → w'.cell? ⟨w.heap.size, 0, none⟩ = some (.slice a1 nt c1) ∧ w'.cell? ⟨w.heap.size, 1, none⟩ = some (.slice a2 fs.length c2) ∧ w'.cell? ⟨w.heap.size + 1, 1, none⟩ = some (.slice (some ⟨b, off, none⟩) d.heap.length hcp) ∧ w'.cell? ⟨b, off + k, none⟩ = some (.slice ca d.heap[k].length cc) := fun w' hb =>
        ⟨by rw [block_cell (block_kept hM hb)]; rfl, by rw [block_cell (block_kept hM hb)]; rfl, by rw [block_cell (block_kept hV hb)]; rfl, cell_later hb e1'⟩
      have HS : Hid (∀ w', Below wr.heap.size wr w' → w'.cell? ⟨w.heap.size, 0, none⟩ = some (.slice a1 nt c1) ∧ w'.cell? ⟨w.heap.size, 1, none⟩ = some (.slice a2 fs.length c2) ∧ w'.cell? ⟨w.heap.size + 1, 1, none⟩ = some (.slice (some ⟨b, off, none⟩) d.heap.length hcp) ∧ w'.cell? ⟨b, off + k, none⟩ = some (.slice ca d.heap[k].length cc)) := hS
      obtain ⟨j0, j1, j2, j3⟩ := hS wr (Below.refl _ _)
      have q : Below wr.heap.size wr wr.drew := (Below.refl _ _).drew
      have HB : Hid (Below w.heap.size w wr) := hb
      have HM : Hid (wr.heap[w.heap.size]? = some (.cells #[.slice a1 nt c1, .slice a2 fs.length c2] 40 (0, 0))) := hM
      have HV : Hid (wr.heap[w.heap.size + 1]? = some (.cells #[.slice fa d.frames.length fc, .slice (some ⟨b, off, none⟩) d.heap.length hcp, .int .i64 d.made, .slice oa d.out.length oc, .int .i64 d.status, .int .i64 d.trap, .int .i64 d.value.k, .int .i64 d.value.n, .string d.value.s, .int .i64 d.steps] 47 (0, 0))) := hV
      clear hS hb hM hV e1' ho
      by_cases hv : valsB d.heap[k] fs.length d.heap.length = true
      · have HVv : Hid (valsB d.heap[k] fs.length d.heap.length = true) := hv
        have hvn : (!valsB d.heap[k] fs.length d.heap.length) = false := by rw [hv]; rfl
        go_wp2
        go_region_held3 (fun w' => w'.cell? ⟨w.heap.size, 0, none⟩ = some (.slice a1 nt c1) ∧ w'.cell? ⟨w.heap.size, 1, none⟩ = some (.slice a2 fs.length c2) ∧ w'.cell? ⟨w.heap.size + 1, 1, none⟩ = some (.slice (some ⟨b, off, none⟩) d.heap.length hcp) ∧ w'.cell? ⟨b, off + k, none⟩ = some (.slice ca d.heap[k].length cc))
          (first | exact ⟨j0, j1, j2, j3⟩ | exact HS.out _ q)
          (first
            | (go_at_call 59; refine (sValues_any _ _ _ _ _ _ _ _ _ _ _ hn hsf (by exact e2.mono (HB.out.trans (q.mono HB.out.size)))).mono ?_; rintro e w5 ⟨rfl, kd⟩; have q := q.trans (kd.mono q.size)))
        have hM5 := block_kept HM.out q
        have hV5 := block_kept HV.out q
        have hB5 := HB.out.trans (q.mono HB.out.size)
        clear HM HV HB HS j0 j1 j2 j3 q kd
        go_wp2
        go_roundw
        case rel => exact ⟨k + 1, by omega, by go_num, all_take hlt hal1.out HO.out, all_take hlt hal2.out HVv.out, hM5, hV5, hB5⟩
        case measure => simp [intOf]; omega
      · have hv' : valsB d.heap[k] fs.length d.heap.length = false := by simpa using hv
        have HVv : Hid (valsB d.heap[k] fs.length d.heap.length = false) := hv'
        have hvn : (!valsB d.heap[k] fs.length d.heap.length) = true := by rw [hv']; rfl
        clear hv
        go_wp2
        go_region_held3 (fun w' => w'.cell? ⟨w.heap.size, 0, none⟩ = some (.slice a1 nt c1) ∧ w'.cell? ⟨w.heap.size, 1, none⟩ = some (.slice a2 fs.length c2) ∧ w'.cell? ⟨w.heap.size + 1, 1, none⟩ = some (.slice (some ⟨b, off, none⟩) d.heap.length hcp) ∧ w'.cell? ⟨b, off + k, none⟩ = some (.slice ca d.heap[k].length cc))
          (first | exact ⟨j0, j1, j2, j3⟩ | exact HS.out _ q)
          (first
            | (go_at_call 59; refine (sValues_any _ _ _ _ _ _ _ _ _ _ _ hn hsf (by exact e2.mono (HB.out.trans (q.mono HB.out.size)))).mono ?_; rintro e w5 ⟨rfl, kd⟩; have q := q.trans (kd.mono q.size)))
        have hM5 := block_kept HM.out q
        have hV5 := block_kept HV.out q
        have hB5 := HB.out.trans (q.mono HB.out.size)
        clear HM HV HB HS j0 j1 j2 j3 q kd
        go_wp2
        go_ret
        exact ⟨Says.no rfl (fun h => by
          have h1 := h.2.2.2.1
          rw [all_no hlt (show reVals fs.length d.heap.length d.heap[k] = false from HVv.out)] at h1
          cases h1), hB5⟩
    · have HF : Hid (d.heap.all fewB = true) := all_end (by omega) hal1.out
      have HG : Hid (d.heap.all (reVals fs.length d.heap.length) = true) := all_end (by omega) hal2.out
      obtain ⟨wq, rfl⟩ : ∃ wq, wq = wr := ⟨_, rfl⟩
      clear hal1 hal2
      go_wp2
      go_loopw [7] (fun i wr => ∃ (k : Nat), k ≤ d.out.length ∧ i = .int .i64 k ∧ Hid ((d.out.take k).all textB = true) ∧ wr.heap[w.heap.size]? = some (.cells #[.slice a1 nt c1, .slice a2 fs.length c2] 40 (0, 0)) ∧ wr.heap[w.heap.size + 1]? = some (.cells #[.slice fa d.frames.length fc, .slice ha d.heap.length hcp, .int .i64 d.made, .slice oa d.out.length oc, .int .i64 d.status, .int .i64 d.trap, .int .i64 d.value.k, .int .i64 d.value.n, .string d.value.s, .int .i64 d.steps] 47 (0, 0)) ∧ Below w.heap.size w wr) (fun i _ => d.out.length - (intOf i).toNat)
      case atStart => exact ⟨0, by omega, rfl, rfl, hM, hV, hb⟩
      case round =>
        obtain ⟨k, hk, rfl, hal, hM, hV, hb⟩ := hrel
        have v1 := block_cell hV
        by_cases hlt : k < d.out.length
        · obtain ⟨b, off, rfl, -, e1⟩ := hm.out k hlt
          have e1' := cell_later hb e1
          clear e1
          have hck := hx.text _ (List.getElem_mem hlt)
          by_cases ho : textB d.out[k] = true
          · have HO : Hid (textB d.out[k] = true) := ho
            go_wp2_with (go_at_call 60; refine (l01Text_any _ _ hck).mono ?_; rintro e w1 ⟨rfl, hw⟩; rw [hw, ho]; clear hw w1)
            go_roundw
            case rel => exact ⟨k + 1, by omega, by go_num, all_take hlt hal.out HO.out, hM, hV, hb⟩
            case measure => simp [intOf]; omega
          · have ho' : textB d.out[k] = false := by simpa using ho
            have HO : Hid (textB d.out[k] = false) := ho'
            clear ho
            go_wp2_with (go_at_call 60; refine (l01Text_any _ _ hck).mono ?_; rintro e w1 ⟨rfl, hw⟩; rw [hw, ho']; clear hw w1)
            go_ret
            exact ⟨Says.no rfl (fun h => by
              have h1 := h.1.2.2.2.2.2.2
              rw [all_no hlt HO.out] at h1
              cases h1), hb⟩
        · have HT : Hid (d.out.all textB = true) := all_end (by omega) hal.out
          have HR : Hid (Room d) := ⟨H2.out.1, H2.out.2, HF.out, by omega, H4.out.1, H4.out.2, HT.out⟩
          obtain ⟨wp, rfl⟩ : ∃ wp, wp = wr := ⟨_, rfl⟩
          clear hal h1 h3
          by_cases s1 : d.status = 1
          · have HS1 : Hid (d.status = 1) := s1
            rw [s1] at v1
            by_cases f0 : d.frames.length = 0
            · have F0 : Hid (d.frames.length = 0) := f0
              have f0I : ((d.frames.length : Int) == 0) = true := by simpa using f0
              clear f0
              go_wp2
              go_ret
              refine ⟨⟨_, rfl, ?_⟩, hb⟩
              constructor
              · intro h
                refine ⟨HR.out, .inl ⟨HS1.out, F0.out, by simpa using h⟩, ?_, HG.out, H5.out⟩
                rw [List.eq_nil_of_length_eq_zero F0.out]; rfl
              · rintro ⟨-, ⟨-, -, h⟩ | ⟨⟨h, -⟩ | ⟨h, -⟩, -⟩, -⟩
                · simpa using h
                · rw [HS1.out] at h; cases h
                · rw [HS1.out] at h; cases h
            · have F0 : Hid (¬ d.frames.length = 0) := f0
              have f0I : ((d.frames.length : Int) == 0) = false := by simpa using f0
              clear f0
              go_wp2
              go_ret
              refine ⟨Says.no rfl ?_, hb⟩
              rintro ⟨-, ⟨-, h, -⟩ | ⟨⟨h, -⟩ | ⟨h, -⟩, -⟩, -⟩
              · exact F0.out h
              · rw [HS1.out] at h; cases h
              · rw [HS1.out] at h; cases h
          have HS1 : Hid (¬ d.status = 1) := s1
          have c1s : (d.status == 1) = false := by simpa using s1
          have HFR : Hid (Frames fs d → ((d.status = 0 ∧ d.trap = 0) ∨ (d.status = 2 ∧ 1 ≤ d.trap ∧ d.trap ≤ 8)) ∧ 1 ≤ d.frames.length ∧ d.frames.length ≤ 24 ∧ (d.value.k = 0 ∧ d.value.n = 0 ∧ d.value.s = ⟨#[]⟩) ∧ ∀ i (h : i < d.frames.length), Fits fs d.frames[i].fn d.frames[i].pc d.frames[i].locals.length d.frames[i].stack.length (decide ((i : Int) = (d.frames.length : Int) - 1))) := fun h => by
            rcases h with h | h
            · exact absurd h.1 HS1.out
            · exact h
          clear s1
          by_cases s02 : d.status = 0 ∨ d.status = 2
          case neg =>
            have n0 : (d.status != 0) = true := by simpa using fun h => s02 (.inl h)
            have n2 : (d.status != 2) = true := by simpa using fun h => s02 (.inr h)
            have HN : Hid (¬ Frames fs d) := fun h => by
              rcases (HFR.out h).1 with h | h
              · exact s02 (.inl h.1)
              · exact s02 (.inr h.1)
            clear s02
            go_wp2
            go_ret
            exact ⟨Says.no rfl (fun h => HN.out h.2.1), hb⟩
          have HZt : Hid (d.status = 0 ∨ d.status = 2) := s02
          by_cases hz : d.value.k = 0 ∧ d.value.n = 0 ∧ d.value.s = ⟨#[]⟩
          case neg =>
            have HN : Hid (¬ Frames fs d) := fun h => hz (HFR.out h).2.2.2.1
            rcases s02 with s0 | s0
            all_goals
              rw [s0] at v1
              by_cases z0 : d.value.k = 0
              · by_cases z1 : d.value.n = 0
                · have z2 : d.value.s ≠ ⟨#[]⟩ := fun h => hz ⟨z0, z1, h⟩
                  have e1 := (not_empty z2).1
                  have e2 := (not_empty z2).2
                  rw [z0, z1] at v1
                  clear hz z2 z0 z1 s0
                  go_wp2
                  go_ret
                  exact ⟨Says.no rfl (fun h => HN.out h.2.1), hb⟩
                · have e1 : (d.value.n == 0) = false := by simpa using z1
                  have e2 : (0 == d.value.n) = false := by simpa using fun h => z1 (h : (0 : Int) = d.value.n).symm
                  rw [z0] at v1
                  clear hz z0 z1 s0
                  go_wp2
                  go_ret
                  exact ⟨Says.no rfl (fun h => HN.out h.2.1), hb⟩
              · have e1 : (d.value.k == 0) = false := by simpa using z0
                have e2 : (0 == d.value.k) = false := by simpa using fun h => z0 (h : (0 : Int) = d.value.k).symm
                clear hz z0 s0
                go_wp2
                go_ret
                exact ⟨Says.no rfl (fun h => HN.out h.2.1), hb⟩
          have HZ : Hid (d.value.k = 0 ∧ d.value.n = 0 ∧ d.value.s = ⟨#[]⟩) := hz
          obtain ⟨z0, z1, z2⟩ := hz
          rw [z0, z1, z2] at v1
          clear z0 z1 z2
          by_cases hf6 : 1 ≤ d.frames.length ∧ d.frames.length ≤ 24
          case neg =>
            have b6 : (decide (1 ≤ (d.frames.length : Int)) && decide ((d.frames.length : Int) ≤ 24)) = false := by rw [Bool.eq_false_iff]; simp; omega
            have HN : Hid (¬ Frames fs d) := fun h => hf6 ⟨(HFR.out h).2.1, (HFR.out h).2.2.1⟩
            clear hf6
            rcases s02 with s0 | s0
            all_goals
              rw [s0] at v1
              clear s0
              go_wp2_with (first | (go_at_call 57; refine (between_any _ _ _ _).mono ?_; rintro e w' ⟨rfl, hw⟩; rw [hw]; (first | rw [b2] | rw [b4] | rw [b6] | rw [b7]); clear hw w'))
              go_ret
              exact ⟨Says.no rfl (fun h => HN.out h.2.1), hb⟩
          have b6 : (decide (1 ≤ (d.frames.length : Int)) && decide ((d.frames.length : Int) ≤ 24)) = true := by simp; omega
          have H6 : Hid (1 ≤ d.frames.length ∧ d.frames.length ≤ 24) := hf6
          by_cases hr : (d.status = 0 ∧ d.trap = 0) ∨ (d.status = 2 ∧ 1 ≤ d.trap ∧ d.trap ≤ 8)
          case neg =>
            have HN : Hid (¬ Frames fs d) := fun h => hr (HFR.out h).1
            rcases s02 with s0 | s0
            · have ht : (d.trap != 0) = true := by simpa using fun h => hr (.inl ⟨s0, h⟩)
              rw [s0] at v1
              clear s0 hr
              go_wp2_with (first | (go_at_call 57; refine (between_any _ _ _ _).mono ?_; rintro e w' ⟨rfl, hw⟩; rw [hw]; (first | rw [b2] | rw [b4] | rw [b6] | rw [b7]); clear hw w'))
              go_ret
              exact ⟨Says.no rfl (fun h => HN.out h.2.1), hb⟩
            · have b7 : (decide (1 ≤ d.trap) && decide (d.trap ≤ 8)) = false := by
                rw [Bool.eq_false_iff]
                intro h
                simp at h
                exact hr (.inr ⟨s0, h.1, h.2⟩)
              rw [s0] at v1
              clear s0 hr
              go_wp2_with (first | (go_at_call 57; refine (between_any _ _ _ _).mono ?_; rintro e w' ⟨rfl, hw⟩; rw [hw]; (first | rw [b2] | rw [b4] | rw [b6] | rw [b7]); clear hw w'))
              go_ret
              exact ⟨Says.no rfl (fun h => HN.out h.2.1), hb⟩
          have HRUN : Hid ((d.status = 0 ∧ d.trap = 0) ∨ (d.status = 2 ∧ 1 ≤ d.trap ∧ d.trap ≤ 8)) := hr
          clear s02
          rcases hr with ⟨s0, t0⟩ | ⟨s0, t1, t2⟩
          · rw [s0, t0] at v1
            clear s0 t0
            go_wp2_with (first | (go_at_call 57; refine (between_any _ _ _ _).mono ?_; rintro e w' ⟨rfl, hw⟩; rw [hw]; (first | rw [b2] | rw [b4] | rw [b6] | rw [b7]); clear hw w'))
            clear v1
            go_loopw [8] (fun i wr => ∃ (k : Nat), k ≤ d.frames.length ∧ i = .int .i64 k ∧ Hid (∀ q (h : q < d.frames.length), q < k → FrOk fs d.frames[q] d.heap.length (decide ((q : Int) = (d.frames.length : Int) - 1))) ∧ wr.heap[w.heap.size]? = some (.cells #[.slice a1 nt c1, .slice a2 fs.length c2] 40 (0, 0)) ∧ wr.heap[w.heap.size + 1]? = some (.cells #[.slice fa d.frames.length fc, .slice ha d.heap.length hcp, .int .i64 d.made, .slice oa d.out.length oc, .int .i64 d.status, .int .i64 d.trap, .int .i64 d.value.k, .int .i64 d.value.n, .string d.value.s, .int .i64 d.steps] 47 (0, 0)) ∧ Below w.heap.size w wr) (fun i _ => d.frames.length - (intOf i).toNat)
            case atStart => exact ⟨0, by omega, rfl, fun _ _ h => absurd h (Nat.not_lt_zero _), hM, hV, hb⟩
            case round =>
              obtain ⟨k, hk, rfl, hal, hM, hV, hb⟩ := hrel
              by_cases hlt : k < d.frames.length
              · obtain ⟨b, off, la, lc, sa, sc, rfl, -, e1, e2, e3, e4, e5, e6⟩ := hm.frs k hlt
                have e1' := cell_later hb e1
                have e2' := cell_later hb e2
                have e3' := cell_later hb e3
                have e4' := cell_later hb e4
                clear e1 e2 e3 e4
                have hsl := hx.locals _ (List.getElem_mem hlt)
                have hss := hx.stack _ (List.getElem_mem hlt)
                have hS : ∀ w', Below wr.heap.size wr w' → w'.cell? ⟨w.heap.size, 0, none⟩ = some (.slice a1 nt c1) ∧ w'.cell? ⟨w.heap.size, 1, none⟩ = some (.slice a2 fs.length c2) ∧ w'.cell? ⟨w.heap.size + 1, 0, none⟩ = some (.slice (some ⟨b, off, none⟩) d.frames.length fc) ∧ w'.cell? ⟨b, off + k * 4, none⟩ = some (.int .i64 d.frames[k].fn) ∧ w'.cell? ⟨b, off + k * 4 + 1, none⟩ = some (.int .i64 d.frames[k].pc) ∧ w'.cell? ⟨b, off + k * 4 + 2, none⟩ = some (.slice la d.frames[k].locals.length lc) ∧ w'.cell? ⟨b, off + k * 4 + 3, none⟩ = some (.slice sa d.frames[k].stack.length sc) := fun w' hb =>
                  ⟨by rw [block_cell (block_kept hM hb)]; rfl, by rw [block_cell (block_kept hM hb)]; rfl, by rw [block_cell (block_kept hV hb)]; rfl, cell_later hb e1', cell_later hb e2', cell_later hb e3', cell_later hb e4'⟩
                have HS : Hid (∀ w', Below wr.heap.size wr w' → w'.cell? ⟨w.heap.size, 0, none⟩ = some (.slice a1 nt c1) ∧ w'.cell? ⟨w.heap.size, 1, none⟩ = some (.slice a2 fs.length c2) ∧ w'.cell? ⟨w.heap.size + 1, 0, none⟩ = some (.slice (some ⟨b, off, none⟩) d.frames.length fc) ∧ w'.cell? ⟨b, off + k * 4, none⟩ = some (.int .i64 d.frames[k].fn) ∧ w'.cell? ⟨b, off + k * 4 + 1, none⟩ = some (.int .i64 d.frames[k].pc) ∧ w'.cell? ⟨b, off + k * 4 + 2, none⟩ = some (.slice la d.frames[k].locals.length lc) ∧ w'.cell? ⟨b, off + k * 4 + 3, none⟩ = some (.slice sa d.frames[k].stack.length sc)) := hS
                obtain ⟨j0, j1, j2, j3, j4, j5, j6⟩ := hS wr (Below.refl _ _)
                have q : Below wr.heap.size wr wr.drew := (Below.refl _ _).drew
                have HB : Hid (Below w.heap.size w wr) := hb
                have HM : Hid (wr.heap[w.heap.size]? = some (.cells #[.slice a1 nt c1, .slice a2 fs.length c2] 40 (0, 0))) := hM
                have HV : Hid (wr.heap[w.heap.size + 1]? = some (.cells #[.slice (some ⟨b, off, none⟩) d.frames.length fc, .slice ha d.heap.length hcp, .int .i64 d.made, .slice oa d.out.length oc, .int .i64 d.status, .int .i64 d.trap, .int .i64 d.value.k, .int .i64 d.value.n, .string d.value.s, .int .i64 d.steps] 47 (0, 0))) := hV
                clear hS hb hM hV e1' e2' e3' e4'
                by_cases ho : FrOk fs d.frames[k] d.heap.length (decide ((k : Int) = (d.frames.length : Int) - 1))
                · have HO : Hid (FrOk fs d.frames[k] d.heap.length (decide ((k : Int) = (d.frames.length : Int) - 1))) := ho
                  have hp : pB (FrOk fs d.frames[k] d.heap.length ((k : Int) == IntKind.i64.wrap ((d.frames.length : Int) - 1))) = true := by rw [show IntKind.i64.wrap ((d.frames.length : Int) - 1) = (d.frames.length : Int) - 1 by rw [IntKind.wrap_i64]; omega]; exact pB_yes ho
                  have hpn : (!pB (FrOk fs d.frames[k] d.heap.length ((k : Int) == IntKind.i64.wrap ((d.frames.length : Int) - 1)))) = false := by rw [hp]; rfl
                  clear ho
                  go_wp2
                  go_region_held3 (fun w' => w'.cell? ⟨w.heap.size, 0, none⟩ = some (.slice a1 nt c1) ∧ w'.cell? ⟨w.heap.size, 1, none⟩ = some (.slice a2 fs.length c2) ∧ w'.cell? ⟨w.heap.size + 1, 0, none⟩ = some (.slice (some ⟨b, off, none⟩) d.frames.length fc) ∧ w'.cell? ⟨b, off + k * 4, none⟩ = some (.int .i64 d.frames[k].fn) ∧ w'.cell? ⟨b, off + k * 4 + 1, none⟩ = some (.int .i64 d.frames[k].pc) ∧ w'.cell? ⟨b, off + k * 4 + 2, none⟩ = some (.slice la d.frames[k].locals.length lc) ∧ w'.cell? ⟨b, off + k * 4 + 3, none⟩ = some (.slice sa d.frames[k].stack.length sc))
                    (first | exact ⟨j0, j1, j2, j3, j4, j5, j6⟩ | exact HS.out _ q)
                    (first
                      | (go_at_call 61; refine (frameOk_any _ _ _ _ _ _ _ _ _ fs d.frames[k] _ _ _ hn (by exact hmf.mono (HB.out.trans (q.mono HB.out.size))) FF hsl hss (by exact e5.mono (HB.out.trans (q.mono HB.out.size))) (by exact e6.mono (HB.out.trans (q.mono HB.out.size)))).mono ?_; rintro e w5 ⟨hsay, kd⟩; obtain rfl := hsay.eq; clear hsay; have q := q.trans (kd.mono q.size)))
                  have hM5 := block_kept HM.out q
                  have hV5 := block_kept HV.out q
                  have hB5 := HB.out.trans (q.mono HB.out.size)
                  clear HM HV HB HS j0 j1 j2 j3 j4 j5 j6 q kd
                  go_wp2
                  go_roundw
                  case rel => exact ⟨k + 1, by omega, by go_num, fun q hq hqk => (by
                    by_cases e : q = k
                    · subst e; exact HO.out
                    · exact hal.out q hq (by omega)), hM5, hV5, hB5⟩
                  case measure => simp [intOf]; omega
                · have HO : Hid (¬ FrOk fs d.frames[k] d.heap.length (decide ((k : Int) = (d.frames.length : Int) - 1))) := ho
                  have hp : pB (FrOk fs d.frames[k] d.heap.length ((k : Int) == IntKind.i64.wrap ((d.frames.length : Int) - 1))) = false := by rw [show IntKind.i64.wrap ((d.frames.length : Int) - 1) = (d.frames.length : Int) - 1 by rw [IntKind.wrap_i64]; omega]; exact pB_no ho
                  have hpn : (!pB (FrOk fs d.frames[k] d.heap.length ((k : Int) == IntKind.i64.wrap ((d.frames.length : Int) - 1)))) = true := by rw [hp]; rfl
                  clear ho
                  go_wp2
                  go_region_held3 (fun w' => w'.cell? ⟨w.heap.size, 0, none⟩ = some (.slice a1 nt c1) ∧ w'.cell? ⟨w.heap.size, 1, none⟩ = some (.slice a2 fs.length c2) ∧ w'.cell? ⟨w.heap.size + 1, 0, none⟩ = some (.slice (some ⟨b, off, none⟩) d.frames.length fc) ∧ w'.cell? ⟨b, off + k * 4, none⟩ = some (.int .i64 d.frames[k].fn) ∧ w'.cell? ⟨b, off + k * 4 + 1, none⟩ = some (.int .i64 d.frames[k].pc) ∧ w'.cell? ⟨b, off + k * 4 + 2, none⟩ = some (.slice la d.frames[k].locals.length lc) ∧ w'.cell? ⟨b, off + k * 4 + 3, none⟩ = some (.slice sa d.frames[k].stack.length sc))
                    (first | exact ⟨j0, j1, j2, j3, j4, j5, j6⟩ | exact HS.out _ q)
                    (first
                      | (go_at_call 61; refine (frameOk_any _ _ _ _ _ _ _ _ _ fs d.frames[k] _ _ _ hn (by exact hmf.mono (HB.out.trans (q.mono HB.out.size))) FF hsl hss (by exact e5.mono (HB.out.trans (q.mono HB.out.size))) (by exact e6.mono (HB.out.trans (q.mono HB.out.size)))).mono ?_; rintro e w5 ⟨hsay, kd⟩; obtain rfl := hsay.eq; clear hsay; have q := q.trans (kd.mono q.size)))
                  have hM5 := block_kept HM.out q
                  have hV5 := block_kept HV.out q
                  have hB5 := HB.out.trans (q.mono HB.out.size)
                  clear HM HV HB HS j0 j1 j2 j3 j4 j5 j6 q kd
                  go_wp2
                  go_ret
                  exact ⟨Says.no rfl (fun h => HO.out (by
                    have h1 := (HFR.out h.2.1).2.2.2.2 k hlt
                    have h2 := List.all_eq_true.1 h.2.2.1 _ (List.getElem_mem hlt)
                    unfold frVals at h2
                    rw [Bool.and_eq_true] at h2
                    exact ⟨h1, h2.1, h2.2⟩)), hB5⟩
              · have v1 := block_cell hV
                go_wp2
                go_ret
                have hfr : ∀ i (hi : i < d.frames.length), FrOk fs d.frames[i] d.heap.length (decide ((i : Int) = (d.frames.length : Int) - 1)) := fun i hi => hal.out i hi (by omega)
                refine ⟨Says.yes rfl ⟨HR.out, .inr ⟨HRUN.out, H6.out.1, H6.out.2, HZ.out, fun i hi => (hfr i hi).1⟩, ?_, HG.out, H5.out⟩, hb⟩
                rw [List.all_eq_true]
                intro x hxm
                obtain ⟨i, hi, rfl⟩ := List.getElem_of_mem hxm
                unfold frVals
                rw [(hfr i hi).2.1, (hfr i hi).2.2]
                rfl
          · have b7 : (decide (1 ≤ d.trap) && decide (d.trap ≤ 8)) = true := by simp; omega
            rw [s0] at v1
            clear s0
            go_wp2_with (first | (go_at_call 57; refine (between_any _ _ _ _).mono ?_; rintro e w' ⟨rfl, hw⟩; rw [hw]; (first | rw [b2] | rw [b4] | rw [b6] | rw [b7]); clear hw w'))
            clear v1
            go_loopw [8] (fun i wr => ∃ (k : Nat), k ≤ d.frames.length ∧ i = .int .i64 k ∧ Hid (∀ q (h : q < d.frames.length), q < k → FrOk fs d.frames[q] d.heap.length (decide ((q : Int) = (d.frames.length : Int) - 1))) ∧ wr.heap[w.heap.size]? = some (.cells #[.slice a1 nt c1, .slice a2 fs.length c2] 40 (0, 0)) ∧ wr.heap[w.heap.size + 1]? = some (.cells #[.slice fa d.frames.length fc, .slice ha d.heap.length hcp, .int .i64 d.made, .slice oa d.out.length oc, .int .i64 d.status, .int .i64 d.trap, .int .i64 d.value.k, .int .i64 d.value.n, .string d.value.s, .int .i64 d.steps] 47 (0, 0)) ∧ Below w.heap.size w wr) (fun i _ => d.frames.length - (intOf i).toNat)
            case atStart => exact ⟨0, by omega, rfl, fun _ _ h => absurd h (Nat.not_lt_zero _), hM, hV, hb⟩
            case round =>
              obtain ⟨k, hk, rfl, hal, hM, hV, hb⟩ := hrel
              by_cases hlt : k < d.frames.length
              · obtain ⟨b, off, la, lc, sa, sc, rfl, -, e1, e2, e3, e4, e5, e6⟩ := hm.frs k hlt
                have e1' := cell_later hb e1
                have e2' := cell_later hb e2
                have e3' := cell_later hb e3
                have e4' := cell_later hb e4
                clear e1 e2 e3 e4
                have hsl := hx.locals _ (List.getElem_mem hlt)
                have hss := hx.stack _ (List.getElem_mem hlt)
                have hS : ∀ w', Below wr.heap.size wr w' → w'.cell? ⟨w.heap.size, 0, none⟩ = some (.slice a1 nt c1) ∧ w'.cell? ⟨w.heap.size, 1, none⟩ = some (.slice a2 fs.length c2) ∧ w'.cell? ⟨w.heap.size + 1, 0, none⟩ = some (.slice (some ⟨b, off, none⟩) d.frames.length fc) ∧ w'.cell? ⟨b, off + k * 4, none⟩ = some (.int .i64 d.frames[k].fn) ∧ w'.cell? ⟨b, off + k * 4 + 1, none⟩ = some (.int .i64 d.frames[k].pc) ∧ w'.cell? ⟨b, off + k * 4 + 2, none⟩ = some (.slice la d.frames[k].locals.length lc) ∧ w'.cell? ⟨b, off + k * 4 + 3, none⟩ = some (.slice sa d.frames[k].stack.length sc) := fun w' hb =>
                  ⟨by rw [block_cell (block_kept hM hb)]; rfl, by rw [block_cell (block_kept hM hb)]; rfl, by rw [block_cell (block_kept hV hb)]; rfl, cell_later hb e1', cell_later hb e2', cell_later hb e3', cell_later hb e4'⟩
                have HS : Hid (∀ w', Below wr.heap.size wr w' → w'.cell? ⟨w.heap.size, 0, none⟩ = some (.slice a1 nt c1) ∧ w'.cell? ⟨w.heap.size, 1, none⟩ = some (.slice a2 fs.length c2) ∧ w'.cell? ⟨w.heap.size + 1, 0, none⟩ = some (.slice (some ⟨b, off, none⟩) d.frames.length fc) ∧ w'.cell? ⟨b, off + k * 4, none⟩ = some (.int .i64 d.frames[k].fn) ∧ w'.cell? ⟨b, off + k * 4 + 1, none⟩ = some (.int .i64 d.frames[k].pc) ∧ w'.cell? ⟨b, off + k * 4 + 2, none⟩ = some (.slice la d.frames[k].locals.length lc) ∧ w'.cell? ⟨b, off + k * 4 + 3, none⟩ = some (.slice sa d.frames[k].stack.length sc)) := hS
                obtain ⟨j0, j1, j2, j3, j4, j5, j6⟩ := hS wr (Below.refl _ _)
                have q : Below wr.heap.size wr wr.drew := (Below.refl _ _).drew
                have HB : Hid (Below w.heap.size w wr) := hb
                have HM : Hid (wr.heap[w.heap.size]? = some (.cells #[.slice a1 nt c1, .slice a2 fs.length c2] 40 (0, 0))) := hM
                have HV : Hid (wr.heap[w.heap.size + 1]? = some (.cells #[.slice (some ⟨b, off, none⟩) d.frames.length fc, .slice ha d.heap.length hcp, .int .i64 d.made, .slice oa d.out.length oc, .int .i64 d.status, .int .i64 d.trap, .int .i64 d.value.k, .int .i64 d.value.n, .string d.value.s, .int .i64 d.steps] 47 (0, 0))) := hV
                clear hS hb hM hV e1' e2' e3' e4'
                by_cases ho : FrOk fs d.frames[k] d.heap.length (decide ((k : Int) = (d.frames.length : Int) - 1))
                · have HO : Hid (FrOk fs d.frames[k] d.heap.length (decide ((k : Int) = (d.frames.length : Int) - 1))) := ho
                  have hp : pB (FrOk fs d.frames[k] d.heap.length ((k : Int) == IntKind.i64.wrap ((d.frames.length : Int) - 1))) = true := by rw [show IntKind.i64.wrap ((d.frames.length : Int) - 1) = (d.frames.length : Int) - 1 by rw [IntKind.wrap_i64]; omega]; exact pB_yes ho
                  have hpn : (!pB (FrOk fs d.frames[k] d.heap.length ((k : Int) == IntKind.i64.wrap ((d.frames.length : Int) - 1)))) = false := by rw [hp]; rfl
                  clear ho
                  go_wp2
                  go_region_held3 (fun w' => w'.cell? ⟨w.heap.size, 0, none⟩ = some (.slice a1 nt c1) ∧ w'.cell? ⟨w.heap.size, 1, none⟩ = some (.slice a2 fs.length c2) ∧ w'.cell? ⟨w.heap.size + 1, 0, none⟩ = some (.slice (some ⟨b, off, none⟩) d.frames.length fc) ∧ w'.cell? ⟨b, off + k * 4, none⟩ = some (.int .i64 d.frames[k].fn) ∧ w'.cell? ⟨b, off + k * 4 + 1, none⟩ = some (.int .i64 d.frames[k].pc) ∧ w'.cell? ⟨b, off + k * 4 + 2, none⟩ = some (.slice la d.frames[k].locals.length lc) ∧ w'.cell? ⟨b, off + k * 4 + 3, none⟩ = some (.slice sa d.frames[k].stack.length sc))
                    (first | exact ⟨j0, j1, j2, j3, j4, j5, j6⟩ | exact HS.out _ q)
                    (first
                      | (go_at_call 61; refine (frameOk_any _ _ _ _ _ _ _ _ _ fs d.frames[k] _ _ _ hn (by exact hmf.mono (HB.out.trans (q.mono HB.out.size))) FF hsl hss (by exact e5.mono (HB.out.trans (q.mono HB.out.size))) (by exact e6.mono (HB.out.trans (q.mono HB.out.size)))).mono ?_; rintro e w5 ⟨hsay, kd⟩; obtain rfl := hsay.eq; clear hsay; have q := q.trans (kd.mono q.size)))
                  have hM5 := block_kept HM.out q
                  have hV5 := block_kept HV.out q
                  have hB5 := HB.out.trans (q.mono HB.out.size)
                  clear HM HV HB HS j0 j1 j2 j3 j4 j5 j6 q kd
                  go_wp2
                  go_roundw
                  case rel => exact ⟨k + 1, by omega, by go_num, fun q hq hqk => (by
                    by_cases e : q = k
                    · subst e; exact HO.out
                    · exact hal.out q hq (by omega)), hM5, hV5, hB5⟩
                  case measure => simp [intOf]; omega
                · have HO : Hid (¬ FrOk fs d.frames[k] d.heap.length (decide ((k : Int) = (d.frames.length : Int) - 1))) := ho
                  have hp : pB (FrOk fs d.frames[k] d.heap.length ((k : Int) == IntKind.i64.wrap ((d.frames.length : Int) - 1))) = false := by rw [show IntKind.i64.wrap ((d.frames.length : Int) - 1) = (d.frames.length : Int) - 1 by rw [IntKind.wrap_i64]; omega]; exact pB_no ho
                  have hpn : (!pB (FrOk fs d.frames[k] d.heap.length ((k : Int) == IntKind.i64.wrap ((d.frames.length : Int) - 1)))) = true := by rw [hp]; rfl
                  clear ho
                  go_wp2
                  go_region_held3 (fun w' => w'.cell? ⟨w.heap.size, 0, none⟩ = some (.slice a1 nt c1) ∧ w'.cell? ⟨w.heap.size, 1, none⟩ = some (.slice a2 fs.length c2) ∧ w'.cell? ⟨w.heap.size + 1, 0, none⟩ = some (.slice (some ⟨b, off, none⟩) d.frames.length fc) ∧ w'.cell? ⟨b, off + k * 4, none⟩ = some (.int .i64 d.frames[k].fn) ∧ w'.cell? ⟨b, off + k * 4 + 1, none⟩ = some (.int .i64 d.frames[k].pc) ∧ w'.cell? ⟨b, off + k * 4 + 2, none⟩ = some (.slice la d.frames[k].locals.length lc) ∧ w'.cell? ⟨b, off + k * 4 + 3, none⟩ = some (.slice sa d.frames[k].stack.length sc))
                    (first | exact ⟨j0, j1, j2, j3, j4, j5, j6⟩ | exact HS.out _ q)
                    (first
                      | (go_at_call 61; refine (frameOk_any _ _ _ _ _ _ _ _ _ fs d.frames[k] _ _ _ hn (by exact hmf.mono (HB.out.trans (q.mono HB.out.size))) FF hsl hss (by exact e5.mono (HB.out.trans (q.mono HB.out.size))) (by exact e6.mono (HB.out.trans (q.mono HB.out.size)))).mono ?_; rintro e w5 ⟨hsay, kd⟩; obtain rfl := hsay.eq; clear hsay; have q := q.trans (kd.mono q.size)))
                  have hM5 := block_kept HM.out q
                  have hV5 := block_kept HV.out q
                  have hB5 := HB.out.trans (q.mono HB.out.size)
                  clear HM HV HB HS j0 j1 j2 j3 j4 j5 j6 q kd
                  go_wp2
                  go_ret
                  exact ⟨Says.no rfl (fun h => HO.out (by
                    have h1 := (HFR.out h.2.1).2.2.2.2 k hlt
                    have h2 := List.all_eq_true.1 h.2.2.1 _ (List.getElem_mem hlt)
                    unfold frVals at h2
                    rw [Bool.and_eq_true] at h2
                    exact ⟨h1, h2.1, h2.2⟩)), hB5⟩
              · have v1 := block_cell hV
                go_wp2
                go_ret
                have hfr : ∀ i (hi : i < d.frames.length), FrOk fs d.frames[i] d.heap.length (decide ((i : Int) = (d.frames.length : Int) - 1)) := fun i hi => hal.out i hi (by omega)
                refine ⟨Says.yes rfl ⟨HR.out, .inr ⟨HRUN.out, H6.out.1, H6.out.2, HZ.out, fun i hi => (hfr i hi).1⟩, ?_, HG.out, H5.out⟩, hb⟩
                rw [List.all_eq_true]
                intro x hxm
                obtain ⟨i, hi, rfl⟩ := List.getElem_of_mem hxm
                unfold frVals
                rw [(hfr i hi).2.1, (hfr i hi).2.2]
                rfl
end Go.Proofs.YtmmcockkbhnopaaGreat
