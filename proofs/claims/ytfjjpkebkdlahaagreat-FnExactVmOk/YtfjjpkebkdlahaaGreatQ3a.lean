/-
  What impl.roomOk returns.
  What impl.valuesOk returns.
-/
import Derived.Test.YtfjjpkebkdlahaaGreatQ2
namespace Go.Proofs.YtfjjpkebkdlahaaGreat
open Go.RowKit

set_option maxRecDepth 100000 in
set_option maxHeartbeats 2000000 in
theorem roomOk_any (fa ha oa : Option Addr) (fc hcp oc : Nat) (d : VmD) (w : World) (hx : VmSmall d) (hm : VmAt w 0 fa ha oa d) :
    Calls Tryz.prog 53 #[.agg (vmCells fa ha oa fc hcp oc d)] w fun e w' => Says (Room d) e ∧ Below w.heap.size w w' := by
  have hbA : Below w.heap.size w (w.alloc (.cells #[.slice fa d.frames.length fc, .slice ha d.heap.length hcp, .int .i64 d.made, .slice oa d.out.length oc, .int .i64 d.status, .int .i64 d.trap, .int .i64 d.value.k, .int .i64 d.value.n, .string d.value.s, .int .i64 d.steps] 34)) := (Below.refl _ _).alloc (Nat.le_refl _) _
  have hV0 := block_new w #[.slice fa d.frames.length fc, .slice ha d.heap.length hcp, .int .i64 d.made, .slice oa d.out.length oc, .int .i64 d.status, .int .i64 d.trap, .int .i64 d.value.k, .int .i64 d.value.n, .string d.value.s, .int .i64 d.steps] 34
  have hhl := hx.heap
  have hol := hx.out
  unfold vmCells
  by_cases h1 : d.made < (d.heap.length : Int)
  · go_enter Tryz.func53, Tryz.ntmps53
    go_wp2
    go_ret
    exact ⟨Says.no rfl (fun h => by have := h.1; omega), hbA⟩
  by_cases h2 : 120 < d.made
  · go_enter Tryz.func53, Tryz.ntmps53
    go_wp2
    go_ret
    exact ⟨Says.no rfl (fun h => by have := h.2.1; omega), hbA⟩
  go_enter Tryz.func53, Tryz.ntmps53
  go_wp2
  go_loopw [19] (fun i wr => ∃ (k : Nat), k ≤ d.heap.length ∧ i = .int .i64 k ∧ Hid ((d.heap.take k).all fewB = true) ∧ wr.heap[w.heap.size]? = some (.cells #[.slice fa d.frames.length fc, .slice ha d.heap.length hcp, .int .i64 d.made, .slice oa d.out.length oc, .int .i64 d.status, .int .i64 d.trap, .int .i64 d.value.k, .int .i64 d.value.n, .string d.value.s, .int .i64 d.steps] 34 (0, 0)) ∧ Below w.heap.size w wr) (fun i _ => d.heap.length - (intOf i).toNat)
  case atStart => exact ⟨0, by omega, rfl, rfl, hV0, hbA⟩
  case round =>
    obtain ⟨k, hk, rfl, hall, hV, hb⟩ := hrel
    clear hV0 hbA
    by_cases hlt : k < d.heap.length
    · obtain ⟨b, off, ca, cc, rfl, -, e1, e2⟩ := hm.recs k hlt
      have e1' := cell_later hb e1
      clear e1 e2
      have hkl := (hx.fields _ (List.getElem_mem hlt)).1
      have hVn := block_old hV (.cells #[.slice ca d.heap[k].length cc] 110)
      by_cases ho : 6 < d.heap[k].length
      · have HO : Hid (6 < d.heap[k].length) := ho
        have hoI : (6 : Int) < (d.heap[k].length : Int) := by omega
        go_wp2
        go_ret
        exact ⟨Says.no rfl (fun h => by
          have h3 := h.2.2.1
          rw [all_no hlt (show fewB d.heap[k] = false by simpa [fewB] using HO.out)] at h3
          cases h3), hb.alloc hb.size _⟩
      · have HO : Hid (¬ 6 < d.heap[k].length) := ho
        have hoI : ¬ (6 : Int) < (d.heap[k].length : Int) := by omega
        go_wp2
        go_roundw
        case rel => exact ⟨k + 1, by omega, by go_num, all_take hlt hall.out (by have := HO.out; simpa [fewB] using this), hVn, hb.alloc hb.size _⟩
        case measure => simp [intOf]; omega
    · have HF : Hid (d.heap.all fewB = true) := all_end (by omega) hall.out
      have v1 := block_cell hV
      have H1 : Hid ((d.heap.length : Int) ≤ d.made) := by show (d.heap.length : Int) ≤ d.made; omega
      have H2 : Hid (d.made ≤ 120) := by show d.made ≤ 120; omega
      by_cases h3 : 200 < d.out.length
      · have h3I : (200 : Int) < (d.out.length : Int) := by omega
        go_wp2
        go_ret
        exact ⟨Says.no rfl (fun h => by have := h.2.2.2.1; omega), hb⟩
      have h3I : ¬ (200 : Int) < (d.out.length : Int) := by omega
      by_cases h4 : d.steps < 0
      · go_wp2
        go_ret
        exact ⟨Says.no rfl (fun h => by have := h.2.2.2.2.1; omega), hb⟩
      by_cases h5 : 50000 < d.steps
      · go_wp2
        go_ret
        exact ⟨Says.no rfl (fun h => by have := h.2.2.2.2.2.1; omega), hb⟩
      go_wp2_with fail
      refine (hasBadT_any _ d.out _ _ hx.out hx.text (hm.out.mono hb)).mono ?_
      rintro e w1 ⟨rfl, hb1⟩
      clear v1
      go_wp2
      go_ret
      refine ⟨⟨_, rfl, ?_⟩, hb.trans (hb1.mono hb.size)⟩
      constructor
      · intro h
        exact ⟨H1.out, H2.out, HF.out, by omega, by omega, by omega, by simpa using h⟩
      · intro h
        simpa using h.2.2.2.2.2.2
end Go.Proofs.YtfjjpkebkdlahaaGreat
namespace Go.Proofs.YtfjjpkebkdlahaaGreat
open Go.RowKit

set_option maxRecDepth 100000 in
set_option maxHeartbeats 4000000 in
theorem valuesOk_any (a1 a2 : Option Addr) (nt c1 nf c2 : Nat) (fa ha oa : Option Addr) (fc hcp oc : Nat) (d : VmD) (w : World) (hx : VmSmall d) (hm : VmAt w 0 fa ha oa d) :
    Calls Tryz.prog 55 #[.agg #[.slice a1 nt c1, .slice a2 nf c2], .agg (vmCells fa ha oa fc hcp oc d)] w fun e w' => Says (Vals nf d) e ∧ Below w.heap.size w w' := by
  have hbA : Below w.heap.size w ((w.alloc (.cells #[.slice a1 nt c1, .slice a2 nf c2] 39)).alloc (.cells #[.slice fa d.frames.length fc, .slice ha d.heap.length hcp, .int .i64 d.made, .slice oa d.out.length oc, .int .i64 d.status, .int .i64 d.trap, .int .i64 d.value.k, .int .i64 d.value.n, .string d.value.s, .int .i64 d.steps] 34)) := ((Below.refl _ _).alloc (Nat.le_refl _) _).alloc (by simp) _
  have hM0 := block_old (block_new w #[.slice a1 nt c1, .slice a2 nf c2] 39) (.cells #[.slice fa d.frames.length fc, .slice ha d.heap.length hcp, .int .i64 d.made, .slice oa d.out.length oc, .int .i64 d.status, .int .i64 d.trap, .int .i64 d.value.k, .int .i64 d.value.n, .string d.value.s, .int .i64 d.steps] 34)
  have hV0 := block_new_at (w.alloc (.cells #[.slice a1 nt c1, .slice a2 nf c2] 39)) #[.slice fa d.frames.length fc, .slice ha d.heap.length hcp, .int .i64 d.made, .slice oa d.out.length oc, .int .i64 d.status, .int .i64 d.trap, .int .i64 d.value.k, .int .i64 d.value.n, .string d.value.s, .int .i64 d.steps] 34 (w.heap.size + 1) (by simp)
  have hhl := hx.heap
  have hfl := hx.frames
  unfold vmCells
  go_enter Tryz.func55, Tryz.ntmps55
  go_wp2
  go_loopw [16] (fun i wr => ∃ (k : Nat), k ≤ d.frames.length ∧ i = .int .i64 k ∧ Hid ((d.frames.take k).all (frVals nf d.heap.length) = true) ∧ wr.heap[w.heap.size]? = some (.cells #[.slice a1 nt c1, .slice a2 nf c2] 39 (0, 0)) ∧ wr.heap[w.heap.size + 1]? = some (.cells #[.slice fa d.frames.length fc, .slice ha d.heap.length hcp, .int .i64 d.made, .slice oa d.out.length oc, .int .i64 d.status, .int .i64 d.trap, .int .i64 d.value.k, .int .i64 d.value.n, .string d.value.s, .int .i64 d.steps] 34 (0, 0)) ∧ Below w.heap.size w wr) (fun i _ => d.frames.length - (intOf i).toNat)
  case atStart => exact ⟨0, by omega, rfl, rfl, hM0, hV0, hbA⟩
  case round =>
    obtain ⟨k, hk, rfl, hall, hM, hV, hb⟩ := hrel
    clear hV0 hbA hM0
    by_cases hlt : k < d.frames.length
    · obtain ⟨b, off, la, lc, sa, sc, rfl, -, e1, e2, e3, e4, e5, e6⟩ := hm.frs k hlt
      have e1' := cell_later hb e1
      have e2' := cell_later hb e2
      have e3' := cell_later hb e3
      have e4' := cell_later hb e4
      clear e1 e2 e3 e4
      have hsl := hx.locals _ (List.getElem_mem hlt)
      have hss := hx.stack _ (List.getElem_mem hlt)
      have hMn := block_old hM (.cells #[.int .i64 d.frames[k].fn, .int .i64 d.frames[k].pc, .slice la d.frames[k].locals.length lc, .slice sa d.frames[k].stack.length sc] 68)
      have hVn := block_old hV (.cells #[.int .i64 d.frames[k].fn, .int .i64 d.frames[k].pc, .slice la d.frames[k].locals.length lc, .slice sa d.frames[k].stack.length sc] 68)
      have hXn := block_new wr #[.int .i64 d.frames[k].fn, .int .i64 d.frames[k].pc, .slice la d.frames[k].locals.length lc, .slice sa d.frames[k].stack.length sc] 68
      have hBn := hb.alloc hb.size (.cells #[.int .i64 d.frames[k].fn, .int .i64 d.frames[k].pc, .slice la d.frames[k].locals.length lc, .slice sa d.frames[k].stack.length sc] 68)
      have m1 := block_cell hMn
      go_wp2_with fail
      refine (allIn_any _ _ _ _ _ _ _ _ _ _ _ hsl (e5.mono hBn)).mono ?_
      rintro e w1 ⟨rfl, hb1⟩
      have hM1 := block_kept hMn hb1
      have hV1 := block_kept hVn hb1
      have hX1 := block_kept hXn hb1
      have hB1 := hBn.trans (hb1.mono hBn.size)
      clear e1' e2' e3' e4' hMn hVn hXn hBn m1 hb1 hM hV hb
      by_cases ho : valsB d.frames[k].locals nf d.heap.length = true
      case neg =>
        have ho' : valsB d.frames[k].locals nf d.heap.length = false := by simpa using ho
        have HO : Hid (valsB d.frames[k].locals nf d.heap.length = false) := ho'
        clear ho
        go_wp2
        go_ret
        exact ⟨Says.no rfl (fun h => by
          have h1 := h.1
          rw [all_no hlt (show frVals nf d.heap.length d.frames[k] = false by unfold frVals; rw [HO.out]; rfl)] at h1
          cases h1), hB1⟩
      have HO : Hid (valsB d.frames[k].locals nf d.heap.length = true) := ho
      have m1 := block_cell hM1
      have x1 := block_cell hX1
      go_wp2_with fail
      refine (allIn_any _ _ _ _ _ _ _ _ _ _ _ hss (e6.mono hB1)).mono ?_
      rintro e w2 ⟨rfl, hb2⟩
      have hM2 := block_kept hM1 hb2
      have hV2 := block_kept hV1 hb2
      have hB2 := hB1.trans (hb2.mono hB1.size)
      clear m1 x1 hM1 hV1 hX1 hB1 hb2 ho
      by_cases hu : valsB d.frames[k].stack nf d.heap.length = true
      · have HU : Hid (valsB d.frames[k].stack nf d.heap.length = true) := hu
        go_wp2
        go_roundw
        case rel => exact ⟨k + 1, by omega, by go_num, all_take hlt hall.out (by unfold frVals; rw [HO.out, HU.out]; rfl), hM2, hV2, hB2⟩
        case measure => simp [intOf]; omega
      · have hu' : valsB d.frames[k].stack nf d.heap.length = false := by simpa using hu
        have HU : Hid (valsB d.frames[k].stack nf d.heap.length = false) := hu'
        clear hu
        go_wp2
        go_ret
        exact ⟨Says.no rfl (fun h => by
          have h1 := h.1
          rw [all_no hlt (show frVals nf d.heap.length d.frames[k] = false by unfold frVals; rw [HU.out, Bool.and_false])] at h1
          cases h1), hB2⟩
    · have HF : Hid (d.frames.all (frVals nf d.heap.length) = true) := all_end (by omega) hall.out
      have v1 := block_cell hV
      obtain ⟨wq, rfl⟩ : ∃ wq, wq = wr := ⟨_, rfl⟩
      go_wp2
      clear v1
      go_loopw [38] (fun i wr => ∃ (k : Nat), k ≤ d.heap.length ∧ i = .int .i64 k ∧ Hid ((d.heap.take k).all (reVals nf d.heap.length) = true) ∧ wr.heap[w.heap.size]? = some (.cells #[.slice a1 nt c1, .slice a2 nf c2] 39 (0, 0)) ∧ wr.heap[w.heap.size + 1]? = some (.cells #[.slice fa d.frames.length fc, .slice ha d.heap.length hcp, .int .i64 d.made, .slice oa d.out.length oc, .int .i64 d.status, .int .i64 d.trap, .int .i64 d.value.k, .int .i64 d.value.n, .string d.value.s, .int .i64 d.steps] 34 (0, 0)) ∧ Below w.heap.size w wr) (fun i _ => d.heap.length - (intOf i).toNat)
      case atStart => exact ⟨0, by omega, rfl, rfl, hM, hV, hb⟩
      case round =>
        obtain ⟨k, hk, rfl, hall, hM, hV, hb⟩ := hrel
        by_cases hlt : k < d.heap.length
        · obtain ⟨b, off, ca, cc, rfl, -, e1, e2⟩ := hm.recs k hlt
          have e1' := cell_later hb e1
          clear e1
          have hsf := hx.fields _ (List.getElem_mem hlt)
          have hMn := block_old hM (.cells #[.slice ca d.heap[k].length cc] 110)
          have hVn := block_old hV (.cells #[.slice ca d.heap[k].length cc] 110)
          have hBn := hb.alloc hb.size (.cells #[.slice ca d.heap[k].length cc] 110)
          have m1 := block_cell hMn
          go_wp2_with fail
          refine (allIn_any _ _ _ _ _ _ _ _ _ _ _ hsf (e2.mono hBn)).mono ?_
          rintro e w1 ⟨rfl, hb1⟩
          have hM1 := block_kept hMn hb1
          have hV1 := block_kept hVn hb1
          have hB1 := hBn.trans (hb1.mono hBn.size)
          clear e1' hMn hVn hBn m1 hb1 hM hV hb
          by_cases ho : valsB d.heap[k] nf d.heap.length = true
          · have HO : Hid (valsB d.heap[k] nf d.heap.length = true) := ho
            go_wp2
            go_roundw
            case rel => exact ⟨k + 1, by omega, by go_num, all_take hlt hall.out HO.out, hM1, hV1, hB1⟩
            case measure => simp [intOf]; omega
          · have ho' : valsB d.heap[k] nf d.heap.length = false := by simpa using ho
            have HO : Hid (valsB d.heap[k] nf d.heap.length = false) := ho'
            clear ho
            go_wp2
            go_ret
            exact ⟨Says.no rfl (fun h => by
              have h1 := h.2.1
              rw [all_no hlt (show reVals nf d.heap.length d.heap[k] = false from HO.out)] at h1
              cases h1), hB1⟩
        · have HG : Hid (d.heap.all (reVals nf d.heap.length) = true) := all_end (by omega) hall.out
          have v2 := block_cell hV
          have m2 := block_cell hM
          go_wp2_with fail
          refine (iIn_any _ _ _ _ _ _ _ _ _ _ _ hx.value).mono ?_
          rintro e w1 ⟨rfl, hb1⟩
          clear v2 m2
          go_wp2
          go_ret
          exact ⟨⟨_, rfl, ⟨fun h => ⟨HF.out, HG.out, h⟩, fun h => h.2.2⟩⟩, hb.trans (hb1.mono hb.size)⟩
end Go.Proofs.YtfjjpkebkdlahaaGreat
