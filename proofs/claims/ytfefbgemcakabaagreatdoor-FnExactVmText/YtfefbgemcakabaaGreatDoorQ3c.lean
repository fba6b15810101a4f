/-
  What impl.framesOk returns.
-/
import Derived.Test.YtfefbgemcakabaaGreatDoorVQ12
import Derived.Test.YtfefbgemcakabaaGreatDoorQ2a
namespace Go.Proofs.YtfefbgemcakabaaGreatDoor
open Go.RowKit

theorem frames_run {fs : List Fn} {d : VmD} (h : Frames fs d) (hs : d.status ≠ 1) : ((d.status = 0 ∧ d.trap = 0) ∨ (d.status = 2 ∧ 1 ≤ d.trap ∧ d.trap ≤ 8)) ∧ 1 ≤ d.frames.length ∧ d.frames.length ≤ 24 ∧ (d.value.k = 0 ∧ d.value.n = 0 ∧ d.value.s = ⟨#[]⟩) ∧
    ∀ i (h : i < d.frames.length), Fits fs d.frames[i].fn d.frames[i].pc d.frames[i].locals.length d.frames[i].stack.length (decide ((i : Int) = (d.frames.length : Int) - 1)) := by
  rcases h with h | h
  · exact absurd h.1 hs
  · exact h

/-- The loop over the frames, and what lies ahead of it, where Status and Trap are as they may be. -/
def Run (d : VmD) : Prop := (d.status = 0 ∧ d.trap = 0) ∨ (d.status = 2 ∧ 1 ≤ d.trap ∧ d.trap ≤ 8)

set_option maxRecDepth 100000 in
set_option maxHeartbeats 4000000 in
theorem frames_done (a1 a2 : Option Addr) (nt c1 c2 : Nat) (fs : List Fn) (G : Nat) (fa ha oa : Option Addr) (fc hcp oc : Nat) (d : VmD) (w : World) (hx : VmSmall d) (hs : d.status = 1) :
    Calls Tryz.prog 46 #[.agg #[.slice a1 nt c1, .slice a2 fs.length c2], .slice (some ⟨G, 0, none⟩) fs.length fs.length, .agg (vmCells fa ha oa fc hcp oc d)] w fun e w' => Says (Frames fs d) e ∧ Below w.heap.size w w' := by
  have hbA : Below w.heap.size w ((w.alloc (.cells #[.slice a1 nt c1, .slice a2 fs.length c2] 37)).alloc (.cells #[.slice fa d.frames.length fc, .slice ha d.heap.length hcp, .int .i64 d.made, .slice oa d.out.length oc, .int .i64 d.status, .int .i64 d.trap, .int .i64 d.value.k, .int .i64 d.value.n, .string d.value.s, .int .i64 d.steps] 43)) := ((Below.refl _ _).alloc (Nat.le_refl _) _).alloc (by simp) _
  have hfl := hx.frames
  unfold vmCells
  have HS : Hid (d.status = 1) := hs
  rw [hs] at hbA ⊢
  clear hs
  by_cases h1 : d.frames.length = 0
  · have h1I : ((d.frames.length : Int) == 0) = true := by simpa using h1
    have H1 : Hid (d.frames.length = 0) := h1
    clear h1
    go_enter Tryz.func46, Tryz.ntmps46
    go_wp2
    go_ret
    refine ⟨⟨_, rfl, ?_⟩, hbA⟩
    constructor
    · intro h
      exact .inl ⟨HS.out, H1.out, by simpa using h⟩
    · rintro (⟨-, -, h⟩ | ⟨⟨h, -⟩ | ⟨h, -⟩, -⟩)
      · simpa using h
      · rw [HS.out] at h; cases h
      · rw [HS.out] at h; cases h
  · have h1I : ((d.frames.length : Int) == 0) = false := by simpa using h1
    have H1 : Hid (¬ d.frames.length = 0) := h1
    clear h1
    go_enter Tryz.func46, Tryz.ntmps46
    go_wp2
    go_ret
    refine ⟨Says.no rfl ?_, hbA⟩
    rintro (⟨-, h, -⟩ | ⟨⟨h, -⟩ | ⟨h, -⟩, -⟩)
    · exact H1.out h
    · rw [HS.out] at h; cases h
    · rw [HS.out] at h; cases h

set_option maxRecDepth 100000 in
set_option maxHeartbeats 4000000 in
theorem frames_bad (a1 a2 : Option Addr) (nt c1 c2 : Nat) (fs : List Fn) (G : Nat) (fa ha oa : Option Addr) (fc hcp oc : Nat) (d : VmD) (w : World) (hx : VmSmall d) (hs : d.status ≠ 1) (hr : ¬ Run d) :
    Calls Tryz.prog 46 #[.agg #[.slice a1 nt c1, .slice a2 fs.length c2], .slice (some ⟨G, 0, none⟩) fs.length fs.length, .agg (vmCells fa ha oa fc hcp oc d)] w fun e w' => Says (Frames fs d) e ∧ Below w.heap.size w w' := by
  have hbA : Below w.heap.size w ((w.alloc (.cells #[.slice a1 nt c1, .slice a2 fs.length c2] 37)).alloc (.cells #[.slice fa d.frames.length fc, .slice ha d.heap.length hcp, .int .i64 d.made, .slice oa d.out.length oc, .int .i64 d.status, .int .i64 d.trap, .int .i64 d.value.k, .int .i64 d.value.n, .string d.value.s, .int .i64 d.steps] 43)) := ((Below.refl _ _).alloc (Nat.le_refl _) _).alloc (by simp) _
  have hfl := hx.frames
  unfold vmCells
  have HW : Hid (¬ Frames fs d) := fun h => hr (frames_run h hs).1
  by_cases h0 : d.status = 0
  · have ht : (d.trap != 0) = true := by simpa using fun h => hr (.inl ⟨h0, h⟩)
    rw [h0] at hbA ⊢
    clear hs hr h0
    go_enter Tryz.func46, Tryz.ntmps46
    go_wp2
    all_goals go_ret
    all_goals exact ⟨Says.no rfl (HW.out), hbA⟩
  · by_cases h2 : d.status = 2
    · have ht : d.trap < 1 ∨ 8 < d.trap := by
        by_cases ha : 1 ≤ d.trap
        · by_cases hb : d.trap ≤ 8
          · exact absurd (.inr ⟨h2, ha, hb⟩) hr
          · omega
        · omega
      rw [h2] at hbA ⊢
      clear hs hr h0 h2
      rcases ht with ht | ht
      · go_enter Tryz.func46, Tryz.ntmps46
        go_wp2
        all_goals go_ret
        all_goals exact ⟨Says.no rfl HW.out, hbA⟩
      · by_cases hu : d.trap < 1
        · omega
        · go_enter Tryz.func46, Tryz.ntmps46
          go_wp2
          all_goals go_ret
          all_goals exact ⟨Says.no rfl HW.out, hbA⟩
    · have b0 : (d.status == 0) = false := by simpa using h0
      have b1 : (d.status == 1) = false := by simpa using hs
      have b2 : (d.status == 2) = false := by simpa using h2
      clear hs hr h0 h2
      go_enter Tryz.func46, Tryz.ntmps46
      go_wp2
      all_goals go_ret
      all_goals exact ⟨Says.no rfl (HW.out), hbA⟩

set_option maxRecDepth 100000 in
set_option maxHeartbeats 4000000 in
theorem frames_some (a1 a2 : Option Addr) (nt c1 c2 : Nat) (fs : List Fn) (base G : Nat) (fa ha oa : Option Addr) (fc hcp oc : Nat) (d : VmD) (w : World) (hx : VmSmall d) (hm : VmAt w 0 fa ha oa d) (hmf : FnsAt w 0 a2 fs) (hH : Hs w base G fs.length fs) (FF : ∀ k (hk : k < fs.length), Fine fs fs[k].code) (st tr : Int) (hst : d.status = st) (htr : d.trap = tr) (hr : (st = 0 ∧ tr = 0) ∨ (st = 2 ∧ 1 ≤ tr ∧ tr ≤ 8)) :
    Calls Tryz.prog 46 #[.agg #[.slice a1 nt c1, .slice a2 fs.length c2], .slice (some ⟨G, 0, none⟩) fs.length fs.length, .agg (vmCells fa ha oa fc hcp oc d)] w fun e w' => Says (Frames fs d) e ∧ Below w.heap.size w w' := by
  have hne : d.status ≠ 1 := by rcases hr with h | h <;> omega
  have HR : Hid (Run d) := by show Run d; unfold Run; rw [hst, htr]; exact hr
  have HF : Hid (Frames fs d → 1 ≤ d.frames.length ∧ d.frames.length ≤ 24 ∧ (d.value.k = 0 ∧ d.value.n = 0 ∧ d.value.s = ⟨#[]⟩) ∧ ∀ i (h : i < d.frames.length), Fits fs d.frames[i].fn d.frames[i].pc d.frames[i].locals.length d.frames[i].stack.length (decide ((i : Int) = (d.frames.length : Int) - 1))) := fun h => (frames_run h hne).2
  have hbA : Below w.heap.size w ((w.alloc (.cells #[.slice a1 nt c1, .slice a2 fs.length c2] 37)).alloc (.cells #[.slice fa d.frames.length fc, .slice ha d.heap.length hcp, .int .i64 d.made, .slice oa d.out.length oc, .int .i64 d.status, .int .i64 d.trap, .int .i64 d.value.k, .int .i64 d.value.n, .string d.value.s, .int .i64 d.steps] 43)) := ((Below.refl _ _).alloc (Nat.le_refl _) _).alloc (by simp) _
  have hfl := hx.frames
  unfold vmCells
  have hM0 := block_old (block_new w #[.slice a1 nt c1, .slice a2 fs.length c2] 37) (.cells #[.slice fa d.frames.length fc, .slice ha d.heap.length hcp, .int .i64 d.made, .slice oa d.out.length oc, .int .i64 d.status, .int .i64 d.trap, .int .i64 d.value.k, .int .i64 d.value.n, .string d.value.s, .int .i64 d.steps] 43)
  have hV0 := block_new_at (w.alloc (.cells #[.slice a1 nt c1, .slice a2 fs.length c2] 37)) #[.slice fa d.frames.length fc, .slice ha d.heap.length hcp, .int .i64 d.made, .slice oa d.out.length oc, .int .i64 d.status, .int .i64 d.trap, .int .i64 d.value.k, .int .i64 d.value.n, .string d.value.s, .int .i64 d.steps] 43 (w.heap.size + 1) (by simp)
  rw [hst, htr] at hbA hM0 hV0 ⊢
  clear hst htr hne
  by_cases h1 : d.frames.length < 1
  · have h1I : (d.frames.length : Int) < 1 := by omega
    have HN : Hid (¬ Frames fs d) := fun h => by have := (HF.out h).1; omega
    rcases hr with ⟨rfl, rfl⟩ | ⟨rfl, ht1, ht2⟩
    · go_enter Tryz.func46, Tryz.ntmps46
      go_wp2
      all_goals go_ret
      all_goals exact ⟨Says.no rfl (HN.out), hbA⟩
    · go_enter Tryz.func46, Tryz.ntmps46
      go_wp2
      all_goals go_ret
      all_goals exact ⟨Says.no rfl (HN.out), hbA⟩
  by_cases h2 : 24 < d.frames.length
  · have h2I : 24 < (d.frames.length : Int) := by omega
    have h1I : ¬ (d.frames.length : Int) < 1 := by omega
    have HN : Hid (¬ Frames fs d) := fun h => by have := (HF.out h).2.1; omega
    rcases hr with ⟨rfl, rfl⟩ | ⟨rfl, ht1, ht2⟩
    · go_enter Tryz.func46, Tryz.ntmps46
      go_wp2
      all_goals go_ret
      all_goals exact ⟨Says.no rfl (HN.out), hbA⟩
    · go_enter Tryz.func46, Tryz.ntmps46
      go_wp2
      all_goals go_ret
      all_goals exact ⟨Says.no rfl (HN.out), hbA⟩
  have h1I : ¬ (d.frames.length : Int) < 1 := by omega
  have h2I : ¬ 24 < (d.frames.length : Int) := by omega
  by_cases hz : d.value.k = 0 ∧ d.value.n = 0 ∧ d.value.s = ⟨#[]⟩
  case neg =>
    have HN : Hid (¬ Frames fs d) := fun h => hz (HF.out h).2.2.1
    by_cases z0 : d.value.k = 0
    · by_cases z1 : d.value.n = 0
      · have z2 : d.value.s ≠ ⟨#[]⟩ := fun h => hz ⟨z0, z1, h⟩
        have e1 := (not_empty z2).1
        have e2 := (not_empty z2).2
        rw [z0, z1] at hbA ⊢
        clear hz z2 z0 z1
        rcases hr with ⟨rfl, rfl⟩ | ⟨rfl, ht1, ht2⟩
        · go_enter Tryz.func46, Tryz.ntmps46
          go_wp2
          all_goals go_ret
          all_goals exact ⟨Says.no rfl (HN.out), hbA⟩
        · go_enter Tryz.func46, Tryz.ntmps46
          go_wp2
          all_goals go_ret
          all_goals exact ⟨Says.no rfl (HN.out), hbA⟩
      · have e1 : (d.value.n == 0) = false := by simpa using z1
        have e2 : (0 == d.value.n) = false := by simpa using fun h => z1 (h : (0 : Int) = d.value.n).symm
        rw [z0] at hbA ⊢
        clear hz z0 z1
        rcases hr with ⟨rfl, rfl⟩ | ⟨rfl, ht1, ht2⟩
        · go_enter Tryz.func46, Tryz.ntmps46
          go_wp2
          all_goals go_ret
          all_goals exact ⟨Says.no rfl (HN.out), hbA⟩
        · go_enter Tryz.func46, Tryz.ntmps46
          go_wp2
          all_goals go_ret
          all_goals exact ⟨Says.no rfl (HN.out), hbA⟩
    · have e1 : (d.value.k == 0) = false := by simpa using z0
      have e2 : (0 == d.value.k) = false := by simpa using fun h => z0 (h : (0 : Int) = d.value.k).symm
      clear hz z0
      rcases hr with ⟨rfl, rfl⟩ | ⟨rfl, ht1, ht2⟩
      · go_enter Tryz.func46, Tryz.ntmps46
        go_wp2
        all_goals go_ret
        all_goals exact ⟨Says.no rfl (HN.out), hbA⟩
      · go_enter Tryz.func46, Tryz.ntmps46
        go_wp2
        all_goals go_ret
        all_goals exact ⟨Says.no rfl (HN.out), hbA⟩
  obtain ⟨z0, z1, z2⟩ := hz
  have HZ : Hid (d.value.k = 0 ∧ d.value.n = 0 ∧ d.value.s = ⟨#[]⟩) := ⟨z0, z1, z2⟩
  rw [z0, z1, z2] at hbA hM0 hV0 ⊢
  clear z0 z1 z2
  rcases hr with ⟨rfl, rfl⟩ | ⟨rfl, ht1, ht2⟩
  · go_enter Tryz.func46, Tryz.ntmps46
    go_wp2
    go_loopw [57] (fun i wr => ∃ (k : Nat), k ≤ d.frames.length ∧ i = .int .i64 k ∧ Hid (∀ q (h : q < d.frames.length), q < k → Fits fs d.frames[q].fn d.frames[q].pc d.frames[q].locals.length d.frames[q].stack.length (decide ((q : Int) = (d.frames.length : Int) - 1))) ∧ wr.heap[w.heap.size]? = some (.cells #[.slice a1 nt c1, .slice a2 fs.length c2] 37 (0, 0)) ∧ wr.heap[w.heap.size + 1]? = some (.cells #[.slice fa d.frames.length fc, .slice ha d.heap.length hcp, .int .i64 d.made, .slice oa d.out.length oc, .int .i64 0, .int .i64 0, .int .i64 0, .int .i64 0, .string ⟨#[]⟩, .int .i64 d.steps] 43 (0, 0)) ∧ Below w.heap.size w wr) (fun i _ => d.frames.length - (intOf i).toNat)
    case atStart => exact ⟨0, by omega, rfl, fun _ _ h => absurd h (Nat.not_lt_zero _), hM0, hV0, hbA⟩
    case round =>
      obtain ⟨k, hk, rfl, hall, hM, hV, hb⟩ := hrel
      clear hM0 hV0 hbA
      by_cases hlt : k < d.frames.length
      · obtain ⟨b, off, la, lc, sa, sc, rfl, -, e1, e2, e3, e4, -, -⟩ := hm.frs k hlt
        have e1' := cell_later hb e1
        have e2' := cell_later hb e2
        have e3' := cell_later hb e3
        have e4' := cell_later hb e4
        clear e1 e2 e3 e4
        have hsl := (hx.locals _ (List.getElem_mem hlt)).1
        have hss := (hx.stack _ (List.getElem_mem hlt)).1
        have hMn := block_old hM (.cells #[.int .i64 d.frames[k].fn, .int .i64 d.frames[k].pc, .slice la d.frames[k].locals.length lc, .slice sa d.frames[k].stack.length sc] 58)
        have hVn := block_old hV (.cells #[.int .i64 d.frames[k].fn, .int .i64 d.frames[k].pc, .slice la d.frames[k].locals.length lc, .slice sa d.frames[k].stack.length sc] 58)
        have hBn := hb.alloc hb.size (.cells #[.int .i64 d.frames[k].fn, .int .i64 d.frames[k].pc, .slice la d.frames[k].locals.length lc, .slice sa d.frames[k].stack.length sc] 58)
        have m1 := block_cell hMn
        have v1 := block_cell hVn
        go_wp2_with fail
        refine (fits_any _ _ _ _ _ fs base G _ _ _ _ _ _ (hmf.mono hBn) (hH.mono hBn) FF).mono ?_
        rintro e w1 ⟨⟨q, rfl, hq⟩, hb1⟩
        have hM1 := block_kept hMn hb1
        have hV1 := block_kept hVn hb1
        have hB1 := hBn.trans (hb1.mono hBn.size)
        have HQ : Hid (q = true ↔ Fits fs d.frames[k].fn d.frames[k].pc d.frames[k].locals.length d.frames[k].stack.length (decide ((k : Int) = (d.frames.length : Int) - 1))) := hq
        clear e1' e2' e3' e4' hMn hVn hBn m1 v1 hb1 hM hV hb hq
        cases q with
        | true =>
          go_wp2
          go_roundw
          case rel => exact ⟨k + 1, by omega, by go_num, fun q hq hqk => (by
            by_cases e : q = k
            · subst e; exact HQ.out.1 (by simp)
            · exact hall.out q hq (by omega)), hM1, hV1, hB1⟩
          case measure => simp [intOf]; omega
        | false =>
          go_wp2
          go_ret
          exact ⟨Says.no rfl (fun h => by have := HQ.out.2 ((HF.out h).2.2.2 k hlt); cases this), hB1⟩
      · go_wp2
        go_ret
        exact ⟨Says.yes rfl (.inr ⟨HR.out, by omega, by omega, HZ.out, fun i hi => hall.out i hi (by omega)⟩), hb⟩
  · go_enter Tryz.func46, Tryz.ntmps46
    go_wp2
    go_loopw [57] (fun i wr => ∃ (k : Nat), k ≤ d.frames.length ∧ i = .int .i64 k ∧ Hid (∀ q (h : q < d.frames.length), q < k → Fits fs d.frames[q].fn d.frames[q].pc d.frames[q].locals.length d.frames[q].stack.length (decide ((q : Int) = (d.frames.length : Int) - 1))) ∧ wr.heap[w.heap.size]? = some (.cells #[.slice a1 nt c1, .slice a2 fs.length c2] 37 (0, 0)) ∧ wr.heap[w.heap.size + 1]? = some (.cells #[.slice fa d.frames.length fc, .slice ha d.heap.length hcp, .int .i64 d.made, .slice oa d.out.length oc, .int .i64 2, .int .i64 tr, .int .i64 0, .int .i64 0, .string ⟨#[]⟩, .int .i64 d.steps] 43 (0, 0)) ∧ Below w.heap.size w wr) (fun i _ => d.frames.length - (intOf i).toNat)
    case atStart => exact ⟨0, by omega, rfl, fun _ _ h => absurd h (Nat.not_lt_zero _), hM0, hV0, hbA⟩
    case round =>
      obtain ⟨k, hk, rfl, hall, hM, hV, hb⟩ := hrel
      clear hM0 hV0 hbA
      by_cases hlt : k < d.frames.length
      · obtain ⟨b, off, la, lc, sa, sc, rfl, -, e1, e2, e3, e4, -, -⟩ := hm.frs k hlt
        have e1' := cell_later hb e1
        have e2' := cell_later hb e2
        have e3' := cell_later hb e3
        have e4' := cell_later hb e4
        clear e1 e2 e3 e4
        have hsl := (hx.locals _ (List.getElem_mem hlt)).1
        have hss := (hx.stack _ (List.getElem_mem hlt)).1
        have hMn := block_old hM (.cells #[.int .i64 d.frames[k].fn, .int .i64 d.frames[k].pc, .slice la d.frames[k].locals.length lc, .slice sa d.frames[k].stack.length sc] 58)
        have hVn := block_old hV (.cells #[.int .i64 d.frames[k].fn, .int .i64 d.frames[k].pc, .slice la d.frames[k].locals.length lc, .slice sa d.frames[k].stack.length sc] 58)
        have hBn := hb.alloc hb.size (.cells #[.int .i64 d.frames[k].fn, .int .i64 d.frames[k].pc, .slice la d.frames[k].locals.length lc, .slice sa d.frames[k].stack.length sc] 58)
        have m1 := block_cell hMn
        have v1 := block_cell hVn
        go_wp2_with fail
        refine (fits_any _ _ _ _ _ fs base G _ _ _ _ _ _ (hmf.mono hBn) (hH.mono hBn) FF).mono ?_
        rintro e w1 ⟨⟨q, rfl, hq⟩, hb1⟩
        have hM1 := block_kept hMn hb1
        have hV1 := block_kept hVn hb1
        have hB1 := hBn.trans (hb1.mono hBn.size)
        have HQ : Hid (q = true ↔ Fits fs d.frames[k].fn d.frames[k].pc d.frames[k].locals.length d.frames[k].stack.length (decide ((k : Int) = (d.frames.length : Int) - 1))) := hq
        clear e1' e2' e3' e4' hMn hVn hBn m1 v1 hb1 hM hV hb hq
        cases q with
        | true =>
          go_wp2
          go_roundw
          case rel => exact ⟨k + 1, by omega, by go_num, fun q hq hqk => (by
            by_cases e : q = k
            · subst e; exact HQ.out.1 (by simp)
            · exact hall.out q hq (by omega)), hM1, hV1, hB1⟩
          case measure => simp [intOf]; omega
        | false =>
          go_wp2
          go_ret
          exact ⟨Says.no rfl (fun h => by have := HQ.out.2 ((HF.out h).2.2.2 k hlt); cases this), hB1⟩
      · go_wp2
        go_ret
        exact ⟨Says.yes rfl (.inr ⟨HR.out, by omega, by omega, HZ.out, fun i hi => hall.out i hi (by omega)⟩), hb⟩

theorem framesOk_any (a1 a2 : Option Addr) (nt c1 c2 : Nat) (fs : List Fn) (base G : Nat) (fa ha oa : Option Addr) (fc hcp oc : Nat) (d : VmD) (w : World) (hx : VmSmall d) (hm : VmAt w 0 fa ha oa d) (hmf : FnsAt w 0 a2 fs) (hH : Hs w base G fs.length fs) (FF : ∀ k (hk : k < fs.length), Fine fs fs[k].code) :
    Calls Tryz.prog 46 #[.agg #[.slice a1 nt c1, .slice a2 fs.length c2], .slice (some ⟨G, 0, none⟩) fs.length fs.length, .agg (vmCells fa ha oa fc hcp oc d)] w fun e w' => Says (Frames fs d) e ∧ Below w.heap.size w w' := by
  by_cases hs : d.status = 1
  · exact frames_done a1 a2 nt c1 c2 fs G fa ha oa fc hcp oc d w hx hs
  · by_cases hr : Run d
    · exact frames_some a1 a2 nt c1 c2 fs base G fa ha oa fc hcp oc d w hx hm hmf hH FF _ _ rfl rfl hr
    · exact frames_bad a1 a2 nt c1 c2 fs G fa ha oa fc hcp oc d w hx hs hr
end Go.Proofs.YtfefbgemcakabaaGreatDoor
