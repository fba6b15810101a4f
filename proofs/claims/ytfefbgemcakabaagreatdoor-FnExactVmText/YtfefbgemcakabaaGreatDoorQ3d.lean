/-
  What impl.VmOk returns.
-/
import Derived.Test.YtfefbgemcakabaaGreatDoorQ3a
import Derived.Test.YtfefbgemcakabaaGreatDoorQ3c
namespace Go.Proofs.YtfefbgemcakabaaGreatDoor
open Go.RowKit

/-- The module is good. -/
def Good (ts : List ByteArray) (fs : List Fn) : Prop := ∃ f a, VPost ts fs 0 f a
theorem VPost.good {ts : List ByteArray} {fs : List Fn} {c f a : Int} (h : VPost ts fs c f a) : c = 0 ↔ Good ts fs := by
  constructor
  · rintro rfl
    exact ⟨f, a, h⟩
  · rintro ⟨f', a', h'⟩
    exact (h.one h').1
theorem Good.ok {ts : List ByteArray} {fs : List Fn} (h : Good ts fs) : modB ts fs = true := by
  obtain ⟨f, a, ⟨-, h, -⟩ | ⟨h, -⟩⟩ := h
  · exact absurd h (by decide)
  · exact h
def VmGood (ts : List ByteArray) (fs : List Fn) (d : VmD) : Prop := Good ts fs ∧ Room d ∧ Frames fs d ∧ Vals fs.length d

set_option maxRecDepth 100000 in
set_option maxHeartbeats 4000000 in
theorem iVmOk_any (a1 a2 : Option Addr) (c1 c2 : Nat) (ts : List ByteArray) (fs : List Fn) (fa ha oa : Option Addr) (fc hcp oc : Nat) (d : VmD) (w : World) (hs : Small ts fs) (hst : StrsAt w 0 a1 ts) (hfn : FnsAt w 0 a2 fs) (hx : VmSmall d) (hm : VmAt w 0 fa ha oa d) :
    Calls Tryz.prog 25 #[.agg #[.slice a1 ts.length c1, .slice a2 fs.length c2], .agg (vmCells fa ha oa fc hcp oc d)] w fun e w' => Says (VmGood ts fs d) e ∧ Below w.heap.size w w' := by
  have hbA : Below w.heap.size w ((w.alloc (.cells #[.slice a1 ts.length c1, .slice a2 fs.length c2] 37)).alloc (.cells (vmCells fa ha oa fc hcp oc d) 43)) := ((Below.refl _ _).alloc (Nat.le_refl _) _).alloc (by simp) _
  have hM0 := block_old (block_new w #[.slice a1 ts.length c1, .slice a2 fs.length c2] 37) (.cells (vmCells fa ha oa fc hcp oc d) 43)
  have hV0 := block_new_at (w.alloc (.cells #[.slice a1 ts.length c1, .slice a2 fs.length c2] 37)) (vmCells fa ha oa fc hcp oc d) 43 (w.heap.size + 1) (by simp)
  unfold vmCells at hbA hM0 hV0 ⊢
  go_enter Tryz.func25, Tryz.ntmps25
  go_wp2_with fail
  refine (iAll_any _ _ _ _ ts fs _ hs (hst.mono hbA) (hfn.mono hbA)).mono ?_
  rintro e w1 ⟨⟨v, c, f, a, rfl, hV, hG⟩, hb1⟩
  have hM1 := block_kept hM0 hb1
  have hV1 := block_kept hV0 hb1
  have hB1 := hbA.trans (hb1.mono hbA.size)
  have HG : Hid (c = 0 ↔ Good ts fs) := hV.good
  have HH : Hid (c = 0 → ∃ G, v = .slice (some ⟨G, 0, none⟩) fs.length fs.length ∧ Hs w1 ((w.alloc (.cells #[.slice a1 ts.length c1, .slice a2 fs.length c2] 37)).alloc (.cells #[.slice fa d.frames.length fc, .slice ha d.heap.length hcp, .int .i64 d.made, .slice oa d.out.length oc, .int .i64 d.status, .int .i64 d.trap, .int .i64 d.value.k, .int .i64 d.value.n, .string d.value.s, .int .i64 d.steps] 43)).heap.size G fs.length fs) := hG
  clear hM0 hV0 hb1 hbA hV hG
  by_cases hc : c = 0
  case neg =>
    have hc' : (c == 0) = false := by simpa using hc
    have HC : Hid (¬ c = 0) := hc
    clear hc
    go_wp2
    go_ret
    exact ⟨Says.no rfl (fun h => HC.out (HG.out.2 h.1)), hB1.alloc hB1.size _⟩
  subst hc
  obtain ⟨G, rfl, hHs⟩ := HH.out rfl
  have hgood := HG.out.1 rfl
  have HGD : Hid (Good ts fs) := hgood
  have FF : ∀ k (hk : k < fs.length), Fine fs fs[k].code := fun k hk => fine_of hgood.ok hk
  obtain ⟨w2, hw2⟩ : ∃ w2, w2 = w1.alloc (.cells #[.int .i64 0, .int .i64 f, .int .i64 a] 97) := ⟨_, rfl⟩
  have hb2 : Below w1.heap.size w1 w2 := by rw [hw2]; exact (Below.refl _ _).alloc (Nat.le_refl _) _
  have hB2 := hB1.trans (hb2.mono hB1.size)
  have hM2 := block_kept hM1 hb2
  have hV2 := block_kept hV1 hb2
  have hHs2 := hHs.mono hb2
  have v1 := block_cell (block_old hV1 (.cells #[.int .i64 0, .int .i64 f, .int .i64 a] 97))
  clear HG HH hgood hb2 hM1 hV1 hHs hB1
  go_wp2_with fail
  rw [← hw2]
  clear v1 hw2
  refine (roomOk_any fa ha oa fc hcp oc d _ hx (hm.mono hB2)).mono ?_
  rintro e w3 ⟨⟨q, rfl, hq⟩, hb3⟩
  have HQ : Hid (q = true ↔ Room1 d) := hq
  have hB3 := hB2.trans (hb3.mono hB2.size)
  have hM3 := block_kept hM2 hb3
  have hV3 := block_kept hV2 hb3
  have hHs3 := hHs2.mono hb3
  clear hq hb3 hM2 hV2 hHs2 hB2
  have HQn : Hid (q = false → ¬ Room1 d) := fun h hr => by rw [HQ.out.2 hr] at h; cases h
  have HQy : Hid (q = true → Room1 d) := HQ.out.1
  clear HQ
  cases hqc : q with
  | false =>
    have HN : Hid (¬ Room1 d) := HQn.out hqc
    clear hqc HQn HQy
    go_wp2
    go_ret
    exact ⟨Says.no rfl (fun h => HN.out (vm_parts.2 h.2).1), hB3⟩
  | true =>
    have HR : Hid (Room1 d) := HQy.out hqc
    clear hqc HQn HQy
    have m3 := block_cell hM3
    have v3 := block_cell hV3
    go_wp2_with fail
    refine (framesOk_any a1 a2 ts.length c1 c2 fs _ G fa ha oa fc hcp oc d _ hx (hm.mono hB3) (hfn.mono hB3) hHs3 FF).mono ?_
    rintro e w4 ⟨⟨q4, rfl, hq4⟩, hb4⟩
    have hB4 := hB3.trans (hb4.mono hB3.size)
    have hM4 := block_kept hM3 hb4
    have hV4 := block_kept hV3 hb4
    have HQn : Hid (q4 = false → ¬ Frames fs d) := fun h hr => by rw [hq4.2 hr] at h; cases h
    have HQy : Hid (q4 = true → Frames fs d) := hq4.1
    clear hq4 hb4 hM3 hV3 hHs3 hB3 m3 v3
    cases hqc : q4 with
    | false =>
      have HN : Hid (¬ Frames fs d) := HQn.out hqc
      clear hqc HQn HQy
      go_wp2
      go_ret
      exact ⟨Says.no rfl (fun h => HN.out h.2.2.1), hB4⟩
    | true =>
      have HF : Hid (Frames fs d) := HQy.out hqc
      clear hqc HQn HQy
      have m4 := block_cell hM4
      have v4 := block_cell hV4
      go_wp2_with fail
      refine (heapOk_any a1 a2 ts.length c1 fs.length c2 ha d.heap hcp _ hx.heap hx.fields (hm.recs.mono hB4)).mono ?_
      rintro e w5 ⟨rfl, hb5⟩
      have hB5 := hB4.trans (hb5.mono hB4.size)
      have hM5 := block_kept hM4 hb5
      have hV5 := block_kept hV4 hb5
      clear m4 v4 hB4 hM4 hV4 hb5
      by_cases hH : HeapP fs.length d.heap
      case neg =>
        rw [pB_no hH]
        have HN : Hid (¬ HeapP fs.length d.heap) := hH
        clear hH
        go_wp2
        go_ret
        exact ⟨Says.no rfl (fun h => HN.out (vm_parts.2 h.2).2.2.1), hB5⟩
      rw [pB_yes hH]
      have HH : Hid (HeapP fs.length d.heap) := hH
      clear hH
      have m5 := block_cell hM5
      have v5 := block_cell hV5
      go_wp2_with fail
      refine (valuesOk_any a1 a2 ts.length c1 fs.length c2 fa ha oa fc hcp oc d _ hx (hm.mono hB5)).mono ?_
      rintro e w6 ⟨⟨q5, rfl, hq5⟩, hb6⟩
      have HQ5 : Hid (q5 = true ↔ Vals1 fs.length d) := hq5
      clear hq5 m5 v5
      go_wp2
      go_ret
      exact ⟨⟨q5, rfl, ⟨fun h => ⟨HGD.out, vm_parts.1 ⟨HR.out, HF.out, HH.out, HQ5.out.1 h⟩⟩, fun h => HQ5.out.2 (vm_parts.2 h.2).2.2.2⟩⟩, hB5.trans (hb6.mono hB5.size)⟩
end Go.Proofs.YtfefbgemcakabaaGreatDoor
