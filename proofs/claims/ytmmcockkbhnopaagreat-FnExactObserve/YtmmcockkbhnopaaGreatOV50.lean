/-
  (profile).observe: what the next step sees joins what is watched.
  impl.Observe: what is watched.
-/
import Derived.Test.YtmmcockkbhnopaaGreatOV45
import Derived.Test.YtmmcockkbhnopaaGreatOV49
namespace Go.Proofs.YtmmcockkbhnopaaGreat
open Go.RowKit

theorem rep_in {R : List Si} {ws : List Wt} (h : Rep R (tabW ws)) (f q : Int) : (∃ x ∈ R, x.f = f ∧ x.pc = q) ↔ ∃ W ∈ ws, W.f = f ∧ W.p = q := by
  constructor
  · rintro ⟨x, hx, rfl, rfl⟩
    have hx := (h.2 x).1 hx
    unfold tabW at hx
    cases hf : ws.find? (fun W => decide (W.f = x.f ∧ W.p = x.pc)) with
    | none => rw [hf] at hx; cases hx
    | some W =>
      have h5 := List.find?_some hf
      simp only [decide_eq_true_eq] at h5
      exact ⟨W, List.mem_of_find?_eq_some hf, h5⟩
  · rintro ⟨W, hW, h1, h2⟩
    obtain ⟨l1, V, l2, rfl, k1, k2, hno⟩ := split_place (f := f) (p := q) ⟨W, hW, h1, h2⟩
    exact ⟨⟨f, q, (told V).1, (told V).2⟩, (h.2 _).2 (tabW_split k1 k2 hno), rfl, rfl⟩
/-- What is watched when what is seen has joined. -/
def ObsAll (lo b : Nat) (fs : List Fn) (p : List Si) (d : VmD) (ws : List Wt) : Ending → World → World → Prop := fun e w w' => (∃ v, e = .returned v) ∧ ∃ ws', Prf w' lo b (opD fs) ws' ∧ tabW ws' = allC (opD fs) (tabW ws) (obsQ fs p d) ∧ ws'.length ≤ ws.length + 1 ∧ Below lo w w'
theorem obsQ_none {fs : List Fn} {p : List Si} {d : VmD} (h : seeD fs d = none) : obsQ fs p d = [] := by unfold obsQ; rw [h]
theorem obsQ_no {fs : List Fn} {p : List Si} {d : VmD} {s : Si} (h : seeD fs d = some s) (h1 : ¬ ((∃ x ∈ p, x.f = s.f ∧ x.pc = s.pc) ∨ p.length < 150)) : obsQ fs p d = [] := by unfold obsQ; rw [h]; exact if_neg h1
theorem obsQ_yes {fs : List Fn} {p : List Si} {d : VmD} {s : Si} (h : seeD fs d = some s) (h1 : (∃ x ∈ p, x.f = s.f ∧ x.pc = s.pc) ∨ p.length < 150) : obsQ fs p d = [s] := by unfold obsQ; rw [h]; exact if_pos h1

set_option maxRecDepth 100000 in
set_option maxHeartbeats 8000000 in
theorem iObs_any (a1 a2 fa ha oa : Option Addr) (c1 c2 fc hc oc b lo n : Nat) (ts : List ByteArray) (fs : List Fn) (p : List Si) (d : VmD) (ws : List Wt) (w : World) (hV : VmGood ts fs d) (hs : Small ts fs) (hx : VmSmall d) (hfn : FnsAt w 0 a2 fs) (hm : FB w 0 fa d.frames) (hPr : Prf w lo b (opD fs) ws) (hU : Used n ws) (hn : n ≤ 800) (hlo : lo ≤ w.heap.size) (hR : Rep p (tabW ws)) (hL : p.length = ws.length) :
    Calls Tryz.prog 39 #[.map (some b), .agg #[.slice a1 ts.length c1, .slice a2 fs.length c2], .agg (vmCells fa ha oa fc hc oc d)] w fun e w' => ObsAll lo b fs p d ws e w w' := by
  have HSEE : Hid (∀ w', Below w.heap.size w w' → Calls Tryz.prog 75 #[.agg #[.slice a1 ts.length c1, .slice a2 fs.length c2], .agg (vmCells fa ha oa fc hc oc d)] w' (SeePost fs d w')) := fun w' h => iSight_any a1 a2 fa ha oa ts.length c1 c2 fc hc oc ts fs d w' hV hs hx (hfn.mono h) (hm.mono h)
  unfold vmCells at HSEE ⊢
  obtain ⟨W, hW⟩ : ∃ W, W = (w.alloc (.cells #[.slice a1 ts.length c1, .slice a2 fs.length c2] 40)).alloc (.cells #[.slice fa d.frames.length fc, .slice ha d.heap.length hc, .int .i64 d.made, .slice oa d.out.length oc, .int .i64 d.status, .int .i64 d.trap, .int .i64 d.value.k, .int .i64 d.value.n, .string d.value.s, .int .i64 d.steps] 47) := ⟨_, rfl⟩
  have hbW : Below w.heap.size w W := by rw [hW]; exact ((Below.refl _ _).alloc (Nat.le_refl _) _).alloc (by simp) _
  have hX : W.heap[w.heap.size]? = some (.cells #[.slice a1 ts.length c1, .slice a2 fs.length c2] 40 (0, 0)) := by rw [hW]; exact block_old (block_new _ _ _) _
  have hY : W.heap[w.heap.size + 1]? = some (.cells #[.slice fa d.frames.length fc, .slice ha d.heap.length hc, .int .i64 d.made, .slice oa d.out.length oc, .int .i64 d.status, .int .i64 d.trap, .int .i64 d.value.k, .int .i64 d.value.n, .string d.value.s, .int .i64 d.steps] 47 (0, 0)) := by rw [hW]; exact block_new_at _ _ _ _ (by simp)
  have HAD : Hid (∀ x, SiteP fs x → ∀ w', Below w.heap.size w w' → Calls Tryz.prog 74 #[.map (some b), .agg #[.slice a1 ts.length c1, .slice a2 fs.length c2], .agg #[.int .i64 x.f, .int .i64 x.pc, .int .i64 x.seen, .int .i64 x.target]] w' (AddPost lo b n fs ws x w')) := fun x h1 w' h => add_any a1 a2 ts.length c1 c2 fs b lo n ws x w' h1 (hfn.mono h) (hPr.mono h) hU (by omega) (Nat.le_trans hlo h.size)
  have HST : Hid (∀ s, seeD fs d = some s → SiteP fs s) := fun s h => see_site hV h
  have HPR := hidz hPr
  have HRE := hidz hR
  have HLE := hidz hL
  have HLO := hidz hlo
  clear hV hs hx hfn hm hPr hU hR hL hlo
  have x0 := block_cell hX
  have y0 := block_cell hY
  go_enter Tryz.func39, Tryz.ntmps39
  go_wp2_with fail
  rw [← hW]
  clear hW x0 y0
  refine (HSEE.out W hbW).mono ?_
  rintro e w1 ⟨⟨f, q, sn, tg, bo, rfl, hsee⟩, hb1⟩
  obtain ⟨w2, hw2⟩ : ∃ w2, w2 = w1.alloc (.cells #[.int .i64 f, .int .i64 q, .int .i64 sn, .int .i64 tg] 68) := ⟨_, rfl⟩
  have hb2 : Below w1.heap.size w1 w2 := by rw [hw2]; exact (Below.refl _ _).alloc (Nat.le_refl _) _
  have hZ2 : w2.heap[w1.heap.size]? = some (.cells #[.int .i64 f, .int .i64 q, .int .i64 sn, .int .i64 tg] 68 (0, 0)) := by rw [hw2]; exact block_new _ _ _
  have hbW2 : Below W.heap.size W w2 := hb1.trans (hb2.mono hb1.size)
  have hX2 := block_kept hX hbW2
  have hB2 := hbW.trans (hbW2.mono hbW.size)
  clear hX hY hb1 hb2 hbW2 HSEE hbW
  rcases hsee with ⟨hd, rfl⟩ | ⟨hd, rfl⟩
  case inr =>
    have HFIN : Hid (ObsAll lo b fs p d ws (.returned (.tuple #[])) w w2) := ⟨⟨_, rfl⟩, ws, HPR.out.mono hB2, by rw [obsQ_none hd]; rfl, by omega, hB2.mono HLO.out⟩
    clear hX2 hd hZ2 hB2
    go_upto_region 2 with fail
    rw [← hw2]
    clear hw2
    go_wp2
    refine bodyPost_ret (results_none rfl _ _ _) rfl ?_
    exact HFIN.out
  case inl =>
    have HLA := hidz (HAD.out _ (HST.out _ hd))
    have HD := hidz hd
    have HX2 := hidz hX2
    have HZ2 := hidz hZ2
    have z2 := block_cell hZ2
    clear HAD HST hd hX2 hZ2
    go_upto_region 2 with fail
    rw [← hw2]
    clear hw2
    go_wp2_with fail
    refine (placeOf_any f q sn tg w2).mono ?_
    rintro e w3 ⟨rfl, hb3⟩
    have hX3 := block_kept HX2.out hb3
    have hZ3 := block_kept HZ2.out hb3
    have hB3 := hB2.trans (hb3.mono hB2.size)
    have hP3 := HPR.out.mono hB3
    have x3 := block_cell hX3
    have z3 := block_cell hZ3
    obtain ⟨es, ck, hme, hen, -⟩ := hP3.map
    have hsz : es.size = ws.length := by simpa using (ents_at hen).1
    obtain ⟨N, hN⟩ : ∃ N, N = ws.length := ⟨_, rfl⟩
    rw [← hN] at hsz
    have hlen : ∀ ty, (Builtin.len_ #[75] ty #[.map (some b)]).run Tryz.prog w3 = .ok (.int .i64 (N : Int)) w3 := by
      intro ty
      rw [← hsz]
      simp [Builtin.len_, run_underlying Tryz.underlying75, MapKept.run_getObj_map hme, goInt, Result.andThen]
    have HP3 := hidz hP3
    have HB3 := hidz hB3
    have HN : Hid (p.length = N) := HLE.out.trans hN.symm
    have HNW := hidz hN
    clear hX3 hZ3 hb3 HX2 HZ2 hB2 z2 hen hsz hme hP3 hN hB3
    have HEND : Hid (∀ e w', AddPost lo b n fs ws ⟨f, q, sn, tg⟩ w3 e w' → ((∃ x ∈ p, x.f = f ∧ x.pc = q) ∨ p.length < 150) → ObsAll lo b fs p d ws e w w') := fun e w' hpo hq => by
      obtain ⟨he, ws', k1, -, k2, k3, k4, -⟩ := hpo
      exact ⟨he, ws', k1, by rw [obsQ_yes HD.out hq]; exact k2, k3, (HB3.out.mono HLO.out).trans k4⟩
    by_cases hin : ∃ W ∈ ws, W.f = f ∧ W.p = q
    · obtain ⟨l1, V, l2, hws, h1, h2, hno⟩ := split_place hin
      have hlk := (look_yes f q b l1 l2 V w3 (by rw [← hws]; exact HP3.out.map) h1 h2 hno).1
      have HQ : Hid ((∃ x ∈ p, x.f = f ∧ x.pc = q) ∨ p.length < 150) := .inl ((rep_in HRE.out f q).2 hin)
      generalize valW V = vv at hlk
      clear hin hws h1 h2 hno HN HNW HP3
      go_wp2_with fail
      refine (HLA.out w3 HB3.out).mono ?_
      intro e w4 hpo
      have HF := hidz (HEND.out e w4 hpo HQ.out)
      obtain ⟨⟨v, rfl⟩, -⟩ := hpo
      clear hlk hlen x3 z3
      go_wp2
      go_end0
      exact ⟨⟨_, rfl⟩, HF.out.2⟩
    · have hlk := look_no f q b ws w3 HP3.out.map (fun V hV h => hin ⟨V, hV, h⟩)
      by_cases h5 : N < 150
      · have k5 : (N : Int) < 150 := by omega
        have HQ : Hid ((∃ x ∈ p, x.f = f ∧ x.pc = q) ∨ p.length < 150) := .inr (by rw [HN.out]; exact h5)
        clear hin HN HNW HP3 h5
        go_wp2_with fail
        refine (HLA.out w3 HB3.out).mono ?_
        intro e w4 hpo
        have HF := hidz (HEND.out e w4 hpo HQ.out)
        obtain ⟨⟨v, rfl⟩, -⟩ := hpo
        clear hlk hlen x3 z3
        go_wp2
        go_end0
        exact ⟨⟨_, rfl⟩, HF.out.2⟩
      · have k5 : ¬ (N : Int) < 150 := by omega
        have HNO : Hid (¬ ((∃ x ∈ p, x.f = f ∧ x.pc = q) ∨ p.length < 150)) := fun h => h.elim (fun h => hin ((rep_in HRE.out f q).1 h)) (fun h => h5 (by rw [← HN.out]; exact h))
        have HFIN : Hid (ObsAll lo b fs p d ws (.returned (.tuple #[])) w w3) := ⟨⟨_, rfl⟩, ws, HP3.out, by rw [obsQ_no HD.out HNO.out]; rfl, by omega, HB3.out.mono HLO.out⟩
        clear hin HN HNW HP3 h5 HLA
        go_wp2
        go_end0
        exact HFIN.out
end Go.Proofs.YtmmcockkbhnopaaGreat

namespace Go.Proofs.YtmmcockkbhnopaaGreat
open Go.RowKit

set_option maxRecDepth 100000 in
set_option maxHeartbeats 8000000 in
theorem iObserve_any (a1 a2 pa fa ha oa : Option Addr) (c1 c2 pc fc hc oc : Nat) (ts : List ByteArray) (fs : List Fn) (p : List Si) (d : VmD) (w : World) (hs : Small ts fs) (hm : StrsAt w 0 a1 ts) (hm2 : FnsAt w 0 a2 fs) (hp : SitesAt w 0 pa p) (hx : VmSmall d) (hv : VmB w 0 fa ha oa d) :
    Calls Tryz.prog 12 #[.agg #[.slice a1 ts.length c1, .slice a2 fs.length c2], .slice pa p.length pc, .agg (vmCells fa ha oa fc hc oc d)] w (ObsPost ts fs p d w) := by
  have HPO : Hid (∀ w', Below w.heap.size w w' → Calls Tryz.prog 36 #[.agg #[.slice a1 ts.length c1, .slice a2 fs.length c2], .slice pa p.length pc] w' fun e w'' => e = .returned (.bool (pB (Good ts fs ∧ ProfP fs p))) ∧ Below w'.heap.size w' w'') := fun w' h => iProfileOk_any a1 a2 c1 c2 ts fs pa pc p w' hs (hm.mono h) (hm2.mono h) (hp.mono h)
  have HVO : Hid (∀ w', Below w.heap.size w w' → Calls Tryz.prog 37 #[.agg #[.slice a1 ts.length c1, .slice a2 fs.length c2], .agg (vmCells fa ha oa fc hc oc d)] w' fun e w'' => Says (VmGood ts fs d) e ∧ Below w'.heap.size w' w'') := fun w' h => iVmOk_any a1 a2 c1 c2 ts fs fa ha oa fc hc oc d w' hs (hm.mono h) (hm2.mono h) hx (hv.at.mono h)
  have HOB : Hid (∀ (b lo : Nat) (ws : List Wt) (w' : World), Below w.heap.size w w' → VmGood ts fs d → Prf w' lo b (opD fs) ws → Used p.length ws → p.length ≤ 150 → lo ≤ w'.heap.size → Rep p (tabW ws) → p.length = ws.length → Calls Tryz.prog 39 #[.map (some b), .agg #[.slice a1 ts.length c1, .slice a2 fs.length c2], .agg (vmCells fa ha oa fc hc oc d)] w' fun e w'' => ObsAll lo b fs p d ws e w' w'') := fun b lo ws w' h h1 h2 h3 h4 h5 h6 h7 => iObs_any a1 a2 fa ha oa c1 c2 fc hc oc b lo p.length ts fs p d ws w' h1 hs hx (hm2.mono h) (hv.frs.mono h) h2 h3 (by omega) h5 h6 h7
  unfold vmCells at HVO HOB ⊢
  obtain ⟨w0, hw0⟩ : ∃ w0, w0 = (w.alloc (.cells #[.slice a1 ts.length c1, .slice a2 fs.length c2] 40)).alloc (.cells #[.slice fa d.frames.length fc, .slice ha d.heap.length hc, .int .i64 d.made, .slice oa d.out.length oc, .int .i64 d.status, .int .i64 d.trap, .int .i64 d.value.k, .int .i64 d.value.n, .string d.value.s, .int .i64 d.steps] 47) := ⟨_, rfl⟩
  have hb0 : Below w.heap.size w w0 := by rw [hw0]; exact ((Below.refl _ _).alloc (Nat.le_refl _) _).alloc (by simp) _
  have hX : w0.heap[w.heap.size]? = some (.cells #[.slice a1 ts.length c1, .slice a2 fs.length c2] 40 (0, 0)) := by rw [hw0]; exact block_old (block_new _ _ _) _
  have hY : w0.heap[w.heap.size + 1]? = some (.cells #[.slice fa d.frames.length fc, .slice ha d.heap.length hc, .int .i64 d.made, .slice oa d.out.length oc, .int .i64 d.status, .int .i64 d.trap, .int .i64 d.value.k, .int .i64 d.value.n, .string d.value.s, .int .i64 d.steps] 47 (0, 0)) := by rw [hw0]; exact block_new_at _ _ _ _ (by simp)
  have HFN := hidz hm2
  have HPS := hidz hp
  clear hm hm2 hp hx hv hs
  have x0 := block_cell hX
  go_enter Tryz.func12, Tryz.ntmps12
  go_wp2_with fail
  rw [← hw0]
  clear hw0 x0
  refine (HPO.out _ hb0).mono ?_
  rintro e w1 ⟨rfl, hb1⟩
  have hB1 := hb0.trans (hb1.mono hb0.size)
  have hX1 := block_kept hX hb1
  have hY1 := block_kept hY hb1
  have x1 := block_cell hX1
  have y1 := block_cell hY1
  clear hb1 hX hY hb0 HPO
  by_cases hP : Good ts fs ∧ ProfP fs p
  case neg =>
    rw [pB_no hP]
    have HN := hidz hP
    have HB := hidz hB1
    clear hP hB1
    go_wp2
    go_ret
    unfold ObsPost
    exact ⟨_, [], rfl, .inr ⟨fun h => HN.out h.1, rfl⟩, ⟨rfl, .inl ⟨rfl, rfl⟩⟩, HB.out⟩
  rw [pB_yes hP]
  go_wp2_with fail
  clear x1 y1
  refine (HVO.out _ hB1).mono ?_
  rintro e w2 ⟨⟨bb, rfl, hbb⟩, hb2⟩
  have hB2 := hB1.trans (hb2.mono hB1.size)
  have hX2 := block_kept hX1 hb2
  have hY2 := block_kept hY1 hb2
  clear hb2 hX1 hY1 hB1 HVO
  cases bb
  case false =>
    have HN : Hid (¬ VmGood ts fs d) := fun h => by have := hbb.2 h; cases this
    have HB := hidz hB2
    clear hbb hP hB2
    go_wp2
    go_ret
    unfold ObsPost
    exact ⟨_, [], rfl, .inr ⟨fun h => HN.out h.2, rfl⟩, ⟨rfl, .inl ⟨rfl, rfl⟩⟩, HB.out⟩
  have HV : Hid (VmGood ts fs d) := hbb.1 rfl
  have HPP := hidz hP
  have hp150 := hP.2.1
  clear hP hbb
  obtain ⟨w3, hw3⟩ : ∃ w3, w3 = w2.alloc (.map #[] 0) := ⟨_, rfl⟩
  have hb3 : Below w2.heap.size w2 w3 := by rw [hw3]; exact (Below.refl _ _).alloc (Nat.le_refl _) _
  have hmap3 : w3.heap[w2.heap.size]? = some (.map #[] 0) := by rw [hw3]; exact World.alloc_heap_new w2 _
  have HP3 : Hid (Prf w3 w2.heap.size w2.heap.size (opD fs) []) := ⟨⟨_, _, hmap3, rfl, fun e h => by simp at h, List.Pairwise.nil⟩, Nat.le_refl _, fun W h => (by cases h), List.Pairwise.nil, List.Pairwise.nil, fun W h => (by cases h)⟩
  have HX3 := hidz (block_kept hX2 hb3)
  have HY3 := hidz (block_kept hY2 hb3)
  have HB2 := hidz hB2
  have HB3 := hidz hb3
  have HFR : Hid (∀ w', Below w2.heap.size w3 w' → Below w.heap.size w w') := fun w' h => hB2.trans ((hb3.trans h).mono hB2.size)
  have HWL0 : Hid (w.heap.size + 1 < w2.heap.size) := lt_sizez hY2
  have hmk := block_cell hX2
  clear hX2 hY2 hB2 hmap3 hb3
  have hmm : (Instr.makeMap 75 none).run Tryz.prog w2 = .ok (.map (some w2.heap.size)) (w2.alloc (.map #[] 0)) := rfl
  go_upto_region 4 with fail
  rw [← hw3]
  clear hmm
  clear hmk
  have m3 := block_cell HX3.out
  obtain ⟨lo, hlo⟩ : ∃ lo, lo = w2.heap.size := ⟨_, rfl⟩
  have hsz3 : lo ≤ w3.heap.size := by rw [hlo, hw3]; simp
  rw [← hlo] at HP3 HFR ⊢
  have HLO := hidz hlo
  have HWL : Hid (w.heap.size + 1 < lo) := by rw [hlo]; exact HWL0.out
  clear hw3 hlo
  go_wp2_with fail
  refine (addAll_any a1 a2 pa ts.length c1 c2 pc fs lo lo 0 [] p w3 (fun x hx => prof_site HPP.out.2 hx) hp150 hsz3 (fun w' h => HFN.out.mono (HFR.out w' h)) (fun w' h => HPS.out.mono (HFR.out w' h)) HP3.out (fun W h => by cases h) (by omega)).mono ?_
  rintro e w4 ⟨⟨v, rfl⟩, ws1, h1, h2, h3, h4, h5⟩
  have HWB : Hid (w.heap.size < lo) := by have := HWL.out; show _ < _; omega
  have HX4 : Hid (w4.heap[w.heap.size]? = some (.cells #[.slice a1 ts.length c1, .slice a2 fs.length c2] 40 (0, 0))) := (h5.block _ HWB.out).trans HX3.out
  have HY4 : Hid (w4.heap[w.heap.size + 1]? = some (.cells #[.slice fa d.frames.length fc, .slice ha d.heap.length hc, .int .i64 d.made, .slice oa d.out.length oc, .int .i64 d.status, .int .i64 d.trap, .int .i64 d.value.k, .int .i64 d.value.n, .string d.value.s, .int .i64 d.steps] 47 (0, 0))) := (h5.block _ HWL.out).trans HY3.out
  have HP4 := hidz h1
  have HU4 : Hid (Used p.length ws1) := by rw [← Nat.zero_add p.length]; exact h2
  have HT4 : Hid (Rep p (tabW ws1)) := by rw [h3, tab_nil]; exact none_rep _ (prof_asc HPP.out.2)
  have HL4 := hidz (rep_len HT4.out h1.places)
  have HB34 := hidz h5
  have HB4 := hidz (HFR.out w4 h5)
  have hsz4 : lo ≤ w4.heap.size := Nat.le_trans hsz3 h5.size
  have x4 := block_cell HX4.out
  have y4 := block_cell HY4.out
  clear h1 h2 h3 h4 h5 m3 HP3 HX3 HY3
  go_wp2_with fail
  clear x4 y4
  refine (HOB.out lo lo ws1 w4 HB4.out HV.out HP4.out HU4.out hp150 hsz4 HT4.out HL4.out).mono ?_
  rintro e w5 ⟨⟨v, rfl⟩, ws2, h1, h2, h3, h4⟩
  have HMG : Hid (Rep (mergeS (opD fs) p (obsQ fs p d)) (tabW ws2)) := by rw [h2]; exact merge_rep _ _ _ _ HT4.out
  have HTO := hidz (told_any lo lo (opD fs) ws2 w5 h1 (by have := HL4.out; omega))
  have HB5 := hidz (HFR.out w5 (HB34.out.trans h4))
  clear h1 h2 h3 h4
  go_wp2_with fail
  refine HTO.out.mono ?_
  clear HTO
  rintro e w6 ⟨v, R, rfl, k1, k2, k3, k4⟩
  have hR : R = mergeS (opD fs) p (obsQ fs p d) := k1.one HMG.out
  have HFIN : Hid (ObsPost ts fs p d w (.returned v) w6) := ⟨v, R, rfl, .inl ⟨⟨HPP.out, HV.out⟩, hR⟩, own_lowz k3 HB5.out.size, HB5.out.trans (k4.mono HB5.out.size)⟩
  clear k1 k2 k3 k4 hR
  go_wp2
  go_ret
  exact HFIN.out
end Go.Proofs.YtmmcockkbhnopaaGreat
