/-
  What impl.VmOk returns.
  What the next step of a state would see, on plain data.
  impl.sightOf and spec.l07See: what the next step of a state would see.
-/
import Derived.Test.YtmmcockkbhnopaaGreatOV32
import Derived.Test.YtmmcockkbhnopaaGreatOV33
import Derived.Test.YtmmcockkbhnopaaGreatOV36
import Derived.Test.YtmmcockkbhnopaaGreatOV41
import Derived.Test.YtmmcockkbhnopaaGreatOV38
import Derived.Test.YtmmcockkbhnopaaGreatOV34
import Derived.Test.YtmmcockkbhnopaaGreatOV16
import Derived.Deep.RegionHeld3
import Derived.Deep.CutRange
namespace Go.Proofs.YtmmcockkbhnopaaGreat
open Go.RowKit

theorem Good.ok {ts : List ByteArray} {fs : List Fn} (h : Good ts fs) : modB ts fs = true := by
  obtain ⟨f, a, ⟨-, h, -⟩ | ⟨h, -⟩⟩ := h
  · exact absurd h (by decide)
  · exact h
def VmGood (ts : List ByteArray) (fs : List Fn) (d : VmD) : Prop := Good ts fs ∧ Room d ∧ Frames fs d ∧ Vals fs.length d

set_option maxRecDepth 100000 in
set_option maxHeartbeats 4000000 in
theorem iVmOk_any (a1 a2 : Option Addr) (c1 c2 : Nat) (ts : List ByteArray) (fs : List Fn) (fa ha oa : Option Addr) (fc hcp oc : Nat) (d : VmD) (w : World) (hs : Small ts fs) (hst : StrsAt w 0 a1 ts) (hfn : FnsAt w 0 a2 fs) (hx : VmSmall d) (hm : VmAt w 0 fa ha oa d) :
    Calls Tryz.prog 37 #[.agg #[.slice a1 ts.length c1, .slice a2 fs.length c2], .agg (vmCells fa ha oa fc hcp oc d)] w fun e w' => Says (VmGood ts fs d) e ∧ Below w.heap.size w w' := by
  have hbA : Below w.heap.size w ((w.alloc (.cells #[.slice a1 ts.length c1, .slice a2 fs.length c2] 40)).alloc (.cells (vmCells fa ha oa fc hcp oc d) 47)) := ((Below.refl _ _).alloc (Nat.le_refl _) _).alloc (by simp) _
  have hM0 := block_old (block_new w #[.slice a1 ts.length c1, .slice a2 fs.length c2] 40) (.cells (vmCells fa ha oa fc hcp oc d) 47)
  have hV0 := block_new_at (w.alloc (.cells #[.slice a1 ts.length c1, .slice a2 fs.length c2] 40)) (vmCells fa ha oa fc hcp oc d) 47 (w.heap.size + 1) (by simp)
  unfold vmCells at hbA hM0 hV0 ⊢
  go_enter Tryz.func37, Tryz.ntmps37
  go_wp2_with fail
  refine (iAll_any _ _ _ _ ts fs _ hs (hst.mono hbA) (hfn.mono hbA)).mono ?_
  rintro e w1 ⟨⟨v, c, f, a, rfl, hV, hG⟩, hb1⟩
  have hM1 := block_kept hM0 hb1
  have hV1 := block_kept hV0 hb1
  have hB1 := hbA.trans (hb1.mono hbA.size)
  have HG : Hid (c = 0 ↔ Good ts fs) := hV.good
  have HH : Hid (c = 0 → ∃ G, v = .slice (some ⟨G, 0, none⟩) fs.length fs.length ∧ Hs w1 ((w.alloc (.cells #[.slice a1 ts.length c1, .slice a2 fs.length c2] 40)).alloc (.cells #[.slice fa d.frames.length fc, .slice ha d.heap.length hcp, .int .i64 d.made, .slice oa d.out.length oc, .int .i64 d.status, .int .i64 d.trap, .int .i64 d.value.k, .int .i64 d.value.n, .string d.value.s, .int .i64 d.steps] 47)).heap.size G fs.length fs) := hG
  clear hM0 hV0 hb1 hbA hV hG
  by_cases hc : c = 0
  case neg =>
    have hc' : (c == 0) = false := by simpa using hc
    have HC : Hid (¬ c = 0) := hc
    clear hc
    go_wp2
    go_ret
    exact ⟨Says.no rfl (fun h => HC.out (HG.out.2 h.1)), hB1.alloc hB1.size _⟩
  subst hc
  obtain ⟨G, rfl, hHs⟩ := HH.out rfl
  have hgood := HG.out.1 rfl
  have HGD : Hid (Good ts fs) := hgood
  have FF : ∀ k (hk : k < fs.length), Fine fs fs[k].code := fun k hk => fine_of hgood.ok hk
  obtain ⟨w2, hw2⟩ : ∃ w2, w2 = w1.alloc (.cells #[.int .i64 0, .int .i64 f, .int .i64 a] 121) := ⟨_, rfl⟩
  have hb2 : Below w1.heap.size w1 w2 := by rw [hw2]; exact (Below.refl _ _).alloc (Nat.le_refl _) _
  have hB2 := hB1.trans (hb2.mono hB1.size)
  have hM2 := block_kept hM1 hb2
  have hV2 := block_kept hV1 hb2
  have hHs2 := hHs.mono hb2
  have v1 := block_cell (block_old hV1 (.cells #[.int .i64 0, .int .i64 f, .int .i64 a] 121))
  clear HG HH hgood hb2 hM1 hV1 hHs hB1
  go_wp2_with fail
  rw [← hw2]
  clear v1 hw2
  refine (roomOk_any fa ha oa fc hcp oc d _ hx (hm.mono hB2)).mono ?_
  rintro e w3 ⟨⟨q, rfl, hq⟩, hb3⟩
  have HQ : Hid (q = true ↔ Room1 d) := hq
  have hB3 := hB2.trans (hb3.mono hB2.size)
  have hM3 := block_kept hM2 hb3
  have hV3 := block_kept hV2 hb3
  have hHs3 := hHs2.mono hb3
  clear hq hb3 hM2 hV2 hHs2 hB2
  have HQn : Hid (q = false → ¬ Room1 d) := fun h hr => by rw [HQ.out.2 hr] at h; cases h
  have HQy : Hid (q = true → Room1 d) := HQ.out.1
  clear HQ
  cases hqc : q with
  | false =>
    have HN : Hid (¬ Room1 d) := HQn.out hqc
    clear hqc HQn HQy
    go_wp2
    go_ret
    exact ⟨Says.no rfl (fun h => HN.out (vm_parts.2 h.2).1), hB3⟩
  | true =>
    have HR : Hid (Room1 d) := HQy.out hqc
    clear hqc HQn HQy
    have m3 := block_cell hM3
    have v3 := block_cell hV3
    go_wp2_with fail
    refine (framesOk_any a1 a2 ts.length c1 c2 fs _ G fa ha oa fc hcp oc d _ hx (hm.mono hB3) (hfn.mono hB3) hHs3 FF).mono ?_
    rintro e w4 ⟨⟨q4, rfl, hq4⟩, hb4⟩
    have hB4 := hB3.trans (hb4.mono hB3.size)
    have hM4 := block_kept hM3 hb4
    have hV4 := block_kept hV3 hb4
    have HQn : Hid (q4 = false → ¬ Frames fs d) := fun h hr => by rw [hq4.2 hr] at h; cases h
    have HQy : Hid (q4 = true → Frames fs d) := hq4.1
    clear hq4 hb4 hM3 hV3 hHs3 hB3 m3 v3
    cases hqc : q4 with
    | false =>
      have HN : Hid (¬ Frames fs d) := HQn.out hqc
      clear hqc HQn HQy
      go_wp2
      go_ret
      exact ⟨Says.no rfl (fun h => HN.out h.2.2.1), hB4⟩
    | true =>
      have HF : Hid (Frames fs d) := HQy.out hqc
      clear hqc HQn HQy
      have m4 := block_cell hM4
      have v4 := block_cell hV4
      go_wp2_with fail
      refine (heapOk_any a1 a2 ts.length c1 fs.length c2 ha d.heap hcp _ hx.heap hx.fields (hm.recs.mono hB4)).mono ?_
      rintro e w5 ⟨rfl, hb5⟩
      have hB5 := hB4.trans (hb5.mono hB4.size)
      have hM5 := block_kept hM4 hb5
      have hV5 := block_kept hV4 hb5
      clear m4 v4 hB4 hM4 hV4 hb5
      by_cases hH : HeapP fs.length d.heap
      case neg =>
        rw [pB_no hH]
        have HN : Hid (¬ HeapP fs.length d.heap) := hH
        clear hH
        go_wp2
        go_ret
        exact ⟨Says.no rfl (fun h => HN.out (vm_parts.2 h.2).2.2.1), hB5⟩
      rw [pB_yes hH]
      have HH : Hid (HeapP fs.length d.heap) := hH
      clear hH
      have m5 := block_cell hM5
      have v5 := block_cell hV5
      go_wp2_with fail
      refine (valuesOk_any a1 a2 ts.length c1 fs.length c2 fa ha oa fc hcp oc d _ hx (hm.mono hB5)).mono ?_
      rintro e w6 ⟨⟨q5, rfl, hq5⟩, hb6⟩
      have HQ5 : Hid (q5 = true ↔ Vals1 fs.length d) := hq5
      clear hq5 m5 v5
      go_wp2
      go_ret
      exact ⟨⟨q5, rfl, ⟨fun h => ⟨HGD.out, vm_parts.1 ⟨HR.out, HF.out, HH.out, HQ5.out.1 h⟩⟩, fun h => HQ5.out.2 (vm_parts.2 h.2).2.2.2⟩⟩, hB5.trans (hb6.mono hB5.size)⟩
end Go.Proofs.YtmmcockkbhnopaaGreat

namespace Go.Proofs.YtmmcockkbhnopaaGreat
open Go.RowKit

def zeroFr : Fr := ⟨0, 0, [], []⟩
def zeroVl : Vl := ⟨0, 0, ⟨#[]⟩⟩
/-- The last frame. -/
def lastF (d : VmD) : Fr := d.frames.getD (d.frames.length - 1) zeroFr
/-- A value of the stack, from its top on. -/
def topV (st : List Vl) (k : Nat) : Vl := st.getD (st.length - 1 - k) zeroVl
/-- What is seen at an instruction. -/
def seenAt (op a : Int) (st : List Vl) : Option (Int × Int) :=
  if op = 23 then some (if (topV st a.toNat).k = 5 then (1, (topV st a.toNat).n) else (2, 0))
  else if 11 ≤ op ∧ op ≤ 14 then some (if (topV st 0).k = 1 ∧ (topV st 1).k = 1 then (1, 0) else (2, 0))
  else none
/-- What the next step sees. -/
def seeD (fs : List Fn) (d : VmD) : Option Si :=
  if d.status = 0 then (seenAt ((insD fs (lastF d).fn (lastF d).pc).getD (0, 0)).1 ((insD fs (lastF d).fn (lastF d).pc).getD (0, 0)).2 (lastF d).stack).map fun x => ⟨(lastF d).fn, (lastF d).pc, x.1, x.2⟩
  else none
open Classical in
/-- What is watched more. -/
noncomputable def obsQ (fs : List Fn) (p : List Si) (d : VmD) : List Si :=
  match seeD fs d with
  | none => []
  | some s => if (∃ x ∈ p, x.f = s.f ∧ x.pc = s.pc) ∨ p.length < 150 then [s] else []
def ObsA (ts : List ByteArray) (fs : List Fn) (p : List Si) (d : VmD) (R : List Si) : Prop := (((Good ts fs ∧ ProfP fs p) ∧ VmGood ts fs d) ∧ R = mergeS (opD fs) p (obsQ fs p d)) ∨ (¬ ((Good ts fs ∧ ProfP fs p) ∧ VmGood ts fs d) ∧ R = [])
theorem ObsA.one {ts : List ByteArray} {fs : List Fn} {p : List Si} {d : VmD} {R R' : List Si} (h : ObsA ts fs p d R) (h' : ObsA ts fs p d R') : R' = R := by
  rcases h with ⟨h1, rfl⟩ | ⟨h1, rfl⟩
  · rcases h' with ⟨-, rfl⟩ | ⟨k, -⟩
    · rfl
    · exact absurd h1 k
  · rcases h' with ⟨k, -⟩ | ⟨-, rfl⟩
    · exact absurd k h1
    · rfl
theorem obsQ_len (fs : List Fn) (p : List Si) (d : VmD) : obsQ fs p d = [] ∨ ∃ s, obsQ fs p d = [s] := by
  unfold obsQ
  split
  · exact .inl rfl
  · split
    · exact .inr ⟨_, rfl⟩
    · exact .inl rfl
theorem ObsA.len {ts : List ByteArray} {fs : List Fn} {p R : List Si} {d : VmD} (h : ObsA ts fs p d R) : R.length ≤ 151 := by
  rcases h with ⟨⟨⟨-, hp⟩, -⟩, rfl⟩ | ⟨-, rfl⟩
  · have h1 := hp.1
    rcases obsQ_len fs p d with e | ⟨s, e⟩
    · rw [e]
      show p.length ≤ _
      omega
    · rw [e]
      have := layR_len (opD fs s.f s.pc) s p false
      simp at this
      show (layR (opD fs s.f s.pc) s false p).length ≤ _
      omega
  · simp
theorem call_arg {ts : List ByteArray} {fs : List Fn} (h : modB ts fs = true) {f p : Nat} (hf : f < fs.length) (hp : p < fs[f].code.length) (ho : fs[f].code[p].1 = 23) : 0 ≤ fs[f].code[p].2 ∧ fs[f].code[p].2 ≤ 6 := by
  unfold modB at h
  simp only [Bool.and_eq_true, decide_eq_true_eq, List.all_eq_true] at h
  have h1 : fnB ts.length fs.length fs[f] = true := h.2 _ (List.getElem_mem hf)
  unfold fnB at h1
  simp only [Bool.and_eq_true, decide_eq_true_eq, List.all_eq_true] at h1
  have h2 := h1.2 _ (List.getElem_mem hp)
  unfold insB at h2
  rw [ho] at h2
  simp at h2
  exact h2
theorem good_clear {ts : List ByteArray} {fs : List Fn} (h : Good ts fs) {g : Nat} (hg : g < fs.length) : Clear fs fs[g].code fs[g].code.length := by
  obtain ⟨f, a, ⟨-, h, -⟩ | ⟨-, h⟩⟩ := h
  · exact absurd h (by decide)
  · rcases h with ⟨-, -, -, h⟩ | ⟨_, _, _, _, _, _, _, _, _, h, _⟩
    · exact h g hg
    · exact absurd rfl h
/-- What stands where a state stands. -/
theorem see_at {ts : List ByteArray} {fs : List Fn} {d : VmD} (hV : VmGood ts fs d) (h0 : d.status = 0) : ∃ (n f p : Nat) (hn : n < d.frames.length) (hf : f < fs.length) (hp : p < fs[f].code.length), d.frames.length = n + 1 ∧ lastF d = d.frames[n] ∧ d.frames[n].fn = f ∧ d.frames[n].pc = p ∧
    (fs[f].code[p].1 = 23 → ∃ a k : Nat, fs[f].code[p].2 = a ∧ a ≤ 6 ∧ d.frames[n].stack.length = k + a + 1) ∧ (11 ≤ fs[f].code[p].1 ∧ fs[f].code[p].1 ≤ 14 → ∃ k : Nat, d.frames[n].stack.length = k + 2) ∧
    ∀ v ∈ d.frames[n].stack, v.k = 5 → 0 ≤ v.n ∧ v.n < (fs.length : Int) := by
  obtain ⟨hG, -, hF, hVs, -⟩ := hV
  rcases hF with ⟨e, -⟩ | ⟨-, h1, h24, -, hfit⟩
  · omega
  obtain ⟨n, hn⟩ : ∃ n, d.frames.length = n + 1 := ⟨d.frames.length - 1, by omega⟩
  have hlt : n < d.frames.length := by omega
  have hfn := hfit n hlt
  rw [show (decide ((n : Int) = (d.frames.length : Int) - 1)) = true by simp; omega] at hfn
  obtain ⟨f0, f1, -, p0, p1, hh, hlast⟩ := hfn
  have hst : (d.frames[n].stack.length : Int) = ht fs d.frames[n].fn d.frames[n].pc := by
    rcases hlast with ⟨-, e⟩ | ⟨e, -⟩
    · exact e
    · cases e
  obtain ⟨f, hfe⟩ : ∃ f : Nat, d.frames[n].fn = f := ⟨d.frames[n].fn.toNat, by omega⟩
  rw [hfe] at f1 p1 hh hst
  have hf : f < fs.length := by omega
  rw [fnAt_of hf] at p1
  obtain ⟨p, hpe⟩ : ∃ p : Nat, d.frames[n].pc = p := ⟨d.frames[n].pc.toNat, by omega⟩
  rw [hpe] at p1 hh hst
  have hp : p < fs[f].code.length := by omega
  have hDx : ∃ e, Done fs fs[f].code e := by
    apply Classical.byContradiction
    intro hno
    have hd : dep fs (fnAt fs f).code = [] := by
      rw [fnAt_of hf]
      unfold dep
      rw [dif_neg hno]
    unfold ht at hh
    rw [hd] at hh
    simp at hh
  obtain ⟨e, hD⟩ := hDx
  have hln := (Done.hts (fine_of hG.ok hf) hD).len
  have hpl : p < e.length := by omega
  rw [ht_of hf hD hpl] at hh hst
  have htr := good_clear hG hf e hD p hp
  have hget : e.getD p (-1) = e[p] := by rw [List.getD_eq_getElem?_getD, List.getElem?_eq_getElem hpl]; rfl
  have hcode : fs[f].code.getD p (0, 0) = fs[f].code[p] := by rw [List.getD_eq_getElem?_getD, List.getElem?_eq_getElem hp]; rfl
  have hu : (usesB fs fs[f].code[p].1 fs[f].code[p].2).1 ≤ e[p] := by
    unfold troubleB at htr
    simp only [hget, hcode] at htr
    rw [if_neg (by omega)] at htr
    split at htr
    · cases htr
    · rename_i q
      omega
  refine ⟨n, f, p, hlt, hf, hp, hn, ?_, hfe, hpe, ?_, ?_, ?_⟩
  · unfold lastF
    rw [List.getD_eq_getElem?_getD, show d.frames.length - 1 = n by omega, List.getElem?_eq_getElem hlt]
    rfl
  · intro ho
    obtain ⟨a0, a1⟩ := call_arg hG.ok hf hp ho
    have h3 : (usesB fs fs[f].code[p].1 fs[f].code[p].2).1 = fs[f].code[p].2 + 1 := by
      rw [ho]
      unfold usesB
      simp [a0, a1]
    rw [h3] at hu
    exact ⟨fs[f].code[p].2.toNat, d.frames[n].stack.length - 1 - fs[f].code[p].2.toNat, by omega, by omega, by omega⟩
  · intro ho
    have h3 : (usesB fs fs[f].code[p].1 fs[f].code[p].2).1 = 2 := by
      have : fs[f].code[p].1 = 11 ∨ fs[f].code[p].1 = 12 ∨ fs[f].code[p].1 = 13 ∨ fs[f].code[p].1 = 14 := by omega
      rcases this with e | e | e | e <;> rw [e] <;> simp [usesB]
    rw [h3] at hu
    exact ⟨d.frames[n].stack.length - 2, by omega⟩
  · intro v hv h5
    have h6 := List.all_eq_true.1 hVs _ (List.getElem_mem hlt)
    unfold frVals valsB at h6
    rw [Bool.and_eq_true] at h6
    have h7 := List.all_eq_true.1 h6.2 v hv
    unfold okB valB at h7
    rw [h5] at h7
    simp at h7
    exact ⟨h7.1.1, h7.1.2⟩
/-- What is seen is a site of the module. -/
theorem see_site {ts : List ByteArray} {fs : List Fn} {d : VmD} {s : Si} (hV : VmGood ts fs d) (h : seeD fs d = some s) : SiteP fs s := by
  unfold seeD at h
  split at h
  case isFalse => cases h
  rename_i h0
  obtain ⟨n, f, p, hn, hf, hp, hn1, hl, hfe, hpe, hc, hnm, hvs⟩ := see_at hV h0
  rw [hl, hfe, hpe, insD_hit hf hp] at h
  simp only [Option.getD_some] at h
  unfold seenAt at h
  split at h
  · rename_i ho
    obtain ⟨a, k, ha, ha6, hk⟩ := hc ho
    rw [ha, Int.toNat_natCast] at h
    have hin : topV d.frames[n].stack a ∈ d.frames[n].stack := by
      unfold topV
      rw [List.getD_eq_getElem?_getD, List.getElem?_eq_getElem (by omega)]
      exact List.getElem_mem _
    split at h
    · rename_i h5
      simp at h
      rw [← h]
      have := hvs _ hin h5
      exact (site_iff hf hp).2 (.inl ⟨ho, .inl ⟨rfl, this.1, this.2⟩⟩)
    · simp at h
      rw [← h]
      exact (site_iff hf hp).2 (.inl ⟨ho, .inr ⟨rfl, rfl⟩⟩)
  split at h
  · rename_i ho
    split at h
    · simp at h
      rw [← h]
      exact (site_iff hf hp).2 (.inr ⟨ho.1, ho.2, by decide, by decide, rfl⟩)
    · simp at h
      rw [← h]
      exact (site_iff hf hp).2 (.inr ⟨ho.1, ho.2, by decide, by decide, rfl⟩)
  · cases h
end Go.Proofs.YtmmcockkbhnopaaGreat

namespace Go.Proofs.YtmmcockkbhnopaaGreat
open Go.RowKit

def SeeIs (fs : List Fn) (d : VmD) (f p sn tg : Int) (b : Bool) : Prop := (seeD fs d = some ⟨f, p, sn, tg⟩ ∧ b = true) ∨ (seeD fs d = none ∧ b = false)
/-- What both functions answer. -/
def SeePost (fs : List Fn) (d : VmD) (w : World) (e : Ending) (w' : World) : Prop := (∃ (f p sn tg : Int) (b : Bool), e = .returned (.tuple #[.agg #[.int .i64 f, .int .i64 p, .int .i64 sn, .int .i64 tg], .bool b]) ∧ SeeIs fs d f p sn tg b) ∧ Below w.heap.size w w'
theorem see_off {fs : List Fn} {d : VmD} (h : d.status ≠ 0) : seeD fs d = none := by unfold seeD; rw [if_neg h]
theorem see_on {fs : List Fn} {d : VmD} {n f p : Nat} (hn : n < d.frames.length) (hf : f < fs.length) (hp : p < fs[f].code.length) (h : d.status = 0) (hl : lastF d = d.frames[n]) (h1 : d.frames[n].fn = f) (h2 : d.frames[n].pc = p) :
    seeD fs d = (seenAt fs[f].code[p].1 fs[f].code[p].2 d.frames[n].stack).map fun x => ⟨f, p, x.1, x.2⟩ := by
  unfold seeD
  rw [if_pos h, hl, h1, h2, insD_hit hf hp]
  rfl
theorem seen_none {op a : Int} {st : List Vl} (h1 : op ≠ 23) (h2 : ¬ (11 ≤ op ∧ op ≤ 14)) : seenAt op a st = none := by unfold seenAt; rw [if_neg h1, if_neg h2]
theorem seen_call {a : Nat} {st : List Vl} {v : Vl} (hv : topV st a = v) : seenAt 23 (a : Int) st = some (if v.k = 5 then (1, v.n) else (2, 0)) := by unfold seenAt; rw [if_pos rfl, Int.toNat_natCast, hv]
theorem seen_num {op a : Int} {st : List Vl} {v0 v1 : Vl} (ho : 11 ≤ op ∧ op ≤ 14) (h1 : topV st 0 = v1) (h0 : topV st 1 = v0) : seenAt op a st = some (if v1.k = 1 ∧ v0.k = 1 then (1, 0) else (2, 0)) := by
  unfold seenAt
  rw [if_neg (by omega), if_pos ho, h1, h0]
theorem lt_szO {w : World} {g : Nat} {o : Obj} (h : w.heap[g]? = some o) : g < w.heap.size := (Array.getElem?_eq_some_iff.1 h).1
theorem size103 (w : World) : (sizeOf (Tryz.prog.elem 103)).run Tryz.prog w = .ok 3 w := by kernel_rfl
theorem block_otherO {w : World} {k g i : Nat} {o : Obj} (h : w.heap[k]? = some o) (hne : k ≠ g) (v : Value) : (w.setCell ⟨g, i, none⟩ v).heap[k]? = some o := (Below.heap_setCell _ _ _ _ hne).trans h
theorem fb_at {w : World} {lo : Nat} {a : Option Addr} {fr : List Fr} (h : FB w lo a fr) {n : Nat} (hn : n < fr.length) : ∃ (b off : Nat) (la : Option Addr) (lc sb so : Nat), a = some ⟨b, off, none⟩ ∧ w.cell? ⟨b, off + n * 4, none⟩ = some (.int .i64 fr[n].fn) ∧ w.cell? ⟨b, off + n * 4 + 1, none⟩ = some (.int .i64 fr[n].pc) ∧ w.cell? ⟨b, off + n * 4 + 2, none⟩ = some (.slice la fr[n].locals.length lc) ∧ w.cell? ⟨b, off + n * 4 + 3, none⟩ = some (.slice (some ⟨sb, so, none⟩) fr[n].stack.length fr[n].stack.length) ∧ ValsAt w lo (some ⟨sb, so, none⟩) fr[n].stack := by
  obtain ⟨F, cur, h1, -, h3, -, h5⟩ := h
  obtain ⟨d0, d1, g, g2, d2, d3, -, d4⟩ := h5 n hn
  refine ⟨F, 0, some ⟨g, 0, none⟩, fr[n].locals.length, g2, 0, h1, ?_, ?_, ?_, ?_, d4.1⟩ <;> rw [block_cell h3, Nat.zero_add] <;> assumption
theorem val_at {w : World} {lo sb so : Nat} {vs : List Vl} (h : ValsAt w lo (some ⟨sb, so, none⟩) vs) {j : Nat} (hj : j < vs.length) : w.cell? ⟨sb, so + j * 3, none⟩ = some (.int .i64 vs[j].k) ∧ w.cell? ⟨sb, so + j * 3 + 1, none⟩ = some (.int .i64 vs[j].n) ∧ w.cell? ⟨sb, so + j * 3 + 2, none⟩ = some (.string vs[j].s) := by
  obtain ⟨b, off, e, -, h1, h2, h3⟩ := h j hj
  cases e
  exact ⟨h1, h2, h3⟩
theorem top_at {st : List Vl} {k j : Nat} (h : st.length = k + j + 1) : topV st j = st[k]'(by omega) := by
  unfold topV
  rw [List.getD_eq_getElem?_getD, show st.length - 1 - j = k by omega, List.getElem?_eq_getElem (by omega)]
  rfl

set_option maxRecDepth 100000 in
set_option maxHeartbeats 8000000 in
theorem iSight_any (a1 a2 fa ha oa : Option Addr) (nt c1 c2 fc hc oc : Nat) (ts : List ByteArray) (fs : List Fn) (d : VmD) (w : World) (hV : VmGood ts fs d) (hs : Small ts fs) (hx : VmSmall d) (hfn : FnsAt w 0 a2 fs) (hm : FB w 0 fa d.frames) :
    Calls Tryz.prog 75 #[.agg #[.slice a1 nt c1, .slice a2 fs.length c2], .agg (vmCells fa ha oa fc hc oc d)] w (SeePost fs d w) := by
  unfold vmCells
  obtain ⟨W, hW⟩ : ∃ W, W = ((w.alloc (.cells #[.slice a1 nt c1, .slice a2 fs.length c2] 40)).alloc (.cells #[.slice fa d.frames.length fc, .slice ha d.heap.length hc, .int .i64 d.made, .slice oa d.out.length oc, .int .i64 d.status, .int .i64 d.trap, .int .i64 d.value.k, .int .i64 d.value.n, .string d.value.s, .int .i64 d.steps] 47)).alloc (.cells #[.int .i64 0, .int .i64 0, .int .i64 0, .int .i64 0] 68) := ⟨_, rfl⟩
  have hbW : Below w.heap.size w W := by rw [hW]; exact (((Below.refl _ _).alloc (Nat.le_refl _) _).alloc (by simp) _).alloc (by simp; omega) _
  have hX : W.heap[w.heap.size]? = some (.cells #[.slice a1 nt c1, .slice a2 fs.length c2] 40 (0, 0)) := by rw [hW]; exact block_old (block_old (block_new _ _ _) _) _
  have hY : W.heap[w.heap.size + 1]? = some (.cells #[.slice fa d.frames.length fc, .slice ha d.heap.length hc, .int .i64 d.made, .slice oa d.out.length oc, .int .i64 d.status, .int .i64 d.trap, .int .i64 d.value.k, .int .i64 d.value.n, .string d.value.s, .int .i64 d.steps] 47 (0, 0)) := by rw [hW]; exact block_old (block_new_at _ _ _ _ (by simp)) _
  have hR : W.heap[w.heap.size + 1 + 1]? = some (.cells #[.int .i64 0, .int .i64 0, .int .i64 0, .int .i64 0] 68 (0, 0)) := by rw [hW]; exact block_new_at _ _ _ _ (by simp)
  have HB := hidz hbW
  have HX := hidz hX
  have HR := hidz hR
  by_cases h0 : d.status = 0
  case neg =>
    have HO : Hid (seeD fs d = none) := see_off h0
    have g0 : (d.status != 0) = true := by simpa using h0
    have y0 := block_cell hY
    have r0 := block_free hR
    have r1 := block_cell hR
    clear hbW hX hY hR h0 hV hfn hm hs hx
    go_enter Tryz.func75, Tryz.ntmps75
    go_upto_region 1 with fail
    rw [← hW]
    clear hW
    go_wp2
    have rr := block_cell (stored4 (x := .int .i64 0) (y := .int .i64 0) (z := .int .i64 0) (u := .int .i64 0) HR.out)
    refine bodyPost_ret (v := .tuple #[.agg #[.int .i64 0, .int .i64 0, .int .i64 0, .int .i64 0], .bool false]) (by simp [results, Tryz.results75, go_sem, rr]) rfl ⟨⟨0, 0, 0, 0, false, rfl, .inr ⟨HO.out, rfl⟩⟩, ?_⟩
    have q2 : w.heap.size ≤ w.heap.size + 1 + 1 := by omega
    exact (((HB.out.setCell (p := ⟨w.heap.size + 1 + 1, 0, none⟩) q2 _).setCell (p := ⟨w.heap.size + 1 + 1, 1, none⟩) q2 _).setCell (p := ⟨w.heap.size + 1 + 1, 2, none⟩) q2 _).setCell (p := ⟨w.heap.size + 1 + 1, 3, none⟩) q2 _
  obtain ⟨n, f, p, hn, hf, hp, hn1, hl, hfe, hpe, hcl, hnm, -⟩ := see_at hV h0
  have HSEE := hidz (see_on hn hf hp h0 hl hfe hpe)
  obtain ⟨b, off, la, lc, sb, so, rfl, e0, e1, e2, e3, hS⟩ := fb_at (hm.mono hbW) hn
  rw [hfe] at e0
  rw [hpe] at e1
  obtain ⟨b2, off2, ca, cc, rfl, -, -, -, f2, hcode⟩ := hfn f hf
  obtain ⟨b3, off3, rfl, -, d0, d1⟩ := hcode p hp
  have hcl2 := hs.code _ (List.getElem_mem hf)
  have hst6 : d.frames[n].stack.length ≤ 1048576 := (hx.stack _ (List.getElem_mem hn)).1
  obtain ⟨st, hst⟩ : ∃ st, st = d.frames[n].stack := ⟨_, rfl⟩
  rw [← hst] at e3 hS HSEE hcl hnm hst6
  obtain ⟨sl, hsl⟩ : ∃ sl, sl = st.length := ⟨_, rfl⟩
  rw [← hsl] at e3 hcl hnm hst6
  have HSL := hidz hsl
  obtain ⟨ll, hll⟩ : ∃ ll, ll = d.frames[n].locals.length := ⟨_, rfl⟩
  rw [← hll] at e2
  obtain ⟨op, hop⟩ : ∃ op, op = fs[f].code[p].1 := ⟨_, rfl⟩
  obtain ⟨ar, har⟩ : ∃ ar, ar = fs[f].code[p].2 := ⟨_, rfl⟩
  rw [← hop] at d0 HSEE hcl hnm
  rw [← har] at d1 HSEE hcl
  have hcll : p < fs[f].code.length := hp
  obtain ⟨cl, hcl3⟩ : ∃ cl, cl = fs[f].code.length := ⟨_, rfl⟩
  rw [← hcl3] at f2 hcl2 hcll
  have hfL : (f : Int) < (fs.length : Int) := by omega
  have hpL : (p : Int) < (cl : Int) := by omega
  have hf6 := hs.funcs
  have hn24 : n ≤ 1048576 := by have := hx.frames; omega
  have hnL : (n : Int) < ((n + 1 : Nat) : Int) := by omega
  have g0 : (d.status != 0) = false := by rw [h0]; rfl
  obtain ⟨W1, hW1⟩ : ∃ W1, W1 = W.alloc (.cells #[.int .i64 (f : Int), .int .i64 (p : Int), .slice la ll lc, .slice (some ⟨sb, so, none⟩) sl sl] 110) := ⟨_, rfl⟩
  have hb1 : Below W.heap.size W W1 := by rw [hW1]; exact (Below.refl _ _).alloc (Nat.le_refl _) _
  have hG : W1.heap[W.heap.size]? = some (.cells #[.int .i64 (f : Int), .int .i64 (p : Int), .slice la ll lc, .slice (some ⟨sb, so, none⟩) sl sl] 110 (0, 0)) := by rw [hW1]; exact block_new _ _ _
  have hX1 := block_kept hX hb1
  have hR1 := block_kept hR hb1
  have hB1 := hbW.trans (hb1.mono hbW.size)
  have hWz : w.heap.size + 1 + 1 < W.heap.size := lt_szO hR
  obtain ⟨G, hGe⟩ : ∃ G, G = W.heap.size := ⟨_, rfl⟩
  rw [← hGe] at hG hWz
  have HS : Hid (∀ w', Below W1.heap.size W1 w' → w'.cell? ⟨w.heap.size, 1, none⟩ = some (.slice (some ⟨b2, off2, none⟩) fs.length c2) ∧ w'.cell? ⟨G, 0, none⟩ = some (.int .i64 (f : Int)) ∧ w'.cell? ⟨G, 1, none⟩ = some (.int .i64 (p : Int)) ∧ w'.cell? ⟨b2, off2 + f * 3 + 2, none⟩ = some (.slice (some ⟨b3, off3, none⟩) cl cc) ∧ w'.cell? ⟨b3, off3 + p * 2, none⟩ = some (.int .i64 op) ∧ w'.cell? ⟨b3, off3 + p * 2 + 1, none⟩ = some (.int .i64 ar)) := fun w' q => ⟨by rw [block_cell (block_kept hX1 q)]; rfl, by rw [block_cell (block_kept hG q)]; rfl, by rw [block_cell (block_kept hG q)]; rfl, cell_later (hB1.trans (q.mono hB1.size)) f2, cell_later (hB1.trans (q.mono hB1.size)) d0, cell_later (hB1.trans (q.mono hB1.size)) d1⟩
  have HG := hidz hG
  have HR1 := hidz hR1
  have HB1 := hidz hB1
  have HST := hidz (hS.mono hb1)
  have HW1 := hidz hW1
  have HGE := hidz hGe
  have HWZ := hidz hWz
  have y0 := block_cell hY
  rw [hn1] at y0
  clear hX hY hR hbW hb1 hG hX1 hR1 hB1 hS hsl hW1 hGe hWz hV hm hfn hs hx hl hfe hpe f2 d0 d1 hcode hop har hcl3 hst hll
  obtain ⟨len, hlen⟩ : ∃ len, len = d.frames.length := ⟨_, rfl⟩
  rw [← hlen] at hW ⊢
  obtain rfl : len = n + 1 := hlen.trans hn1
  clear hlen hn1 hn hf hp h0
  go_enter Tryz.func75, Tryz.ntmps75
  go_upto_region 1 with fail
  rw [← hW]
  clear hW
  go_upto_region 4 with fail
  rw [← HGE.out, ← HW1.out]
  clear HW1 y0 e0 e1 e2 e3 g0 HX
  obtain ⟨j0, j1, j2, j3, j4, j5⟩ := HS.out W1 (Below.refl _ _)
  have q : Below W1.heap.size W1 W1.drew := (Below.refl _ _).drew
  go_cut [7] from 23 to 33 (fun s7 wx => ∃ g7, s7 = .pointer (some ⟨g7, 0, none⟩) ∧ wx.heap[g7]? = some (.cells #[.int .i64 op, .int .i64 ar] 152 (0, 0)) ∧ Below W1.heap.size W1 wx)
  case first =>
    go_region_held3 (fun w' => w'.cell? ⟨w.heap.size, 1, none⟩ = some (.slice (some ⟨b2, off2, none⟩) fs.length c2) ∧ w'.cell? ⟨G, 0, none⟩ = some (.int .i64 (f : Int)) ∧ w'.cell? ⟨G, 1, none⟩ = some (.int .i64 (p : Int)) ∧ w'.cell? ⟨b2, off2 + f * 3 + 2, none⟩ = some (.slice (some ⟨b3, off3, none⟩) cl cc) ∧ w'.cell? ⟨b3, off3 + p * 2, none⟩ = some (.int .i64 op) ∧ w'.cell? ⟨b3, off3 + p * 2 + 1, none⟩ = some (.int .i64 ar))
      (first
        | exact ⟨j0, j1, j2, j3, j4, j5⟩
        | exact HS.out _ q
        | exact HS.out _ (q.alloc q.size _)
        | exact HS.out _ (((q.alloc q.size _).setCell q.size _).setCell q.size _))
      (fail)
    all_goals
      go_wp2_with fail
      go_meet
      case rel =>
        first
          | exact ⟨_, rfl, block_new _ _ _, q.alloc q.size _⟩
          | exact ⟨_, rfl, stored2 (block_new _ _ _), ((q.alloc q.size _).setCell q.size _).setCell q.size _⟩
  case rest =>
    obtain ⟨wx, hwx⟩ : ∃ wx, wx = wc := ⟨_, rfl⟩
    subst hwx
    obtain ⟨g7, rfl, hG7, hq⟩ := hcut
    clear j0 j1 j2 j3 j4 j5 q
    have hq0 := hq
    obtain ⟨wy, hwy⟩ : ∃ wy, wy = wx.alloc (.cells #[.int .i64 (f : Int), .int .i64 (p : Int), .int .i64 2, .int .i64 0] 68) := ⟨_, rfl⟩
    obtain ⟨g8, hg8⟩ : ∃ g8, g8 = wx.heap.size := ⟨_, rfl⟩
    have hby : Below wx.heap.size wx wy := by rw [hwy]; exact (Below.refl _ _).alloc (Nat.le_refl _) _
    have h1y : Below W1.heap.size W1 wy := hq.trans (hby.mono hq.size)
    have hy8 : wy.heap[g8]? = some (.cells #[.int .i64 (f : Int), .int .i64 (p : Int), .int .i64 2, .int .i64 0] 68 (0, 0)) := by rw [hwy, hg8]; exact block_new _ _ _
    have gx := block_cell (block_kept HG.out hq)
    have gy := block_cell (block_kept HG.out h1y)
    have y7 := block_cell (block_kept hG7 hby)
    have y8 := block_cell hy8
    have f8 := block_free hy8
    have HY8 := hidz hy8
    have HYR := hidz (block_kept HR1.out h1y)
    have yr := block_cell HYR.out
    have fr := block_free HYR.out
    have HSY := hidz (HST.out.mono h1y)
    have HBY := hidz (HB1.out.trans (h1y.mono HB1.out.size))
    have HL8 : Hid (w.heap.size + 1 + 1 < g8) := by
      have h1 := HWZ.out
      have h2 := lt_szO HG.out
      have h3 := hq0.size
      show _ < _
      omega
    have HWY := hidz hwy
    have HG8 := hidz hg8
    clear hG7 hq hq0 hby h1y hy8 hwy hg8
    go_upto_region 7 with fail
    rw [← HG8.out, ← HWY.out]
    clear HWY gx
    by_cases h1 : 11 ≤ op ∧ op ≤ 14
    · obtain ⟨k, rfl⟩ := hnm h1
      have hl2 : st.length = k + 1 + 1 := HSL.out.symm
      obtain ⟨v0, hv0⟩ : ∃ v, v = st[k]'(by omega) := ⟨_, rfl⟩
      obtain ⟨v1, hv1⟩ : ∃ v, v = st[k + 1]'(by omega) := ⟨_, rfl⟩
      obtain ⟨c0, -, -⟩ := val_at HSY.out (j := k) (by omega)
      obtain ⟨c1, -, -⟩ := val_at HSY.out (j := k + 1) (by omega)
      have ht0 : topV st 1 = v0 := (top_at (k := k) (j := 1) (by omega)).trans hv0.symm
      have ht1 : topV st 0 = v1 := (top_at (k := k + 1) (j := 0) (by omega)).trans hv1.symm
      have hsee : seeD fs d = some ⟨f, p, if v1.k = 1 ∧ v0.k = 1 then 1 else 2, 0⟩ := by
        rw [HSEE.out, seen_num h1 ht1 ht0]
        show some _ = some _
        by_cases q : v1.k = 1 ∧ v0.k = 1
        · rw [if_pos q, if_pos q]
        · rw [if_neg q, if_neg q]
      rw [← hv0] at c0
      rw [← hv1] at c1
      clear hv0 hv1 hl2 ht0 ht1 HSEE HSL hcl hnm HSY
      have hsl : ∀ w' : World, (Instr.slice 103 (.slice (some ⟨sb, so, none⟩) (k + 2) (k + 2)) (some (.int .i64 (k : Int))) none none).run Tryz.prog w' = .ok (.slice (some ⟨sb, so + k * 3, none⟩) 2 2) w' := by
        intro w'
        rw [run_slice_l w' 103 (some ⟨sb, so, none⟩) (k + 2) (k + 2) (by kernel_rfl) .i64 k (by omega) (by omega), size103 w']
        have e1 : k + 2 - k = 2 := by omega
        have e2 : ¬ k + 2 = k := by omega
        simp only [Result.andThen, sliced, Int.toNat_natCast, e1, if_neg e2, Option.map_some, Go.WideShapes.add_plain]
      obtain ⟨so2, hso2⟩ : ∃ so2, so2 = so + k * 3 := ⟨_, rfl⟩
      rw [← hso2] at c0
      rw [show so + (k + 1) * 3 = so2 + 3 by omega] at c1
      rw [← hso2] at hsl
      clear hso2
      have z0 : (0 : Int) ≤ (k : Int) := by omega
      have z1 : (k : Int) ≤ ((k + 2 : Nat) : Int) := by omega
      go_wp2_with fail
      refine (numberOp_yes h1 wy).mono ?_
      rintro e we ⟨rfl, hwe⟩
      rw [hwe]
      clear hwe we
      by_cases q0 : v0.k = 1
      · have e0 : (v0.k == 1) = true := by simpa using q0
        by_cases q1 : v1.k = 1
        · have e1 : (v1.k == 1) = true := by simpa using q1
          have HO : Hid (seeD fs d = some ⟨f, p, 1, 0⟩) := by show _ = _; rw [hsee, if_pos ⟨q1, q0⟩]
          clear hsee
          clear q0 q1
          obtain ⟨wz, hwz⟩ : ∃ wz, wz = (wy.setCell ⟨g8, 2, none⟩ (.int .i64 1)) := ⟨_, rfl⟩
          have q8 : w.heap.size ≤ g8 := by have := HL8.out; omega
          have hz8 : wz.heap[g8]? = some (.cells #[.int .i64 (f : Int), .int .i64 (p : Int), .int .i64 1, .int .i64 0] 68 (0, 0)) := by rw [hwz]; exact (block_set (i := 2) HY8.out (.int .i64 1))
          have hzR : wz.heap[w.heap.size + 1 + 1]? = some (.cells #[.int .i64 0, .int .i64 0, .int .i64 0, .int .i64 0] 68 (0, 0)) := by rw [hwz]; exact (block_otherO HYR.out (Nat.ne_of_lt HL8.out) _)
          have HBZ : Hid (Below w.heap.size w wz) := by rw [hwz]; exact (HBY.out.setCell (p := ⟨g8, 2, none⟩) q8 _)
          have z8 := block_cell hz8
          have zr := block_cell hzR
          have zf := block_free hzR
          have HRZ := hidz hzR
          clear hz8 hzR q8
          go_upto_region 15 with fail
          rw [← hwz]
          clear hwz
          go_wp2
          have rr := block_cell (stored4 (x := .int .i64 (f : Int)) (y := .int .i64 (p : Int)) (z := .int .i64 1) (u := .int .i64 0) HRZ.out)
          refine bodyPost_ret (v := .tuple #[.agg #[.int .i64 (f : Int), .int .i64 (p : Int), .int .i64 1, .int .i64 0], .bool true]) (by simp [results, Tryz.results75, go_sem, rr]) rfl ⟨⟨_, _, _, _, true, rfl, .inl ⟨HO.out, rfl⟩⟩, ?_⟩
          have q2 : w.heap.size ≤ w.heap.size + 1 + 1 := by omega
          exact (((HBZ.out.setCell (p := ⟨w.heap.size + 1 + 1, 0, none⟩) q2 _).setCell (p := ⟨w.heap.size + 1 + 1, 1, none⟩) q2 _).setCell (p := ⟨w.heap.size + 1 + 1, 2, none⟩) q2 _).setCell (p := ⟨w.heap.size + 1 + 1, 3, none⟩) q2 _
        · have e1 : (v1.k == 1) = false := by simpa using q1
          have HO : Hid (seeD fs d = some ⟨f, p, 2, 0⟩) := by show _ = _; rw [hsee, if_neg (fun q => q1 q.1)]
          clear hsee
          clear q0 q1
          have HRZ := hidz HYR.out
          have HBZ := hidz HBY.out
          go_wp2
          have rr := block_cell (stored4 (x := .int .i64 (f : Int)) (y := .int .i64 (p : Int)) (z := .int .i64 2) (u := .int .i64 0) HRZ.out)
          refine bodyPost_ret (v := .tuple #[.agg #[.int .i64 (f : Int), .int .i64 (p : Int), .int .i64 2, .int .i64 0], .bool true]) (by simp [results, Tryz.results75, go_sem, rr]) rfl ⟨⟨_, _, _, _, true, rfl, .inl ⟨HO.out, rfl⟩⟩, ?_⟩
          have q2 : w.heap.size ≤ w.heap.size + 1 + 1 := by omega
          exact (((HBZ.out.setCell (p := ⟨w.heap.size + 1 + 1, 0, none⟩) q2 _).setCell (p := ⟨w.heap.size + 1 + 1, 1, none⟩) q2 _).setCell (p := ⟨w.heap.size + 1 + 1, 2, none⟩) q2 _).setCell (p := ⟨w.heap.size + 1 + 1, 3, none⟩) q2 _
      · have e0 : (v0.k == 1) = false := by simpa using q0
        have HO : Hid (seeD fs d = some ⟨f, p, 2, 0⟩) := by show _ = _; rw [hsee, if_neg (fun q => q0 q.2)]
        clear hsee
        clear q0
        have HRZ := hidz HYR.out
        have HBZ := hidz HBY.out
        go_wp2
        have rr := block_cell (stored4 (x := .int .i64 (f : Int)) (y := .int .i64 (p : Int)) (z := .int .i64 2) (u := .int .i64 0) HRZ.out)
        refine bodyPost_ret (v := .tuple #[.agg #[.int .i64 (f : Int), .int .i64 (p : Int), .int .i64 2, .int .i64 0], .bool true]) (by simp [results, Tryz.results75, go_sem, rr]) rfl ⟨⟨_, _, _, _, true, rfl, .inl ⟨HO.out, rfl⟩⟩, ?_⟩
        have q2 : w.heap.size ≤ w.heap.size + 1 + 1 := by omega
        exact (((HBZ.out.setCell (p := ⟨w.heap.size + 1 + 1, 0, none⟩) q2 _).setCell (p := ⟨w.heap.size + 1 + 1, 1, none⟩) q2 _).setCell (p := ⟨w.heap.size + 1 + 1, 2, none⟩) q2 _).setCell (p := ⟨w.heap.size + 1 + 1, 3, none⟩) q2 _
    · go_wp2_with fail
      refine (numberOp_no h1 wy).mono ?_
      rintro e we ⟨rfl, hwe⟩
      rw [hwe]
      clear hwe we
      by_cases h2 : op = 23
      · obtain ⟨a, k, rfl, ha6, rfl⟩ := hcl h2
        have hl2 : st.length = k + a + 1 := HSL.out.symm
        obtain ⟨v, hv⟩ : ∃ v, v = st[k]'(by omega) := ⟨_, rfl⟩
        obtain ⟨c0, c1, c2⟩ := val_at HSY.out (j := k) (by omega)
        have ht : topV st a = v := (top_at (k := k) (j := a) (by omega)).trans hv.symm
        have hsee : seeD fs d = some ⟨f, p, if v.k = 5 then 1 else 2, if v.k = 5 then v.n else 0⟩ := by
          rw [HSEE.out, h2, seen_call ht]
          show some _ = some _
          by_cases q : v.k = 5
          · rw [if_pos q, if_pos q, if_pos q]
          · rw [if_neg q, if_neg q, if_neg q]
        rw [← hv] at c0 c1 c2
        clear hv hl2 ht HSEE HSL hcl hnm HSY
        subst h2
        have z0 : (0 : Int) ≤ (k : Int) := by omega
        have z1 : (k : Int) < ((k + a + 1 : Nat) : Int) := by omega
        have z2 : (k : Int) < (k : Int) + (a : Int) + 1 := by omega
        obtain ⟨wv, hwv⟩ : ∃ wv, wv = wy.alloc (.cells #[.int .i64 v.k, .int .i64 v.n, .string v.s] 45) := ⟨_, rfl⟩
        have hbv : Below wy.heap.size wy wv := by rw [hwv]; exact (Below.refl _ _).alloc (Nat.le_refl _) _
        have hvv : wv.heap[wy.heap.size]? = some (.cells #[.int .i64 v.k, .int .i64 v.n, .string v.s] 45 (0, 0)) := by rw [hwv]; exact block_new _ _ _
        have hv8 := block_kept HY8.out hbv
        have hvR := block_kept HYR.out hbv
        have hvB := HBY.out.trans (hbv.mono HBY.out.size)
        have x8 := block_cell hv8
        have xf := block_free hv8
        have xv := block_cell hvv
        have xr := block_cell hvR
        have xg := block_free hvR
        go_upto_region 13 with fail
        rw [← hwv]
        obtain ⟨g10, hg10⟩ : ∃ g10, g10 = wy.heap.size := ⟨_, rfl⟩
        rw [← hg10] at xv ⊢
        clear hwv hg10 c0 c1 c2 y7 y8 gy f8 yr fr z0 z1 z2
        by_cases q5 : v.k = 5
        · have e5 : (v.k == 5) = true := by simpa using q5
          have HO : Hid (seeD fs d = some ⟨f, p, 1, v.n⟩) := by show _ = _; rw [hsee, if_pos q5, if_pos q5]
          clear hsee
          clear q5
          go_upto_region 14 with fail
          go_region
          obtain ⟨wz, hwz⟩ : ∃ wz, wz = ((wv.setCell ⟨g8, 2, none⟩ (.int .i64 1)).setCell ⟨g8, 3, none⟩ (.int .i64 v.n)).drew := ⟨_, rfl⟩
          have q8 : w.heap.size ≤ g8 := by have := HL8.out; omega
          have hz8 : wz.heap[g8]? = some (.cells #[.int .i64 (f : Int), .int .i64 (p : Int), .int .i64 1, .int .i64 v.n] 68 (0, 0)) := by rw [hwz]; exact block_kept ((block_set (i := 3) (block_set (i := 2) hv8 (.int .i64 1)) (.int .i64 v.n))) (Below.refl _ _).drew
          have hzR : wz.heap[w.heap.size + 1 + 1]? = some (.cells #[.int .i64 0, .int .i64 0, .int .i64 0, .int .i64 0] 68 (0, 0)) := by rw [hwz]; exact block_kept ((block_otherO (block_otherO hvR (Nat.ne_of_lt HL8.out) _) (Nat.ne_of_lt HL8.out) _)) (Below.refl _ _).drew
          have HBZ : Hid (Below w.heap.size w wz) := by rw [hwz]; exact (((hvB.setCell (p := ⟨g8, 2, none⟩) q8 _).setCell (p := ⟨g8, 3, none⟩) q8 _)).drew
          have z8 := block_cell hz8
          have zr := block_cell hzR
          have zf := block_free hzR
          have HRZ := hidz hzR
          clear hz8 hzR q8
          rw [← hwz]
          clear hwz
          go_wp2
          have rr := block_cell (stored4 (x := .int .i64 (f : Int)) (y := .int .i64 (p : Int)) (z := .int .i64 1) (u := .int .i64 v.n) HRZ.out)
          refine bodyPost_ret (v := .tuple #[.agg #[.int .i64 (f : Int), .int .i64 (p : Int), .int .i64 1, .int .i64 v.n], .bool true]) (by simp [results, Tryz.results75, go_sem, rr]) rfl ⟨⟨_, _, _, _, true, rfl, .inl ⟨HO.out, rfl⟩⟩, ?_⟩
          have q2 : w.heap.size ≤ w.heap.size + 1 + 1 := by omega
          exact (((HBZ.out.setCell (p := ⟨w.heap.size + 1 + 1, 0, none⟩) q2 _).setCell (p := ⟨w.heap.size + 1 + 1, 1, none⟩) q2 _).setCell (p := ⟨w.heap.size + 1 + 1, 2, none⟩) q2 _).setCell (p := ⟨w.heap.size + 1 + 1, 3, none⟩) q2 _
        · have e5 : (v.k == 5) = false := by simpa using q5
          have HO : Hid (seeD fs d = some ⟨f, p, 2, 0⟩) := by show _ = _; rw [hsee, if_neg q5, if_neg q5]
          clear hsee
          clear q5
          have HRZ := hidz hvR
          have HBZ := hidz hvB
          go_wp2
          have rr := block_cell (stored4 (x := .int .i64 (f : Int)) (y := .int .i64 (p : Int)) (z := .int .i64 2) (u := .int .i64 0) HRZ.out)
          refine bodyPost_ret (v := .tuple #[.agg #[.int .i64 (f : Int), .int .i64 (p : Int), .int .i64 2, .int .i64 0], .bool true]) (by simp [results, Tryz.results75, go_sem, rr]) rfl ⟨⟨_, _, _, _, true, rfl, .inl ⟨HO.out, rfl⟩⟩, ?_⟩
          have q2 : w.heap.size ≤ w.heap.size + 1 + 1 := by omega
          exact (((HBZ.out.setCell (p := ⟨w.heap.size + 1 + 1, 0, none⟩) q2 _).setCell (p := ⟨w.heap.size + 1 + 1, 1, none⟩) q2 _).setCell (p := ⟨w.heap.size + 1 + 1, 2, none⟩) q2 _).setCell (p := ⟨w.heap.size + 1 + 1, 3, none⟩) q2 _
      · have k2 : (op == 23) = false := by simpa using h2
        have HO : Hid (seeD fs d = none) := by show _ = _; rw [HSEE.out, seen_none h2 h1]; rfl
        clear HSEE hcl hnm HSL
        go_wp2
        have rr := block_cell (stored4 (x := .int .i64 0) (y := .int .i64 0) (z := .int .i64 0) (u := .int .i64 0) HYR.out)
        refine bodyPost_ret (v := .tuple #[.agg #[.int .i64 0, .int .i64 0, .int .i64 0, .int .i64 0], .bool false]) (by simp [results, Tryz.results75, go_sem, rr]) rfl ⟨⟨0, 0, 0, 0, false, rfl, .inr ⟨HO.out, rfl⟩⟩, ?_⟩
        have q2 : w.heap.size ≤ w.heap.size + 1 + 1 := by omega
        exact (((HBY.out.setCell (p := ⟨w.heap.size + 1 + 1, 0, none⟩) q2 _).setCell (p := ⟨w.heap.size + 1 + 1, 1, none⟩) q2 _).setCell (p := ⟨w.heap.size + 1 + 1, 2, none⟩) q2 _).setCell (p := ⟨w.heap.size + 1 + 1, 3, none⟩) q2 _
end Go.Proofs.YtmmcockkbhnopaaGreat
