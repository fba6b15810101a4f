/-
What impl.VmOk returns.
What impl.exitOf returns.
The last frames of a state against those of an exit: impl.standsAlike, slices.EqualFunc.
-/
import Derived.Test.YtoimokjohmhnaaaGreatDoorHQV
import Derived.Test.YtoimokjohmhnaaaGreatDoorHQ3c
import Derived.Test.YtoimokjohmhnaaaGreatDoorHI
import Derived.Test.YtoimokjohmhnaaaGreatDoorHF9
import Derived.Test.YtoimokjohmhnaaaGreatDoorHJ
import Derived.Test.YtoimokjohmhnaaaGreatDoorHMV
set_option maxRecDepth 100000
namespace Go.Proofs.YtoimokjohmhnaaaGreatDoor
open Go.RowKit
def VmGood (ts : List ByteArray) (fs : List Fn) (d : VmD) : Prop := Good ts fs ∧ Room d ∧ Frames fs d ∧ Vals fs.length d
set_option maxHeartbeats 4000000 in
theorem iVmOk_any (a1 a2 : Option Addr) (c1 c2 : Nat) (ts : List ByteArray) (fs : List Fn) (fa ha oa : Option Addr) (fc hcp oc : Nat) (d : VmD) (w : World) (hs : Small ts fs) (hst : StrsAt w 0 a1 ts) (hfn : FnsAt w 0 a2 fs) (hx : VmSmall d) (hm : VmAt w 0 fa ha oa d) :
  Calls Tryz.prog 80 #[.agg #[.slice a1 ts.length c1, .slice a2 fs.length c2], .agg (vmCells fa ha oa fc hcp oc d)] w fun e w' => Says (VmGood ts fs d) e ∧ Below w.heap.size w w' := by
 have hbA : Below w.heap.size w ((w.alloc (.cells #[.slice a1 ts.length c1, .slice a2 fs.length c2] 35)).alloc (.cells (vmCells fa ha oa fc hcp oc d) 78)) := ((Below.refl _ _).alloc (Nat.le_refl _) _).alloc (by simp) _
 have hM0 := block_old (block_new w #[.slice a1 ts.length c1, .slice a2 fs.length c2] 35) (.cells (vmCells fa ha oa fc hcp oc d) 78)
 have hV0 := block_new_at (w.alloc (.cells #[.slice a1 ts.length c1, .slice a2 fs.length c2] 35)) (vmCells fa ha oa fc hcp oc d) 78 (w.heap.size + 1) (by simp)
 unfold vmCells at hbA hM0 hV0 ⊢
 go_enter Tryz.func80, Tryz.ntmps80
 go_wp2_with fail
 refine (iAll_any _ _ _ _ ts fs _ hs (hst.mono hbA) (hfn.mono hbA)).mono ?_
 rintro e w1 ⟨⟨v, c, f, a, ⟨vx, vn, vk, rfl⟩, rfl, hV, hG⟩, hb1⟩
 have hM1 := block_kept hM0 hb1
 have hV1 := block_kept hV0 hb1
 have hB1 := hbA.trans (hb1.mono hbA.size)
 have HG : Hid (c = 0 ↔ Good ts fs) := hV.good
 have HH : Hid (c = 0 → ∃ G, Value.slice vx vn vk = .slice (some ⟨G, 0, none⟩) fs.length fs.length ∧ Hs w1 ((w.alloc (.cells #[.slice a1 ts.length c1, .slice a2 fs.length c2] 35)).alloc (.cells #[.slice fa d.frames.length fc, .slice ha d.heap.length hcp, .int .i64 d.made, .slice oa d.out.length oc, .int .i64 d.status, .int .i64 d.trap, .int .i64 d.value.k, .int .i64 d.value.n, .string d.value.s, .int .i64 d.steps] 78)).heap.size G fs.length fs) := hG
 clear hM0 hV0 hb1 hbA hV hG
 by_cases hc : c = 0
 case neg =>
  have hc' : (c == 0) = false := by simpa using hc
  have HC : Hid (¬ c = 0) := hc
  clear hc
  go_wp2
  go_ret
  exact ⟨Says.no rfl (fun h => HC.out (HG.out.2 h.1)), hB1.alloc hB1.size _⟩
 subst hc
 obtain ⟨G, hvG, hHs⟩ := HH.out rfl
 cases hvG
 have hgood := HG.out.1 rfl
 have HGD : Hid (Good ts fs) := hgood
 have FF : ∀ k (hk : k < fs.length), Fine fs fs[k].code := fun k hk => fine_of (good_mod hgood) hk
 obtain ⟨w2, hw2⟩ : ∃ w2, w2 = w1.alloc (.cells #[.int .i64 0, .int .i64 f, .int .i64 a] 93) := ⟨_, rfl⟩
 have hb2 : Below w1.heap.size w1 w2 := by rw [hw2]; exact (Below.refl _ _).alloc (Nat.le_refl _) _
 have hB2 := hB1.trans (hb2.mono hB1.size)
 have hM2 := block_kept hM1 hb2
 have hV2 := block_kept hV1 hb2
 have hHs2 := hHs.mono hb2
 have v1 := block_cell (block_old hV1 (.cells #[.int .i64 0, .int .i64 f, .int .i64 a] 93))
 clear HG HH hgood hb2 hM1 hV1 hHs hB1
 go_wp2_with fail
 rw [← hw2]
 clear v1 hw2
 refine (roomOk_any fa ha oa fc hcp oc d _ hx (hm.mono hB2)).mono ?_
 rintro e w3 ⟨⟨q, rfl, hq⟩, hb3⟩
 have HQ : Hid (q = true ↔ Room1 d) := hq
 have hB3 := hB2.trans (hb3.mono hB2.size)
 have hM3 := block_kept hM2 hb3
 have hV3 := block_kept hV2 hb3
 have hHs3 := hHs2.mono hb3
 clear hq hb3 hM2 hV2 hHs2 hB2
 have HQn : Hid (q = false → ¬ Room1 d) := fun h hr => by rw [HQ.out.2 hr] at h; cases h
 have HQy : Hid (q = true → Room1 d) := HQ.out.1
 clear HQ
 cases hqc : q with
 | false =>
  have HN : Hid (¬ Room1 d) := HQn.out hqc
  clear hqc HQn HQy
  go_wp2
  go_ret
  exact ⟨Says.no rfl (fun h => HN.out (vm_parts.2 h.2).1), hB3⟩
 | true =>
  have HR : Hid (Room1 d) := HQy.out hqc
  clear hqc HQn HQy
  have m3 := block_cell hM3
  have v3 := block_cell hV3
  go_wp2_with fail
  refine (framesOk_any a1 a2 ts.length c1 c2 fs _ G fa ha oa fc hcp oc d _ hx (hm.mono hB3) (hfn.mono hB3) hHs3 FF).mono ?_
  rintro e w4 ⟨⟨q4, rfl, hq4⟩, hb4⟩
  have hB4 := hB3.trans (hb4.mono hB3.size)
  have hM4 := block_kept hM3 hb4
  have hV4 := block_kept hV3 hb4
  have HQn : Hid (q4 = false → ¬ Frames fs d) := fun h hr => by rw [hq4.2 hr] at h; cases h
  have HQy : Hid (q4 = true → Frames fs d) := hq4.1
  clear hq4 hb4 hM3 hV3 hHs3 hB3 m3 v3
  cases hqc : q4 with
  | false =>
   have HN : Hid (¬ Frames fs d) := HQn.out hqc
   clear hqc HQn HQy
   go_wp2
   go_ret
   exact ⟨Says.no rfl (fun h => HN.out h.2.2.1), hB4⟩
  | true =>
   have HF : Hid (Frames fs d) := HQy.out hqc
   clear hqc HQn HQy
   have m4 := block_cell hM4
   have v4 := block_cell hV4
   go_wp2_with fail
   refine (heapOk_any a1 a2 ts.length c1 fs.length c2 ha d.heap hcp _ hx.heap hx.fields (hm.recs.mono hB4)).mono ?_
   rintro e w5 ⟨rfl, hb5⟩
   have hB5 := hB4.trans (hb5.mono hB4.size)
   have hM5 := block_kept hM4 hb5
   have hV5 := block_kept hV4 hb5
   clear m4 v4 hB4 hM4 hV4 hb5
   by_cases hH : HeapP fs.length d.heap
   case neg =>
    rw [pB_no hH]
    have HN : Hid (¬ HeapP fs.length d.heap) := hH
    clear hH
    go_wp2
    go_ret
    exact ⟨Says.no rfl (fun h => HN.out (vm_parts.2 h.2).2.2.1), hB5⟩
   rw [pB_yes hH]
   have HH : Hid (HeapP fs.length d.heap) := hH
   clear hH
   have m5 := block_cell hM5
   have v5 := block_cell hV5
   go_wp2_with fail
   refine (valuesOk_any a1 a2 ts.length c1 fs.length c2 fa ha oa fc hcp oc d _ hx (hm.mono hB5)).mono ?_
   rintro e w6 ⟨⟨q5, rfl, hq5⟩, hb6⟩
   have HQ5 : Hid (q5 = true ↔ Vals1 fs.length d) := hq5
   clear hq5 m5 v5
   go_wp2
   go_ret
   exact ⟨⟨q5, rfl, ⟨fun h => ⟨HGD.out, vm_parts.1 ⟨HR.out, HF.out, HH.out, HQ5.out.1 h⟩⟩, fun h => HQ5.out.2 (vm_parts.2 h.2).2.2.2⟩⟩, hB5.trans (hb6.mono hB5.size)⟩
def exCells (fa ra : Option Addr) (fc rc : Nat) (x : Ex) : Array Value := #[.int .i64 x.kind, .int .i64 x.spec.f, .int .i64 x.spec.pc, .int .i64 x.spec.seen, .int .i64 x.spec.target, .slice fa x.frames.length fc, .slice ra x.recs.length rc]
def zeroX : Ex := ⟨0, zeroS, [], []⟩
theorem seven_set {w : World} {g : Nat} {a0 a1 a2 a3 a4 a5 a6 x0 x1 x2 x3 x4 x5 x6 : Value} {t : TypeId} (h : w.heap[g]? = some (.cells #[a0, a1, a2, a3, a4, a5, a6] t (0, 0))) :
  (((((((w.setCell ⟨g, 0, none⟩ x0).setCell ⟨g, 1, none⟩ x1).setCell ⟨g, 2, none⟩ x2).setCell ⟨g, 3, none⟩ x3).setCell ⟨g, 4, none⟩ x4).setCell ⟨g, 5, none⟩ x5).setCell ⟨g, 6, none⟩ x6).heap[g]? = some (.cells #[x0, x1, x2, x3, x4, x5, x6] t (0, 0)) := by
 simpa using block_set (i := 6) (block_set (i := 5) (block_set (i := 4) (block_set (i := 3) (block_set (i := 2) (block_set (i := 1) (block_set (i := 0) h x0) x1) x2) x3) x4) x5) x6
theorem seven_below {w w' : World} {n g : Nat} {x0 x1 x2 x3 x4 x5 x6 : Value} (h : Below n w w') (hg : n ≤ g) :
  Below n w (((((((w'.setCell ⟨g, 0, none⟩ x0).setCell ⟨g, 1, none⟩ x1).setCell ⟨g, 2, none⟩ x2).setCell ⟨g, 3, none⟩ x3).setCell ⟨g, 4, none⟩ x4).setCell ⟨g, 5, none⟩ x5).setCell ⟨g, 6, none⟩ x6) :=
 ((((((h.setCell hg _).setCell hg _).setCell hg _).setCell hg _).setCell hg _).setCell hg _).setCell hg _
def XPost (ts : List ByteArray) (fs : List Fn) (D : FastD) (x : Int) (w : World) (e : Ending) : Prop :=
 ∃ (b : Bool) (E : Ex) (fa ra : Option Addr) (fc rc : Nat), e = .returned (.tuple #[.agg (exCells fa ra fc rc E), .bool b]) ∧
  ((b = true ∧ FastP ts fs D ∧ ∃ (k : Nat) (h : k < D.exits.length), x = k ∧ E = D.exits[k] ∧ EFsAt w 0 fa E.frames ∧ ERsAt w 0 ra E.recs) ∨ (b = false ∧ ¬ (FastP ts fs D ∧ Reg x D.exits.length) ∧ E = zeroX))
set_option maxHeartbeats 4000000 in
theorem exitOf_any (a1 a2 oa ea : Option Addr) (c1 c2 oc ec : Nat) (ts : List ByteArray) (fs : List Fn) (D : FastD) (x : Int) (w : World) (hs : Small ts fs) (hd : FastSmall D) (hm : StrsAt w 0 a1 ts) (hm2 : FnsAt w 0 a2 fs) (hf : FastAt w 0 oa ea D) (hsh : ShAt w) (hDB : DB w) :
  Calls Tryz.prog 64 #[.agg #[.slice a1 ts.length c1, .slice a2 fs.length c2], .agg (fastCells oa ea oc ec D), .int .i64 x] w fun e w' => XPost ts fs D x w e ∧ Below w.heap.size w w' := by
 unfold fastCells
 obtain ⟨wA, hwA⟩ : ∃ wA, wA = ((w.alloc (.cells #[.slice a1 ts.length c1, .slice a2 fs.length c2] 35)).alloc (.cells #[.int .i64 D.fn, .int .i64 D.entry, .int .i64 D.vals, .int .i64 D.nums, .slice oa D.ops.length oc, .slice ea D.exits.length ec] 40)).alloc (.cells #[.int .i64 0, .int .i64 0, .int .i64 0, .int .i64 0, .int .i64 0, .slice none 0 0, .slice none 0 0] 123) := ⟨_, rfl⟩
 have hbA : Below w.heap.size w wA := by rw [hwA]; exact (((Below.refl _ _).alloc (Nat.le_refl _) _).alloc (by simp) _).alloc (by simp; omega) _
 have hM0 : wA.heap[w.heap.size]? = some (.cells #[.slice a1 ts.length c1, .slice a2 fs.length c2] 35 (0, 0)) := by rw [hwA]; exact block_old (block_old (block_new _ _ _) _) _
 have hF0 : wA.heap[w.heap.size + 1]? = some (.cells #[.int .i64 D.fn, .int .i64 D.entry, .int .i64 D.vals, .int .i64 D.nums, .slice oa D.ops.length oc, .slice ea D.exits.length ec] 40 (0, 0)) := by rw [hwA]; exact block_old (block_new_at _ _ _ _ (by simp)) _
 have hR0 : wA.heap[w.heap.size + 1 + 1]? = some (.cells #[.int .i64 0, .int .i64 0, .int .i64 0, .int .i64 0, .int .i64 0, .slice none 0 0, .slice none 0 0] 123 (0, 0)) := by rw [hwA]; exact block_new_at _ _ _ _ (by simp)
 have m0 := block_cell hM0
 have f0 := block_cell hF0
 have r0 := block_cell hR0
 have r1 := block_free hR0
 have HB : Hid (Below w.heap.size w wA) := hbA
 have g0 : (Value.agg #[.int .i64 0, .int .i64 0, .int .i64 0, .int .i64 0, .int .i64 0, .slice none 0 0, .slice none 0 0]) = .agg (exCells none none 0 0 zeroX) := rfl
 rw [hwA] at m0 f0 r0 r1
 by_cases hr : Reg x D.exits.length
 case neg =>
  have HN : Hid (¬ (FastP ts fs D ∧ Reg x D.exits.length)) := fun q => hr q.2
  have hp := pB_no hr
  clear hr
  go_enter Tryz.func64, Tryz.ntmps64
  go_wp2_with fail
  refine (hasExit_any _ _ _ _ _).mono ?_
  rintro e w1 ⟨rfl, hw⟩
  rw [hw, hp]
  clear hw w1 hp
  go_wp2
  refine bodyPost_ret (v := .tuple #[.agg #[.int .i64 0, .int .i64 0, .int .i64 0, .int .i64 0, .int .i64 0, .slice none 0 0, .slice none 0 0], .bool false]) (by simp [results, Tryz.results64, go_sem]) rfl ⟨⟨false, zeroX, none, none, 0, 0, rfl, .inr ⟨rfl, HN.out, rfl⟩⟩, ?_⟩
  rw [← hwA]
  exact HB.out
 obtain ⟨k, hxk⟩ : ∃ k : Nat, x = k := ⟨x.toNat, by have := hr.1; omega⟩
 subst hxk
 have hk : k < D.exits.length := by have := hr.2; omega
 have hp := pB_yes hr
 clear hr
 have zk : (k : Int) < (D.exits.length : Int) := by omega
 obtain ⟨be, oe, fa, fc, ra, rc, hea, -, e0, e1, e2, e3, e4, e5, e6, p0, p1⟩ := hf.exits k hk
 subst hea
 have HP0 : Hid (EFsAt w 0 fa D.exits[k].frames) := p0
 have HP1 : Hid (ERsAt w 0 ra D.exits[k].recs) := p1
 have hok := fun w' => iFastOk_any a1 a2 oa (some ⟨be, oe, none⟩) c1 c2 oc ec ts fs D w' hs hd
 unfold fastCells at hok
 have HOK : Hid (∀ w', Below w.heap.size w w' → Calls Tryz.prog 11 #[.agg #[.slice a1 ts.length c1, .slice a2 fs.length c2], .agg #[.int .i64 D.fn, .int .i64 D.entry, .int .i64 D.vals, .int .i64 D.nums, .slice oa D.ops.length oc, .slice (some ⟨be, oe, none⟩) D.exits.length ec]] w' fun e w'' => e = .returned (.bool (pB (FastP ts fs D))) ∧ Below w'.heap.size w' w'') := fun w' q => hok w' (hm.mono q) (hm2.mono q) (hf.mono q) (hsh.mono q) (hDB.mono q)
 clear hok p0 p1
 go_enter Tryz.func64, Tryz.ntmps64
 go_wp2_with fail
 refine (hasExit_any _ _ _ _ _).mono ?_
 rintro e w1 ⟨rfl, hw⟩
 rw [hw, hp]
 clear hw w1 hp
 go_wp2_with fail
 rw [← hwA]
 clear hwA m0 f0 r0 r1
 refine (HOK.out _ HB.out).mono ?_
 rintro e w2 ⟨rfl, hb⟩
 have hB2 := HB.out.trans (hb.mono HB.out.size)
 have hR2 := block_kept hR0 hb
 have hF2 := block_kept hF0 hb
 have r2 := block_cell hR2
 have r3 := block_free hR2
 have HB2 : Hid (Below w.heap.size w w2) := hB2
 by_cases hP : FastP ts fs D
 case neg =>
  rw [pB_no hP]
  have HN : Hid (¬ (FastP ts fs D ∧ Reg (k : Int) D.exits.length)) := fun q => hP q.1
  have rr := block_cell (seven_set (x0 := .int .i64 0) (x1 := .int .i64 0) (x2 := .int .i64 0) (x3 := .int .i64 0) (x4 := .int .i64 0) (x5 := .slice none 0 0) (x6 := .slice none 0 0) hR2)
  clear hP hb hB2 hF2 hM0 hF0 hR0
  go_wp2
  refine bodyPost_ret (v := .tuple #[.agg #[.int .i64 0, .int .i64 0, .int .i64 0, .int .i64 0, .int .i64 0, .slice none 0 0, .slice none 0 0], .bool false]) (by simp [results, Tryz.results64, go_sem, rr]) rfl ⟨⟨false, zeroX, none, none, 0, 0, rfl, .inr ⟨rfl, HN.out, rfl⟩⟩, ?_⟩
  exact seven_below HB2.out (by omega)
 rw [pB_yes hP]
 have HP : Hid (FastP ts fs D) := hP
 have f2 := block_cell hF2
 have E0 := cell_later hB2 e0
 have E1 := cell_later hB2 e1
 have E2 := cell_later hB2 e2
 have E3 := cell_later hB2 e3
 have E4 := cell_later hB2 e4
 have E5 := cell_later hB2 e5
 have E6 := cell_later hB2 e6
 have rr := block_cell (seven_set (x0 := .int .i64 D.exits[k].kind) (x1 := .int .i64 D.exits[k].spec.f) (x2 := .int .i64 D.exits[k].spec.pc) (x3 := .int .i64 D.exits[k].spec.seen) (x4 := .int .i64 D.exits[k].spec.target) (x5 := .slice fa D.exits[k].frames.length fc) (x6 := .slice ra D.exits[k].recs.length rc) hR2)
 clear hP hb hB2 hF2 hM0 hF0 hR0 e0 e1 e2 e3 e4 e5 e6
 go_wp2
 refine bodyPost_ret (v := .tuple #[.agg (exCells fa ra fc rc D.exits[k]), .bool true]) (by simp [exCells, results, Tryz.results64, go_sem, rr]) rfl ⟨⟨true, D.exits[k], fa, ra, fc, rc, rfl, .inl ⟨rfl, HP.out, k, hk, rfl, rfl, HP0.out, HP1.out⟩⟩, ?_⟩
 exact seven_below HB2.out (by omega)
def Stands (x : EF) (f : Fr) : Prop := x.fn = f.fn ∧ x.pc = f.pc
def SameAt (ef : List EF) (fr : List Fr) : Prop := ef.length = fr.length ∧ ∀ i (h : i < ef.length) (h2 : i < fr.length), Stands ef[i] fr[i]
def SameTo (ef : List EF) (fr : List Fr) (k : Nat) : Prop := ∀ i (h : i < ef.length) (h2 : i < fr.length), i < k → Stands ef[i] fr[i]
theorem SameTo.more {ef : List EF} {fr : List Fr} {k : Nat} (h : k < ef.length) (h2 : k < fr.length) : SameTo ef fr (k + 1) ↔ SameTo ef fr k ∧ Stands ef[k] fr[k] :=
 ⟨fun q => ⟨fun i a b c => q i a b (by omega), q k h h2 (by omega)⟩, fun q i a b c => by
  by_cases e : i = k
  · subst e; exact q.2
  · exact q.1 i a b (by omega)⟩
theorem FrsAt.drop {w : World} {b off n : Nat} {fr : List Fr} (h : FrsAt w 0 (some ⟨b, off, none⟩) fr) : FrsAt w 0 (some ⟨b, off + n * 4, none⟩) (fr.drop n) := by
 intro i hi
 have hi' : n + i < fr.length := by simp at hi; omega
 obtain ⟨b', off', la, lc, sa, sc, he, h0, h1, h2, h3, h4, h5, h6⟩ := h (n + i) hi'
 cases he
 have e : off + (n + i) * 4 = off + n * 4 + i * 4 := by omega
 rw [e] at h1 h2 h3 h4
 exact ⟨b, off + n * 4, la, lc, sa, sc, rfl, h0, by simpa using h1, by simpa using h2, by simpa using h3, by simpa using h4, by simpa using h5, by simpa using h6⟩
set_option maxHeartbeats 1000000 in
theorem stands_any (x : EF) (f : Fr) (a0 a1 b0 b1 : Option Addr) (n0 n1 m0 m1 c0 c1 d0 d1 : Nat) (w : World) :
  Calls Tryz.prog 82 #[.agg #[.int .i64 x.fn, .int .i64 x.pc, .slice a0 n0 c0, .slice a1 n1 c1], .agg #[.int .i64 f.fn, .int .i64 f.pc, .slice b0 m0 d0, .slice b1 m1 d1]] w fun e w' => e = .returned (.bool (pB (Stands x f))) ∧ Below w.heap.size w w' := by
 have hbA : Below w.heap.size w ((w.alloc (.cells #[.int .i64 x.fn, .int .i64 x.pc, .slice a0 n0 c0, .slice a1 n1 c1] 142)).alloc (.cells #[.int .i64 f.fn, .int .i64 f.pc, .slice b0 m0 d0, .slice b1 m1 d1] 131)) := ((Below.refl _ _).alloc (Nat.le_refl _) _).alloc (by simp) _
 by_cases h1 : x.fn = f.fn
 case neg =>
  have g1 : (x.fn == f.fn) = false := by simpa using h1
  have HN : Hid (¬ Stands x f) := fun q => h1 q.1
  clear h1
  go_enter Tryz.func82, Tryz.ntmps82
  go_wp2
  go_ret
  exact ⟨ret_bool (pB_no HN.out).symm, hbA⟩
 have g1 : (x.fn == f.fn) = true := by simpa using h1
 have H1 : Hid (x.fn = f.fn) := h1
 clear h1
 by_cases h2 : x.pc = f.pc
 case neg =>
  have g2 : (x.pc == f.pc) = false := by simpa using h2
  have HN : Hid (¬ Stands x f) := fun q => h2 q.2
  clear h2
  go_enter Tryz.func82, Tryz.ntmps82
  go_wp2
  go_ret
  exact ⟨ret_bool (pB_no HN.out).symm, hbA⟩
 have g2 : (x.pc == f.pc) = true := by simpa using h2
 have H2 : Hid (x.pc = f.pc) := h2
 clear h2
 go_enter Tryz.func82, Tryz.ntmps82
 go_wp2
 go_ret
 exact ⟨ret_bool (pB_yes ⟨H1.out, H2.out⟩).symm, hbA⟩
set_option maxHeartbeats 2000000 in
theorem equalF_any (fa va : Option Addr) (ef : List EF) (fr : List Fr) (fc vc : Nat) (w : World) (h1 : ef.length ≤ 1048576) (hm : EFsAt w 0 fa ef) (hv : FrsAt w 0 va fr) :
  Calls Tryz.prog 81 #[.slice fa ef.length fc, .slice va fr.length vc, .func (.func 82) #[] #[]] w fun e w' => e = .returned (.bool (pB (SameAt ef fr))) ∧ Below w.heap.size w w' := by
 by_cases hl : ef.length = fr.length
 case neg =>
  have g : ((ef.length : Int) != (fr.length : Int)) = true := by simp; omega
  have HN : Hid (¬ SameAt ef fr) := fun q => hl q.1
  clear hl
  go_enter Tryz.func81, Tryz.ntmps81
  go_wp2
  go_ret
  exact ⟨ret_bool (pB_no HN.out).symm, Below.refl _ _⟩
 have g : ((ef.length : Int) != (fr.length : Int)) = false := by simp; omega
 have HL : Hid (ef.length = fr.length) := hl
 clear hl
 go_enter Tryz.func81, Tryz.ntmps81
 go_wp2
 go_loopw [17] (fun i wr => ∃ (k : Nat), k ≤ ef.length ∧ i = .int .i64 k ∧ Hid (SameTo ef fr k) ∧ Below w.heap.size w wr) (fun i _ => ef.length - (intOf i).toNat)
 case atStart => exact ⟨0, by omega, rfl, fun _ _ _ h => absurd h (Nat.not_lt_zero _), Below.refl _ _⟩
 case round =>
  obtain ⟨k, hk, rfl, hall, hb⟩ := hrel
  by_cases hlt : k < ef.length
  case neg =>
   obtain rfl : k = ef.length := by omega
   have HF : Hid (SameAt ef fr) := ⟨HL.out, fun i a b => hall.out i a b a⟩
   go_wp2
   go_ret
   exact ⟨ret_bool (pB_yes HF.out).symm, hb⟩
  have hlt2 : k < fr.length := by rw [← HL.out]; exact hlt
  obtain ⟨b, off, la, lc, sa, sc, rfl, -, d1, d2, d3, d4, -, -⟩ := hm k hlt
  obtain ⟨b', off', la', lc', sa', sc', rfl, -, e1, e2, e3, e4, -, -⟩ := hv k hlt2
  have D1 := cell_later hb d1
  have D2 := cell_later hb d2
  have D3 := cell_later hb d3
  have D4 := cell_later hb d4
  have hx : Below wr.heap.size wr (wr.alloc (.cells #[.int .i64 ef[k].fn, .int .i64 ef[k].pc, .slice la ef[k].locals.length lc, .slice sa ef[k].stack.length sc] 142)) := (Below.refl _ _).alloc (Nat.le_refl _) _
  have E1 := cell_later hx (cell_later hb e1)
  have E2 := cell_later hx (cell_later hb e2)
  have E3 := cell_later hx (cell_later hb e3)
  have E4 := cell_later hx (cell_later hb e4)
  have X1 := block_cell (block_old (block_new wr #[.int .i64 ef[k].fn, .int .i64 ef[k].pc, .slice la ef[k].locals.length lc, .slice sa ef[k].stack.length sc] 142) (.cells #[.int .i64 fr[k].fn, .int .i64 fr[k].pc, .slice la' fr[k].locals.length lc', .slice sa' fr[k].stack.length sc'] 131))
  have z1 : (k : Int) < (ef.length : Int) := by omega
  have z2 : (k : Int) < (fr.length : Int) := by omega
  have hB2 := (hb.alloc hb.size (.cells #[.int .i64 ef[k].fn, .int .i64 ef[k].pc, .slice la ef[k].locals.length lc, .slice sa ef[k].stack.length sc] 142)).alloc (by have := hb.size; simp; omega) (.cells #[.int .i64 fr[k].fn, .int .i64 fr[k].pc, .slice la' fr[k].locals.length lc', .slice sa' fr[k].stack.length sc'] 131)
  clear d1 d2 d3 d4 e1 e2 e3 e4 hx
  go_wp2_with fail
  refine (stands_any ef[k] fr[k] _ _ _ _ _ _ _ _ _ _ _ _ _).mono ?_
  rintro e w1 ⟨rfl, hb1⟩
  have hB3 := hB2.trans (hb1.mono hB2.size)
  clear D1 D2 D3 D4 E1 E2 E3 E4 X1 hb1 hB2
  by_cases ho : Stands ef[k] fr[k]
  case neg =>
   rw [pB_no ho]
   have HN : Hid (¬ SameAt ef fr) := fun q => ho (q.2 k hlt hlt2)
   clear ho
   go_wp2
   go_ret
   exact ⟨ret_bool (pB_no HN.out).symm, hB3⟩
  rw [pB_yes ho]
  have HO : Hid (Stands ef[k] fr[k]) := ho
  clear ho
  go_wp2
  go_roundw
  case rel => exact ⟨k + 1, by omega, by go_num, (SameTo.more hlt hlt2).2 ⟨hall.out, HO.out⟩, hB3⟩
  case measure => simp [intOf]; omega
end Go.Proofs.YtoimokjohmhnaaaGreatDoor
