/-
  Values: the law on ValueOk, walked.
  What spec.VmOk returns.
  The law laws.FnExactVmOk, walked.
  Two values held against each other.
  Whether two lists of values, or of texts, are the same: slices.Equal and the document's l06Values.
  Whether two lists of texts are the same: slices.Equal.
-/
import Derived.Test.YtcfbahaokmhbkaaGreatKC14
import Derived.Test.YtcfbahaokmhbkaaGreatW2
import Derived.Test.YtcfbahaokmhbkaaGreatKC5
import Derived.Test.YtcfbahaokmhbkaaGreatQ4
import Derived.Test.YtcfbahaokmhbkaaGreatKC21
import Derived.Test.YtcfbahaokmhbkaaGreatKC22
import Derived.Laws.StructEq
import Derived.Test.YtcfbahaokmhbkaaGreatKC8
namespace Go.Proofs.YtcfbahaokmhbkaaGreat
open Go.RowKit

set_option maxHeartbeats 400000 in
theorem szModule_le (a a2 : Option Addr) (ts : List ByteArray) (fs : List Fn) (cap cap2 : Nat) (w : World) (hn : ts.length ≤ maxLen) (hc : ∀ s ∈ ts, s.size ≤ maxLen) (hm : StrsAt w 0 a ts)
    (hn2 : fs.length ≤ maxLen) (hc2 : ∀ f ∈ fs, f.code.length ≤ maxLen) (hm2 : FnsAt w 0 a2 fs) :
    Calls Tryz.prog 5 #[.agg #[.slice a ts.length cap, .slice a2 fs.length cap2], .int .i64 1048576] w fun e w' => ∃ r : Int, e = .returned (.int .i64 r) ∧ r ≤ 1048576 ∧ (0 ≤ r → Small ts fs) ∧ Below w.heap.size w w' := by
  go_enter Tryz.func5, Tryz.ntmps5
  go_wp2_with fail
  refine (szStringS_any a ts cap 1048576 _ (by omega) (by omega) hn hc (hm.mono ((Below.refl _ _).alloc (Nat.le_refl _) _))).mono ?_
  rintro e w1 ⟨r, rfl, hr, hs, hb⟩
  have hb1 : Below w.heap.size w w1 := ((Below.refl _ _).alloc (Nat.le_refl _) _).trans (hb.mono (by simp))
  obtain ⟨hx, hf⟩ : w1.cell? ⟨w.heap.size, 0, none⟩ = some (.slice a ts.length cap) ∧ w1.cell? ⟨w.heap.size, 1, none⟩ = some (.slice a2 fs.length cap2) := by
    constructor
    · exact cell_later hb (cell_new _ _ _ 0)
    · exact cell_later hb (cell_new _ _ _ 1)
  by_cases h0 : r < 0
  · go_wp2_with fail
    go_ret
    exact ⟨_, rfl, by omega, by omega, hb1⟩
  · go_wp2_with fail
    refine (szFuncS_any a2 fs cap2 r _ (by omega) (by omega) hn2 hc2 (hm2.mono hb1)).mono ?_
    rintro e w2 ⟨r2, rfl, hr2, hs2, hb2⟩
    have hb3 : Below w.heap.size w w2 := hb1.trans (hb2.mono hb1.size)
    by_cases h2 : r2 < 0
    · go_wp2_with fail
      go_ret
      exact ⟨_, rfl, by omega, by omega, hb3⟩
    · go_wp2_with fail
      go_ret
      exact ⟨_, rfl, by omega, fun _ => ⟨(hs (by omega)).1, (hs (by omega)).2, (hs2 (by omega)).1, (hs2 (by omega)).2⟩, hb3⟩

end Go.Proofs.YtcfbahaokmhbkaaGreat

namespace Go.Proofs.YtcfbahaokmhbkaaGreat
open Go.RowKit

set_option maxRecDepth 100000 in
set_option maxHeartbeats 1000000 in
theorem sGood_any (a1 a2 : Option Addr) (c1 c2 : Nat) (ts : List ByteArray) (fs : List Fn) (w : World) (hs : Small ts fs) (hst : StrsAt w 0 a1 ts) (hfn : FnsAt w 0 a2 fs) :
    Calls Tryz.prog 49 #[.agg #[.slice a1 ts.length c1, .slice a2 fs.length c2]] w fun e w' => Says (Good ts fs) e ∧ Below w.heap.size w w' := by
  have hbA : Below w.heap.size w (w.alloc (.cells #[.slice a1 ts.length c1, .slice a2 fs.length c2] 42)) := (Below.refl _ _).alloc (Nat.le_refl _) _
  go_enter Tryz.func49, Tryz.ntmps49
  go_wp2_with fail
  refine (sVerify_any _ _ _ _ ts fs _ hs (hst.mono hbA) (hfn.mono hbA)).mono ?_
  rintro e w1 ⟨c, f, a, rfl, hV, hb⟩
  have HG : Hid (c = 0 ↔ Good ts fs) := hV.good
  clear hV
  have hfld : (Instr.field 103 (.agg #[.int .i64 c, .int .i64 f, .int .i64 a]) 0).run Tryz.prog w1 = .ok (.int .i64 c) w1 := by kernel_rfl
  go_wp2
  go_ret
  refine ⟨⟨_, rfl, ?_⟩, hbA.trans (hb.mono hbA.size)⟩
  rw [← HG.out]
  simp

set_option maxRecDepth 100000 in
set_option maxHeartbeats 4000000 in
theorem sVmOk_any (a1 a2 : Option Addr) (c1 c2 : Nat) (ts : List ByteArray) (fs : List Fn) (fa ha oa : Option Addr) (fc hcp oc : Nat) (d : VmD) (w : World) (hs : Small ts fs) (hst : StrsAt w 0 a1 ts) (hfn : FnsAt w 0 a2 fs) (hx : VmSmall d) (hm : VmAt w 0 fa ha oa d) :
    Calls Tryz.prog 23 #[.agg #[.slice a1 ts.length c1, .slice a2 fs.length c2], .agg (vmCells fa ha oa fc hcp oc d)] w fun e w' => Says (VmGood ts fs d) e ∧ Below w.heap.size w w' := by
  have hbA : Below w.heap.size w ((w.alloc (.cells #[.slice a1 ts.length c1, .slice a2 fs.length c2] 42)).alloc (.cells (vmCells fa ha oa fc hcp oc d) 38)) := ((Below.refl _ _).alloc (Nat.le_refl _) _).alloc (by simp) _
  have hM0 := block_old (block_new w #[.slice a1 ts.length c1, .slice a2 fs.length c2] 42) (.cells (vmCells fa ha oa fc hcp oc d) 38)
  have hV0 := block_new_at (w.alloc (.cells #[.slice a1 ts.length c1, .slice a2 fs.length c2] 42)) (vmCells fa ha oa fc hcp oc d) 38 (w.heap.size + 1) (by simp)
  unfold vmCells at hbA hM0 hV0 ⊢
  go_enter Tryz.func23, Tryz.ntmps23
  go_wp2_with fail
  refine (sGood_any _ _ _ _ ts fs _ hs (hst.mono hbA) (hfn.mono hbA)).mono ?_
  rintro e w1 ⟨⟨q, rfl, hq⟩, hb1⟩
  have hM1 := block_kept hM0 hb1
  have hV1 := block_kept hV0 hb1
  have hB1 := hbA.trans (hb1.mono hbA.size)
  have HQn : Hid (q = false → ¬ Good ts fs) := fun h hr => by rw [hq.2 hr] at h; cases h
  have HQy : Hid (q = true → Good ts fs) := hq.1
  clear hq hM0 hV0 hb1 hbA
  cases hqc : q with
  | false =>
    have HN : Hid (¬ Good ts fs) := HQn.out hqc
    clear hqc HQn HQy
    go_wp2
    go_ret
    exact ⟨Says.no rfl (fun h => HN.out h.1), hB1⟩
  | true =>
    have hg := HQy.out hqc
    have HG : Hid (Good ts fs) := hg
    have FF : ∀ k (hk : k < fs.length), Fine fs fs[k].code := fun k hk => fine_of hg.ok hk
    clear hqc HQn HQy hg
    have m1 := block_cell hM1
    have v1 := block_cell hV1
    go_wp2_with fail
    refine (sVm_any a1 a2 ts.length c1 c2 fs fa ha oa fc hcp oc d _ hs.funcs hx (hm.mono hB1) (hfn.mono hB1) FF).mono ?_
    rintro e w2 ⟨⟨q2, rfl, hq2⟩, hb2⟩
    have HQ : Hid (q2 = true ↔ (Room d ∧ Frames fs d ∧ Vals fs.length d)) := hq2
    clear hq2 m1 v1
    go_wp2
    go_ret
    exact ⟨⟨q2, rfl, ⟨fun h => ⟨HG.out, HQ.out.1 h⟩, fun h => HQ.out.2 h.2⟩⟩, hB1.trans (hb2.mono hB1.size)⟩
end Go.Proofs.YtcfbahaokmhbkaaGreat
namespace Go.Proofs.YtcfbahaokmhbkaaGreat
open Go.RowKit

end Go.Proofs.YtcfbahaokmhbkaaGreat

namespace Go.Proofs.YtcfbahaokmhbkaaGreat
open Go.RowKit

theorem vl_eq {v u : Vl} : v = u ↔ v.k = u.k ∧ v.n = u.n ∧ v.s = u.s := by
  cases v; cases u; simp
theorem pB_and (P Q : Prop) : pB (P ∧ Q) = (pB P && pB Q) := by
  rw [Bool.eq_iff_iff]
  simp [pB]
theorem bytes_eq (a b : ByteArray) : (a.toList == b.toList) = pB (a = b) := by
  rw [Bool.eq_iff_iff]
  simp only [beq_iff_eq, pB, decide_eq_true_eq]
  rw [ByteArray.toList_eq, ByteArray.toList_eq]
  obtain ⟨⟨x⟩⟩ := a
  obtain ⟨⟨y⟩⟩ := b
  simp
theorem int_eq (a b : Int) : (a == b) = pB (a = b) := by
  rw [Bool.eq_iff_iff]
  simp [pB]

theorem guard36 : Tryz.prog.eqGuardType Tryz.prog.depth 36 = false := by kernel_rfl

set_option maxRecDepth 100000 in
theorem eqIn36 (v u : Vl) (W : World) : (Op.equalIn 10000 36 (.agg #[.int .i64 v.k, .int .i64 v.n, .string v.s]) (.agg #[.int .i64 u.k, .int .i64 u.n, .string u.s])).run Tryz.prog W = .ok (pB (v = u)) W := by
  have h : ∀ d : Nat, (Op.equalIn (d + 1 + 1) 36 (.agg #[.int .i64 v.k, .int .i64 v.n, .string v.s]) (.agg #[.int .i64 u.k, .int .i64 u.n, .string u.s])).run Tryz.prog W = .ok (pB (v = u)) W := fun d => by
    have ht : Tryz.prog.underlying 36 = some (.struct (Tryz.prog.fieldsOf 36)) := by kernel_rfl
    have hp : Tryz.prog.stoodInHeld 36 = false := by kernel_rfl
    have hf : (Tryz.prog.fieldsOf 36).toList.map (fun f => (f.name, f.type, f.offset)) = [("Kind", 3, 0), ("N", 3, 1), ("S", 9, 2)] := by kernel_rfl
    rw [run_equalIn_struct W (d + 1) 36 _ _ ht hp]
    have p0 : ∀ (a b : Int) (s : ByteArray) (W : World), (part 3 #[.int .i64 a, .int .i64 b, .string s] 0).run Tryz.prog W = .ok (.int .i64 a) W := fun _ _ _ _ => by kernel_rfl
    have p1 : ∀ (a b : Int) (s : ByteArray) (W : World), (part 3 #[.int .i64 a, .int .i64 b, .string s] 1).run Tryz.prog W = .ok (.int .i64 b) W := fun _ _ _ _ => by kernel_rfl
    have p2 : ∀ (a b : Int) (s : ByteArray) (W : World), (part 9 #[.int .i64 a, .int .i64 b, .string s] 2).run Tryz.prog W = .ok (.string s) W := fun _ _ _ _ => by kernel_rfl
    rcases hL : (Tryz.prog.fieldsOf 36).toList with _ | ⟨f1, _ | ⟨f2, _ | ⟨f3, _ | _⟩⟩⟩
    · rw [hL] at hf; simp at hf
    · rw [hL] at hf; simp at hf
    · rw [hL] at hf; simp at hf
    · rw [hL] at hf
      simp only [List.map_cons, List.map_nil, List.cons.injEq, Prod.mk.injEq, and_true] at hf
      obtain ⟨⟨n1, t1, o1⟩, ⟨n2, t2, o2⟩, n3, t3, o3⟩ := hf
      have e1 := run_equalIn_int (P := Tryz.prog) W d 3 .i64 .i64 v.k u.k Tryz.underlying3
      have e2 := run_equalIn_int (P := Tryz.prog) W d 3 .i64 .i64 v.n u.n Tryz.underlying3
      have e3 := run_equalIn_string (P := Tryz.prog) W d 9 v.s u.s Tryz.underlying9
      rw [int_eq] at e1 e2
      rw [bytes_eq] at e3
      have hb : pB (v = u) = (pB (v.k = u.k) && (pB (v.n = u.n) && pB (v.s = u.s))) := by
        rw [← pB_and, ← pB_and, show (v = u) = (v.k = u.k ∧ v.n = u.n ∧ v.s = u.s) from propext vl_eq]
      rw [hb]
      cases hk : pB (v.k = u.k) <;> cases hn : pB (v.n = u.n) <;> cases hs : pB (v.s = u.s) <;> rw [hk] at e1 <;> rw [hn] at e2 <;> rw [hs] at e3 <;>
        simp [Op.eqFields, n1, t1, o1, n2, t2, o2, n3, t3, o3, p0, p1, p2, e1, e2, e3]
    · rw [hL] at hf; simp at hf
  exact h 9998
end Go.Proofs.YtcfbahaokmhbkaaGreat

namespace Go.Proofs.YtcfbahaokmhbkaaGreat
open Go.RowKit

theorem take_eq {α : Type} {xs ys : List α} {k : Nat} (h1 : k < xs.length) (h2 : k < ys.length) (h : xs.take k = ys.take k) (e : xs[k] = ys[k]) : xs.take (k + 1) = ys.take (k + 1) := by
  rw [take_more h1, take_more h2, h, e]
theorem at_ne {α : Type} {xs ys : List α} {k : Nat} (h1 : k < xs.length) (h2 : k < ys.length) (e : xs[k] ≠ ys[k]) : xs ≠ ys := fun h => by
  subst h; exact e rfl
theorem len_ne {α : Type} {xs ys : List α} (h : xs.length ≠ ys.length) : xs ≠ ys := fun e => h (by rw [e])
theorem take_all {α : Type} {xs ys : List α} {k : Nat} (h1 : xs.length ≤ k) (h2 : ys.length ≤ k) (h : xs.take k = ys.take k) : xs = ys := by
  rwa [List.take_of_length_le h1, List.take_of_length_le h2] at h

set_option maxRecDepth 100000 in
set_option maxHeartbeats 1000000 in
theorem eqVals_any (a1 a2 : Option Addr) (vs us : List Vl) (c1 c2 : Nat) (w : World) (h1 : vs.length ≤ 1048576) (hm1 : ValsAt w 0 a1 vs) (hm2 : ValsAt w 0 a2 us) :
    Calls Tryz.prog 111 #[.slice a1 vs.length c1, .slice a2 us.length c2] w fun e w' => e = .returned (.bool (pB (vs = us))) ∧ Below w.heap.size w w' := by
  by_cases hl : vs.length = us.length
  · have HL := hid hl
    have hl' : ((vs.length : Nat) : Int) = ((us.length : Nat) : Int) := by omega
    go_enter Tryz.func111, Tryz.ntmps111
    go_wp2
    clear hl'
    go_loopw [13] (fun i wr => ∃ (k : Nat), k ≤ vs.length ∧ i = .int .i64 k ∧ Hid (vs.take k = us.take k) ∧ Below w.heap.size w wr) (fun i _ => vs.length - (intOf i).toNat)
    case atStart => exact ⟨0, by omega, rfl, rfl, Below.refl _ _⟩
    case round =>
      obtain ⟨k, hk, rfl, HT, hb⟩ := hrel
      by_cases hlt : k < vs.length
      · have hlt2 : k < us.length := by omega
        obtain ⟨b, off, rfl, -, d1, d2, d3⟩ := hm1 k hlt
        obtain ⟨b2, off2, rfl, -, g1, g2, g3⟩ := hm2 k hlt2
        have d1' := cell_later hb d1
        have d2' := cell_later hb d2
        have d3' := cell_later hb d3
        have g1' := cell_later hb g1
        have g2' := cell_later hb g2
        have g3' := cell_later hb g3
        have e36 := eqIn36 vs[k] us[k]
        have hg36 := guard36
        clear d1 d2 d3 g1 g2 g3 hl
        by_cases he : vs[k] = us[k]
        · have HE := hid he
          rw [pB_yes he] at e36
          clear he
          go_wp2
          go_quiet (fail)
          have hbq := below_drewN hb nq
          go_wp2
          go_roundw
          case rel => exact ⟨k + 1, by omega, by go_num, take_eq hlt hlt2 HT.out HE.out, hbq⟩
          case measure => simp [intOf]; omega
        · have HE := hid he
          rw [pB_no he] at e36
          clear he
          go_wp2
          go_quiet (fail)
          have hbq := below_drewN hb nq
          go_wp2
          go_ret
          exact ⟨by rw [pB_no (at_ne hlt hlt2 HE.out)]; rfl, hbq⟩
      · have hl2 : us.length ≤ k := by have := HL.out; omega
        clear hl
        go_wp2
        go_ret
        exact ⟨by rw [pB_yes (take_all (by omega) hl2 HT.out)]; rfl, hb⟩
  · have hl' : ¬ ((vs.length : Nat) : Int) = ((us.length : Nat) : Int) := by omega
    go_enter Tryz.func111, Tryz.ntmps111
    go_wp2
    go_ret
    exact ⟨by rw [pB_no (len_ne hl)]; rfl, Below.refl _ _⟩

set_option maxRecDepth 100000 in
set_option maxHeartbeats 1000000 in
theorem sVals_any (a1 a2 : Option Addr) (vs us : List Vl) (c1 c2 : Nat) (w : World) (h1 : vs.length ≤ 1048576) (hm1 : ValsAt w 0 a1 vs) (hm2 : ValsAt w 0 a2 us) :
    Calls Tryz.prog 110 #[.slice a1 vs.length c1, .slice a2 us.length c2] w fun e w' => e = .returned (.bool (pB (vs = us))) ∧ Below w.heap.size w w' := by
  by_cases hl : vs.length = us.length
  · have HL := hid hl
    have hl' : ((vs.length : Nat) : Int) = ((us.length : Nat) : Int) := by omega
    go_enter Tryz.func110, Tryz.ntmps110
    go_wp2
    clear hl'
    go_loopw [5] (fun i wr => ∃ (k : Nat), k ≤ vs.length ∧ i = .int .i64 k ∧ Hid (vs.take k = us.take k) ∧ Below w.heap.size w wr) (fun i _ => vs.length - (intOf i).toNat)
    case atStart => exact ⟨0, by omega, rfl, rfl, Below.refl _ _⟩
    case round =>
      obtain ⟨k, hk, rfl, HT, hb⟩ := hrel
      by_cases hlt : k < vs.length
      · have hlt2 : k < us.length := by omega
        obtain ⟨b, off, rfl, -, d1, d2, d3⟩ := hm1 k hlt
        obtain ⟨b2, off2, rfl, -, g1, g2, g3⟩ := hm2 k hlt2
        have d1' := cell_later hb d1
        have d2' := cell_later hb d2
        have d3' := cell_later hb d3
        have g1' := cell_later hb g1
        have g2' := cell_later hb g2
        have g3' := cell_later hb g3
        have e36 := eqIn36 vs[k] us[k]
        have hg36 := guard36
        clear d1 d2 d3 g1 g2 g3 hl
        by_cases he : vs[k] = us[k]
        · have HE := hid he
          rw [pB_yes he] at e36
          clear he
          go_wp2
          go_quiet (fail)
          have hbq := below_drewN hb nq
          go_wp2
          go_roundw
          case rel => exact ⟨k + 1, by omega, by go_num, take_eq hlt hlt2 HT.out HE.out, hbq⟩
          case measure => simp [intOf]; omega
        · have HE := hid he
          rw [pB_no he] at e36
          clear he
          go_wp2
          go_quiet (fail)
          have hbq := below_drewN hb nq
          go_wp2
          go_ret
          exact ⟨by rw [pB_no (at_ne hlt hlt2 HE.out)]; rfl, hbq⟩
      · have hl2 : us.length ≤ k := by have := HL.out; omega
        clear hl
        go_wp2
        go_ret
        exact ⟨by rw [pB_yes (take_all (by omega) hl2 HT.out)]; rfl, hb⟩
  · have hl' : ¬ ((vs.length : Nat) : Int) = ((us.length : Nat) : Int) := by omega
    go_enter Tryz.func110, Tryz.ntmps110
    go_wp2
    go_ret
    exact ⟨by rw [pB_no (len_ne hl)]; rfl, Below.refl _ _⟩
end Go.Proofs.YtcfbahaokmhbkaaGreat

namespace Go.Proofs.YtcfbahaokmhbkaaGreat
open Go.RowKit

set_option maxRecDepth 100000 in
set_option maxHeartbeats 1000000 in
theorem eqStrs_any (a1 a2 : Option Addr) (vs us : List ByteArray) (c1 c2 : Nat) (w : World) (h1 : vs.length ≤ 1048576) (hm1 : StrsAt w 0 a1 vs) (hm2 : StrsAt w 0 a2 us) :
    Calls Tryz.prog 78 #[.slice a1 vs.length c1, .slice a2 us.length c2] w fun e w' => e = .returned (.bool (pB (vs = us))) ∧ Below w.heap.size w w' := by
  by_cases hl : vs.length = us.length
  · have HL := hid hl
    have hl' : ((vs.length : Nat) : Int) = ((us.length : Nat) : Int) := by omega
    go_enter Tryz.func78, Tryz.ntmps78
    go_wp2
    clear hl'
    go_loopw [13] (fun i wr => ∃ (k : Nat), k ≤ vs.length ∧ i = .int .i64 k ∧ Hid (vs.take k = us.take k) ∧ Below w.heap.size w wr) (fun i _ => vs.length - (intOf i).toNat)
    case atStart => exact ⟨0, by omega, rfl, rfl, Below.refl _ _⟩
    case round =>
      obtain ⟨k, hk, rfl, HT, hb⟩ := hrel
      by_cases hlt : k < vs.length
      · have hlt2 : k < us.length := by omega
        obtain ⟨b, off, rfl, -, d1⟩ := hm1 k hlt
        obtain ⟨b2, off2, rfl, -, g1⟩ := hm2 k hlt2
        have d1' := cell_later hb d1
        have g1' := cell_later hb g1
        clear d1 g1 hl
        by_cases he : vs[k] = us[k]
        · have HE := hid he
          have hq : (vs[k].toList == us[k].toList) = true := by rw [bytes_eq, pB_yes he]
          clear he
          go_wp2
          go_quiet (fail)
          have hbq := below_drewN hb nq
          go_wp2
          go_roundw
          case rel => exact ⟨k + 1, by omega, by go_num, take_eq hlt hlt2 HT.out HE.out, hbq⟩
          case measure => simp [intOf]; omega
        · have HE := hid he
          have hq : (vs[k].toList == us[k].toList) = false := by rw [bytes_eq, pB_no he]
          clear he
          go_wp2
          go_quiet (fail)
          have hbq := below_drewN hb nq
          go_wp2
          go_ret
          exact ⟨by rw [pB_no (at_ne hlt hlt2 HE.out)]; rfl, hbq⟩
      · have hl2 : us.length ≤ k := by have := HL.out; omega
        clear hl
        go_wp2
        go_ret
        exact ⟨by rw [pB_yes (take_all (by omega) hl2 HT.out)]; rfl, hb⟩
  · have hl' : ¬ ((vs.length : Nat) : Int) = ((us.length : Nat) : Int) := by omega
    go_enter Tryz.func78, Tryz.ntmps78
    go_wp2
    go_ret
    exact ⟨by rw [pB_no (len_ne hl)]; rfl, Below.refl _ _⟩
end Go.Proofs.YtcfbahaokmhbkaaGreat
