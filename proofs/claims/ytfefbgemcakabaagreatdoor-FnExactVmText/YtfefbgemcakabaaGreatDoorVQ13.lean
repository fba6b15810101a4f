/-
  Values: the law on ValueOk, walked.
  What spec.VmOk returns.
  The law laws.FnExactVmOk, walked.
  A drawn region whose operations read, and whose callees may make new memory besides, is walked once, in the order of the text.
  What the document's VmText gives.
-/
import Derived.Test.YtfefbgemcakabaaGreatDoorVQ5
import Derived.Test.YtfefbgemcakabaaGreatDoorW2
import Derived.Test.YtfefbgemcakabaaGreatDoorW3
import Derived.Test.YtfefbgemcakabaaGreatDoorQ4
import Derived.Test.YtfefbgemcakabaaGreatDoorQ3d
import Derived.Test.YtfefbgemcakabaaGreatDoorV15
import Derived.Test.YtfefbgemcakabaaGreatDoorM1
import Derived.Test.YtfefbgemcakabaaGreatDoorM5
import Derived.Test.YtfefbgemcakabaaGreatDoorVQ1
import Derived.Deep.Quiet
import Derived.Test.YtfefbgemcakabaaGreatDoorTX5
namespace Go.Proofs.YtfefbgemcakabaaGreatDoor
open Go.RowKit

set_option maxHeartbeats 400000 in
theorem szModule_le (a a2 : Option Addr) (ts : List ByteArray) (fs : List Fn) (cap cap2 : Nat) (w : World) (hn : ts.length ≤ maxLen) (hc : ∀ s ∈ ts, s.size ≤ maxLen) (hm : StrsAt w 0 a ts)
    (hn2 : fs.length ≤ maxLen) (hc2 : ∀ f ∈ fs, f.code.length ≤ maxLen) (hm2 : FnsAt w 0 a2 fs) :
    Calls Tryz.prog 4 #[.agg #[.slice a ts.length cap, .slice a2 fs.length cap2], .int .i64 1048576] w fun e w' => ∃ r : Int, e = .returned (.int .i64 r) ∧ r ≤ 1048576 ∧ (0 ≤ r → Small ts fs) ∧ Below w.heap.size w w' := by
  go_enter Tryz.func4, Tryz.ntmps4
  go_wp2_with fail
  refine (szStringS_any a ts cap 1048576 _ (by omega) (by omega) hn hc (hm.mono ((Below.refl _ _).alloc (Nat.le_refl _) _))).mono ?_
  rintro e w1 ⟨r, rfl, hr, hs, hb⟩
  have hb1 : Below w.heap.size w w1 := ((Below.refl _ _).alloc (Nat.le_refl _) _).trans (hb.mono (by simp))
  obtain ⟨hx, hf⟩ : w1.cell? ⟨w.heap.size, 0, none⟩ = some (.slice a ts.length cap) ∧ w1.cell? ⟨w.heap.size, 1, none⟩ = some (.slice a2 fs.length cap2) := by
    constructor
    · exact cell_later hb (cell_new _ _ _ 0)
    · exact cell_later hb (cell_new _ _ _ 1)
  by_cases h0 : r < 0
  · go_wp2_with fail
    go_ret
    exact ⟨_, rfl, by omega, by omega, hb1⟩
  · go_wp2_with fail
    refine (szFuncS_any a2 fs cap2 r _ (by omega) (by omega) hn2 hc2 (hm2.mono hb1)).mono ?_
    rintro e w2 ⟨r2, rfl, hr2, hs2, hb2⟩
    have hb3 : Below w.heap.size w w2 := hb1.trans (hb2.mono hb1.size)
    by_cases h2 : r2 < 0
    · go_wp2_with fail
      go_ret
      exact ⟨_, rfl, by omega, by omega, hb3⟩
    · go_wp2_with fail
      go_ret
      exact ⟨_, rfl, by omega, fun _ => ⟨(hs (by omega)).1, (hs (by omega)).2, (hs2 (by omega)).1, (hs2 (by omega)).2⟩, hb3⟩

end Go.Proofs.YtfefbgemcakabaaGreatDoor

namespace Go.Proofs.YtfefbgemcakabaaGreatDoor
open Go.RowKit

set_option maxRecDepth 100000 in
set_option maxHeartbeats 1000000 in
theorem sGood_any (a1 a2 : Option Addr) (c1 c2 : Nat) (ts : List ByteArray) (fs : List Fn) (w : World) (hs : Small ts fs) (hst : StrsAt w 0 a1 ts) (hfn : FnsAt w 0 a2 fs) :
    Calls Tryz.prog 38 #[.agg #[.slice a1 ts.length c1, .slice a2 fs.length c2]] w fun e w' => Says (Good ts fs) e ∧ Below w.heap.size w w' := by
  have hbA : Below w.heap.size w (w.alloc (.cells #[.slice a1 ts.length c1, .slice a2 fs.length c2] 37)) := (Below.refl _ _).alloc (Nat.le_refl _) _
  go_enter Tryz.func38, Tryz.ntmps38
  go_wp2_with fail
  refine (sVerify_any _ _ _ _ ts fs _ hs (hst.mono hbA) (hfn.mono hbA)).mono ?_
  rintro e w1 ⟨c, f, a, rfl, hV, hb⟩
  have HG : Hid (c = 0 ↔ Good ts fs) := hV.good
  clear hV
  have hfld : (Instr.field 97 (.agg #[.int .i64 c, .int .i64 f, .int .i64 a]) 0).run Tryz.prog w1 = .ok (.int .i64 c) w1 := by kernel_rfl
  go_wp2
  go_ret
  refine ⟨⟨_, rfl, ?_⟩, hbA.trans (hb.mono hbA.size)⟩
  rw [← HG.out]
  simp

set_option maxRecDepth 100000 in
set_option maxHeartbeats 4000000 in
theorem sVmOk_any (a1 a2 : Option Addr) (c1 c2 : Nat) (ts : List ByteArray) (fs : List Fn) (fa ha oa : Option Addr) (fc hcp oc : Nat) (d : VmD) (w : World) (hs : Small ts fs) (hst : StrsAt w 0 a1 ts) (hfn : FnsAt w 0 a2 fs) (hx : VmSmall d) (hm : VmAt w 0 fa ha oa d) :
    Calls Tryz.prog 17 #[.agg #[.slice a1 ts.length c1, .slice a2 fs.length c2], .agg (vmCells fa ha oa fc hcp oc d)] w fun e w' => Says (VmGood ts fs d) e ∧ Below w.heap.size w w' := by
  have hbA : Below w.heap.size w ((w.alloc (.cells #[.slice a1 ts.length c1, .slice a2 fs.length c2] 37)).alloc (.cells (vmCells fa ha oa fc hcp oc d) 43)) := ((Below.refl _ _).alloc (Nat.le_refl _) _).alloc (by simp) _
  have hM0 := block_old (block_new w #[.slice a1 ts.length c1, .slice a2 fs.length c2] 37) (.cells (vmCells fa ha oa fc hcp oc d) 43)
  have hV0 := block_new_at (w.alloc (.cells #[.slice a1 ts.length c1, .slice a2 fs.length c2] 37)) (vmCells fa ha oa fc hcp oc d) 43 (w.heap.size + 1) (by simp)
  unfold vmCells at hbA hM0 hV0 ⊢
  go_enter Tryz.func17, Tryz.ntmps17
  go_wp2_with fail
  refine (sGood_any _ _ _ _ ts fs _ hs (hst.mono hbA) (hfn.mono hbA)).mono ?_
  rintro e w1 ⟨⟨q, rfl, hq⟩, hb1⟩
  have hM1 := block_kept hM0 hb1
  have hV1 := block_kept hV0 hb1
  have hB1 := hbA.trans (hb1.mono hbA.size)
  have HQn : Hid (q = false → ¬ Good ts fs) := fun h hr => by rw [hq.2 hr] at h; cases h
  have HQy : Hid (q = true → Good ts fs) := hq.1
  clear hq hM0 hV0 hb1 hbA
  cases hqc : q with
  | false =>
    have HN : Hid (¬ Good ts fs) := HQn.out hqc
    clear hqc HQn HQy
    go_wp2
    go_ret
    exact ⟨Says.no rfl (fun h => HN.out h.1), hB1⟩
  | true =>
    have hg := HQy.out hqc
    have HG : Hid (Good ts fs) := hg
    have FF : ∀ k (hk : k < fs.length), Fine fs fs[k].code := fun k hk => fine_of hg.ok hk
    clear hqc HQn HQy hg
    have m1 := block_cell hM1
    have v1 := block_cell hV1
    go_wp2_with fail
    refine (sVm_any a1 a2 ts.length c1 c2 fs fa ha oa fc hcp oc d _ hs.funcs hx (hm.mono hB1) (hfn.mono hB1) FF).mono ?_
    rintro e w2 ⟨⟨q2, rfl, hq2⟩, hb2⟩
    have HQ : Hid (q2 = true ↔ (Room d ∧ Frames fs d ∧ Vals fs.length d)) := hq2
    clear hq2 m1 v1
    go_wp2
    go_ret
    exact ⟨⟨q2, rfl, ⟨fun h => ⟨HG.out, HQ.out.1 h⟩, fun h => HQ.out.2 h.2⟩⟩, hB1.trans (hb2.mono hB1.size)⟩
end Go.Proofs.YtfefbgemcakabaaGreatDoor
namespace Go.Proofs.YtfefbgemcakabaaGreatDoor
open Go.RowKit

end Go.Proofs.YtfefbgemcakabaaGreatDoor

namespace Go.Proofs.YtfefbgemcakabaaGreatDoor
open Go.RowKit

section
variable {P : Program} {ops : Array Oper} {C : World → Prop} {Q : Act → Prop} {a : Act} {o : Oper} {rest : List Oper}
theorem q_skip (hw : Region.wanted o (yielded ops a.tmps) = false) (h : wpQuiet P ops C Q rest (a.put o.dst undef)) : wpQuiet P ops C Q (o :: rest) a := by
  unfold wpQuiet
  rw [if_neg (by rw [hw]; exact Bool.false_ne_true)]
  exact h
theorem q_want {v : Value} (hw : Region.wanted o (yielded ops a.tmps) = true) (hv : ∀ w, C w → Oper.quietUpon P C w v ((execOp a.eval o).run P w)) (h : wpQuiet P ops C Q rest (a.put o.dst v)) : wpQuiet P ops C Q (o :: rest) a := by
  unfold wpQuiet
  rw [if_pos hw]
  exact ⟨v, hv, h⟩
end
theorem wp_below {P : Program} {id : Nat} {Q : Exit → Act → World → Prop} {a : Act} {w : World} {l : List Oper} (hm : P.follows .mixedOrders = true) (hB : Region.lexB .any l.toArray = true)
    (h : wpQuiet P l.toArray (fun w' => Below w.heap.size w w') (fun a' => ∀ w', Below w.heap.size w w' → Q .normal a' w') l a) : (Code.region id l.toArray true).wp P Q a w :=
  wp_region_quiet (C := fun w' => Below w.heap.size w w') hm hB (Below.refl _ _).drew (by simpa using h)
end Go.Proofs.YtfefbgemcakabaaGreatDoor

namespace Go.Proofs.YtfefbgemcakabaaGreatDoor
open Go.RowKit

/-- What a state that is ok has, as far as its text asks. -/
structure VmTx (d : VmD) : Prop where
  nf : d.frames.length ≤ 24
  fr : ∀ f ∈ d.frames, (0 ≤ f.fn ∧ f.fn ≤ 2000000) ∧ (0 ≤ f.pc ∧ f.pc ≤ 2000000) ∧ (f.locals.length ≤ 1048576 ∧ f.stack.length ≤ 1048576) ∧ (∀ v ∈ f.locals, VOk v) ∧ (∀ v ∈ f.stack, VOk v)
  val : VOk d.value
  trap : d.status = 2 → 1 ≤ d.trap ∧ d.trap ≤ 8
  made : 0 ≤ d.made ∧ d.made ≤ 120
  out : d.out.length ≤ 200
theorem okB_VOk {nf : Nat} {r : Int} {v : Vl} (h : okB nf r v = true) (hnf : nf ≤ 1048576) : VOk v := by
  unfold okB valB at h
  unfold VOk nOk
  split at h
  · simp only [Bool.and_eq_true, decide_eq_true_eq] at h
    rename_i e
    rw [h.2]
    exact ⟨by decide, fun q => by omega, fun q => by omega⟩
  split at h
  · simp only [Bool.and_eq_true, decide_eq_true_eq, num] at h
    rw [h.2]
    exact ⟨by decide, fun q => by omega, fun q => by omega⟩
  split at h
  · simp only [Bool.and_eq_true, decide_eq_true_eq] at h
    rename_i e
    rw [h.2]
    exact ⟨by decide, fun q => by omega, fun q => by omega⟩
  split at h
  · simp only [Bool.and_eq_true, decide_eq_true_eq, textB] at h
    rename_i e
    exact ⟨h.2.1, fun q => by omega, fun q => by omega⟩
  split at h
  · simp only [Bool.and_eq_true, decide_eq_true_eq] at h
    rename_i e
    rw [h.2]
    exact ⟨by decide, fun q => by omega, fun q => by omega⟩
  split at h
  · simp only [Bool.and_eq_true, decide_eq_true_eq] at h
    rw [h.2]
    exact ⟨by decide, fun q => by omega, fun q => by omega⟩
  · cases h
theorem VmGood.tx {ts : List ByteArray} {fs : List Fn} {d : VmD} (h : VmGood ts fs d) (hx : VmSmall d) (hs : Small ts fs) : VmTx d := by
  obtain ⟨hg, hr, hf, hv⟩ := h
  obtain ⟨r1, r2, -, r4, -⟩ := hr
  have hnf : fs.length ≤ 1048576 := hs.funcs
  have vals : ∀ f ∈ d.frames, (∀ v ∈ f.locals, VOk v) ∧ (∀ v ∈ f.stack, VOk v) := by
    intro f hfm
    have := List.all_eq_true.1 hv.1 f hfm
    unfold frVals valsB at this
    rw [Bool.and_eq_true] at this
    exact ⟨fun v hv => okB_VOk (List.all_eq_true.1 this.1 v hv) hnf, fun v hv => okB_VOk (List.all_eq_true.1 this.2 v hv) hnf⟩
  have small : ∀ f ∈ d.frames, f.locals.length ≤ 1048576 ∧ f.stack.length ≤ 1048576 := fun f hfm => ⟨(hx.locals f hfm).1, (hx.stack f hfm).1⟩
  rcases hf with ⟨s1, s2, s3⟩ | ⟨s1, s2, s3, s4, s5⟩
  · refine ⟨by omega, ?_, okB_VOk hv.2.2 hnf, fun q => by omega, ⟨by omega, r2⟩, r4⟩
    intro f hfm
    have := List.length_pos_of_mem hfm
    omega
  · refine ⟨s3, ?_, okB_VOk hv.2.2 hnf, fun q => by omega, ⟨by omega, r2⟩, r4⟩
    intro f hfm
    obtain ⟨i, hi, rfl⟩ := List.getElem_of_mem hfm
    obtain ⟨q1, q2, -, q4, q5, -⟩ := s5 i hi
    obtain ⟨n, hn⟩ := Int.eq_ofNat_of_zero_le q1
    have hn' : n < fs.length := by omega
    rw [hn, fnAt_of hn'] at q5
    have hc := hs.code fs[n] (List.getElem_mem hn')
    exact ⟨⟨q1, by omega⟩, ⟨q4, by omega⟩, small _ hfm, (vals _ hfm).1, (vals _ hfm).2⟩

theorem frT_size (hp : List (List Vl)) (f : Fr) (s : ByteArray) (h1 : 0 ≤ f.fn ∧ f.fn ≤ 2000000) (h2 : 0 ≤ f.pc ∧ f.pc ≤ 2000000) (h3 : f.locals.length ≤ 1048576 ∧ f.stack.length ≤ 1048576) (h4 : ∀ v ∈ f.locals, (vlT hp v).size ≤ 60) (h5 : ∀ v ∈ f.stack, (vlT hp v).size ≤ 60) : (frT hp s f).size ≤ s.size + 200000000 := by
  unfold frT
  have e1 := wsT_size (wsT (s ++ ⟨#[102, 114, 97, 109, 101, 32]⟩ ++ numText f.fn ++ ⟨#[32]⟩ ++ numText f.pc) (f.locals.map (vlT hp)) ++ ⟨#[32, 124]⟩) (f.stack.map (vlT hp)) (fun t ht => by obtain ⟨v, hv, rfl⟩ := List.mem_map.1 ht; exact h5 v hv)
  have e2 := wsT_size (s ++ ⟨#[102, 114, 97, 109, 101, 32]⟩ ++ numText f.fn ++ ⟨#[32]⟩ ++ numText f.pc) (f.locals.map (vlT hp)) (fun t ht => by obtain ⟨v, hv, rfl⟩ := List.mem_map.1 ht; exact h4 v hv)
  have e3 := numText_size f.fn (by omega) (by omega)
  have e4 := numText_size f.pc (by omega) (by omega)
  have l1 : (⟨#[102, 114, 97, 109, 101, 32]⟩ : ByteArray).size = 6 := rfl
  have l2 : (⟨#[32]⟩ : ByteArray).size = 1 := rfl
  have l3 : (⟨#[32, 124]⟩ : ByteArray).size = 2 := rfl
  have l4 : (⟨#[10]⟩ : ByteArray).size = 1 := rfl
  simp only [ByteArray.size_append, List.length_map] at *
  omega
theorem VmTx.vsize {d : VmD} (h : VmTx d) (hx : VmSmall d) : ∀ f ∈ d.frames, (∀ v ∈ f.locals, (vlT d.heap v).size ≤ 60) ∧ (∀ v ∈ f.stack, (vlT d.heap v).size ≤ 60) := fun f hf =>
  ⟨fun v hv => vT_size _ _ _ _ (fun r hr => (hx.fields r hr).1) ((h.fr f hf).2.2.2.1 v hv).1 ((h.fr f hf).2.2.2.1 v hv).2, fun v hv => vT_size _ _ _ _ (fun r hr => (hx.fields r hr).1) ((h.fr f hf).2.2.2.2 v hv).1 ((h.fr f hf).2.2.2.2 v hv).2⟩
theorem VmTx.vval {d : VmD} (h : VmTx d) (hx : VmSmall d) : (vlT d.heap d.value).size ≤ 60 := vT_size _ _ _ _ (fun r hr => (hx.fields r hr).1) h.val.1 h.val.2
theorem VmTx.st {d : VmD} (h : VmTx d) (hx : VmSmall d) : (stT d).size ≤ 100 := by
  unfold stT
  have l0 : (⟨#[10]⟩ : ByteArray).size = 1 := rfl
  split
  · have := h.vval hx
    have l1 : (⟨#[100, 111, 110, 101, 32]⟩ : ByteArray).size = 5 := rfl
    simp only [ByteArray.size_append]
    omega
  split
  · rename_i e
    have := h.trap e
    have := numText_size d.trap (by omega) (by omega)
    have l1 : (⟨#[116, 114, 97, 112, 32]⟩ : ByteArray).size = 5 := rfl
    simp only [ByteArray.size_append]
    omega
  · decide
theorem grow_by {a b k : Nat} (h1 : a ≤ b + 200000000) (h2 : b ≤ 200000000 * k) : a ≤ 200000000 * (k + 1) := by omega
theorem VmTx.frs {d : VmD} (h : VmTx d) (hx : VmSmall d) (k : Nat) (hk : k ≤ d.frames.length) : (frsT d.heap (stT d) (d.frames.take k)).size ≤ 200000000 * (k + 1) := by
  induction k with
  | zero => exact Nat.le_trans (h.st hx) (by decide)
  | succ k ih =>
    have hlt : k < d.frames.length := by omega
    have hm := List.getElem_mem hlt
    rw [frsT_succ _ _ _ _ hlt]
    have q := h.fr _ hm
    have := frT_size d.heap d.frames[k] (frsT d.heap (stT d) (d.frames.take k)) q.1 q.2.1 q.2.2.1 (h.vsize hx _ hm).1 (h.vsize hx _ hm).2
    exact grow_by this (ih (by omega))
end Go.Proofs.YtfefbgemcakabaaGreatDoor
