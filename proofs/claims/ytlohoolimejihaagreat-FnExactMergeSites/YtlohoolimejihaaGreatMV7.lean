/-
  Sites are added to a profile, one behind the other: (profile).addAll.
  maps.Keys of a profile: its places come, each once, in some order.
-/
import Derived.Test.YtlohoolimejihaaGreatZA3
import Derived.Shelf.AbstractIn
import Derived.RangeFuncSeq
import Derived.RangeFuncGives
import Derived.Sort.MapsRangeIn
import Derived.Maps.RangeRun
import Derived.WalkKit
import Derived.OwnWalkIn
import Derived.TacticsInMore
import Derived.RegionIn
import Derived.LoopNIn
import Derived.LoopIn
namespace Go.Proofs.YtlohoolimejihaaGreat
open Go.RowKit

theorem add_any (a1 a2 : Option Addr) (nt c1 c2 : Nat) (fs : List Fn) (b lo n : Nat) (ws : List Wt) (x : Si) (w : World) (hS : SiteP fs x) (hfn : FnsAt w 0 a2 fs) (hP : Prf w lo b (opD fs) ws) (hU : Used n ws) (hn : n ≤ 1000) (hlo : lo ≤ w.heap.size) :
    Calls Tryz.prog 74 #[.map (some b), .agg #[.slice a1 nt c1, .slice a2 fs.length c2], .agg #[.int .i64 x.f, .int .i64 x.pc, .int .i64 x.seen, .int .i64 x.target]] w (AddPost lo b n fs ws x w) := by
  by_cases hin : ∃ W ∈ ws, W.f = x.f ∧ W.p = x.pc
  · exact addKnown_any a1 a2 nt c1 c2 fs b lo n ws x w hS hP hU hn hlo hin
  · have hno : ∀ W ∈ ws, ¬ (W.f = x.f ∧ W.p = x.pc) := fun W hW h => hin ⟨W, hW, h⟩
    have hS2 := hS
    obtain ⟨h0, h1, -⟩ := hS2
    obtain ⟨xf, xp, xs, xt⟩ := x
    obtain ⟨sf, rfl⟩ : ∃ sf : Nat, xf = sf := ⟨xf.toNat, by simp at h0; omega⟩
    obtain ⟨sp, rfl⟩ : ∃ sp : Nat, xp = sp := ⟨xp.toNat, by simp at h1; omega⟩
    exact addNew_any a1 a2 nt c1 c2 fs b lo n ws sf sp xs xt w hS hfn hP hU hlo hno
theorem allC_succ (op : Int → Int → Int) (C : Ct) (l : List Si) (k : Nat) (h : k < l.length) : allC op C (l.take (k + 1)) = updC op (allC op C (l.take k)) l[k] := by
  unfold allC
  rw [List.take_succ_eq_append_getElem h, List.foldl_append]
  rfl
def AllPost (lo b n : Nat) (fs : List Fn) (ws : List Wt) (l : List Si) (w : World) : Ending → World → Prop := fun e w' => (∃ v, e = .returned v) ∧ ∃ ws', Prf w' lo b (opD fs) ws' ∧ Used (n + l.length) ws' ∧ tabW ws' = allC (opD fs) (tabW ws) l ∧ ws'.length ≤ ws.length + l.length ∧ Below lo w w'

set_option maxRecDepth 100000 in
set_option maxHeartbeats 4000000 in
theorem addAll_any (a1 a2 la : Option Addr) (nt c1 c2 lc : Nat) (fs : List Fn) (b lo n : Nat) (ws : List Wt) (l : List Si) (w : World) (hS : ∀ x ∈ l, SiteP fs x) (hl : l.length ≤ 150) (hlo : lo ≤ w.heap.size) (hfn : ∀ w', Below lo w w' → FnsAt w' 0 a2 fs) (hsl : ∀ w', Below lo w w' → SitesAt w' 0 la l) (hP : Prf w lo b (opD fs) ws) (hU : Used n ws) (hn : n ≤ 800) :
    Calls Tryz.prog 38 #[.map (some b), .agg #[.slice a1 nt c1, .slice a2 fs.length c2], .slice la l.length lc] w (AllPost lo b n fs ws l w) := by
  obtain ⟨wA, hwA⟩ : ∃ wA, wA = w.alloc (.cells #[.slice a1 nt c1, .slice a2 fs.length c2] 40) := ⟨_, rfl⟩
  have hbA : Below w.heap.size w wA := by rw [hwA]; exact (Below.refl _ _).alloc (Nat.le_refl _) _
  have hX : wA.heap[w.heap.size]? = some (.cells #[.slice a1 nt c1, .slice a2 fs.length c2] 40 (0, 0)) := by rw [hwA]; exact block_new _ _ _
  have HP0 := hidz (hP.mono hbA)
  have HU0 : Hid (Used (n + 0) ws) := hU
  have HFN := hidz hfn
  have HSL := hidz hsl
  have HS := hidz hS
  have HBA := hidz (hbA.mono hlo)
  have HX := hidz hX
  have hbw : b < w.heap.size := by obtain ⟨es, c, h1, -⟩ := hP.map; exact lt_sizez h1
  have HWN := hidz (fun (W : Wt) (hW : W ∈ ws) => lt_sizez (hP.cells W hW).1)
  clear hP hU hfn hsl hS hbA hX
  go_enter Tryz.func38, Tryz.ntmps38
  go_wp2
  rw [← hwA]
  clear hwA
  go_loopw [10] (fun i wr => ∃ (k : Nat) (vs : List Wt), k ≤ l.length ∧ i = .int .i64 k ∧ Hid (Prf wr lo b (opD fs) vs) ∧ Hid (Used (n + k) vs) ∧ Hid (tabW vs = allC (opD fs) (tabW ws) (l.take k)) ∧ Hid (vs.length ≤ ws.length + k) ∧ Hid (Below lo w wr) ∧ Hid (wr.heap[w.heap.size]? = some (.cells #[.slice a1 nt c1, .slice a2 fs.length c2] 40 (0, 0))) ∧ Hid (∀ W ∈ vs, W.g ≠ w.heap.size)) (fun i _ => l.length - (intOf i).toNat)
  case atStart => exact ⟨0, ws, by omega, rfl, HP0, HU0, hidz rfl, hidz (Nat.le_refl _), HBA, HX, hidz (fun W hW => Nat.ne_of_lt (HWN.out W hW))⟩
  case round =>
    obtain ⟨k, vs, hk, rfl, HP, HU, HT, HL, HB, HM, HNE⟩ := hrel
    clear HP0 HU0 HBA HX
    by_cases hlt : k < l.length
    · have zk : (k : Int) < (l.length : Int) := by omega
      obtain ⟨bb, off, hla, -, g0, g1, g2, g3⟩ := HSL.out wr HB.out k hlt
      subst hla
      have HSX : Hid (SiteP fs l[k]) := HS.out _ (List.getElem_mem hlt)
      have HTS := hidz (allC_succ (opD fs) (tabW ws) l k hlt)
      generalize l[k] = x at g0 g1 g2 g3 HSX HTS
      obtain ⟨wb, hwb⟩ : ∃ wb, wb = wr.alloc (.cells #[.int .i64 x.f, .int .i64 x.pc, .int .i64 x.seen, .int .i64 x.target] 68) := ⟨_, rfl⟩
      have hbb : Below wr.heap.size wr wb := by rw [hwb]; exact (Below.refl _ _).alloc (Nat.le_refl _) _
      have hlor : lo ≤ wr.heap.size := Nat.le_trans hlo HB.out.size
      have HMb := hidz (block_kept HM.out hbb)
      have HBb := hidz (HB.out.trans (hbb.mono hlor))
      have HPb := hidz (HP.out.mono hbb)
      have m0 := block_cell HM.out
      have m0b : (wr.alloc (.cells #[.int .i64 x.f, .int .i64 x.pc, .int .i64 x.seen, .int .i64 x.target] 68)).cell? ⟨w.heap.size, 0, none⟩ = some (.slice a1 nt c1) := by rw [block_cell (block_old HM.out _)]; rfl
      have m1b : (wr.alloc (.cells #[.int .i64 x.f, .int .i64 x.pc, .int .i64 x.seen, .int .i64 x.target] 68)).cell? ⟨w.heap.size, 1, none⟩ = some (.slice a2 fs.length c2) := by rw [block_cell (block_old HM.out _)]; rfl
      have HSZ := hidz hbb.size
      clear hbb
      go_wp2_with fail
      rw [← hwb]
      clear hwb g0 g1 g2 g3 m0 m0b m1b
      refine (add_any a1 a2 nt c1 c2 fs b lo (n + k) vs x wb HSX.out (HFN.out wb HBb.out) HPb.out HU.out (by omega) (Nat.le_trans hlo HBb.out.size)).mono ?_
      rintro e w2 ⟨⟨v, rfl⟩, vs2, h1, h2, h3, h4, h5, h6, h7⟩
      have hsz : wr.heap.size ≤ wb.heap.size := HSZ.out
      have hwr : w.heap.size < wr.heap.size := lt_sizez HM.out
      have hmb : w.heap.size ≠ b := by omega
      have hM2 := (h6 w.heap.size (by omega) hmb (fun W hW => (HNE.out W hW).symm)).trans HMb.out
      have HPN := hidz h1
      have HUN : Hid (Used (n + (k + 1)) vs2) := h2
      have HTN : Hid (tabW vs2 = allC (opD fs) (tabW ws) (l.take (k + 1))) := by show _ = _; rw [HTS.out, h3, HT.out]
      have HLN : Hid (vs2.length ≤ ws.length + (k + 1)) := by have := HL.out; show _ ≤ _; omega
      have HBN := hidz (HBb.out.trans h5)
      have HMN := hidz hM2
      have HNN : Hid (∀ W ∈ vs2, W.g ≠ w.heap.size) := by
        intro W hW
        rcases h7 W hW with ⟨V, hV, e⟩ | e
        · rw [← e]; exact HNE.out V hV
        · omega
      clear h1 h2 h3 h4 h5 h6 h7 hM2 hsz hwr hmb
      go_wp2
      go_roundw
      case rel => exact ⟨k + 1, vs2, by omega, by go_num, HPN, HUN, HTN, HLN, HBN, HMN, HNN⟩
      case measure => simp [intOf]; omega
    · obtain rfl : k = l.length := by omega
      have z2 : ¬ (l.length : Int) < (l.length : Int) := by omega
      go_wp2
      go_end0
      refine ⟨⟨_, rfl⟩, vs, HP.out, HU.out, ?_, HL.out, HB.out⟩
      rw [HT.out, List.take_length]
end Go.Proofs.YtlohoolimejihaaGreat

namespace Go.Proofs.YtlohoolimejihaaGreat
open Go.RowKit Go.Sort Go.ChangeMaps

section
variable {F : Fence} {n : Nat} {P : Program} {ops : Array Oper} {Q : Exit → Act → World → Prop} {rest : List Oper} {o : Oper} {a : Act} {w : World}
/-- 'range m'. -/
theorem wpListIn_rangeM (hg : o.guard = none) (m : Operand) (t : TypeId) (hop : o.op = Op.range t m) (k e : TypeId) (ht : P.underlying t = some (.map k e)) (b : Nat) (es : Array MapEntry) (c : Nat)
    (hm : a.eval m = .map (some b)) (hb : w.heap[b]? = some (.map es c))
    (hK : wpListIn F n P ops Q rest (a.put o.dst (.pointer (some ⟨w.heap.size, 0, none⟩))) (w.alloc (.mapIter (some b) c #[] c))) :
    wpListIn F n P ops Q (o :: rest) a w := by
  refine wpListIn_plain hg fun K' hK' => ?_
  unfold Oper.wpIn
  refine ⟨?_, ?_⟩
  · simp [Oper.about, hop]
  · rw [Oper.semAt_plain F _ _ (by rw [hop]; intro c hc'; cases hc')]
    simp [execOp, hop, hm, run_range_map w t k e b es c ht hb, Result.andThen]
    exact hK' _ _ hK
/-- The step: nothing is left, or one entry that is left comes. -/
theorem wpListIn_nextM (hg : o.guard = none) (it : Operand) (hop : o.op = Op.next it false) (r b c c0 : Nat) (seen : Array Nat) (es : Array MapEntry)
    (hit : a.eval it = .pointer (some ⟨r, 0, none⟩)) (hr : w.heap[r]? = some (.mapIter (some b) c seen c0)) (hb : w.heap[b]? = some (.map es c)) (hold : ∀ x ∈ es.toList, x.born < c) (hsc : c ≤ c0)
    (hDone : Hid ((leftOf es seen).size = 0) → wpListIn F n P ops Q rest (a.put o.dst (.tuple #[.bool false])) w)
    (hMore : ∀ (e : MapEntry) (w1 : World), Hid (e ∈ (leftOf es seen).toList ∧ (w1 = w ∨ w1 = w.drew)) → wpListIn F n P ops Q rest (a.put o.dst (.tuple #[.bool true, e.key, e.val])) (setBlock w1 r (.mapIter (some b) c (seen.push e.born) c))) :
    wpListIn F n P ops Q (o :: rest) a w := by
  refine wpListIn_plain hg fun K' hK' => ?_
  unfold Oper.wpIn
  refine ⟨by simp [Oper.about, hop], ?_⟩
  rw [Oper.semAt_plain F _ _ (by rw [hop]; intro c hc'; cases hc')]
  rcases run_next_at (P := P) w o.type r b c c0 seen es c hr hb hold hsc with ⟨h0, hrun⟩ | ⟨e, he, w1, hal, hrun⟩
  · simp [execOp, hop, hit, hrun, Result.andThen]
    exact hK' _ _ (hDone (hidz h0))
  · simp [execOp, hop, hit, hrun, Result.andThen]
    exact hK' _ _ (hMore e w1 (hidz ⟨he, hal⟩))
end

/-- A range over a profile under way: which entries have come, by their numbers. -/
structure Way (w : World) (b r : Nat) (es : Array MapEntry) (c : Nat) (is : List Nat) : Prop where
  map : w.heap[b]? = some (.map es c)
  iter : ∃ seen c0, w.heap[r]? = some (.mapIter (some b) c seen c0) ∧ c ≤ c0 ∧ seen.toList = is.map (fun i => (es[i]?.map (·.born)).getD 0)
  nodup : is.Nodup
  lt : ∀ i ∈ is, i < es.size
theorem setBlock_grown (w : World) (r : Nat) (o : Obj) : w.grownBy (setBlock w r o) (some r) :=
  ⟨rfl, rfl, rfl, by simp [setBlock], fun k _ hk => by simp [setBlock, show r ≠ k from fun e => hk (by rw [e])]⟩
/-- All have come. -/
theorem Way.all {w : World} {b r : Nat} {es : Array MapEntry} {c : Nat} {is : List Nat} (h : Way w b r es c is) (hst : StampOk es.toList c) {seen : Array Nat} (hs : seen.toList = is.map (fun i => (es[i]?.map (·.born)).getD 0)) (h0 : (leftOf es seen).size = 0) : is.Perm (List.range es.size) := by
  refine (List.perm_ext_iff_of_nodup h.nodup List.nodup_range).2 fun i => ?_
  rw [List.mem_range]
  refine ⟨h.lt i, fun hi => ?_⟩
  have h1 := all_seen es seen h0 es[i] (by simp)
  rw [Array.contains_iff_mem, ← Array.mem_toList_iff, hs] at h1
  obtain ⟨j, hj, hjb⟩ := List.mem_map.1 h1
  have hjl := h.lt j hj
  rw [Array.getElem?_eq_getElem hjl] at hjb
  simp at hjb
  rcases Nat.lt_trichotomy i j with e | e | e
  · have := List.pairwise_iff_getElem.1 hst.2 i j (by simpa using hi) (by simpa using hjl) e
    simp at this
    exact absurd hjb.symm this
  · rw [e]; exact hj
  · have := List.pairwise_iff_getElem.1 hst.2 j i (by simpa using hjl) (by simpa using hi) e
    simp at this
    exact absurd hjb this
/-- One more has come. -/
theorem left_index {es : Array MapEntry} {seen : Array Nat} {is : List Nat} (hs : seen.toList = is.map (fun i => (es[i]?.map (·.born)).getD 0)) {e : MapEntry} (he : e ∈ (leftOf es seen).toList) : ∃ i, ∃ hi : i < es.size, es[i] = e ∧ i ∉ is := by
  obtain ⟨hm, hc⟩ := mem_left he
  obtain ⟨i, hi, hie⟩ := List.getElem_of_mem hm
  have hi' : i < es.size := by simpa using hi
  refine ⟨i, hi', by simpa using hie, fun h => ?_⟩
  have : seen.contains e.born = true := by
    rw [Array.contains_iff_mem, ← Array.mem_toList_iff, hs]
    refine List.mem_map.2 ⟨i, h, ?_⟩
    rw [Array.getElem?_eq_getElem hi']
    simp at hie ⊢
    rw [hie]
  rw [this] at hc
  cases hc
theorem ents_at {es : List MapEntry} {ws : List Wt} (h : Ents es ws) : es.length = ws.length ∧ ∀ i (hi : i < es.length) (hw : i < ws.length), es[i].key = keyW ws[i] ∧ es[i].val = valW ws[i] := by
  have hl : es.length = ws.length := by simpa using congrArg List.length h
  refine ⟨hl, fun i hi hw => ?_⟩
  have := congrArg (·[i]?) h
  simp [List.getElem?_eq_getElem hi, List.getElem?_eq_getElem hw] at this
  exact this
/-- The place of the entry of a number. -/
def plAt (ws : List Wt) (i : Nat) : Int × Int := ((ws[i]?).map fun W => (W.f, W.p)).getD (0, 0)
theorem plAt_all (ws : List Wt) : (List.range ws.length).map (plAt ws) = ws.map fun W => (W.f, W.p) := by
  apply List.ext_getElem
  · simp
  · intro i h1 h2
    simp [plAt] at h2 ⊢
    rw [List.getElem?_eq_getElem (by simpa using h1)]
    rfl
def encP (x : Int × Int) : Value := .agg #[.int .i64 x.1, .int .i64 x.2]
end Go.Proofs.YtlohoolimejihaaGreat
