/-
  Two values held against each other.
  Whether two lists of values, or of texts, are the same: slices.Equal and the document's l06Values.
  Whether two lists of texts are the same: slices.Equal.
  Whether two records, two frames, lists of records, lists of frames are the same: the program's side.
  Whether two states are the same: impl.sameStates.
  Whether two states are the same: the document's l06Same.
  A state that is owned: which blocks hold its parts. Copies of values.
  impl's ownVm, walked: a copy of a state, every part in a block of its own.
  What canonOf gives, and what meeting the values of frames one by one leaves.
  impl's canonOf, walked.
  The canon of a small state is small.
  impl.Alike.
  From the form in which an argument is read to the predicates of the text Mem.
  From the form in which an argument is read to the predicates on lists of values, of records, of frames, and on states.
-/
import Derived.Test.YtcebgbcgkkfedaaGreatZA
import Derived.Laws.StructEq
import Derived.Test.YtcebgbcgkkfedaaGreatC5
import Derived.Deep.RegionHeld3
import Derived.Test.YtcebgbcgkkfedaaGreatC4
import Derived.Test.YtcebgbcgkkfedaaGreatN5
import Derived.Test.YtcebgbcgkkfedaaGreatC0b
import Derived.Deep.RegionWith
import Derived.Test.YtcebgbcgkkfedaaGreatMem
import Derived.Deep.Slices
import Derived.Deep.SlicePairs
import Derived.Deep.Strs
import Derived.OpenShut
import Derived.Test.YtcebgbcgkkfedaaGreatM3
import Derived.Lib.SmallJoins
namespace Go.Proofs.YtcebgbcgkkfedaaGreat
open Go.RowKit

theorem vl_eq {v u : Vl} : v = u ↔ v.k = u.k ∧ v.n = u.n ∧ v.s = u.s := by
  cases v; cases u; simp
theorem pB_and (P Q : Prop) : pB (P ∧ Q) = (pB P && pB Q) := by
  rw [Bool.eq_iff_iff]
  simp [pB]
theorem bytes_eq (a b : ByteArray) : (a.toList == b.toList) = pB (a = b) := by
  rw [Bool.eq_iff_iff]
  simp only [beq_iff_eq, pB, decide_eq_true_eq]
  rw [ByteArray.toList_eq, ByteArray.toList_eq]
  obtain ⟨⟨x⟩⟩ := a
  obtain ⟨⟨y⟩⟩ := b
  simp
theorem int_eq (a b : Int) : (a == b) = pB (a = b) := by
  rw [Bool.eq_iff_iff]
  simp [pB]

theorem guard36 : Tryz.prog.eqGuardType Tryz.prog.depth 36 = false := by kernel_rfl

set_option maxRecDepth 100000 in
theorem eqIn36 (v u : Vl) (W : World) : (Op.equalIn 10000 36 (.agg #[.int .i64 v.k, .int .i64 v.n, .string v.s]) (.agg #[.int .i64 u.k, .int .i64 u.n, .string u.s])).run Tryz.prog W = .ok (pB (v = u)) W := by
  have h : ∀ d : Nat, (Op.equalIn (d + 1 + 1) 36 (.agg #[.int .i64 v.k, .int .i64 v.n, .string v.s]) (.agg #[.int .i64 u.k, .int .i64 u.n, .string u.s])).run Tryz.prog W = .ok (pB (v = u)) W := fun d => by
    have ht : Tryz.prog.underlying 36 = some (.struct (Tryz.prog.fieldsOf 36)) := by kernel_rfl
    have hp : Tryz.prog.stoodInHeld 36 = false := by kernel_rfl
    have hf : (Tryz.prog.fieldsOf 36).toList.map (fun f => (f.name, f.type, f.offset)) = [("Kind", 3, 0), ("N", 3, 1), ("S", 9, 2)] := by kernel_rfl
    rw [run_equalIn_struct W (d + 1) 36 _ _ ht hp]
    have p0 : ∀ (a b : Int) (s : ByteArray) (W : World), (part 3 #[.int .i64 a, .int .i64 b, .string s] 0).run Tryz.prog W = .ok (.int .i64 a) W := fun _ _ _ _ => by kernel_rfl
    have p1 : ∀ (a b : Int) (s : ByteArray) (W : World), (part 3 #[.int .i64 a, .int .i64 b, .string s] 1).run Tryz.prog W = .ok (.int .i64 b) W := fun _ _ _ _ => by kernel_rfl
    have p2 : ∀ (a b : Int) (s : ByteArray) (W : World), (part 9 #[.int .i64 a, .int .i64 b, .string s] 2).run Tryz.prog W = .ok (.string s) W := fun _ _ _ _ => by kernel_rfl
    rcases hL : (Tryz.prog.fieldsOf 36).toList with _ | ⟨f1, _ | ⟨f2, _ | ⟨f3, _ | _⟩⟩⟩
    · rw [hL] at hf; simp at hf
    · rw [hL] at hf; simp at hf
    · rw [hL] at hf; simp at hf
    · rw [hL] at hf
      simp only [List.map_cons, List.map_nil, List.cons.injEq, Prod.mk.injEq, and_true] at hf
      obtain ⟨⟨n1, t1, o1⟩, ⟨n2, t2, o2⟩, n3, t3, o3⟩ := hf
      have e1 := run_equalIn_int (P := Tryz.prog) W d 3 .i64 .i64 v.k u.k Tryz.underlying3
      have e2 := run_equalIn_int (P := Tryz.prog) W d 3 .i64 .i64 v.n u.n Tryz.underlying3
      have e3 := run_equalIn_string (P := Tryz.prog) W d 9 v.s u.s Tryz.underlying9
      rw [int_eq] at e1 e2
      rw [bytes_eq] at e3
      have hb : pB (v = u) = (pB (v.k = u.k) && (pB (v.n = u.n) && pB (v.s = u.s))) := by
        rw [← pB_and, ← pB_and, show (v = u) = (v.k = u.k ∧ v.n = u.n ∧ v.s = u.s) from propext vl_eq]
      rw [hb]
      cases hk : pB (v.k = u.k) <;> cases hn : pB (v.n = u.n) <;> cases hs : pB (v.s = u.s) <;> rw [hk] at e1 <;> rw [hn] at e2 <;> rw [hs] at e3 <;>
        simp [Op.eqFields, n1, t1, o1, n2, t2, o2, n3, t3, o3, p0, p1, p2, e1, e2, e3]
    · rw [hL] at hf; simp at hf
  exact h 9998
end Go.Proofs.YtcebgbcgkkfedaaGreat

namespace Go.Proofs.YtcebgbcgkkfedaaGreat
open Go.RowKit

theorem take_eq {α : Type} {xs ys : List α} {k : Nat} (h1 : k < xs.length) (h2 : k < ys.length) (h : xs.take k = ys.take k) (e : xs[k] = ys[k]) : xs.take (k + 1) = ys.take (k + 1) := by
  rw [take_more h1, take_more h2, h, e]
theorem at_ne {α : Type} {xs ys : List α} {k : Nat} (h1 : k < xs.length) (h2 : k < ys.length) (e : xs[k] ≠ ys[k]) : xs ≠ ys := fun h => by
  subst h; exact e rfl
theorem len_ne {α : Type} {xs ys : List α} (h : xs.length ≠ ys.length) : xs ≠ ys := fun e => h (by rw [e])
theorem take_all {α : Type} {xs ys : List α} {k : Nat} (h1 : xs.length ≤ k) (h2 : ys.length ≤ k) (h : xs.take k = ys.take k) : xs = ys := by
  rwa [List.take_of_length_le h1, List.take_of_length_le h2] at h

set_option maxRecDepth 100000 in
set_option maxHeartbeats 1000000 in
theorem eqVals_any (a1 a2 : Option Addr) (vs us : List Vl) (c1 c2 : Nat) (w : World) (h1 : vs.length ≤ 1048576) (hm1 : ValsAt w 0 a1 vs) (hm2 : ValsAt w 0 a2 us) :
    Calls Tryz.prog 102 #[.slice a1 vs.length c1, .slice a2 us.length c2] w fun e w' => e = .returned (.bool (pB (vs = us))) ∧ Below w.heap.size w w' := by
  by_cases hl : vs.length = us.length
  · have HL := hid hl
    have hl' : ((vs.length : Nat) : Int) = ((us.length : Nat) : Int) := by omega
    go_enter Tryz.func102, Tryz.ntmps102
    go_wp2
    clear hl'
    go_loopw [13] (fun i wr => ∃ (k : Nat), k ≤ vs.length ∧ i = .int .i64 k ∧ Hid (vs.take k = us.take k) ∧ Below w.heap.size w wr) (fun i _ => vs.length - (intOf i).toNat)
    case atStart => exact ⟨0, by omega, rfl, rfl, Below.refl _ _⟩
    case round =>
      obtain ⟨k, hk, rfl, HT, hb⟩ := hrel
      by_cases hlt : k < vs.length
      · have hlt2 : k < us.length := by omega
        obtain ⟨b, off, rfl, -, d1, d2, d3⟩ := hm1 k hlt
        obtain ⟨b2, off2, rfl, -, g1, g2, g3⟩ := hm2 k hlt2
        have d1' := cell_later hb d1
        have d2' := cell_later hb d2
        have d3' := cell_later hb d3
        have g1' := cell_later hb g1
        have g2' := cell_later hb g2
        have g3' := cell_later hb g3
        have e36 := eqIn36 vs[k] us[k]
        have hg36 := guard36
        clear d1 d2 d3 g1 g2 g3 hl
        by_cases he : vs[k] = us[k]
        · have HE := hid he
          rw [pB_yes he] at e36
          clear he
          go_wp2
          go_quiet (fail)
          have hbq := below_drewN hb nq
          go_wp2
          go_roundw
          case rel => exact ⟨k + 1, by omega, by go_num, take_eq hlt hlt2 HT.out HE.out, hbq⟩
          case measure => simp [intOf]; omega
        · have HE := hid he
          rw [pB_no he] at e36
          clear he
          go_wp2
          go_quiet (fail)
          have hbq := below_drewN hb nq
          go_wp2
          go_ret
          exact ⟨by rw [pB_no (at_ne hlt hlt2 HE.out)]; rfl, hbq⟩
      · have hl2 : us.length ≤ k := by have := HL.out; omega
        clear hl
        go_wp2
        go_ret
        exact ⟨by rw [pB_yes (take_all (by omega) hl2 HT.out)]; rfl, hb⟩
  · have hl' : ¬ ((vs.length : Nat) : Int) = ((us.length : Nat) : Int) := by omega
    go_enter Tryz.func102, Tryz.ntmps102
    go_wp2
    go_ret
    exact ⟨by rw [pB_no (len_ne hl)]; rfl, Below.refl _ _⟩

set_option maxRecDepth 100000 in
set_option maxHeartbeats 1000000 in
theorem sVals_any (a1 a2 : Option Addr) (vs us : List Vl) (c1 c2 : Nat) (w : World) (h1 : vs.length ≤ 1048576) (hm1 : ValsAt w 0 a1 vs) (hm2 : ValsAt w 0 a2 us) :
    Calls Tryz.prog 101 #[.slice a1 vs.length c1, .slice a2 us.length c2] w fun e w' => e = .returned (.bool (pB (vs = us))) ∧ Below w.heap.size w w' := by
  by_cases hl : vs.length = us.length
  · have HL := hid hl
    have hl' : ((vs.length : Nat) : Int) = ((us.length : Nat) : Int) := by omega
    go_enter Tryz.func101, Tryz.ntmps101
    go_wp2
    clear hl'
    go_loopw [5] (fun i wr => ∃ (k : Nat), k ≤ vs.length ∧ i = .int .i64 k ∧ Hid (vs.take k = us.take k) ∧ Below w.heap.size w wr) (fun i _ => vs.length - (intOf i).toNat)
    case atStart => exact ⟨0, by omega, rfl, rfl, Below.refl _ _⟩
    case round =>
      obtain ⟨k, hk, rfl, HT, hb⟩ := hrel
      by_cases hlt : k < vs.length
      · have hlt2 : k < us.length := by omega
        obtain ⟨b, off, rfl, -, d1, d2, d3⟩ := hm1 k hlt
        obtain ⟨b2, off2, rfl, -, g1, g2, g3⟩ := hm2 k hlt2
        have d1' := cell_later hb d1
        have d2' := cell_later hb d2
        have d3' := cell_later hb d3
        have g1' := cell_later hb g1
        have g2' := cell_later hb g2
        have g3' := cell_later hb g3
        have e36 := eqIn36 vs[k] us[k]
        have hg36 := guard36
        clear d1 d2 d3 g1 g2 g3 hl
        by_cases he : vs[k] = us[k]
        · have HE := hid he
          rw [pB_yes he] at e36
          clear he
          go_wp2
          go_quiet (fail)
          have hbq := below_drewN hb nq
          go_wp2
          go_roundw
          case rel => exact ⟨k + 1, by omega, by go_num, take_eq hlt hlt2 HT.out HE.out, hbq⟩
          case measure => simp [intOf]; omega
        · have HE := hid he
          rw [pB_no he] at e36
          clear he
          go_wp2
          go_quiet (fail)
          have hbq := below_drewN hb nq
          go_wp2
          go_ret
          exact ⟨by rw [pB_no (at_ne hlt hlt2 HE.out)]; rfl, hbq⟩
      · have hl2 : us.length ≤ k := by have := HL.out; omega
        clear hl
        go_wp2
        go_ret
        exact ⟨by rw [pB_yes (take_all (by omega) hl2 HT.out)]; rfl, hb⟩
  · have hl' : ¬ ((vs.length : Nat) : Int) = ((us.length : Nat) : Int) := by omega
    go_enter Tryz.func101, Tryz.ntmps101
    go_wp2
    go_ret
    exact ⟨by rw [pB_no (len_ne hl)]; rfl, Below.refl _ _⟩
end Go.Proofs.YtcebgbcgkkfedaaGreat

namespace Go.Proofs.YtcebgbcgkkfedaaGreat
open Go.RowKit

set_option maxRecDepth 100000 in
set_option maxHeartbeats 1000000 in
theorem eqStrs_any (a1 a2 : Option Addr) (vs us : List ByteArray) (c1 c2 : Nat) (w : World) (h1 : vs.length ≤ 1048576) (hm1 : StrsAt w 0 a1 vs) (hm2 : StrsAt w 0 a2 us) :
    Calls Tryz.prog 76 #[.slice a1 vs.length c1, .slice a2 us.length c2] w fun e w' => e = .returned (.bool (pB (vs = us))) ∧ Below w.heap.size w w' := by
  by_cases hl : vs.length = us.length
  · have HL := hid hl
    have hl' : ((vs.length : Nat) : Int) = ((us.length : Nat) : Int) := by omega
    go_enter Tryz.func76, Tryz.ntmps76
    go_wp2
    clear hl'
    go_loopw [13] (fun i wr => ∃ (k : Nat), k ≤ vs.length ∧ i = .int .i64 k ∧ Hid (vs.take k = us.take k) ∧ Below w.heap.size w wr) (fun i _ => vs.length - (intOf i).toNat)
    case atStart => exact ⟨0, by omega, rfl, rfl, Below.refl _ _⟩
    case round =>
      obtain ⟨k, hk, rfl, HT, hb⟩ := hrel
      by_cases hlt : k < vs.length
      · have hlt2 : k < us.length := by omega
        obtain ⟨b, off, rfl, -, d1⟩ := hm1 k hlt
        obtain ⟨b2, off2, rfl, -, g1⟩ := hm2 k hlt2
        have d1' := cell_later hb d1
        have g1' := cell_later hb g1
        clear d1 g1 hl
        by_cases he : vs[k] = us[k]
        · have HE := hid he
          have hq : (vs[k].toList == us[k].toList) = true := by rw [bytes_eq, pB_yes he]
          clear he
          go_wp2
          go_quiet (fail)
          have hbq := below_drewN hb nq
          go_wp2
          go_roundw
          case rel => exact ⟨k + 1, by omega, by go_num, take_eq hlt hlt2 HT.out HE.out, hbq⟩
          case measure => simp [intOf]; omega
        · have HE := hid he
          have hq : (vs[k].toList == us[k].toList) = false := by rw [bytes_eq, pB_no he]
          clear he
          go_wp2
          go_quiet (fail)
          have hbq := below_drewN hb nq
          go_wp2
          go_ret
          exact ⟨by rw [pB_no (at_ne hlt hlt2 HE.out)]; rfl, hbq⟩
      · have hl2 : us.length ≤ k := by have := HL.out; omega
        clear hl
        go_wp2
        go_ret
        exact ⟨by rw [pB_yes (take_all (by omega) hl2 HT.out)]; rfl, hb⟩
  · have hl' : ¬ ((vs.length : Nat) : Int) = ((us.length : Nat) : Int) := by omega
    go_enter Tryz.func76, Tryz.ntmps76
    go_wp2
    go_ret
    exact ⟨by rw [pB_no (len_ne hl)]; rfl, Below.refl _ _⟩
end Go.Proofs.YtcebgbcgkkfedaaGreat

namespace Go.Proofs.YtcebgbcgkkfedaaGreat
open Go.RowKit

set_option maxRecDepth 100000 in
set_option maxHeartbeats 1000000 in
theorem sameRecs_any (a1 a2 : Option Addr) (vs us : List Vl) (c1 c2 : Nat) (w : World) (h1 : vs.length ≤ 1048576) (hm1 : ValsAt w 0 a1 vs) (hm2 : ValsAt w 0 a2 us) :
    Calls Tryz.prog 75 #[.agg #[.slice a1 vs.length c1], .agg #[.slice a2 us.length c2]] w fun e w' => e = .returned (.bool (pB (vs = us))) ∧ Below w.heap.size w w' := by
  have hbA : Below w.heap.size w ((w.alloc (.cells #[.slice a1 vs.length c1] 94)).alloc (.cells #[.slice a2 us.length c2] 94)) := ((Below.refl _ _).alloc (Nat.le_refl _) _).alloc (by simp) _
  go_enter Tryz.func75, Tryz.ntmps75
  go_wp2_with fail
  refine (eqVals_any a1 a2 vs us c1 c2 _ h1 (hm1.mono hbA) (hm2.mono hbA)).mono ?_
  rintro e w1 ⟨rfl, hb⟩
  go_wp2
  go_ret
  exact ⟨rfl, hbA.trans (hb.mono hbA.size)⟩

theorem fr_eq {f g : Fr} : f = g ↔ f.fn = g.fn ∧ f.pc = g.pc ∧ f.locals = g.locals ∧ f.stack = g.stack := by
  cases f; cases g; simp

set_option maxRecDepth 100000 in
set_option maxHeartbeats 2000000 in
theorem sameFrames_any (f g : Fr) (a1 a2 b1 b2 : Option Addr) (c1 c2 e1 e2 : Nat) (w : World) (h1 : f.locals.length ≤ 1048576) (h2 : f.stack.length ≤ 1048576) (hm1 : ValsAt w 0 a1 f.locals) (hm2 : ValsAt w 0 a2 g.locals) (hn1 : ValsAt w 0 b1 f.stack) (hn2 : ValsAt w 0 b2 g.stack) :
    Calls Tryz.prog 73 #[.agg #[.int .i64 f.fn, .int .i64 f.pc, .slice a1 f.locals.length c1, .slice b1 f.stack.length e1], .agg #[.int .i64 g.fn, .int .i64 g.pc, .slice a2 g.locals.length c2, .slice b2 g.stack.length e2]] w fun e w' => e = .returned (.bool (pB (f = g))) ∧ Below w.heap.size w w' := by
  obtain ⟨P, hP⟩ : ∃ P : Prop, (f = g) = P := ⟨_, rfl⟩
  rw [hP]
  obtain ⟨f1, p1, l1, s1⟩ := f
  obtain ⟨f2, p2, l2, s2⟩ := g
  have HE : Hid (P ↔ f1 = f2 ∧ p1 = p2 ∧ l1 = l2 ∧ s1 = s2) := by
    show _ ↔ _
    rw [← hP]
    simp
  clear hP
  simp only at h1 h2 hm1 hm2 hn1 hn2 ⊢
  have hb2 : ∀ a b, Below w.heap.size w ((w.alloc a).alloc b) := fun a b => ((Below.refl _ _).alloc (Nat.le_refl _) _).alloc (by simp) _
  by_cases q1 : f1 = f2
  · subst q1
    by_cases q2 : p1 = p2
    · subst q2
      obtain ⟨wA, hwA⟩ : ∃ wA, wA = (w.alloc (.cells #[.int .i64 f1, .int .i64 p1, .slice a1 l1.length c1, .slice b1 s1.length e1] 90)).alloc (.cells #[.int .i64 f1, .int .i64 p1, .slice a2 l2.length c2, .slice b2 s2.length e2] 90) := ⟨_, rfl⟩
      have hbA : Below w.heap.size w wA := by rw [hwA]; exact ((Below.refl _ _).alloc (Nat.le_refl _) _).alloc (by simp) _
      have hX : wA.heap[w.heap.size]? = some (.cells #[.int .i64 f1, .int .i64 p1, .slice a1 l1.length c1, .slice b1 s1.length e1] 90 (0, 0)) := by rw [hwA]; exact block_old (block_new _ _ _) _
      have hY : wA.heap[w.heap.size + 1]? = some (.cells #[.int .i64 f1, .int .i64 p1, .slice a2 l2.length c2, .slice b2 s2.length e2] 90 (0, 0)) := by rw [hwA]; exact block_new_at _ _ _ _ (by simp)
      clear hb2
      go_enter Tryz.func73, Tryz.ntmps73
      go_wp2_with fail
      rw [← hwA]
      clear hwA
      refine (eqVals_any a1 a2 l1 l2 c1 c2 _ h1 (hm1.mono hbA) (hm2.mono hbA)).mono ?_
      rintro e w1 ⟨rfl, hb1⟩
      have hX1 := block_kept hX hb1
      have hY1 := block_kept hY hb1
      have hB1 := hbA.trans (hb1.mono hbA.size)
      have x1 := block_cell hX1
      have y1 := block_cell hY1
      clear hbA hX hY hb1
      by_cases q3 : l1 = l2
      · have Q3 := hid q3
        have p3 := pB_yes q3
        rw [p3]
        clear q3 p3
        go_wp2_with fail
        refine (eqVals_any b1 b2 s1 s2 e1 e2 _ h2 (hn1.mono hB1) (hn2.mono hB1)).mono ?_
        rintro e w2 ⟨rfl, hb2⟩
        go_wp2
        go_ret
        refine ⟨?_, hB1.trans (hb2.mono hB1.size)⟩
        rw [show P = (s1 = s2) from propext ⟨fun h => (HE.out.1 h).2.2.2, fun h => HE.out.2 ⟨by trivial, by trivial, Q3.out, h⟩⟩]
        rfl
      · have Q3 := hid q3
        have p3 := pB_no q3
        rw [p3]
        clear q3 p3
        go_wp2
        go_ret
        exact ⟨by rw [pB_no (fun h => Q3.out (HE.out.1 h).2.2.1)]; rfl, hB1⟩
    · have Q2 := hid q2
      go_enter Tryz.func73, Tryz.ntmps73
      go_wp2
      go_ret
      exact ⟨by rw [pB_no (fun h => Q2.out (HE.out.1 h).2.1)]; rfl, hb2 _ _⟩
  · have Q1 := hid q1
    go_enter Tryz.func73, Tryz.ntmps73
    go_wp2
    go_ret
    exact ⟨by rw [pB_no (fun h => Q1.out (HE.out.1 h).1)]; rfl, hb2 _ _⟩

set_option maxRecDepth 100000 in
set_option maxHeartbeats 2000000 in
theorem eqRecs_any (a1 a2 : Option Addr) (xs ys : List (List Vl)) (c1 c2 : Nat) (w : World) (h1 : xs.length ≤ 1048576) (hs : ∀ r ∈ xs, r.length ≤ 1048576) (hm1 : RecsAt w 0 a1 xs) (hm2 : RecsAt w 0 a2 ys) :
    Calls Tryz.prog 74 #[.slice a1 xs.length c1, .slice a2 ys.length c2, .func (.func 75) #[] #[]] w fun e w' => e = .returned (.bool (pB (xs = ys))) ∧ Below w.heap.size w w' := by
  by_cases hl : xs.length = ys.length
  · have HL := hid hl
    have hl' : ((xs.length : Nat) : Int) = ((ys.length : Nat) : Int) := by omega
    go_enter Tryz.func74, Tryz.ntmps74
    go_wp2
    clear hl'
    go_loopw [17] (fun i wr => ∃ (k : Nat), k ≤ xs.length ∧ i = .int .i64 k ∧ Hid (xs.take k = ys.take k) ∧ Below w.heap.size w wr) (fun i _ => xs.length - (intOf i).toNat)
    case atStart => exact ⟨0, by omega, rfl, rfl, Below.refl _ _⟩
    case round =>
      obtain ⟨k, hk, rfl, HT, hb⟩ := hrel
      by_cases hlt : k < xs.length
      · have hlt2 : k < ys.length := by omega
        obtain ⟨b, off, pa, pc, rfl, -, d1, hvp⟩ := hm1 k hlt
        obtain ⟨b2, off2, qa, qc, rfl, -, g1, hvq⟩ := hm2 k hlt2
        have d1' := cell_later hb d1
        have g1' := cell_later hb g1
        have g1A := cell_later (hb.alloc hb.size (.cells #[.slice pa xs[k].length pc] 94)) g1
        obtain ⟨wB, hwB⟩ : ∃ wB, wB = (wr.alloc (.cells #[.slice pa xs[k].length pc] 94)).alloc (.cells #[.slice qa ys[k].length qc] 94) := ⟨_, rfl⟩
        have hbB : Below w.heap.size w wB := by rw [hwB]; exact (hb.alloc hb.size _).alloc (by have := hb.size; simp; omega) _
        have hcall := sameRecs_any pa qa xs[k] ys[k] pc qc wB (hs _ (List.getElem_mem hlt)) (hvp.mono hbB) (hvq.mono hbB)
        clear d1 g1 hl
        go_wp2_with fail
        rw [← hwB]
        clear hwB d1' g1' g1A
        refine hcall.mono ?_
        rintro e w2 ⟨rfl, hb2⟩
        have hb3 := hbB.trans (hb2.mono hbB.size)
        clear hcall hb2 hbB
        by_cases he : xs[k] = ys[k]
        · have HE := hid he
          rw [pB_yes he]
          clear he
          go_wp2
          go_roundw
          case rel => exact ⟨k + 1, by omega, by go_num, take_eq hlt hlt2 HT.out HE.out, hb3⟩
          case measure => simp [intOf]; omega
        · have HE := hid he
          rw [pB_no he]
          clear he
          go_wp2
          go_ret
          exact ⟨by rw [pB_no (at_ne hlt hlt2 HE.out)]; rfl, hb3⟩
      · have hl2 : ys.length ≤ k := by have := HL.out; omega
        clear hl
        go_wp2
        go_ret
        exact ⟨by rw [pB_yes (take_all (by omega) hl2 HT.out)]; rfl, hb⟩
  · have hl' : ¬ ((xs.length : Nat) : Int) = ((ys.length : Nat) : Int) := by omega
    go_enter Tryz.func74, Tryz.ntmps74
    go_wp2
    go_ret
    exact ⟨by rw [pB_no (len_ne hl)]; rfl, Below.refl _ _⟩

set_option maxRecDepth 100000 in
set_option maxHeartbeats 2000000 in
theorem eqFrs_any (a1 a2 : Option Addr) (xs ys : List Fr) (c1 c2 : Nat) (w : World) (h1 : xs.length ≤ 1048576) (hs : ∀ f ∈ xs, f.locals.length ≤ 1048576 ∧ f.stack.length ≤ 1048576) (hm1 : FrsAt w 0 a1 xs) (hm2 : FrsAt w 0 a2 ys) :
    Calls Tryz.prog 72 #[.slice a1 xs.length c1, .slice a2 ys.length c2, .func (.func 73) #[] #[]] w fun e w' => e = .returned (.bool (pB (xs = ys))) ∧ Below w.heap.size w w' := by
  by_cases hl : xs.length = ys.length
  · have HL := hid hl
    have hl' : ((xs.length : Nat) : Int) = ((ys.length : Nat) : Int) := by omega
    go_enter Tryz.func72, Tryz.ntmps72
    go_wp2
    clear hl'
    go_loopw [17] (fun i wr => ∃ (k : Nat), k ≤ xs.length ∧ i = .int .i64 k ∧ Hid (xs.take k = ys.take k) ∧ Below w.heap.size w wr) (fun i _ => xs.length - (intOf i).toNat)
    case atStart => exact ⟨0, by omega, rfl, rfl, Below.refl _ _⟩
    case round =>
      obtain ⟨k, hk, rfl, HT, hb⟩ := hrel
      by_cases hlt : k < xs.length
      · have hlt2 : k < ys.length := by omega
        obtain ⟨b, off, pa, pc, pb, pd, rfl, -, d1, d2, d3, d4, hvp, hvp2⟩ := hm1 k hlt
        obtain ⟨b2, off2, qa, qc, qb, qd, rfl, -, g1, g2, g3, g4, hvq, hvq2⟩ := hm2 k hlt2
        have d1' := cell_later hb d1
        have d2' := cell_later hb d2
        have d3' := cell_later hb d3
        have d4' := cell_later hb d4
        have g1' := cell_later hb g1
        have g2' := cell_later hb g2
        have g3' := cell_later hb g3
        have g4' := cell_later hb g4
        have g1A := cell_later (hb.alloc hb.size (.cells #[.int .i64 xs[k].fn, .int .i64 xs[k].pc, .slice pa xs[k].locals.length pc, .slice pb xs[k].stack.length pd] 90)) g1
        have g2A := cell_later (hb.alloc hb.size (.cells #[.int .i64 xs[k].fn, .int .i64 xs[k].pc, .slice pa xs[k].locals.length pc, .slice pb xs[k].stack.length pd] 90)) g2
        have g3A := cell_later (hb.alloc hb.size (.cells #[.int .i64 xs[k].fn, .int .i64 xs[k].pc, .slice pa xs[k].locals.length pc, .slice pb xs[k].stack.length pd] 90)) g3
        have g4A := cell_later (hb.alloc hb.size (.cells #[.int .i64 xs[k].fn, .int .i64 xs[k].pc, .slice pa xs[k].locals.length pc, .slice pb xs[k].stack.length pd] 90)) g4
        obtain ⟨wB, hwB⟩ : ∃ wB, wB = (wr.alloc (.cells #[.int .i64 xs[k].fn, .int .i64 xs[k].pc, .slice pa xs[k].locals.length pc, .slice pb xs[k].stack.length pd] 90)).alloc (.cells #[.int .i64 ys[k].fn, .int .i64 ys[k].pc, .slice qa ys[k].locals.length qc, .slice qb ys[k].stack.length qd] 90) := ⟨_, rfl⟩
        have hbB : Below w.heap.size w wB := by rw [hwB]; exact (hb.alloc hb.size _).alloc (by have := hb.size; simp; omega) _
        have hcall := sameFrames_any xs[k] ys[k] pa qa pb qb pc qc pd qd wB (hs _ (List.getElem_mem hlt)).1 (hs _ (List.getElem_mem hlt)).2 (hvp.mono hbB) (hvq.mono hbB) (hvp2.mono hbB) (hvq2.mono hbB)
        clear d1 d2 d3 d4 g1 g2 g3 g4 hl
        go_wp2_with fail
        rw [← hwB]
        clear hwB d1' d2' d3' d4' g1' g2' g3' g4' g1A g2A g3A g4A
        refine hcall.mono ?_
        rintro e w2 ⟨rfl, hb2⟩
        have hb3 := hbB.trans (hb2.mono hbB.size)
        clear hcall hb2 hbB
        by_cases he : xs[k] = ys[k]
        · have HE := hid he
          rw [pB_yes he]
          clear he
          go_wp2
          go_roundw
          case rel => exact ⟨k + 1, by omega, by go_num, take_eq hlt hlt2 HT.out HE.out, hb3⟩
          case measure => simp [intOf]; omega
        · have HE := hid he
          rw [pB_no he]
          clear he
          go_wp2
          go_ret
          exact ⟨by rw [pB_no (at_ne hlt hlt2 HE.out)]; rfl, hb3⟩
      · have hl2 : ys.length ≤ k := by have := HL.out; omega
        clear hl
        go_wp2
        go_ret
        exact ⟨by rw [pB_yes (take_all (by omega) hl2 HT.out)]; rfl, hb⟩
  · have hl' : ¬ ((xs.length : Nat) : Int) = ((ys.length : Nat) : Int) := by omega
    go_enter Tryz.func72, Tryz.ntmps72
    go_wp2
    go_ret
    exact ⟨by rw [pB_no (len_ne hl)]; rfl, Below.refl _ _⟩
end Go.Proofs.YtcebgbcgkkfedaaGreat

namespace Go.Proofs.YtcebgbcgkkfedaaGreat
open Go.RowKit

theorem vm_eq {x y : VmD} : x = y ↔ x.made = y.made ∧ x.status = y.status ∧ x.trap = y.trap ∧ x.value = y.value ∧ x.steps = y.steps ∧ x.frames = y.frames ∧ x.heap = y.heap ∧ x.out = y.out := by
  cases x; cases y; simp; constructor
  · rintro ⟨h1, h2, h3, h4, h5, h6, h7, h8⟩; exact ⟨h3, h5, h6, h7, h8, h1, h2, h4⟩
  · rintro ⟨h3, h5, h6, h7, h8, h1, h2, h4⟩; exact ⟨h1, h2, h3, h4, h5, h6, h7, h8⟩

set_option maxRecDepth 100000 in
set_option maxHeartbeats 4000000 in
theorem sameStates_any (x y : VmD) (fa ha oa fb hb ob : Option Addr) (fc hc oc fd hd od : Nat) (w : World) (hx : VmSmall x) (hm1 : VmAt w 0 fa ha oa x) (hm2 : VmAt w 0 fb hb ob y) :
    Calls Tryz.prog 45 #[.agg (vmCells fa ha oa fc hc oc x), .agg (vmCells fb hb ob fd hd od y)] w fun e w' => e = .returned (.bool (pB (x = y))) ∧ Below w.heap.size w w' := by
  obtain ⟨P, hP⟩ : ∃ P : Prop, (x = y) = P := ⟨_, rfl⟩
  rw [hP]
  have HE : Hid (P ↔ x.made = y.made ∧ x.status = y.status ∧ x.trap = y.trap ∧ x.value = y.value ∧ x.steps = y.steps ∧ x.frames = y.frames ∧ x.heap = y.heap ∧ x.out = y.out) := by
    show _ ↔ _
    rw [← hP]
    exact vm_eq
  clear hP
  unfold vmCells
  have hb2 : ∀ a b, Below w.heap.size w ((w.alloc a).alloc b) := fun a b => ((Below.refl _ _).alloc (Nat.le_refl _) _).alloc (by simp) _
  have hg36 := guard36
  have e36 := eqIn36 x.value y.value
  obtain ⟨m1, hm1e⟩ : ∃ m, m = x.made := ⟨_, rfl⟩
  obtain ⟨m2, hm2e⟩ : ∃ m, m = y.made := ⟨_, rfl⟩
  obtain ⟨s1, hs1e⟩ : ∃ m, m = x.status := ⟨_, rfl⟩
  obtain ⟨s2, hs2e⟩ : ∃ m, m = y.status := ⟨_, rfl⟩
  obtain ⟨t1, ht1e⟩ : ∃ m, m = x.trap := ⟨_, rfl⟩
  obtain ⟨t2, ht2e⟩ : ∃ m, m = y.trap := ⟨_, rfl⟩
  obtain ⟨z1, hz1e⟩ : ∃ m, m = x.steps := ⟨_, rfl⟩
  obtain ⟨z2, hz2e⟩ : ∃ m, m = y.steps := ⟨_, rfl⟩
  rw [← hm1e, ← hm2e, ← hs1e, ← hs2e, ← ht1e, ← ht2e, ← hz1e, ← hz2e] at HE ⊢
  clear hm1e hm2e hs1e hs2e ht1e ht2e hz1e hz2e
  by_cases q1 : m1 = m2
  case neg =>
    have Q := hid q1
    go_enter Tryz.func45, Tryz.ntmps45
    go_wp2
    go_ret
    exact ⟨by rw [pB_no (fun h => Q.out (HE.out.1 h).1)]; rfl, hb2 _ _⟩
  subst q1
  by_cases q2 : s1 = s2
  case neg =>
    have Q := hid q2
    go_enter Tryz.func45, Tryz.ntmps45
    go_wp2
    go_ret
    exact ⟨by rw [pB_no (fun h => Q.out (HE.out.1 h).2.1)]; rfl, hb2 _ _⟩
  subst q2
  by_cases q3 : t1 = t2
  case neg =>
    have Q := hid q3
    go_enter Tryz.func45, Tryz.ntmps45
    go_wp2
    go_ret
    exact ⟨by rw [pB_no (fun h => Q.out (HE.out.1 h).2.2.1)]; rfl, hb2 _ _⟩
  subst q3
  by_cases q4 : x.value = y.value
  case neg =>
    have Q := hid q4
    rw [pB_no q4] at e36
    clear q4
    go_enter Tryz.func45, Tryz.ntmps45
    go_wp2
    go_ret
    exact ⟨by rw [pB_no (fun h => Q.out (HE.out.1 h).2.2.2.1)]; rfl, hb2 _ _⟩
  have Q4 := hid q4
  rw [pB_yes q4] at e36
  clear q4
  by_cases q5 : z1 = z2
  case neg =>
    have Q := hid q5
    go_enter Tryz.func45, Tryz.ntmps45
    go_wp2
    go_ret
    exact ⟨by rw [pB_no (fun h => Q.out (HE.out.1 h).2.2.2.2.1)]; rfl, hb2 _ _⟩
  subst q5
  obtain ⟨wA, hwA⟩ : ∃ wA, wA = (w.alloc (.cells #[.slice fa x.frames.length fc, .slice ha x.heap.length hc, .int .i64 m1, .slice oa x.out.length oc, .int .i64 s1, .int .i64 t1, .int .i64 x.value.k, .int .i64 x.value.n, .string x.value.s, .int .i64 z1] 38)).alloc (.cells #[.slice fb y.frames.length fd, .slice hb y.heap.length hd, .int .i64 m1, .slice ob y.out.length od, .int .i64 s1, .int .i64 t1, .int .i64 y.value.k, .int .i64 y.value.n, .string y.value.s, .int .i64 z1] 38) := ⟨_, rfl⟩
  have hbA : Below w.heap.size w wA := by rw [hwA]; exact hb2 _ _
  have hX : wA.heap[w.heap.size]? = some (.cells #[.slice fa x.frames.length fc, .slice ha x.heap.length hc, .int .i64 m1, .slice oa x.out.length oc, .int .i64 s1, .int .i64 t1, .int .i64 x.value.k, .int .i64 x.value.n, .string x.value.s, .int .i64 z1] 38 (0, 0)) := by rw [hwA]; exact block_old (block_new _ _ _) _
  have hY : wA.heap[w.heap.size + 1]? = some (.cells #[.slice fb y.frames.length fd, .slice hb y.heap.length hd, .int .i64 m1, .slice ob y.out.length od, .int .i64 s1, .int .i64 t1, .int .i64 y.value.k, .int .i64 y.value.n, .string y.value.s, .int .i64 z1] 38 (0, 0)) := by rw [hwA]; exact block_new_at _ _ _ _ (by simp)
  have hM1 := hm1.mono hbA
  have hM2 := hm2.mono hbA
  go_enter Tryz.func45, Tryz.ntmps45
  go_wp2_with fail
  rw [← hwA]
  clear hwA
  refine (eqFrs_any fa fb x.frames y.frames fc fd _ hx.frames (fun f hf => ⟨(hx.locals f hf).1, (hx.stack f hf).1⟩) hM1.frs hM2.frs).mono ?_
  rintro e w1 ⟨rfl, hb1⟩
  have hX1 := block_kept hX hb1
  have hY1 := block_kept hY hb1
  have hB1 := hbA.trans (hb1.mono hbA.size)
  have hN1 := hM1.mono hb1
  have hN2 := hM2.mono hb1
  clear hX hY hbA hb1 hM1 hM2
  by_cases q6 : x.frames = y.frames
  case neg =>
    have Q := hid q6
    rw [pB_no q6]
    clear q6
    go_wp2
    go_ret
    exact ⟨by rw [pB_no (fun h => Q.out (HE.out.1 h).2.2.2.2.2.1)]; rfl, hB1⟩
  have Q6 := hid q6
  rw [pB_yes q6]
  clear q6
  have x1 := block_cell hX1
  have y1 := block_cell hY1
  go_wp2_with fail
  clear x1 y1
  refine (eqRecs_any ha hb x.heap y.heap hc hd _ hx.heap (fun r hr => (hx.fields r hr).1) hN1.recs hN2.recs).mono ?_
  rintro e w2 ⟨rfl, hb3⟩
  have hX2 := block_kept hX1 hb3
  have hY2 := block_kept hY1 hb3
  have hB2 := hB1.trans (hb3.mono hB1.size)
  have hO1 := hN1.mono hb3
  have hO2 := hN2.mono hb3
  clear hX1 hY1 hB1 hb3 hN1 hN2
  by_cases q7 : x.heap = y.heap
  case neg =>
    have Q := hid q7
    rw [pB_no q7]
    clear q7
    go_wp2
    go_ret
    exact ⟨by rw [pB_no (fun h => Q.out (HE.out.1 h).2.2.2.2.2.2.1)]; rfl, hB2⟩
  have Q7 := hid q7
  rw [pB_yes q7]
  clear q7
  have x1 := block_cell hX2
  have y1 := block_cell hY2
  go_wp2_with fail
  clear x1 y1
  refine (eqStrs_any oa ob x.out y.out oc od _ hx.out hO1.out hO2.out).mono ?_
  rintro e w3 ⟨rfl, hb4⟩
  go_wp2
  go_ret
  refine ⟨?_, hB2.trans (hb4.mono hB2.size)⟩
  rw [show P = (x.out = y.out) from propext ⟨fun h => (HE.out.1 h).2.2.2.2.2.2.2, fun h => HE.out.2 ⟨by trivial, by trivial, by trivial, Q4.out, by trivial, Q6.out, Q7.out, h⟩⟩]
  rfl
end Go.Proofs.YtcebgbcgkkfedaaGreat

namespace Go.Proofs.YtcebgbcgkkfedaaGreat
open Go.RowKit

set_option maxRecDepth 100000 in
set_option maxHeartbeats 4000000 in
theorem sSame_any (x y : VmD) (fa ha oa fb hb ob : Option Addr) (fc hc oc fd hd od : Nat) (w : World) (hx : VmSmall x) (hm1 : VmAt w 0 fa ha oa x) (hm2 : VmAt w 0 fb hb ob y) :
    Calls Tryz.prog 71 #[.agg (vmCells fa ha oa fc hc oc x), .agg (vmCells fb hb ob fd hd od y)] w fun e w' => e = .returned (.bool (pB (x = y))) ∧ Below w.heap.size w w' := by
  obtain ⟨P, hP⟩ : ∃ P : Prop, (x = y) = P := ⟨_, rfl⟩
  rw [hP]
  have HE : Hid (P ↔ x.made = y.made ∧ x.status = y.status ∧ x.trap = y.trap ∧ x.value = y.value ∧ x.steps = y.steps ∧ x.frames = y.frames ∧ x.heap = y.heap ∧ x.out = y.out) := by
    show _ ↔ _
    rw [← hP]
    exact vm_eq
  clear hP
  unfold vmCells
  have hb2 : ∀ a b, Below w.heap.size w ((w.alloc a).alloc b) := fun a b => ((Below.refl _ _).alloc (Nat.le_refl _) _).alloc (by simp) _
  have hg36 := guard36
  have e36 := eqIn36 x.value y.value
  obtain ⟨m1, hm1e⟩ : ∃ m, m = x.made := ⟨_, rfl⟩
  obtain ⟨m2, hm2e⟩ : ∃ m, m = y.made := ⟨_, rfl⟩
  obtain ⟨s1, hs1e⟩ : ∃ m, m = x.status := ⟨_, rfl⟩
  obtain ⟨s2, hs2e⟩ : ∃ m, m = y.status := ⟨_, rfl⟩
  obtain ⟨t1, ht1e⟩ : ∃ m, m = x.trap := ⟨_, rfl⟩
  obtain ⟨t2, ht2e⟩ : ∃ m, m = y.trap := ⟨_, rfl⟩
  obtain ⟨z1, hz1e⟩ : ∃ m, m = x.steps := ⟨_, rfl⟩
  obtain ⟨z2, hz2e⟩ : ∃ m, m = y.steps := ⟨_, rfl⟩
  rw [← hm1e, ← hm2e, ← hs1e, ← hs2e, ← ht1e, ← ht2e, ← hz1e, ← hz2e] at HE ⊢
  clear hm1e hm2e hs1e hs2e ht1e ht2e hz1e hz2e
  by_cases q1 : m1 = m2
  case neg =>
    have Q := hid q1
    go_enter Tryz.func71, Tryz.ntmps71
    go_wp2
    go_ret
    exact ⟨by rw [pB_no (fun h => Q.out (HE.out.1 h).1)]; rfl, hb2 _ _⟩
  subst q1
  by_cases q2 : s1 = s2
  case neg =>
    have Q := hid q2
    go_enter Tryz.func71, Tryz.ntmps71
    go_wp2
    go_ret
    exact ⟨by rw [pB_no (fun h => Q.out (HE.out.1 h).2.1)]; rfl, hb2 _ _⟩
  subst q2
  by_cases q3 : t1 = t2
  case neg =>
    have Q := hid q3
    go_enter Tryz.func71, Tryz.ntmps71
    go_wp2
    go_ret
    exact ⟨by rw [pB_no (fun h => Q.out (HE.out.1 h).2.2.1)]; rfl, hb2 _ _⟩
  subst q3
  by_cases q4 : x.value = y.value
  case neg =>
    have Q := hid q4
    rw [pB_no q4] at e36
    clear q4
    go_enter Tryz.func71, Tryz.ntmps71
    go_wp2
    go_ret
    exact ⟨by rw [pB_no (fun h => Q.out (HE.out.1 h).2.2.2.1)]; rfl, hb2 _ _⟩
  have Q4 := hid q4
  rw [pB_yes q4] at e36
  clear q4
  by_cases q5 : z1 = z2
  case neg =>
    have Q := hid q5
    go_enter Tryz.func71, Tryz.ntmps71
    go_wp2
    go_ret
    exact ⟨by rw [pB_no (fun h => Q.out (HE.out.1 h).2.2.2.2.1)]; rfl, hb2 _ _⟩
  subst q5
  have hol := hx.out
  have hhl := hx.heap
  have hfl := hx.frames
  by_cases q6 : x.out.length = y.out.length
  case neg =>
    have Q := hid q6
    have hl' : ¬ ((x.out.length : Nat) : Int) = ((y.out.length : Nat) : Int) := by omega
    clear q6
    go_enter Tryz.func71, Tryz.ntmps71
    go_wp2
    go_ret
    exact ⟨by rw [pB_no (fun h => Q.out (by rw [(HE.out.1 h).2.2.2.2.2.2.2]))]; rfl, hb2 _ _⟩
  by_cases q7 : x.heap.length = y.heap.length
  case neg =>
    have Q := hid q7
    have hl0 : ((x.out.length : Nat) : Int) = ((y.out.length : Nat) : Int) := by omega
    have hl' : ¬ ((x.heap.length : Nat) : Int) = ((y.heap.length : Nat) : Int) := by omega
    clear q6 q7
    go_enter Tryz.func71, Tryz.ntmps71
    go_wp2
    go_ret
    exact ⟨by rw [pB_no (fun h => Q.out (by rw [(HE.out.1 h).2.2.2.2.2.2.1]))]; rfl, hb2 _ _⟩
  by_cases q8 : x.frames.length = y.frames.length
  case neg =>
    have Q := hid q8
    have hl0 : ((x.out.length : Nat) : Int) = ((y.out.length : Nat) : Int) := by omega
    have hl1 : ((x.heap.length : Nat) : Int) = ((y.heap.length : Nat) : Int) := by omega
    have hl' : ¬ ((x.frames.length : Nat) : Int) = ((y.frames.length : Nat) : Int) := by omega
    clear q6 q7 q8
    go_enter Tryz.func71, Tryz.ntmps71
    go_wp2
    go_ret
    exact ⟨by rw [pB_no (fun h => Q.out (by rw [(HE.out.1 h).2.2.2.2.2.1]))]; rfl, hb2 _ _⟩
  have Q6 := hid q6
  have Q7 := hid q7
  have Q8 := hid q8
  have hl0 : ((x.out.length : Nat) : Int) = ((y.out.length : Nat) : Int) := by omega
  have hl1 : ((x.heap.length : Nat) : Int) = ((y.heap.length : Nat) : Int) := by omega
  have hl2 : ((x.frames.length : Nat) : Int) = ((y.frames.length : Nat) : Int) := by omega
  obtain ⟨wA, hwA⟩ : ∃ wA, wA = (w.alloc (.cells #[.slice fa x.frames.length fc, .slice ha x.heap.length hc, .int .i64 m1, .slice oa x.out.length oc, .int .i64 s1, .int .i64 t1, .int .i64 x.value.k, .int .i64 x.value.n, .string x.value.s, .int .i64 z1] 38)).alloc (.cells #[.slice fb y.frames.length fd, .slice hb y.heap.length hd, .int .i64 m1, .slice ob y.out.length od, .int .i64 s1, .int .i64 t1, .int .i64 y.value.k, .int .i64 y.value.n, .string y.value.s, .int .i64 z1] 38) := ⟨_, rfl⟩
  have hbA : Below w.heap.size w wA := by rw [hwA]; exact hb2 _ _
  have hX : wA.heap[w.heap.size]? = some (.cells #[.slice fa x.frames.length fc, .slice ha x.heap.length hc, .int .i64 m1, .slice oa x.out.length oc, .int .i64 s1, .int .i64 t1, .int .i64 x.value.k, .int .i64 x.value.n, .string x.value.s, .int .i64 z1] 38 (0, 0)) := by rw [hwA]; exact block_old (block_new _ _ _) _
  have hY : wA.heap[w.heap.size + 1]? = some (.cells #[.slice fb y.frames.length fd, .slice hb y.heap.length hd, .int .i64 m1, .slice ob y.out.length od, .int .i64 s1, .int .i64 t1, .int .i64 y.value.k, .int .i64 y.value.n, .string y.value.s, .int .i64 z1] 38 (0, 0)) := by rw [hwA]; exact block_new_at _ _ _ _ (by simp)
  go_enter Tryz.func71, Tryz.ntmps71
  clear q6 q7 q8
  go_wp2
  rw [← hwA]
  clear hwA hl0 hl1 hl2 e36 hg36 hb2
  go_loopw [5] (fun i wr => ∃ (k : Nat), k ≤ x.out.length ∧ i = .int .i64 k ∧ Hid (x.out.take k = y.out.take k) ∧ wr.heap[w.heap.size]? = some (.cells #[.slice fa x.frames.length fc, .slice ha x.heap.length hc, .int .i64 m1, .slice oa x.out.length oc, .int .i64 s1, .int .i64 t1, .int .i64 x.value.k, .int .i64 x.value.n, .string x.value.s, .int .i64 z1] 38 (0, 0)) ∧ wr.heap[w.heap.size + 1]? = some (.cells #[.slice fb y.frames.length fd, .slice hb y.heap.length hd, .int .i64 m1, .slice ob y.out.length od, .int .i64 s1, .int .i64 t1, .int .i64 y.value.k, .int .i64 y.value.n, .string y.value.s, .int .i64 z1] 38 (0, 0)) ∧ Below w.heap.size w wr) (fun i _ => x.out.length - (intOf i).toNat)
  case atStart => exact ⟨0, by omega, rfl, rfl, hX, hY, hbA⟩
  case round =>
    obtain ⟨k, hk, rfl, HT, hXr, hYr, hbr⟩ := hrel
    clear hX hY hbA
    have x1 := block_cell hXr
    have y1 := block_cell hYr
    by_cases hlt : k < x.out.length
    · have hlt2 : k < y.out.length := by have := Q6.out; omega
      obtain ⟨b, off, rfl, -, d1⟩ := hm1.out k hlt
      obtain ⟨b2, off2, rfl, -, g1⟩ := hm2.out k hlt2
      have d1' := cell_later hbr d1
      have g1' := cell_later hbr g1
      clear d1 g1
      by_cases he : x.out[k] = y.out[k]
      · have HE2 := hid he
        have hq : (x.out[k].toList == y.out[k].toList) = true := by rw [bytes_eq, pB_yes he]
        clear he
        go_wp2
        go_quiet (fail)
        have hbd : Below wr.heap.size wr (wr.drewN nq) := below_drewN (Below.refl _ _) nq
        go_wp2
        go_roundw
        case rel => exact ⟨k + 1, by omega, by go_num, take_eq hlt hlt2 HT.out HE2.out, block_kept hXr hbd, block_kept hYr hbd, hbr.trans (hbd.mono hbr.size)⟩
        case measure => simp [intOf]; omega
      · have HE2 := hid he
        have hq : (x.out[k].toList == y.out[k].toList) = false := by rw [bytes_eq, pB_no he]
        clear he
        go_wp2
        go_quiet (fail)
        have hbq := below_drewN hbr nq
        go_wp2
        go_ret
        exact ⟨by rw [pB_no (fun h => at_ne hlt hlt2 HE2.out (HE.out.1 h).2.2.2.2.2.2.2)]; rfl, hbq⟩
    · have QO : Hid (x.out = y.out) := take_all (by omega) (by have := Q6.out; omega) HT.out
      clear HT
      go_wp2
      go_loopw [6] (fun i wr => ∃ (k : Nat), k ≤ x.heap.length ∧ i = .int .i64 k ∧ Hid (x.heap.take k = y.heap.take k) ∧ wr.heap[w.heap.size]? = some (.cells #[.slice fa x.frames.length fc, .slice ha x.heap.length hc, .int .i64 m1, .slice oa x.out.length oc, .int .i64 s1, .int .i64 t1, .int .i64 x.value.k, .int .i64 x.value.n, .string x.value.s, .int .i64 z1] 38 (0, 0)) ∧ wr.heap[w.heap.size + 1]? = some (.cells #[.slice fb y.frames.length fd, .slice hb y.heap.length hd, .int .i64 m1, .slice ob y.out.length od, .int .i64 s1, .int .i64 t1, .int .i64 y.value.k, .int .i64 y.value.n, .string y.value.s, .int .i64 z1] 38 (0, 0)) ∧ Below w.heap.size w wr) (fun i _ => x.heap.length - (intOf i).toNat)
      case atStart => exact ⟨0, by omega, rfl, rfl, hXr, hYr, hbr⟩
      case round =>
        obtain ⟨k2, hk2, rfl, HT2, hXs, hYs, hbs⟩ := hrel
        clear hXr hYr hbr x1 y1
        have x1 := block_cell hXs
        have y1 := block_cell hYs
        by_cases hlt : k2 < x.heap.length
        · have hlt2 : k2 < y.heap.length := by have := Q7.out; omega
          obtain ⟨b, off, pa, pc, rfl, -, d1, hvp⟩ := hm1.recs k2 hlt
          obtain ⟨b2, off2, qa, qc, rfl, -, g1, hvq⟩ := hm2.recs k2 hlt2
          obtain ⟨wz, hwz⟩ : ∃ wz, wz = wr := ⟨_, rfl⟩
          subst hwz
          have hS : ∀ w', Below wz.heap.size wz w' → w'.cell? ⟨w.heap.size, 1, none⟩ = some (.slice (some ⟨b, off, none⟩) x.heap.length hc) ∧ w'.cell? ⟨b, off + k2, none⟩ = some (.slice pa x.heap[k2].length pc) ∧ w'.cell? ⟨w.heap.size + 1, 1, none⟩ = some (.slice (some ⟨b2, off2, none⟩) y.heap.length hd) ∧ w'.cell? ⟨b2, off2 + k2, none⟩ = some (.slice qa y.heap[k2].length qc) := fun w' q => ⟨by rw [block_cell (block_kept hXs q)]; rfl, cell_later (hbs.trans (q.mono hbs.size)) d1, by rw [block_cell (block_kept hYs q)]; rfl, cell_later (hbs.trans (q.mono hbs.size)) g1⟩
          have HS := hid hS
          obtain ⟨j0, j1, j2, j3⟩ := hS wz (Below.refl _ _)
          have HXs := hid hXs
          have HYs := hid hYs
          have HBs := hid hbs
          have HVP := hid hvp
          have HVQ := hid hvq
          have hsz := (hx.fields _ (List.getElem_mem hlt)).1
          clear hS d1 g1 hvp hvq hXs hYs hbs x1 y1
          have q : Below wz.heap.size wz wz.drew := (Below.refl _ _).drew
          by_cases he : x.heap[k2] = y.heap[k2]
          · have HE2 := hid he
            have p1 : pB (x.heap[k2] = y.heap[k2]) = true := pB_yes he
            have p2 : (!pB (x.heap[k2] = y.heap[k2])) = false := by rw [p1]; rfl
            clear he
            go_wp2
            go_region_held3 (fun w' => w'.cell? ⟨w.heap.size, 1, none⟩ = some (.slice (some ⟨b, off, none⟩) x.heap.length hc) ∧ w'.cell? ⟨b, off + k2, none⟩ = some (.slice pa x.heap[k2].length pc) ∧ w'.cell? ⟨w.heap.size + 1, 1, none⟩ = some (.slice (some ⟨b2, off2, none⟩) y.heap.length hd) ∧ w'.cell? ⟨b2, off2 + k2, none⟩ = some (.slice qa y.heap[k2].length qc))
              (first | exact ⟨j0, j1, j2, j3⟩ | exact HS.out _ q)
              (first
                | (go_at_call 101; refine (sVals_any pa qa x.heap[k2] y.heap[k2] pc qc _ hsz (HVP.out.mono (HBs.out.trans (q.mono HBs.out.size))) (HVQ.out.mono (HBs.out.trans (q.mono HBs.out.size)))).mono ?_; rintro e w5 ⟨rfl, kd⟩; have q := q.trans (kd.mono q.size)))
            have hbz := HBs.out.trans (q.mono HBs.out.size)
            have hX5 := block_kept HXs.out q
            have hY5 := block_kept HYs.out q
            clear HS j0 j1 j2 j3 p1 p2
            go_wp2
            go_roundw
            case rel => exact ⟨k2 + 1, by omega, by go_num, take_eq hlt hlt2 HT2.out HE2.out, hX5, hY5, hbz⟩
            case measure => simp [intOf]; omega
          · have HE2 := hid he
            have p1 : pB (x.heap[k2] = y.heap[k2]) = false := pB_no he
            have p2 : (!pB (x.heap[k2] = y.heap[k2])) = true := by rw [p1]; rfl
            clear he
            go_wp2
            go_region_held3 (fun w' => w'.cell? ⟨w.heap.size, 1, none⟩ = some (.slice (some ⟨b, off, none⟩) x.heap.length hc) ∧ w'.cell? ⟨b, off + k2, none⟩ = some (.slice pa x.heap[k2].length pc) ∧ w'.cell? ⟨w.heap.size + 1, 1, none⟩ = some (.slice (some ⟨b2, off2, none⟩) y.heap.length hd) ∧ w'.cell? ⟨b2, off2 + k2, none⟩ = some (.slice qa y.heap[k2].length qc))
              (first | exact ⟨j0, j1, j2, j3⟩ | exact HS.out _ q)
              (first
                | (go_at_call 101; refine (sVals_any pa qa x.heap[k2] y.heap[k2] pc qc _ hsz (HVP.out.mono (HBs.out.trans (q.mono HBs.out.size))) (HVQ.out.mono (HBs.out.trans (q.mono HBs.out.size)))).mono ?_; rintro e w5 ⟨rfl, kd⟩; have q := q.trans (kd.mono q.size)))
            have hbz := HBs.out.trans (q.mono HBs.out.size)
            clear HS j0 j1 j2 j3 p1 p2
            go_wp2
            go_ret
            exact ⟨by rw [pB_no (fun h => at_ne hlt hlt2 HE2.out (HE.out.1 h).2.2.2.2.2.2.1)]; rfl, hbz⟩
        · have QH : Hid (x.heap = y.heap) := take_all (by omega) (by have := Q7.out; omega) HT2.out
          clear HT2
          go_wp2
          go_loopw [7] (fun i wr => ∃ (k : Nat), k ≤ x.frames.length ∧ i = .int .i64 k ∧ Hid (x.frames.take k = y.frames.take k) ∧ wr.heap[w.heap.size]? = some (.cells #[.slice fa x.frames.length fc, .slice ha x.heap.length hc, .int .i64 m1, .slice oa x.out.length oc, .int .i64 s1, .int .i64 t1, .int .i64 x.value.k, .int .i64 x.value.n, .string x.value.s, .int .i64 z1] 38 (0, 0)) ∧ wr.heap[w.heap.size + 1]? = some (.cells #[.slice fb y.frames.length fd, .slice hb y.heap.length hd, .int .i64 m1, .slice ob y.out.length od, .int .i64 s1, .int .i64 t1, .int .i64 y.value.k, .int .i64 y.value.n, .string y.value.s, .int .i64 z1] 38 (0, 0)) ∧ Below w.heap.size w wr) (fun i _ => x.frames.length - (intOf i).toNat)
          case atStart => exact ⟨0, by omega, rfl, rfl, hXs, hYs, hbs⟩
          case round =>
            obtain ⟨k3, hk3, rfl, HT3, hXt, hYt, hbt⟩ := hrel
            clear hXs hYs hbs x1 y1
            have x1 := block_cell hXt
            have y1 := block_cell hYt
            by_cases hlt : k3 < x.frames.length
            · have hlt2 : k3 < y.frames.length := by have := Q8.out; omega
              obtain ⟨b, off, pa, pc, pb, pd, rfl, -, d1, d2, d3, d4, hvp, hvp2⟩ := hm1.frs k3 hlt
              obtain ⟨b2, off2, qa, qc, qb, qd, rfl, -, g1, g2, g3, g4, hvq, hvq2⟩ := hm2.frs k3 hlt2
              have hsl := (hx.locals _ (List.getElem_mem hlt)).1
              have hss := (hx.stack _ (List.getElem_mem hlt)).1
              obtain ⟨u1, hu1⟩ : ∃ u, u = x.frames[k3].fn := ⟨_, rfl⟩
              obtain ⟨u2, hu2⟩ : ∃ u, u = y.frames[k3].fn := ⟨_, rfl⟩
              obtain ⟨v1, hv1⟩ : ∃ u, u = x.frames[k3].pc := ⟨_, rfl⟩
              obtain ⟨v2, hv2⟩ : ∃ u, u = y.frames[k3].pc := ⟨_, rfl⟩
              have HF : Hid (x.frames[k3] = y.frames[k3] ↔ u1 = u2 ∧ v1 = v2 ∧ x.frames[k3].locals = y.frames[k3].locals ∧ x.frames[k3].stack = y.frames[k3].stack) := by
                show _ ↔ _
                rw [hu1, hu2, hv1, hv2]
                exact fr_eq
              rw [← hu1] at d1
              rw [← hu2] at g1
              rw [← hv1] at d2
              rw [← hv2] at g2
              have d1' := cell_later hbt d1
              have d2' := cell_later hbt d2
              have d3' := cell_later hbt d3
              have d4' := cell_later hbt d4
              obtain ⟨wC, hwC⟩ : ∃ wC, wC = wr.alloc (.cells #[.int .i64 u1, .int .i64 v1, .slice pa x.frames[k3].locals.length pc, .slice pb x.frames[k3].stack.length pd] 90) := ⟨_, rfl⟩
              have hbC : Below wr.heap.size wr wC := by rw [hwC]; exact (Below.refl _ _).alloc (Nat.le_refl _) _
              have hBC := hbt.trans (hbC.mono hbt.size)
              have hXC := block_kept hXt hbC
              have hYC := block_kept hYt hbC
              have hFC : wC.heap[wr.heap.size]? = some (.cells #[.int .i64 u1, .int .i64 v1, .slice pa x.frames[k3].locals.length pc, .slice pb x.frames[k3].stack.length pd] 90 (0, 0)) := by rw [hwC]; exact block_new _ _ _
              have yA := block_cell (block_old hYt (.cells #[.int .i64 u1, .int .i64 v1, .slice pa x.frames[k3].locals.length pc, .slice pb x.frames[k3].stack.length pd] 90))
              have g1A := cell_later (hbt.alloc hbt.size (.cells #[.int .i64 u1, .int .i64 v1, .slice pa x.frames[k3].locals.length pc, .slice pb x.frames[k3].stack.length pd] 90)) g1
              have g2A := cell_later (hbt.alloc hbt.size (.cells #[.int .i64 u1, .int .i64 v1, .slice pa x.frames[k3].locals.length pc, .slice pb x.frames[k3].stack.length pd] 90)) g2
              have g3A := cell_later (hbt.alloc hbt.size (.cells #[.int .i64 u1, .int .i64 v1, .slice pa x.frames[k3].locals.length pc, .slice pb x.frames[k3].stack.length pd] 90)) g3
              have g4A := cell_later (hbt.alloc hbt.size (.cells #[.int .i64 u1, .int .i64 v1, .slice pa x.frames[k3].locals.length pc, .slice pb x.frames[k3].stack.length pd] 90)) g4
              obtain ⟨wD, hwD⟩ : ∃ wD, wD = wC.alloc (.cells #[.int .i64 u2, .int .i64 v2, .slice qa y.frames[k3].locals.length qc, .slice qb y.frames[k3].stack.length qd] 90) := ⟨_, rfl⟩
              have hbD : Below wC.heap.size wC wD := by rw [hwD]; exact (Below.refl _ _).alloc (Nat.le_refl _) _
              have hBD := hBC.trans (hbD.mono hBC.size)
              have hXD := block_kept hXC hbD
              have hYD := block_kept hYC hbD
              have hFD := block_kept hFC hbD
              have hsC : wC.heap.size = wr.heap.size + 1 := by rw [hwC]; simp
              have hGD : wD.heap[wr.heap.size + 1]? = some (.cells #[.int .i64 u2, .int .i64 v2, .slice qa y.frames[k3].locals.length qc, .slice qb y.frames[k3].stack.length qd] 90 (0, 0)) := by rw [hwD, ← hsC]; exact block_new _ _ _
              have HXD := hid hXD
              have HYD := hid hYD
              have HBD := hid hBD
              have hwE : (wr.alloc (.cells #[.int .i64 u1, .int .i64 v1, .slice pa x.frames[k3].locals.length pc, .slice pb x.frames[k3].stack.length pd] 90)).alloc (.cells #[.int .i64 u2, .int .i64 v2, .slice qa y.frames[k3].locals.length qc, .slice qb y.frames[k3].stack.length qd] 90) = wD := by rw [hwD, hwC]
              have HWE := hid hwE
              clear d1 d2 d3 d4 g1 g2 g3 g4 hwC hwD hbC hBC hXC hYC hFC hbD hBD hXD hYD hsC hu1 hu2 hv1 hv2 hwE
              by_cases c1 : u1 = u2
              case neg =>
                have Q := hid c1
                go_wp2
                go_ret
                exact ⟨by rw [pB_no (fun h => at_ne hlt hlt2 (fun e => Q.out (HF.out.1 e).1) (HE.out.1 h).2.2.2.2.2.1)]; rfl, by rw [HWE.out]; exact HBD.out⟩
              subst c1
              by_cases c2 : v1 = v2
              case neg =>
                have Q := hid c2
                go_wp2
                go_ret
                exact ⟨by rw [pB_no (fun h => at_ne hlt hlt2 (fun e => Q.out (HF.out.1 e).2.1) (HE.out.1 h).2.2.2.2.2.1)]; rfl, by rw [HWE.out]; exact HBD.out⟩
              subst c2
              have hc1 := sVals_any pa qa x.frames[k3].locals y.frames[k3].locals pc qc wD hsl (hvp.mono HBD.out) (hvq.mono HBD.out)
              go_wp2_with fail
              rw [HWE.out]
              clear HWE d1' d2' d3' d4' g1A g2A g3A g4A yA x1 y1
              refine hc1.mono ?_
              rintro e w5 ⟨rfl, kd5⟩
              have hB5 := HBD.out.trans (kd5.mono HBD.out.size)
              have hX5 := block_kept HXD.out kd5
              have hY5 := block_kept HYD.out kd5
              have f5 := block_cell (block_kept hFD kd5)
              have g5 := block_cell (block_kept hGD kd5)
              by_cases c3 : x.frames[k3].locals = y.frames[k3].locals
              case neg =>
                have Q := hid c3
                rw [pB_no c3]
                clear c3 hc1
                go_wp2
                go_ret
                exact ⟨by rw [pB_no (fun h => at_ne hlt hlt2 (fun e => Q.out (HF.out.1 e).2.2.1) (HE.out.1 h).2.2.2.2.2.1)]; rfl, hB5⟩
              have Q3 := hid c3
              rw [pB_yes c3]
              have hc2 := sVals_any pb qb x.frames[k3].stack y.frames[k3].stack pd qd w5 hss (hvp2.mono hB5) (hvq2.mono hB5)
              clear c3 hc1
              go_wp2_with fail
              refine hc2.mono ?_
              rintro e w6 ⟨rfl, kd6⟩
              have hB6 := hB5.trans (kd6.mono hB5.size)
              have hX6 := block_kept hX5 kd6
              have hY6 := block_kept hY5 kd6
              clear f5 g5 hFD hGD
              by_cases c4 : x.frames[k3].stack = y.frames[k3].stack
              case neg =>
                have Q := hid c4
                rw [pB_no c4]
                clear c4 hc2
                go_wp2
                go_ret
                exact ⟨by rw [pB_no (fun h => at_ne hlt hlt2 (fun e => Q.out (HF.out.1 e).2.2.2) (HE.out.1 h).2.2.2.2.2.1)]; rfl, hB6⟩
              have HE2 : Hid (x.frames[k3] = y.frames[k3]) := HF.out.2 ⟨by trivial, by trivial, Q3.out, c4⟩
              rw [pB_yes c4]
              clear c4 hc2
              go_wp2
              go_roundw
              case rel => exact ⟨k3 + 1, by omega, by go_num, take_eq hlt hlt2 HT3.out HE2.out, hX6, hY6, hB6⟩
              case measure => simp [intOf]; omega
            · have QF : Hid (x.frames = y.frames) := take_all (by omega) (by have := Q8.out; omega) HT3.out
              clear HT3
              go_wp2
              go_ret
              refine ⟨?_, hbt⟩
              rw [pB_yes (HE.out.2 ⟨by trivial, by trivial, by trivial, Q4.out, by trivial, QF.out, QH.out, QO.out⟩)]
              rfl
end Go.Proofs.YtcebgbcgkkfedaaGreat

namespace Go.Proofs.YtcebgbcgkkfedaaGreat
open Go.RowKit

set_option maxHeartbeats 1000000 in
theorem ownValues_is (a : Option Addr) (vs : List Vl) (cap : Nat) (w : World) (hs : ValsSmall vs) (hm : ValsAt w 0 a vs) :
    Calls Tryz.prog 96 #[.slice a vs.length cap] w fun e w' => e = .returned (.slice (some ⟨w.heap.size, 0, none⟩) vs.length vs.length) ∧ ValsIs w' w.heap.size vs ∧ Below w.heap.size w w' := by
  obtain ⟨hn, hc⟩ := hs
  obtain ⟨i0, hi, hz0, hz1, hz2⟩ := info_parts info36
  go_enter Tryz.func96, Tryz.ntmps96
  go_wp2_with (first | (at_make; refine wpList_make_full _ rfl _ _ 88 rfl w.heap.size 36 i0 (.agg #[.int .i64 0, .int .i64 0, .string ByteArray.empty]) 3 Tryz.underlying88 hi hz0 hz1 _ _ _ _ vs.length rfl rfl rfl rfl (by rw [hz2]; omega) (by unfold maxLen; omega) (Nat.le_refl _) ?_; intro w1 hown hgrow))
  obtain ⟨cur0, hblk, hsz⟩ := made_block hown
  have hb0 : Below w.heap.size w w1 := (Below.refl _ _).grown hgrow (Nat.le_refl _) (by intro k hk; cases hk)
  clear hown hgrow hi hz0 hz1 hz2
  go_loopw [11] (fun i wr => ∃ (k : Nat) (cur : Array Value), k ≤ vs.length ∧ i = .int .i64 k ∧ wr.heap[w.heap.size]? = some (.cells cur 36 (0, 0)) ∧ cur.size = vs.length * 3 ∧ (∀ j (hj : j < vs.length), j < k → cur[j * 3]? = some (.int .i64 vs[j].k) ∧ cur[j * 3 + 1]? = some (.int .i64 vs[j].n) ∧ cur[j * 3 + 2]? = some (.string vs[j].s)) ∧ Below w.heap.size w wr) (fun i _ => vs.length - (intOf i).toNat)
  case atStart => exact ⟨0, cur0, by omega, rfl, hblk, hsz, fun j _ h => by omega, hb0⟩
  case round =>
    obtain ⟨k, cur, hk, rfl, hblk, hsz, hdone, hb⟩ := hrel
    by_cases hlt : k < vs.length
    · obtain ⟨b, off, rfl, -, c1, c2, c3⟩ := hm k hlt
      have c1' := cell_later hb c1
      have c2' := cell_later hb c2
      have c3' := cell_later hb c3
      clear c1 c2 c3
      have hck := hc vs[k] (List.getElem_mem hlt)
      have hblkA := block_old hblk (.cells #[.int .i64 vs[k].k, .int .i64 vs[k].n, .string vs[k].s] 36)
      have hbA := hb.alloc hb.size (.cells #[.int .i64 vs[k].k, .int .i64 vs[k].n, .string vs[k].s] 36)
      go_wp2_with fail
      refine (ownValue_any _ _ _ _ hck).mono ?_
      rintro e w2 ⟨rfl, hb2⟩
      have hblk2 := block_kept hblkA hb2
      have hfz := block_free hblk2
      have hcl : w2.cell? ⟨w.heap.size, k * 3, none⟩ = some cur[k * 3] := by rw [block_cell hblk2]; simp
      have hcl2 : w2.cell? ⟨w.heap.size, k * 3 + 1, none⟩ = some cur[k * 3 + 1] := by rw [block_cell hblk2]; simp
      have hcl3 : w2.cell? ⟨w.heap.size, k * 3 + 2, none⟩ = some cur[k * 3 + 2] := by rw [block_cell hblk2]; simp
      have hb3 : Below w.heap.size w w2 := hbA.trans (hb2.mono hbA.size)
      go_wp2
      go_roundw
      case rel =>
        refine ⟨k + 1, ((cur.setIfInBounds (k * 3) (.int .i64 vs[k].k)).setIfInBounds (k * 3 + 1) (.int .i64 vs[k].n)).setIfInBounds (k * 3 + 2) (.string vs[k].s), by omega, by go_num, block_set (block_set (block_set hblk2 _) _) _, by simpa using hsz, ?_, ((hb3.setCell (Nat.le_refl _) _).setCell (Nat.le_refl _) _).setCell (Nat.le_refl _) _⟩
        intro j hj hjk
        by_cases e : j = k
        · subst e
          refine ⟨?_, ?_, ?_⟩
          · rw [set_else _ (by omega), set_else _ (by omega)]; exact set_self _ (by omega)
          · rw [set_else _ (by omega)]; exact set_self _ (by simp; omega)
          · exact set_self _ (by simp; omega)
        · obtain ⟨d1, d2, d3⟩ := hdone j hj (by omega)
          refine ⟨?_, ?_, ?_⟩
          · rw [set_else _ (by omega), set_else _ (by omega), set_else _ (by omega)]; exact d1
          · rw [set_else _ (by omega), set_else _ (by omega), set_else _ (by omega)]; exact d2
          · rw [set_else _ (by omega), set_else _ (by omega), set_else _ (by omega)]; exact d3
      case measure => simp [intOf]; omega
    · go_wp2
      go_ret
      refine ⟨rfl, ?_, hb⟩
      exact ValsIs.of (lo := 0) (fun j hj => by
        obtain ⟨d1, d2, d3⟩ := hdone j hj (by omega)
        exact ⟨w.heap.size, 0, rfl, Nat.zero_le _, by rw [block_cell hblk, Nat.zero_add]; exact d1, by rw [block_cell hblk, Nat.zero_add]; exact d2, by rw [block_cell hblk, Nat.zero_add]; exact d3⟩) ⟨cur, hblk, hsz⟩

/-- The cells of frames of which the first k are there. -/
def FrCells (cur : Array Value) (la sa : Nat → Nat) (fr : List Fr) (k : Nat) : Prop := cur.size = fr.length * 4 ∧ ∀ i (h : i < fr.length), i < k → cur[i * 4]? = some (.int .i64 fr[i].fn) ∧ cur[i * 4 + 1]? = some (.int .i64 fr[i].pc) ∧
  cur[i * 4 + 2]? = some (.slice (some ⟨la i, 0, none⟩) fr[i].locals.length fr[i].locals.length) ∧ cur[i * 4 + 3]? = some (.slice (some ⟨sa i, 0, none⟩) fr[i].stack.length fr[i].stack.length)

/-- The values of the first k frames lie in blocks of their own, from B on. -/
structure FrVals (w : World) (B : Nat) (la sa : Nat → Nat) (fr : List Fr) (k : Nat) : Prop where
  loc : ∀ i (h : i < fr.length), i < k → ValsIs w (la i) fr[i].locals
  stk : ∀ i (h : i < fr.length), i < k → ValsIs w (sa i) fr[i].stack
  lob : ∀ i, i < k → B ≤ la i
  sob : ∀ i, i < k → B ≤ sa i
  li : ∀ i j, i < k → j < k → la i = la j → i = j
  si : ∀ i j, i < k → j < k → sa i = sa j → i = j
  ls : ∀ i j, i < k → j < k → la i ≠ sa j

/-- The fields of the first k records lie in blocks of their own, from B on. -/
structure ReVals (w : World) (B : Nat) (rb : Nat → Nat) (hp : List (List Vl)) (k : Nat) : Prop where
  fld : ∀ i (h : i < hp.length), i < k → ValsIs w (rb i) hp[i]
  rob : ∀ i, i < k → B ≤ rb i
  ri : ∀ i j, i < k → j < k → rb i = rb j → i = j
def ReCells (cur : Array Value) (rb : Nat → Nat) (hp : List (List Vl)) (k : Nat) : Prop := cur.size = hp.length ∧ ∀ i (h : i < hp.length), i < k → cur[i]? = some (.slice (some ⟨rb i, 0, none⟩) hp[i].length hp[i].length)
def OuCells (cur : Array Value) (ss : List ByteArray) (k : Nat) : Prop := cur.size = ss.length ∧ ∀ i (h : i < ss.length), i < k → cur[i]? = some (.string ss[i])

theorem FrVals.kept {w w' : World} {B k : Nat} {la sa : Nat → Nat} {fr : List Fr} (h : FrVals w B la sa fr k) (hb : ∀ b vs, B ≤ b → ValsIs w b vs → ValsIs w' b vs) : FrVals w' B la sa fr k :=
  ⟨fun i hi hk => hb _ _ (h.lob i hk) (h.loc i hi hk), fun i hi hk => hb _ _ (h.sob i hk) (h.stk i hi hk), h.lob, h.sob, h.li, h.si, h.ls⟩
theorem ReVals.kept {w w' : World} {B k : Nat} {rb : Nat → Nat} {hp : List (List Vl)} (h : ReVals w B rb hp k) (hb : ∀ b vs, B ≤ b → ValsIs w b vs → ValsIs w' b vs) : ReVals w' B rb hp k :=
  ⟨fun i hi hk => hb _ _ (h.rob i hk) (h.fld i hi hk), h.rob, h.ri⟩

/-- One more. -/
def upd (f : Nat → Nat) (k g : Nat) : Nat → Nat := fun i => if i = k then g else f i
theorem upd_self (f : Nat → Nat) (k g : Nat) : upd f k g k = g := if_pos rfl
theorem upd_else {f : Nat → Nat} {k g i : Nat} (h : i ≠ k) : upd f k g i = f i := if_neg h

theorem FrVals.more {w : World} {B k g1 g2 : Nat} {la sa : Nat → Nat} {fr : List Fr} (h : FrVals w B la sa fr k) (hk : k < fr.length) (h1 : ValsIs w g1 fr[k].locals) (h2 : ValsIs w g2 fr[k].stack) (hB1 : B ≤ g1) (hB2 : B ≤ g2) (h12 : g1 ≠ g2)
    (hn : ∀ i, i < k → la i ≠ g1 ∧ la i ≠ g2 ∧ sa i ≠ g1 ∧ sa i ≠ g2) : FrVals w B (upd la k g1) (upd sa k g2) fr (k + 1) := by
  have c : ∀ i, i < k + 1 → i = k ∨ (i ≠ k ∧ i < k) := fun i hi => by omega
  refine ⟨fun i hi hk => ?_, fun i hi hk => ?_, fun i hk => ?_, fun i hk => ?_, fun i j hi hj e => ?_, fun i j hi hj e => ?_, fun i j hi hj e => ?_⟩
  · rcases c i hk with rfl | ⟨hne, hlt⟩
    · rw [upd_self]; exact h1
    · rw [upd_else hne]; exact h.loc i hi hlt
  · rcases c i hk with rfl | ⟨hne, hlt⟩
    · rw [upd_self]; exact h2
    · rw [upd_else hne]; exact h.stk i hi hlt
  · rcases c i hk with rfl | ⟨hne, hlt⟩
    · rw [upd_self]; exact hB1
    · rw [upd_else hne]; exact h.lob i hlt
  · rcases c i hk with rfl | ⟨hne, hlt⟩
    · rw [upd_self]; exact hB2
    · rw [upd_else hne]; exact h.sob i hlt
  · rcases c i hi with rfl | ⟨hne, hlt⟩ <;> rcases c j hj with rfl | ⟨hne2, hlt2⟩
    · rfl
    · rw [upd_self, upd_else hne2] at e; exact absurd e.symm (hn j hlt2).1
    · rw [upd_self, upd_else hne] at e; exact absurd e (hn i hlt).1
    · rw [upd_else hne, upd_else hne2] at e; exact h.li i j hlt hlt2 e
  · rcases c i hi with rfl | ⟨hne, hlt⟩ <;> rcases c j hj with rfl | ⟨hne2, hlt2⟩
    · rfl
    · rw [upd_self, upd_else hne2] at e; exact absurd e.symm (hn j hlt2).2.2.2
    · rw [upd_self, upd_else hne] at e; exact absurd e (hn i hlt).2.2.2
    · rw [upd_else hne, upd_else hne2] at e; exact h.si i j hlt hlt2 e
  · rcases c i hi with rfl | ⟨hne, hlt⟩ <;> rcases c j hj with rfl | ⟨hne2, hlt2⟩
    · rw [upd_self, upd_self] at e; exact h12 e
    · rw [upd_self, upd_else hne2] at e; exact (hn j hlt2).2.2.1 e.symm
    · rw [upd_self, upd_else hne] at e; exact (hn i hlt).2.1 e
    · rw [upd_else hne, upd_else hne2] at e; exact h.ls i j hlt hlt2 e
theorem ReVals.more {w : World} {B k g : Nat} {rb : Nat → Nat} {hp : List (List Vl)} (h : ReVals w B rb hp k) (hk : k < hp.length) (h1 : ValsIs w g hp[k]) (hB : B ≤ g) (hn : ∀ i, i < k → rb i ≠ g) : ReVals w B (upd rb k g) hp (k + 1) := by
  have c : ∀ i, i < k + 1 → i = k ∨ (i ≠ k ∧ i < k) := fun i hi => by omega
  refine ⟨fun i hi hk => ?_, fun i hk => ?_, fun i j hi hj e => ?_⟩
  · rcases c i hk with rfl | ⟨hne, hlt⟩
    · rw [upd_self]; exact h1
    · rw [upd_else hne]; exact h.fld i hi hlt
  · rcases c i hk with rfl | ⟨hne, hlt⟩
    · rw [upd_self]; exact hB
    · rw [upd_else hne]; exact h.rob i hlt
  · rcases c i hi with rfl | ⟨hne, hlt⟩ <;> rcases c j hj with rfl | ⟨hne2, hlt2⟩
    · rfl
    · rw [upd_self, upd_else hne2] at e; exact absurd e.symm (hn j hlt2)
    · rw [upd_self, upd_else hne] at e; exact absurd e (hn i hlt)
    · rw [upd_else hne, upd_else hne2] at e; exact h.ri i j hlt hlt2 e

theorem FrCells.more {cur : Array Value} {la sa : Nat → Nat} {fr : List Fr} {k g1 g2 : Nat} (h : FrCells cur la sa fr k) (hk : k < fr.length) :
    FrCells ((((cur.setIfInBounds (k * 4) (.int .i64 fr[k].fn)).setIfInBounds (k * 4 + 1) (.int .i64 fr[k].pc)).setIfInBounds (k * 4 + 2) (.slice (some ⟨g1, 0, none⟩) fr[k].locals.length fr[k].locals.length)).setIfInBounds (k * 4 + 3) (.slice (some ⟨g2, 0, none⟩) fr[k].stack.length fr[k].stack.length)) (upd la k g1) (upd sa k g2) fr (k + 1) := by
  refine ⟨by simpa using h.1, fun i hi hik => ?_⟩
  have hs := h.1
  by_cases e : i = k
  · subst e
    rw [upd_self, upd_self]
    refine ⟨?_, ?_, ?_, ?_⟩
    · rw [set_else _ (by omega), set_else _ (by omega), set_else _ (by omega)]; exact set_self _ (by omega)
    · rw [set_else _ (by omega), set_else _ (by omega)]; exact set_self _ (by simp; omega)
    · rw [set_else _ (by omega)]; exact set_self _ (by simp; omega)
    · exact set_self _ (by simp; omega)
  · rw [upd_else e, upd_else e]
    obtain ⟨d1, d2, d3, d4⟩ := h.2 i hi (by omega)
    refine ⟨?_, ?_, ?_, ?_⟩
    · rw [set_else _ (by omega), set_else _ (by omega), set_else _ (by omega), set_else _ (by omega)]; exact d1
    · rw [set_else _ (by omega), set_else _ (by omega), set_else _ (by omega), set_else _ (by omega)]; exact d2
    · rw [set_else _ (by omega), set_else _ (by omega), set_else _ (by omega), set_else _ (by omega)]; exact d3
    · rw [set_else _ (by omega), set_else _ (by omega), set_else _ (by omega), set_else _ (by omega)]; exact d4
theorem ReCells.more {cur : Array Value} {rb : Nat → Nat} {hp : List (List Vl)} {k g : Nat} (h : ReCells cur rb hp k) (hk : k < hp.length) :
    ReCells (cur.setIfInBounds k (.slice (some ⟨g, 0, none⟩) hp[k].length hp[k].length)) (upd rb k g) hp (k + 1) := by
  refine ⟨by simpa using h.1, fun i hi hik => ?_⟩
  have hs := h.1
  by_cases e : i = k
  · subst e
    rw [upd_self]
    exact set_self _ (by omega)
  · rw [upd_else e, set_else _ e]
    exact h.2 i hi (by omega)
theorem OuCells.more {cur : Array Value} {ss : List ByteArray} {k : Nat} (h : OuCells cur ss k) (hk : k < ss.length) : OuCells (cur.setIfInBounds k (.string ss[k])) ss (k + 1) := by
  refine ⟨by simpa using h.1, fun i hi hik => ?_⟩
  have hs := h.1
  by_cases e : i = k
  · subst e
    exact set_self _ (by omega)
  · rw [set_else _ e]
    exact h.2 i hi (by omega)
end Go.Proofs.YtcebgbcgkkfedaaGreat

namespace Go.Proofs.YtcebgbcgkkfedaaGreat
open Go.RowKit

/-- A state in blocks of its own, from B on. -/
structure OwnIs (w : World) (B F Hb O : Nat) (la sa rb : Nat → Nat) (d : VmD) : Prop where
  fc : ∃ cur, w.heap[F]? = some (.cells cur 90 (0, 0)) ∧ FrCells cur la sa d.frames d.frames.length
  fv : FrVals w B la sa d.frames d.frames.length
  hc : ∃ cur, w.heap[Hb]? = some (.cells cur 94 (0, 0)) ∧ ReCells cur rb d.heap d.heap.length
  hv : ReVals w B rb d.heap d.heap.length
  oc : ∃ cur, w.heap[O]? = some (.cells cur 9 (0, 0)) ∧ OuCells cur d.out d.out.length
  bf : B ≤ F
  bh : B ≤ Hb
  bo : B ≤ O
  fr : ∀ i j, i < d.frames.length → j < d.heap.length → la i ≠ rb j ∧ sa i ≠ rb j

theorem OwnIs.kept {w w' : World} {B F Hb O : Nat} {la sa rb : Nat → Nat} {d : VmD} (h : OwnIs w B F Hb O la sa rb d) (hk : ∀ k o, B ≤ k → w.heap[k]? = some o → w'.heap[k]? = some o) : OwnIs w' B F Hb O la sa rb d := by
  obtain ⟨c1, a1, b1⟩ := h.fc
  obtain ⟨c2, a2, b2⟩ := h.hc
  obtain ⟨c3, a3, b3⟩ := h.oc
  exact ⟨⟨c1, hk _ _ h.bf a1, b1⟩, h.fv.kept fun b vs hb hv => hk _ _ hb hv, ⟨c2, hk _ _ h.bh a2, b2⟩, h.hv.kept fun b vs hb hv => hk _ _ hb hv, ⟨c3, hk _ _ h.bo a3, b3⟩, h.bf, h.bh, h.bo, h.fr⟩
theorem FrVals.low {w : World} {B B' k : Nat} {la sa : Nat → Nat} {fr : List Fr} (h : FrVals w B la sa fr k) (hB : B' ≤ B) : FrVals w B' la sa fr k :=
  ⟨h.loc, h.stk, fun i hi => Nat.le_trans hB (h.lob i hi), fun i hi => Nat.le_trans hB (h.sob i hi), h.li, h.si, h.ls⟩
theorem ReVals.low {w : World} {B B' k : Nat} {rb : Nat → Nat} {hp : List (List Vl)} (h : ReVals w B rb hp k) (hB : B' ≤ B) : ReVals w B' rb hp k :=
  ⟨h.fld, fun i hi => Nat.le_trans hB (h.rob i hi), h.ri⟩
theorem OwnIs.low {w : World} {B B' F Hb O : Nat} {la sa rb : Nat → Nat} {d : VmD} (h : OwnIs w B F Hb O la sa rb d) (hB : B' ≤ B) : OwnIs w B' F Hb O la sa rb d :=
  ⟨h.fc, h.fv.low hB, h.hc, h.hv.low hB, h.oc, Nat.le_trans hB h.bf, Nat.le_trans hB h.bh, Nat.le_trans hB h.bo, h.fr⟩

theorem Just.setNew {g p i : Nat} {a b : World} (h : Just g a b) (hp : a.heap.size ≤ p) (v : Value) : Just g a (b.setCell ⟨p, i, none⟩ v) :=
  ⟨fun B h1 h2 => (h.below B h1 h2).setCell (by show B ≤ p; omega) _, by have := h.size; simpa using this, fun k hk hg => by rw [Below.heap_setCell _ _ _ _ (by show k ≠ p; omega)]; exact h.block k hk hg⟩
theorem valsIs_just {g b : Nat} {w w' : World} {vs : List Vl} (h : Just g w w') (hv : ValsIs w b vs) (hne : b ≠ g) : ValsIs w' b vs := h.kept hv hne

set_option maxRecDepth 100000 in
set_option maxHeartbeats 8000000 in
theorem ownVm_any (fa ha oa : Option Addr) (fc hcp oc : Nat) (d : VmD) (w : World) (hx : VmSmall d) (hm : VmAt w 0 fa ha oa d) :
    Calls Tryz.prog 60 #[.agg (vmCells fa ha oa fc hcp oc d)] w fun e w' => ∃ F Hb O la sa rb, e = .returned (.agg (vmCells (some ⟨F, 0, none⟩) (some ⟨Hb, 0, none⟩) (some ⟨O, 0, none⟩) d.frames.length d.heap.length d.out.length d)) ∧ OwnIs w' w.heap.size F Hb O la sa rb d ∧ Below w.heap.size w w' := by
  obtain ⟨i0, hi, hz0, hz1, hz2⟩ := info_parts info90
  unfold vmCells
  have hfl := hx.frames
  have hA : Below w.heap.size w (((w.alloc (.cells (vmCells fa ha oa fc hcp oc d) 38)).alloc (.cells #[.slice none 0 0, .slice none 0 0, .int .i64 0, .slice none 0 0, .int .i64 0, .int .i64 0, .int .i64 0, .int .i64 0, .string ⟨#[]⟩, .int .i64 0] 38)).alloc (.cells (vmCells fa ha oa fc hcp oc d) 38)) := (((Below.refl _ _).alloc (Nat.le_refl _) _).alloc (by simp) _).alloc (by simp; omega) _
  have hI0 := block_old (block_old (block_new w (vmCells fa ha oa fc hcp oc d) 38) (.cells #[.slice none 0 0, .slice none 0 0, .int .i64 0, .slice none 0 0, .int .i64 0, .int .i64 0, .int .i64 0, .int .i64 0, .string ⟨#[]⟩, .int .i64 0] 38)) (.cells (vmCells fa ha oa fc hcp oc d) 38)
  have hR0 := block_old (block_new_at (w.alloc (.cells (vmCells fa ha oa fc hcp oc d) 38)) #[.slice none 0 0, .slice none 0 0, .int .i64 0, .slice none 0 0, .int .i64 0, .int .i64 0, .int .i64 0, .int .i64 0, .string ⟨#[]⟩, .int .i64 0] 38 (w.heap.size + 1) (by simp)) (.cells (vmCells fa ha oa fc hcp oc d) 38)
  have hV0 := block_new_at ((w.alloc (.cells (vmCells fa ha oa fc hcp oc d) 38)).alloc (.cells #[.slice none 0 0, .slice none 0 0, .int .i64 0, .slice none 0 0, .int .i64 0, .int .i64 0, .int .i64 0, .int .i64 0, .string ⟨#[]⟩, .int .i64 0] 38)) (vmCells fa ha oa fc hcp oc d) 38 (w.heap.size + 2) (by simp)
  unfold vmCells at hA hI0 hR0 hV0
  obtain ⟨w0, hw0⟩ : ∃ w0, w0 = (((w.alloc (.cells #[.slice fa d.frames.length fc, .slice ha d.heap.length hcp, .int .i64 d.made, .slice oa d.out.length oc, .int .i64 d.status, .int .i64 d.trap, .int .i64 d.value.k, .int .i64 d.value.n, .string d.value.s, .int .i64 d.steps] 38)).alloc (.cells #[.slice none 0 0, .slice none 0 0, .int .i64 0, .slice none 0 0, .int .i64 0, .int .i64 0, .int .i64 0, .int .i64 0, .string ⟨#[]⟩, .int .i64 0] 38)).alloc (.cells #[.slice fa d.frames.length fc, .slice ha d.heap.length hcp, .int .i64 d.made, .slice oa d.out.length oc, .int .i64 d.status, .int .i64 d.trap, .int .i64 d.value.k, .int .i64 d.value.n, .string d.value.s, .int .i64 d.steps] 38)) := ⟨_, rfl⟩
  have hs0 : w0.heap.size = w.heap.size + 3 := by rw [hw0]; simp
  rw [← hw0] at hA hI0 hR0 hV0
  go_enter Tryz.func60, Tryz.ntmps60
  go_wp2_with (first | (at_make; rw [← hw0]; refine wpList_make_full _ rfl _ _ 34 rfl w.heap.size 90 i0 (.agg #[.int .i64 0, .int .i64 0, .slice none 0 0, .slice none 0 0]) 4 Tryz.underlying34 hi hz0 hz1 _ _ _ _ d.frames.length rfl rfl rfl rfl (by rw [hz2]; omega) (by unfold maxLen; omega) (by omega) ?_; intro w1 hown hgrow; have hb1 : Below w0.heap.size w0 w1 := (Below.refl _ _).grown hgrow (Nat.le_refl _) (by intro k hk; cases hk); have hI1 := block_kept hI0 hb1; have hV1 := block_kept hV0 hb1; have hR1 := block_kept hR0 hb1; have v1 := block_cell hV1; have v2 := block_free hV1; have ii1 := block_cell hI1))
  obtain ⟨cur0, hblk, hsz⟩ := made_block hown
  rw [hs0] at hblk
  obtain ⟨wl, hwl⟩ : ∃ wl, wl = w1.setCell ⟨w.heap.size + 1 + 1, 0, none⟩ (.slice (some ⟨w.heap.size + 1 + 1 + 1, 0, none⟩) d.frames.length d.frames.length) := ⟨_, rfl⟩
  have hVl : wl.heap[w.heap.size + 1 + 1]? = some (.cells #[.slice (some ⟨w.heap.size + 1 + 1 + 1, 0, none⟩) d.frames.length d.frames.length, .slice ha d.heap.length hcp, .int .i64 d.made, .slice oa d.out.length oc, .int .i64 d.status, .int .i64 d.trap, .int .i64 d.value.k, .int .i64 d.value.n, .string d.value.s, .int .i64 d.steps] 38 (0, 0)) := by
    rw [hwl]; simpa using block_set (i := 0) hV1 (.slice (some ⟨w.heap.size + 1 + 1 + 1, 0, none⟩) d.frames.length d.frames.length)
  have hIl : wl.heap[w.heap.size]? = some (.cells #[.slice fa d.frames.length fc, .slice ha d.heap.length hcp, .int .i64 d.made, .slice oa d.out.length oc, .int .i64 d.status, .int .i64 d.trap, .int .i64 d.value.k, .int .i64 d.value.n, .string d.value.s, .int .i64 d.steps] 38 (0, 0)) := by rw [hwl, Below.heap_setCell _ _ _ _ (by simp; omega)]; exact hI1
  have hRl : wl.heap[w.heap.size + 1]? = some (.cells #[.slice none 0 0, .slice none 0 0, .int .i64 0, .slice none 0 0, .int .i64 0, .int .i64 0, .int .i64 0, .int .i64 0, .string ⟨#[]⟩, .int .i64 0] 38 (0, 0)) := by rw [hwl, Below.heap_setCell _ _ _ _ (by simp)]; exact hR1
  have hFl : wl.heap[w.heap.size + 1 + 1 + 1]? = some (.cells cur0 90 (0, 0)) := by rw [hwl, Below.heap_setCell _ _ _ _ (by simp)]; exact hblk
  have hBl : Below w.heap.size w wl := by rw [hwl]; exact (hA.trans (hb1.mono hA.size)).setCell (by simp; omega) _
  rw [← hwl]
  clear hown hgrow hi hz0 hz1 hz2 hw0 hA hI0 hR0 hV0 hb1 hI1 hV1 hR1 v1 v2 ii1 hblk hwl hs0
  go_loopw [19] (fun i wr => ∃ (k : Nat) (la sa : Nat → Nat) (cur : Array Value), k ≤ d.frames.length ∧ i = .int .i64 k ∧ wr.heap[w.heap.size + 1 + 1 + 1]? = some (.cells cur 90 (0, 0)) ∧ Hid (FrCells cur la sa d.frames k) ∧ Hid (FrVals wr (w.heap.size + 1 + 1 + 1 + 1) la sa d.frames k)
      ∧ wr.heap[w.heap.size]? = some (.cells #[.slice fa d.frames.length fc, .slice ha d.heap.length hcp, .int .i64 d.made, .slice oa d.out.length oc, .int .i64 d.status, .int .i64 d.trap, .int .i64 d.value.k, .int .i64 d.value.n, .string d.value.s, .int .i64 d.steps] 38 (0, 0)) ∧ wr.heap[w.heap.size + 1]? = some (.cells #[.slice none 0 0, .slice none 0 0, .int .i64 0, .slice none 0 0, .int .i64 0, .int .i64 0, .int .i64 0, .int .i64 0, .string ⟨#[]⟩, .int .i64 0] 38 (0, 0)) ∧ wr.heap[w.heap.size + 1 + 1]? = some (.cells #[.slice (some ⟨w.heap.size + 1 + 1 + 1, 0, none⟩) d.frames.length d.frames.length, .slice ha d.heap.length hcp, .int .i64 d.made, .slice oa d.out.length oc, .int .i64 d.status, .int .i64 d.trap, .int .i64 d.value.k, .int .i64 d.value.n, .string d.value.s, .int .i64 d.steps] 38 (0, 0)) ∧ Below w.heap.size w wr) (fun i _ => d.frames.length - (intOf i).toNat)
  case atStart =>
    exact ⟨0, fun _ => 0, fun _ => 0, cur0, by omega, rfl, hFl, ⟨hsz, fun i _ h => absurd h (Nat.not_lt_zero _)⟩, ⟨fun i _ h => absurd h (Nat.not_lt_zero _), fun i _ h => absurd h (Nat.not_lt_zero _), fun i h => absurd h (Nat.not_lt_zero _), fun i h => absurd h (Nat.not_lt_zero _), fun i _ h => absurd h (Nat.not_lt_zero _), fun i _ h => absurd h (Nat.not_lt_zero _), fun i _ h => absurd h (Nat.not_lt_zero _)⟩, hIl, hRl, hVl, hBl⟩
  case round =>
    obtain ⟨k, la, sa, cur, hk, rfl, hF, HC, HV, hI, hR, hVb, hb⟩ := hrel
    clear hFl hIl hRl hVl hBl
    by_cases hlt : k < d.frames.length
    · obtain ⟨b, off, xa, xc, ya, yc, rfl, -, c1, c2, c3, c4, hvx, hvy⟩ := hm.frs k hlt
      have c1' := cell_later hb c1
      have c2' := cell_later hb c2
      have c3' := cell_later hb c3
      have c4' := cell_later hb c4
      clear c1 c2 c3 c4
      have hsl := hx.locals _ (List.getElem_mem hlt)
      have hss := hx.stack _ (List.getElem_mem hlt)
      have HVX := hid hvx
      have HVY := hid hvy
      clear hvx hvy
      obtain ⟨wA, hwA⟩ : ∃ wA, wA = wr.alloc (.cells #[.int .i64 d.frames[k].fn, .int .i64 d.frames[k].pc, .slice xa d.frames[k].locals.length xc, .slice ya d.frames[k].stack.length yc] 90) := ⟨_, rfl⟩
      have hX : wA.heap[wr.heap.size]? = some (.cells #[.int .i64 d.frames[k].fn, .int .i64 d.frames[k].pc, .slice xa d.frames[k].locals.length xc, .slice ya d.frames[k].stack.length yc] 90 (0, 0)) := by rw [hwA]; exact block_new _ _ _
      have hbA : Below wr.heap.size wr wA := by rw [hwA]; exact (Below.refl _ _).alloc (Nat.le_refl _) _
      have hVA := block_kept hVb hbA
      have hFA := block_kept hF hbA
      have hXF : wr.heap.size ≠ w.heap.size + 1 + 1 + 1 := by have := lt_block hF; omega
      have hS : ∀ w', Just (w.heap.size + 1 + 1 + 1) wA w' → w'.cell? ⟨w.heap.size + 1 + 1, 0, none⟩ = some (.slice (some ⟨w.heap.size + 1 + 1 + 1, 0, none⟩) d.frames.length d.frames.length) ∧ w'.cell? ⟨wr.heap.size, 0, none⟩ = some (.int .i64 d.frames[k].fn) ∧ w'.cell? ⟨wr.heap.size, 1, none⟩ = some (.int .i64 d.frames[k].pc) ∧ w'.cell? ⟨wr.heap.size, 2, none⟩ = some (.slice xa d.frames[k].locals.length xc) ∧ w'.cell? ⟨wr.heap.size, 3, none⟩ = some (.slice ya d.frames[k].stack.length yc) := fun w' q =>
        ⟨by rw [block_cell (q.kept hVA (by omega))]; rfl, by rw [block_cell (q.kept hX hXF)]; rfl, by rw [block_cell (q.kept hX hXF)]; rfl, by rw [block_cell (q.kept hX hXF)]; rfl, by rw [block_cell (q.kept hX hXF)]; rfl⟩
      have HS := hid hS
      obtain ⟨j0, j1, j2, j3, j4⟩ := hS wA (Just.refl _ _)
      have HB := hid (hb.trans (hbA.mono hb.size))
      have HFA := hid hFA
      have HVb := hid hVb
      have HI := hid hI
      have HR := hid hR
      have HbA := hid hbA
      have HF := hid hF
      have HXF := hid hXF
      clear hS hVA hX hFA hI hR hVb hbA hF hb hXF
      go_wp2
      rw [← hwA]
      clear hwA c1' c2' c3' c4'
      have q : Just (w.heap.size + 1 + 1 + 1) wA wA.drew := Just.of (Below.refl _ _).drew
      have qb : Below wA.heap.size wA wA.drew := (Below.refl _ _).drew
      have HCS := hid HC.out.1
      go_region_held3 (fun w' => w'.cell? ⟨w.heap.size + 1 + 1, 0, none⟩ = some (.slice (some ⟨w.heap.size + 1 + 1 + 1, 0, none⟩) d.frames.length d.frames.length) ∧ w'.cell? ⟨wr.heap.size, 0, none⟩ = some (.int .i64 d.frames[k].fn) ∧ w'.cell? ⟨wr.heap.size, 1, none⟩ = some (.int .i64 d.frames[k].pc) ∧ w'.cell? ⟨wr.heap.size, 2, none⟩ = some (.slice xa d.frames[k].locals.length xc) ∧ w'.cell? ⟨wr.heap.size, 3, none⟩ = some (.slice ya d.frames[k].stack.length yc))
        (first | exact ⟨j0, j1, j2, j3, j4⟩ | exact HS.out _ q | exact HS.out _ ((((q.set _).set _).set _).set _))
        (first
          | (go_at_call_of 96 xa; refine (ownValues_is _ _ _ _ hsl (HVX.out.mono (HB.out.trans (q.below _ (by omega) HB.out.size)))).mono ?_; rintro e w5 ⟨rfl, hv5, kd5⟩; have q := q.trans (Just.of kd5); have qb5 := qb; have qb := qb.trans (kd5.mono qb.size))
          | (go_at_call_of 96 ya; refine (ownValues_is _ _ _ _ hss (HVY.out.mono (HB.out.trans (q.below _ (by omega) HB.out.size)))).mono ?_; rintro e w6 ⟨rfl, hv6, kd6⟩; have q := q.trans (Just.of kd6); have qb := qb.trans (kd6.mono qb.size); have hF6 := block_kept HFA.out qb; have hfz := block_free hF6; obtain ⟨y0, hy0⟩ : ∃ v, w6.cell? ⟨w.heap.size + 1 + 1 + 1, k * 4, none⟩ = some v := ⟨cur[k * 4]'(by rw [HCS.out]; omega), by rw [block_cell hF6]; exact Array.getElem?_eq_getElem _⟩; obtain ⟨y1, hy1⟩ : ∃ v, w6.cell? ⟨w.heap.size + 1 + 1 + 1, k * 4 + 1, none⟩ = some v := ⟨cur[k * 4 + 1]'(by rw [HCS.out]; omega), by rw [block_cell hF6]; exact Array.getElem?_eq_getElem _⟩; obtain ⟨y2, hy2⟩ : ∃ v, w6.cell? ⟨w.heap.size + 1 + 1 + 1, k * 4 + 2, none⟩ = some v := ⟨cur[k * 4 + 2]'(by rw [HCS.out]; omega), by rw [block_cell hF6]; exact Array.getElem?_eq_getElem _⟩; obtain ⟨y3, hy3⟩ : ∃ v, w6.cell? ⟨w.heap.size + 1 + 1 + 1, k * 4 + 3, none⟩ = some v := ⟨cur[k * 4 + 3]'(by rw [HCS.out]; omega), by rw [block_cell hF6]; exact Array.getElem?_eq_getElem _⟩))
      clear HVX HVY HS j0 j1 j2 j3 j4
      go_wp2
      go_roundw
      case rel =>
        have hb6 : Below wr.heap.size wr w6 := HbA.out.trans (qb.mono HbA.out.size)
        have hB6 : Below w.heap.size w w6 := HB.out.trans (qb.mono HB.out.size)
        have hzA := lt_block HF.out
        have hzB := HbA.out.size
        have hz5 : wA.heap.size < w5.heap.size := lt_block hv5
        have hv5' : ValsIs w6 wA.heap.size d.frames[k].locals := hv5.mono kd6
        refine ⟨k + 1, upd la k wA.heap.size, upd sa k w5.heap.size, _, by omega, by go_num, block_set (block_set (block_set (block_set hF6 _) _) _) _, HC.out.more hlt, ?_, ?_, ?_, ?_, ?_⟩
        · refine FrVals.kept (w := w6) ?_ (fun b vs hb h => ?_)
          · refine (HV.out.kept (fun b vs _ h => h.mono hb6)).more hlt hv5' hv6 (by omega) (by omega) (by omega) (fun i hi => ?_)
            have l1 := lt_block (HV.out.loc i (by omega) hi)
            have l2 := lt_block (HV.out.stk i (by omega) hi)
            omega
          · unfold ValsIs
            rw [Below.heap_setCell _ _ _ _ (by show b ≠ w.heap.size + 1 + 1 + 1; omega), Below.heap_setCell _ _ _ _ (by show b ≠ w.heap.size + 1 + 1 + 1; omega), Below.heap_setCell _ _ _ _ (by show b ≠ w.heap.size + 1 + 1 + 1; omega), Below.heap_setCell _ _ _ _ (by show b ≠ w.heap.size + 1 + 1 + 1; omega)]
            exact h
        · rw [Below.heap_setCell _ _ _ _ (by simp; omega), Below.heap_setCell _ _ _ _ (by simp; omega), Below.heap_setCell _ _ _ _ (by simp; omega), Below.heap_setCell _ _ _ _ (by simp; omega)]
          exact block_kept HI.out hb6
        · rw [Below.heap_setCell _ _ _ _ (by simp), Below.heap_setCell _ _ _ _ (by simp), Below.heap_setCell _ _ _ _ (by simp), Below.heap_setCell _ _ _ _ (by simp)]
          exact block_kept HR.out hb6
        · rw [Below.heap_setCell _ _ _ _ (by simp), Below.heap_setCell _ _ _ _ (by simp), Below.heap_setCell _ _ _ _ (by simp), Below.heap_setCell _ _ _ _ (by simp)]
          exact block_kept HVb.out hb6
        · exact (((hB6.setCell (by simp; omega) _).setCell (by simp; omega) _).setCell (by simp; omega) _).setCell (by simp; omega) _
      case measure => simp [intOf]; omega
    · have hkn : k = d.frames.length := by omega
      subst hkn
      obtain ⟨wa, hwa⟩ : ∃ wa, wa = wr := ⟨_, rfl⟩
      subst hwa
      obtain ⟨i1, hi1, hy0, hy1, hy2⟩ := info_parts info94
      have hhl := hx.heap
      have hza := lt_block hF
      have HF := hid hF
      have v1 := block_cell hVb
      have v2 := block_free hVb
      have ii1 := block_cell hI
      go_wp2_with (first | (at_make; refine wpList_make_full _ rfl _ _ 35 rfl w.heap.size 94 i1 (.agg #[.slice none 0 0]) 1 Tryz.underlying35 hi1 hy0 hy1 _ _ _ _ d.heap.length rfl rfl rfl rfl (by rw [hy2]; omega) (by unfold maxLen; omega) (by omega) ?_; intro w1 hown hgrow; have hb1 : Below wa.heap.size wa w1 := (Below.refl _ _).grown hgrow (Nat.le_refl _) (by intro k hk; cases hk); have hI1 := block_kept hI hb1; have hV1 := block_kept hVb hb1; have hR1 := block_kept hR hb1; have v1 := block_cell hV1; have v2 := block_free hV1; have ii1 := block_cell hI1))
      obtain ⟨cur1, hblk, hsz⟩ := made_block hown
      obtain ⟨wl, hwl⟩ : ∃ wl, wl = w1.setCell ⟨w.heap.size + 1 + 1, 1, none⟩ (.slice (some ⟨wa.heap.size, 0, none⟩) d.heap.length d.heap.length) := ⟨_, rfl⟩
      have hVl : wl.heap[w.heap.size + 1 + 1]? = some (.cells #[.slice (some ⟨w.heap.size + 1 + 1 + 1, 0, none⟩) d.frames.length d.frames.length, .slice (some ⟨wa.heap.size, 0, none⟩) d.heap.length d.heap.length, .int .i64 d.made, .slice oa d.out.length oc, .int .i64 d.status, .int .i64 d.trap, .int .i64 d.value.k, .int .i64 d.value.n, .string d.value.s, .int .i64 d.steps] 38 (0, 0)) := by
        rw [hwl]; simpa using block_set (i := 1) hV1 (.slice (some ⟨wa.heap.size, 0, none⟩) d.heap.length d.heap.length)
      have hIl : wl.heap[w.heap.size]? = some (.cells #[.slice fa d.frames.length fc, .slice ha d.heap.length hcp, .int .i64 d.made, .slice oa d.out.length oc, .int .i64 d.status, .int .i64 d.trap, .int .i64 d.value.k, .int .i64 d.value.n, .string d.value.s, .int .i64 d.steps] 38 (0, 0)) := by rw [hwl, Below.heap_setCell _ _ _ _ (by simp; omega)]; exact hI1
      have hRl : wl.heap[w.heap.size + 1]? = some (.cells #[.slice none 0 0, .slice none 0 0, .int .i64 0, .slice none 0 0, .int .i64 0, .int .i64 0, .int .i64 0, .int .i64 0, .string ⟨#[]⟩, .int .i64 0] 38 (0, 0)) := by rw [hwl, Below.heap_setCell _ _ _ _ (by simp)]; exact hR1
      have hHl : wl.heap[wa.heap.size]? = some (.cells cur1 94 (0, 0)) := by rw [hwl, Below.heap_setCell _ _ _ _ (by simp; omega)]; exact hblk
      have hJl : Just (w.heap.size + 1 + 1) wa wl := by rw [hwl]; exact (Just.of hb1).set _
      rw [← hwl]
      have HBa := hid hb
      clear hown hgrow hi1 hy0 hy1 hy2 hb1 hI1 hV1 hR1 hblk hwl hF hI hR hVb hb v1 v2 ii1
      go_loopw [48] (fun i wr => ∃ (k : Nat) (rb : Nat → Nat) (cur : Array Value), k ≤ d.heap.length ∧ i = .int .i64 k ∧ wr.heap[wa.heap.size]? = some (.cells cur 94 (0, 0)) ∧ Hid (ReCells cur rb d.heap k) ∧ Hid (ReVals wr (wa.heap.size + 1) rb d.heap k)
          ∧ wr.heap[w.heap.size]? = some (.cells #[.slice fa d.frames.length fc, .slice ha d.heap.length hcp, .int .i64 d.made, .slice oa d.out.length oc, .int .i64 d.status, .int .i64 d.trap, .int .i64 d.value.k, .int .i64 d.value.n, .string d.value.s, .int .i64 d.steps] 38 (0, 0)) ∧ wr.heap[w.heap.size + 1]? = some (.cells #[.slice none 0 0, .slice none 0 0, .int .i64 0, .slice none 0 0, .int .i64 0, .int .i64 0, .int .i64 0, .int .i64 0, .string ⟨#[]⟩, .int .i64 0] 38 (0, 0)) ∧ wr.heap[w.heap.size + 1 + 1]? = some (.cells #[.slice (some ⟨w.heap.size + 1 + 1 + 1, 0, none⟩) d.frames.length d.frames.length, .slice (some ⟨wa.heap.size, 0, none⟩) d.heap.length d.heap.length, .int .i64 d.made, .slice oa d.out.length oc, .int .i64 d.status, .int .i64 d.trap, .int .i64 d.value.k, .int .i64 d.value.n, .string d.value.s, .int .i64 d.steps] 38 (0, 0)) ∧ Just (w.heap.size + 1 + 1) wa wr) (fun i _ => d.heap.length - (intOf i).toNat)
      case atStart =>
        exact ⟨0, fun _ => 0, cur1, by omega, rfl, hHl, ⟨by simpa using hsz, fun i _ h => absurd h (Nat.not_lt_zero _)⟩, ⟨fun i _ h => absurd h (Nat.not_lt_zero _), fun i h => absurd h (Nat.not_lt_zero _), fun i _ h => absurd h (Nat.not_lt_zero _)⟩, hIl, hRl, hVl, hJl⟩
      case round =>
        obtain ⟨k, rb, cur2, hk, rfl, hHb, HC2, HV2, hI, hR, hVb, hJ⟩ := hrel
        clear hHl hIl hRl hVl hJl
        have hB : Below w.heap.size w wr := HBa.out.trans (hJ.below _ (by omega) HBa.out.size)
        by_cases hlt : k < d.heap.length
        · obtain ⟨b, off, xa, xc, rfl, -, c1, hvx⟩ := hm.recs k hlt
          have c1' := cell_later hB c1
          clear c1
          have hsl := hx.fields _ (List.getElem_mem hlt)
          have HVX := hid hvx
          clear hvx
          obtain ⟨wA, hwA⟩ : ∃ wA, wA = wr.alloc (.cells #[.slice xa d.heap[k].length xc] 94) := ⟨_, rfl⟩
          have hX : wA.heap[wr.heap.size]? = some (.cells #[.slice xa d.heap[k].length xc] 94 (0, 0)) := by rw [hwA]; exact block_new _ _ _
          have hbA : Below wr.heap.size wr wA := by rw [hwA]; exact (Below.refl _ _).alloc (Nat.le_refl _) _
          have hVA := block_kept hVb hbA
          have hFA := block_kept hHb hbA
          have hXF : wr.heap.size ≠ wa.heap.size := by have := lt_block hHb; omega
          have hVF : w.heap.size + 1 + 1 ≠ wa.heap.size := by omega
          have hS : ∀ w', Just wa.heap.size wA w' → w'.cell? ⟨w.heap.size + 1 + 1, 1, none⟩ = some (.slice (some ⟨wa.heap.size, 0, none⟩) d.heap.length d.heap.length) ∧ w'.cell? ⟨wr.heap.size, 0, none⟩ = some (.slice xa d.heap[k].length xc) := fun w' q =>
            ⟨by rw [block_cell (q.kept hVA hVF)]; rfl, by rw [block_cell (q.kept hX hXF)]; rfl⟩
          have HS := hid hS
          obtain ⟨j0, j1⟩ := hS wA (Just.refl _ _)
          have HB := hid (hB.trans (hbA.mono hB.size))
          have HFA := hid hFA
          have HVb := hid hVb
          have HI := hid hI
          have HR := hid hR
          have HbA := hid hbA
          have HH := hid hHb
          have HJ := hid hJ
          have HZ := hid hza
          have HCS := hid HC2.out.1
          clear hS hVA hX hFA hI hR hVb hbA hHb hXF hJ hza hVF hB
          go_wp2
          rw [← hwA]
          clear hwA c1'
          have q : Just wa.heap.size wA wA.drew := Just.of (Below.refl _ _).drew
          have qb : Below wA.heap.size wA wA.drew := (Below.refl _ _).drew
          go_region_held3 (fun w' => w'.cell? ⟨w.heap.size + 1 + 1, 1, none⟩ = some (.slice (some ⟨wa.heap.size, 0, none⟩) d.heap.length d.heap.length) ∧ w'.cell? ⟨wr.heap.size, 0, none⟩ = some (.slice xa d.heap[k].length xc))
            (first | exact ⟨j0, j1⟩ | exact HS.out _ q | exact HS.out _ (q.set _))
            (first
              | (go_at_call_of 96 xa; refine (ownValues_is _ _ _ _ hsl (HVX.out.mono (HB.out.trans (q.below _ (by have := HZ.out; omega) HB.out.size)))).mono ?_; rintro e w6 ⟨rfl, hv6, kd6⟩; have q := q.trans (Just.of kd6); have qb := qb.trans (kd6.mono qb.size); have hF6 := block_kept HFA.out qb; have hfz := block_free hF6; obtain ⟨y0, hy0⟩ : ∃ v, w6.cell? ⟨wa.heap.size, k, none⟩ = some v := ⟨cur2[k]'(by rw [HCS.out]; omega), by rw [block_cell hF6]; exact Array.getElem?_eq_getElem _⟩))
          clear HVX HS j0 j1
          go_wp2
          go_roundw
          case rel =>
            have hb6 : Below wr.heap.size wr w6 := HbA.out.trans (qb.mono HbA.out.size)
            have hzA := lt_block HH.out
            have hzB := HbA.out.size
            have hz0 := HZ.out
            refine ⟨k + 1, upd rb k wA.heap.size, _, by omega, by go_num, block_set hF6 _, HC2.out.more hlt, ?_, ?_, ?_, ?_, ?_⟩
            · refine ReVals.kept (w := w6) ?_ (fun b vs hb h => ?_)
              · refine (HV2.out.kept (fun b vs _ h => h.mono hb6)).more hlt hv6 (by omega) (fun i hi => ?_)
                have l1 := lt_block (HV2.out.fld i (by omega) hi)
                omega
              · unfold ValsIs
                rw [Below.heap_setCell _ _ _ _ (by show b ≠ wa.heap.size; omega)]
                exact h
            · rw [Below.heap_setCell _ _ _ _ (by simp; omega)]
              exact block_kept HI.out hb6
            · rw [Below.heap_setCell _ _ _ _ (by simp; omega)]
              exact block_kept HR.out hb6
            · rw [Below.heap_setCell _ _ _ _ (by simp; omega)]
              exact block_kept HVb.out hb6
            · exact (HJ.out.trans (Just.of hb6)).setNew (Nat.le_refl _) _
          case measure => simp [intOf]; omega
        · have hkn : k = d.heap.length := by omega
          subst hkn
          obtain ⟨wb, hwb⟩ : ∃ wb, wb = wr := ⟨_, rfl⟩
          subst hwb
          obtain ⟨i1, hi1, hy0, hy1, hy2⟩ := info_parts info9
          have hol := hx.out
          have hzb := lt_block hHb
          have HH := hid hHb
          have HBb := hid hB
          have HJa := hid hJ
          have v1 := block_cell hVb
          have v2 := block_free hVb
          have ii1 := block_cell hI
          go_wp2_with (first | (at_make; refine wpList_make_full _ rfl _ _ 22 rfl w.heap.size 9 i1 (.string ByteArray.empty) 1 Tryz.underlying22 hi1 hy0 hy1 _ _ _ _ d.out.length rfl rfl rfl rfl (by rw [hy2]; omega) (by unfold maxLen; omega) (by omega) ?_; intro w1 hown hgrow; have hb1 : Below wb.heap.size wb w1 := (Below.refl _ _).grown hgrow (Nat.le_refl _) (by intro k hk; cases hk); have hI1 := block_kept hI hb1; have hV1 := block_kept hVb hb1; have hR1 := block_kept hR hb1; have v1 := block_cell hV1; have v2 := block_free hV1; have ii1 := block_cell hI1))
          obtain ⟨cur3, hblk, hsz3⟩ := made_block hown
          obtain ⟨wl, hwl⟩ : ∃ wl, wl = w1.setCell ⟨w.heap.size + 1 + 1, 3, none⟩ (.slice (some ⟨wb.heap.size, 0, none⟩) d.out.length d.out.length) := ⟨_, rfl⟩
          have hVl : wl.heap[w.heap.size + 1 + 1]? = some (.cells #[.slice (some ⟨w.heap.size + 1 + 1 + 1, 0, none⟩) d.frames.length d.frames.length, .slice (some ⟨wa.heap.size, 0, none⟩) d.heap.length d.heap.length, .int .i64 d.made, .slice (some ⟨wb.heap.size, 0, none⟩) d.out.length d.out.length, .int .i64 d.status, .int .i64 d.trap, .int .i64 d.value.k, .int .i64 d.value.n, .string d.value.s, .int .i64 d.steps] 38 (0, 0)) := by
            rw [hwl]; simpa using block_set (i := 3) hV1 (.slice (some ⟨wb.heap.size, 0, none⟩) d.out.length d.out.length)
          have hIl : wl.heap[w.heap.size]? = some (.cells #[.slice fa d.frames.length fc, .slice ha d.heap.length hcp, .int .i64 d.made, .slice oa d.out.length oc, .int .i64 d.status, .int .i64 d.trap, .int .i64 d.value.k, .int .i64 d.value.n, .string d.value.s, .int .i64 d.steps] 38 (0, 0)) := by rw [hwl, Below.heap_setCell _ _ _ _ (by simp; omega)]; exact hI1
          have hRl : wl.heap[w.heap.size + 1]? = some (.cells #[.slice none 0 0, .slice none 0 0, .int .i64 0, .slice none 0 0, .int .i64 0, .int .i64 0, .int .i64 0, .int .i64 0, .string ⟨#[]⟩, .int .i64 0] 38 (0, 0)) := by rw [hwl, Below.heap_setCell _ _ _ _ (by simp)]; exact hR1
          have hOl : wl.heap[wb.heap.size]? = some (.cells cur3 9 (0, 0)) := by rw [hwl, Below.heap_setCell _ _ _ _ (by simp; omega)]; exact hblk
          have hJl : Just (w.heap.size + 1 + 1) wb wl := by rw [hwl]; exact (Just.of hb1).set _
          rw [← hwl]
          clear hown hgrow hi1 hy0 hy1 hy2 hb1 hI1 hV1 hR1 hblk hwl hHb hI hR hVb hB v1 v2 ii1 hJ
          go_loopw [70] (fun i wr => ∃ (k : Nat) (cur : Array Value), k ≤ d.out.length ∧ i = .int .i64 k ∧ wr.heap[wb.heap.size]? = some (.cells cur 9 (0, 0)) ∧ Hid (OuCells cur d.out k)
              ∧ wr.heap[w.heap.size]? = some (.cells #[.slice fa d.frames.length fc, .slice ha d.heap.length hcp, .int .i64 d.made, .slice oa d.out.length oc, .int .i64 d.status, .int .i64 d.trap, .int .i64 d.value.k, .int .i64 d.value.n, .string d.value.s, .int .i64 d.steps] 38 (0, 0)) ∧ wr.heap[w.heap.size + 1]? = some (.cells #[.slice none 0 0, .slice none 0 0, .int .i64 0, .slice none 0 0, .int .i64 0, .int .i64 0, .int .i64 0, .int .i64 0, .string ⟨#[]⟩, .int .i64 0] 38 (0, 0)) ∧ wr.heap[w.heap.size + 1 + 1]? = some (.cells #[.slice (some ⟨w.heap.size + 1 + 1 + 1, 0, none⟩) d.frames.length d.frames.length, .slice (some ⟨wa.heap.size, 0, none⟩) d.heap.length d.heap.length, .int .i64 d.made, .slice (some ⟨wb.heap.size, 0, none⟩) d.out.length d.out.length, .int .i64 d.status, .int .i64 d.trap, .int .i64 d.value.k, .int .i64 d.value.n, .string d.value.s, .int .i64 d.steps] 38 (0, 0)) ∧ Just (w.heap.size + 1 + 1) wb wr) (fun i _ => d.out.length - (intOf i).toNat)
          case atStart =>
            exact ⟨0, cur3, by omega, rfl, hOl, ⟨by simpa using hsz3, fun i _ h => absurd h (Nat.not_lt_zero _)⟩, hIl, hRl, hVl, hJl⟩
          case round =>
            obtain ⟨k, cur4, hk, rfl, hOb, HC3, hI, hR, hVb, hJ⟩ := hrel
            clear hOl hIl hRl hVl hJl
            have hB : Below w.heap.size w wr := HBb.out.trans (hJ.below _ (by omega) HBb.out.size)
            by_cases hlt : k < d.out.length
            · obtain ⟨b, off, rfl, -, c1⟩ := hm.out k hlt
              have c1' := cell_later hB c1
              clear c1
              have hsl := hx.text _ (List.getElem_mem hlt)
              have hVF : w.heap.size + 1 + 1 ≠ wb.heap.size := by omega
              have hS : ∀ w', Just wb.heap.size wr w' → w'.cell? ⟨w.heap.size + 1 + 1, 3, none⟩ = some (.slice (some ⟨wb.heap.size, 0, none⟩) d.out.length d.out.length) := fun w' q => by rw [block_cell (q.kept hVb hVF)]; rfl
              have HS := hid hS
              have j0 := hS wr (Just.refl _ _)
              have HB := hid hB
              have HVb := hid hVb
              have HI := hid hI
              have HR := hid hR
              have HO := hid hOb
              have HJ := hid hJ
              have HZ := hid hza
              have HZb := hid hzb
              have HCS := hid HC3.out.1
              clear hS hI hR hVb hOb hJ hza hzb hVF hB
              go_wp2
              clear c1'
              have q : Just wb.heap.size wr wr.drew := Just.of (Below.refl _ _).drew
              have qb : Below wr.heap.size wr wr.drew := (Below.refl _ _).drew
              go_region_held3 (fun w' => w'.cell? ⟨w.heap.size + 1 + 1, 3, none⟩ = some (.slice (some ⟨wb.heap.size, 0, none⟩) d.out.length d.out.length))
                (first | exact j0 | exact HS.out _ q | exact HS.out _ (q.set _))
                (first
                  | (go_at_call 97; refine (clone_any _ _ hsl).mono ?_; rintro e w6 ⟨rfl, kd6⟩; have q := q.trans (Just.of kd6); have qb := qb.trans (kd6.mono qb.size); have hF6 := block_kept HO.out qb; have hfz := block_free hF6; obtain ⟨y0, hy0⟩ : ∃ v, w6.cell? ⟨wb.heap.size, k, none⟩ = some v := ⟨cur4[k]'(by rw [HCS.out]; omega), by rw [block_cell hF6]; exact Array.getElem?_eq_getElem _⟩))
              clear HS j0
              go_wp2
              go_roundw
              case rel =>
                have hzA := lt_block HO.out
                have hz0 := HZ.out
                have hz1 := HZb.out
                refine ⟨k + 1, _, by omega, by go_num, block_set hF6 _, HC3.out.more hlt, ?_, ?_, ?_, ?_⟩
                · rw [Below.heap_setCell _ _ _ _ (by simp; omega)]
                  exact block_kept HI.out qb
                · rw [Below.heap_setCell _ _ _ _ (by simp; omega)]
                  exact block_kept HR.out qb
                · rw [Below.heap_setCell _ _ _ _ (by simp; omega)]
                  exact block_kept HVb.out qb
                · exact (HJ.out.trans (Just.of qb)).setNew (Nat.le_refl _) _
              case measure => simp [intOf]; omega
            · have hkn : k = d.out.length := by omega
              subst hkn
              have hvl := hx.value
              have HO := hid hOb
              have HJ := hid hJ
              have HB := hid hB
              have HZ := hid hza
              have HZb := hid hzb
              have ii1 := block_cell hI
              clear hOb hJ hB hza hzb
              go_wp2_with fail
              refine (ownValue_any _ _ _ _ hvl).mono ?_
              rintro e w2 ⟨rfl, hb2⟩
              have hV2 := block_kept hVb hb2
              have hR2 := block_kept hR hb2
              have v1 := block_cell hV2
              have v2 := block_free hV2
              have r1 := block_cell hR2
              have r2 := block_free hR2
              have hzo := lt_block HO.out
              clear hVb hR hI ii1
              have hB2 : Below w.heap.size w w2 := HB.out.trans (hb2.mono HB.out.size)
              have HB2 := hid hB2
              have hz0 := HZ.out
              have hz1 := HZb.out
              have hO2 : OwnIs w2 (w.heap.size + 1 + 1 + 1) (w.heap.size + 1 + 1 + 1) wa.heap.size wb.heap.size la sa rb d := by
                have kb : ∀ kk o, kk ≠ w.heap.size + 1 + 1 → wb.heap[kk]? = some o → w2.heap[kk]? = some o := fun kk o hne ho => block_kept (HJ.out.kept ho hne) hb2
                have ka : ∀ kk o, kk ≠ w.heap.size + 1 + 1 → wa.heap[kk]? = some o → w2.heap[kk]? = some o := fun kk o hne ho => kb kk o hne (HJa.out.kept ho hne)
                refine ⟨⟨cur, ka _ _ (by omega) HF.out, HC.out⟩, (HV.out.kept fun b vs hb hv => ka _ _ (by omega) hv).low (by omega), ⟨cur2, kb _ _ (by omega) HH.out, HC2.out⟩, (HV2.out.kept fun b vs hb hv => kb _ _ (by omega) hv).low (by omega), ⟨cur4, block_kept HO.out hb2, HC3.out⟩, by omega, by omega, by omega, fun i j hi hj => ?_⟩
                have l1 := lt_block (HV.out.loc i hi hi)
                have l2 := lt_block (HV.out.stk i hi hi)
                have l3 := HV2.out.rob j hj
                omega
              have HO2 := hid hO2
              clear hO2 hB2 hzo hz0 hz1
              go_wp2
              refine bodyPost_ret (v := .agg #[.slice (some ⟨w.heap.size + 1 + 1 + 1, 0, none⟩) d.frames.length d.frames.length, .slice (some ⟨wa.heap.size, 0, none⟩) d.heap.length d.heap.length, .int .i64 d.made, .slice (some ⟨wb.heap.size, 0, none⟩) d.out.length d.out.length, .int .i64 d.status, .int .i64 d.trap, .int .i64 d.value.k, .int .i64 d.value.n, .string d.value.s, .int .i64 d.steps]) (by simp [results, Tryz.results60, go_sem, r1]) rfl ⟨_, _, _, la, sa, rb, rfl, ?_, ?_⟩
              · refine (HO2.out.kept fun kk o hkk ho => ?_).low (by omega)
                have h1 : kk ≠ w.heap.size + 1 + 1 := by omega
                have h2 : kk ≠ w.heap.size + 1 := by omega
                repeat (first | rw [Below.heap_setCell _ _ _ _ h1] | rw [Below.heap_setCell _ _ _ _ h2])
                exact ho
              · iterate 10 (refine Below.setCell ?_ (by show w.heap.size ≤ w.heap.size + 1; omega) _)
                iterate 3 (refine Below.setCell ?_ (by show w.heap.size ≤ w.heap.size + 1 + 1; omega) _)
                exact HB2.out
end Go.Proofs.YtcebgbcgkkfedaaGreat

namespace Go.Proofs.YtcebgbcgkkfedaaGreat
open Go.RowKit

/-- A state in blocks of its own, from B on; its records in a row that may have room. -/
structure CanIs (w : World) (B F : Nat) (ha : Option Addr) (hcp O : Nat) (la sa rb : Nat → Nat) (d : VmD) : Prop where
  fc : ∃ cur, w.heap[F]? = some (.cells cur 90 (0, 0)) ∧ FrCells cur la sa d.frames d.frames.length
  fv : FrVals w B la sa d.frames d.frames.length
  hc : ∃ xs, w.ownsRow B 94 1 (.slice ha d.heap.length hcp) d.heap.length xs ∧ ∀ j (h : j < d.heap.length), xs[j]? = some (.slice (some ⟨rb j, 0, none⟩) d.heap[j].length d.heap[j].length)
  hv : ReVals w B rb d.heap d.heap.length
  oc : ∃ cur, w.heap[O]? = some (.cells cur 9 (0, 0)) ∧ OuCells cur d.out d.out.length
  bf : B ≤ F
  bo : B ≤ O
  fr : ∀ i j, i < d.frames.length → j < d.heap.length → la i ≠ rb j ∧ sa i ≠ rb j

theorem CanIs.at {w : World} {B F O hcp : Nat} {ha : Option Addr} {la sa rb : Nat → Nat} {d : VmD} (h : CanIs w B F ha hcp O la sa rb d) : VmAt w B (some ⟨F, 0, none⟩) ha (some ⟨O, 0, none⟩) d := by
  refine ⟨fun i hi => ?_, fun i hi => ?_, fun i hi => ?_⟩
  · obtain ⟨cur, hc, hs, hd⟩ := h.fc
    obtain ⟨d1, d2, d3, d4⟩ := hd i hi hi
    exact ⟨F, 0, _, _, _, _, rfl, h.bf, by rw [block_cell hc, Nat.zero_add]; exact d1, by rw [block_cell hc, Nat.zero_add]; exact d2, by rw [block_cell hc, Nat.zero_add]; exact d3, by rw [block_cell hc, Nat.zero_add]; exact d4, (h.fv.loc i hi hi).at (h.fv.lob i hi), (h.fv.stk i hi hi).at (h.fv.sob i hi)⟩
  · obtain ⟨xs, ho, hd⟩ := h.hc
    obtain ⟨g, cap, e, hb, -⟩ := ho.form (by omega)
    cases e
    refine ⟨g, 0, _, d.heap[i].length, rfl, hb, ?_, (h.hv.fld i hi hi).at (h.hv.rob i hi)⟩
    rw [Nat.zero_add, ho.cellAt i (by omega)]
    exact hd i hi
  · obtain ⟨cur, hc, hs, hd⟩ := h.oc
    exact ⟨O, 0, rfl, h.bo, by rw [block_cell hc, Nat.zero_add]; exact hd i hi hi⟩

/-- The values of frames of which the first k were met whole. -/
structure FrMet (w : World) (la sa : Nat → Nat) (fr : List Fr) (k : Nat) : Prop where
  doneL : ∀ i (h : i < fr.length), i < k → ValsIs w (la i) (lV (fS [] (fr.take i)) fr[i].locals)
  doneS : ∀ i (h : i < fr.length), i < k → ValsIs w (sa i) (lV (lS (fS [] (fr.take i)) fr[i].locals) fr[i].stack)
  todoL : ∀ i (h : i < fr.length), k ≤ i → ValsIs w (la i) fr[i].locals
  todoS : ∀ i (h : i < fr.length), k ≤ i → ValsIs w (sa i) fr[i].stack

/-- Which blocks of a state are whose (nothing of memory). -/
structure Apart (lo nf : Nat) (la sa rb : Nat → Nat) (nh : Nat) : Prop where
  llo : ∀ i, i < nf → la i < lo
  slo : ∀ i, i < nf → sa i < lo
  li : ∀ i j, i < nf → j < nf → la i = la j → i = j
  si : ∀ i j, i < nf → j < nf → sa i = sa j → i = j
  ls : ∀ i j, i < nf → j < nf → la i ≠ sa j
  fr : ∀ i j, i < nf → j < nh → la i ≠ rb j ∧ sa i ≠ rb j

theorem FrMet.kept {w w' : World} {la sa : Nat → Nat} {fr : List Fr} {k : Nat} (h : FrMet w la sa fr k) (hb : ∀ b vs, (∃ i, i < fr.length ∧ (b = la i ∨ b = sa i)) → ValsIs w b vs → ValsIs w' b vs) : FrMet w' la sa fr k :=
  ⟨fun i hi hk => hb _ _ ⟨i, hi, .inl rfl⟩ (h.doneL i hi hk), fun i hi hk => hb _ _ ⟨i, hi, .inr rfl⟩ (h.doneS i hi hk), fun i hi hk => hb _ _ ⟨i, hi, .inl rfl⟩ (h.todoL i hi hk), fun i hi hk => hb _ _ ⟨i, hi, .inr rfl⟩ (h.todoS i hi hk)⟩

theorem FrMet.step {w w1 w2 : World} {lo nh : Nat} {la sa rb : Nat → Nat} {fr : List Fr} {k : Nat} (h : FrMet w la sa fr k) (hA : Apart lo fr.length la sa rb nh) (hk : k < fr.length) (h1 : Kp lo (la k) w w1) (hv1 : ValsIs w1 (la k) (lV (fS [] (fr.take k)) fr[k].locals))
    (h2 : Kp lo (sa k) w1 w2) (hv2 : ValsIs w2 (sa k) (lV (lS (fS [] (fr.take k)) fr[k].locals) fr[k].stack)) : FrMet w2 la sa fr (k + 1) := by
  have L : ∀ i vs, i < fr.length → i ≠ k → ValsIs w (la i) vs → ValsIs w2 (la i) vs := fun i vs hi hne hv => h2.low (h1.low hv (fun e => hne (hA.li i k hi hk e)) (hA.llo i hi)) (hA.ls i k hi hk) (hA.llo i hi)
  have S : ∀ i vs, i < fr.length → i ≠ k → ValsIs w (sa i) vs → ValsIs w2 (sa i) vs := fun i vs hi hne hv => h2.low (h1.low hv (fun e => hA.ls k i hk hi e.symm) (hA.slo i hi)) (fun e => hne (hA.si i k hi hk e)) (hA.slo i hi)
  refine ⟨fun i hi hik => ?_, fun i hi hik => ?_, fun i hi hik => L i _ hi (by omega) (h.todoL i hi (by omega)), fun i hi hik => S i _ hi (by omega) (h.todoS i hi (by omega))⟩
  · by_cases e : i = k
    · subst e
      exact h2.low hv1 (hA.ls i i hk hk) (hA.llo i hi)
    · exact L i _ hi e (h.doneL i hi (by omega))
  · by_cases e : i = k
    · subst e
      exact hv2
    · exact S i _ hi e (h.doneS i hi (by omega))

theorem OwnIs.apart {w : World} {B F Hb O : Nat} {la sa rb : Nat → Nat} {d : VmD} (h : OwnIs w B F Hb O la sa rb d) : Apart w.heap.size d.frames.length la sa rb d.heap.length :=
  ⟨fun i hi => lt_block (h.fv.loc i hi hi), fun i hi => lt_block (h.fv.stk i hi hi), fun i j hi hj e => h.fv.li i j hi hj e, fun i j hi hj e => h.fv.si i j hi hj e, fun i j hi hj => h.fv.ls i j hi hj, h.fr⟩
theorem OwnIs.met0 {w : World} {B F Hb O : Nat} {la sa rb : Nat → Nat} {d : VmD} (h : OwnIs w B F Hb O la sa rb d) : FrMet w la sa d.frames 0 :=
  ⟨fun _ _ h => absurd h (Nat.not_lt_zero _), fun _ _ h => absurd h (Nat.not_lt_zero _), fun i hi _ => h.fv.loc i hi hi, fun i hi _ => h.fv.stk i hi hi⟩
theorem OwnIs.recRow {w w' : World} {B F Hb O : Nat} {la sa rb : Nat → Nat} {d : VmD} (h : OwnIs w B F Hb O la sa rb d) (hk : ∀ o, w.heap[Hb]? = some o → w'.heap[Hb]? = some o) : RecRow w' w.heap.size Hb rb d.heap := by
  obtain ⟨cur, hc, hs, hd⟩ := h.hc
  refine ⟨⟨cur, hk _ hc, fun j hj => hd j hj hj⟩, lt_block hc, fun j hj => lt_block (h.hv.fld j hj hj), fun i j hi hj e => h.hv.ri i j hi hj e, fun j hj e => ?_⟩
  have := h.hv.fld j hj hj
  unfold ValsIs at this
  rw [e, hc] at this
  cases this

/-- The canon's frames. -/
theorem FrCells.canon {cur : Array Value} {la sa : Nat → Nat} {fr : List Fr} (h : FrCells cur la sa fr fr.length) : FrCells cur la sa (fV [] fr) (fV [] fr).length := by
  refine ⟨by rw [fV_len]; exact h.1, fun i hi _ => ?_⟩
  have hi' : i < fr.length := by rw [fV_len] at hi; exact hi
  obtain ⟨d1, d2, d3, d4⟩ := h.2 i hi' hi'
  rw [fV_at hi' hi]
  refine ⟨d1, d2, ?_, ?_⟩
  · show _ = some (Value.slice _ (lV _ _).length (lV _ _).length)
    rw [lV_len]; exact d3
  · show _ = some (Value.slice _ (lV _ _).length (lV _ _).length)
    rw [lV_len]; exact d4
theorem FrMet.canon {w : World} {B : Nat} {la sa : Nat → Nat} {fr : List Fr} (h : FrMet w la sa fr fr.length) {w0 : World} (h0 : FrVals w0 B la sa fr fr.length) : FrVals w B la sa (fV [] fr) (fV [] fr).length := by
  have hl := fV_len [] fr
  refine ⟨fun i hi _ => ?_, fun i hi _ => ?_, fun i hi => h0.lob i (by omega), fun i hi => h0.sob i (by omega), fun i j hi hj => h0.li i j (by omega) (by omega), fun i j hi hj => h0.si i j (by omega) (by omega), fun i j hi hj => h0.ls i j (by omega) (by omega)⟩
  · rw [fV_at (by omega) hi]
    exact h.doneL i (by omega) (by omega)
  · rw [fV_at (by omega) hi]
    exact h.doneS i (by omega) (by omega)
end Go.Proofs.YtcebgbcgkkfedaaGreat

namespace Go.Proofs.YtcebgbcgkkfedaaGreat
open Go.RowKit

theorem own_low {w : World} {B B' e size n : Nat} {v : Value} {xs : List Value} (h : w.ownsRow B e size v n xs) (hB : B' ≤ B) : w.ownsRow B' e size v n xs := by
  refine ⟨h.1, ?_⟩
  rcases h.2 with ⟨e, hn⟩ | ⟨b, cap, cur, e, hb, r⟩
  · exact .inl ⟨e, hn⟩
  · exact .inr ⟨b, cap, cur, e, Nat.le_trans hB hb, r⟩

theorem CanIs.kept {w w' : World} {B F O hcp : Nat} {ha : Option Addr} {la sa rb : Nat → Nat} {d : VmD} (h : CanIs w B F ha hcp O la sa rb d) (hk : ∀ k c t, t ≠ 38 → B ≤ k → w.heap[k]? = some (.cells c t (0, 0)) → w'.heap[k]? = some (.cells c t (0, 0))) : CanIs w' B F ha hcp O la sa rb d := by
  obtain ⟨c1, a1, b1⟩ := h.fc
  obtain ⟨xs, a2, b2⟩ := h.hc
  obtain ⟨c3, a3, b3⟩ := h.oc
  refine ⟨⟨c1, hk _ _ _ (by decide) h.bf a1, b1⟩, h.fv.kept fun b vs hb hv => hk _ _ _ (by decide) hb hv, ⟨xs, ⟨a2.1, ?_⟩, b2⟩, h.hv.kept fun b vs hb hv => hk _ _ _ (by decide) hb hv, ⟨c3, hk _ _ _ (by decide) h.bo a3, b3⟩, h.bf, h.bo, h.fr⟩
  rcases a2.2 with ⟨e, hn⟩ | ⟨b, cap, cur, e, hb, hh, r⟩
  · exact .inl ⟨e, hn⟩
  · exact .inr ⟨b, cap, cur, e, hb, hk _ _ _ (by decide) hb hh, r⟩
theorem CanIs.low {w : World} {B B' F O hcp : Nat} {ha : Option Addr} {la sa rb : Nat → Nat} {d : VmD} (h : CanIs w B F ha hcp O la sa rb d) (hB : B' ≤ B) : CanIs w B' F ha hcp O la sa rb d := by
  obtain ⟨xs, a2, b2⟩ := h.hc
  exact ⟨h.fc, h.fv.low hB, ⟨xs, own_low a2 hB, b2⟩, h.hv.low hB, h.oc, Nat.le_trans hB h.bf, Nat.le_trans hB h.bo, h.fr⟩

theorem getD_at {ms : List Nat} {j : Nat} (h : j < ms.length) : ms.getD j 0 = ms[j] := by
  rw [List.getD_eq_getElem?_getD, List.getElem?_eq_getElem h]; rfl

theorem canIs_of {w1 w5 w6 : World} {B F Hb O nb mb hcap lo k xc : Nat} {la sa rb : Nat → Nat} {d : VmD} {mv : Value} {xa : Option Addr} {ms : List Nat} {rs : List (List Vl)} (hO : OwnIs w1 B F Hb O la sa rb d) (hF : FrMet w6 la sa d.frames d.frames.length)
    (hI : NumInv w5 w6 lo Hb hcap nb mb rb d.heap ms rs k mv (.slice xa k xc)) (hFc : ∀ o, w1.heap[F]? = some o → w6.heap[F]? = some o) (hOc : ∀ o, w1.heap[O]? = some o → w6.heap[O]? = some o) (hms : rIter d.heap (ms0 d) k = (ms, rs)) (hl : ms.length = k) (hB : B ≤ w5.heap.size) :
    CanIs w6 B F xa xc O la sa (fun j => rb (ms.getD j 0)) (canonD d) ∧ (canonD d).heap.length = k := by
  have hkH : k ≤ d.heap.length := by have := hI.met.le; omega
  have hh : (canonD d).heap = rs := by
    have := canon_heap (d := d) (i := k) (by rw [hms]; exact Nat.le_of_eq hl) hkH
    rw [this, hms]
  have hfl : (canonD d).frames.length = d.frames.length := fV_len [] d.frames
  have hrl := hI.len
  have hmd : ∀ j (h : j < ms.length), ms[j] < d.heap.length := fun j h => hI.met.lt _ (List.getElem_mem h)
  obtain ⟨c1, a1, b1⟩ := hO.fc
  obtain ⟨c3, a3, b3⟩ := hO.oc
  have hlen : (canonD d).heap.length = k := by rw [hh, hrl]
  refine ⟨⟨⟨c1, hFc _ a1, b1.canon⟩, hF.canon hO.fv, ?_, ?_, ⟨c3, hOc _ a3, b3⟩, hO.bf, hO.bo, ?_⟩, hlen⟩
  · refine ⟨_, by rw [hlen]; exact own_low hI.own hB, fun j hj => ?_⟩
    have hj' : j < ms.length := by omega
    have hj2 : j < rs.length := by omega
    have e1 : (canonD d).heap[j] = rs[j] := by simp only [hh]
    rw [e1, metRow, List.take_of_length_le (by omega), List.getElem?_map, List.getElem?_eq_getElem hj', getD_at hj']
    have e2 : (d.heap.getD ms[j] []).length = rs[j].length := by
      rw [hI.done.len j hj2 hj' (hmd j hj'), List.getD_eq_getElem?_getD, List.getElem?_eq_getElem (hmd j hj')]; rfl
    show some (Value.slice _ (d.heap.getD ms[j] []).length (d.heap.getD ms[j] []).length) = _
    rw [e2]
  · refine ⟨fun i hi _ => ?_, fun i hi => ?_, fun i j hi hj e => ?_⟩
    · have hi' : i < ms.length := by omega
      have e1 : (canonD d).heap[i] = rs[i]'(by omega) := by simp only [hh]
      rw [e1]
      show ValsIs w6 (rb (ms.getD i 0)) _
      rw [getD_at hi']
      exact hI.done.done i (by omega) hi'
    · show B ≤ rb (ms.getD i 0)
      rw [getD_at (by omega)]
      exact hO.hv.rob _ (hmd i (by omega))
    · have e : rb (ms.getD i 0) = rb (ms.getD j 0) := e
      rw [getD_at (by omega), getD_at (by omega)] at e
      exact (List.getElem_inj hI.met.once).1 (hO.hv.ri _ _ (hmd i (by omega)) (hmd j (by omega)) e)
  · intro i j hi hj
    show la i ≠ rb (ms.getD j 0) ∧ sa i ≠ rb (ms.getD j 0)
    rw [getD_at (by omega)]
    exact hO.fr i _ (by omega) (hmd j (by omega))

set_option maxRecDepth 100000 in
set_option maxHeartbeats 4000000 in
theorem canonOf_any (fa ha oa : Option Addr) (fc hcp oc : Nat) (d : VmD) (w : World) (hx : VmSmall d) (hm : VmAt w 0 fa ha oa d) (hA : AllNamed d) :
    Calls Tryz.prog 31 #[.agg (vmCells fa ha oa fc hcp oc d)] w fun e w' => ∃ F xa xc O la sa rb, e = .returned (.agg (vmCells (some ⟨F, 0, none⟩) xa (some ⟨O, 0, none⟩) d.frames.length xc d.out.length (canonD d))) ∧ CanIs w' w.heap.size F xa xc O la sa rb (canonD d) ∧ Below w.heap.size w w' := by
  have hbA : Below w.heap.size w ((w.alloc (.cells (vmCells fa ha oa fc hcp oc d) 38)).alloc (.cells #[.slice none 0 0, .slice none 0 0, .int .i64 0, .slice none 0 0, .int .i64 0, .int .i64 0, .int .i64 0, .int .i64 0, .string ⟨#[]⟩, .int .i64 0] 38)) := ((Below.refl _ _).alloc (Nat.le_refl _) _).alloc (by simp) _
  have hR0 := block_new_at (w.alloc (.cells (vmCells fa ha oa fc hcp oc d) 38)) #[.slice none 0 0, .slice none 0 0, .int .i64 0, .slice none 0 0, .int .i64 0, .int .i64 0, .int .i64 0, .int .i64 0, .string ⟨#[]⟩, .int .i64 0] 38 (w.heap.size + 1) (by simp)
  have hfl := hx.frames
  have hhl := hx.heap
  unfold vmCells at hbA hR0
  conv => arg 3; unfold vmCells
  go_enter Tryz.func31, Tryz.ntmps31
  go_wp2_with fail
  have hov := ownVm_any fa ha oa fc hcp oc d _ hx (hm.mono hbA)
  unfold vmCells at hov
  refine hov.mono ?_
  rintro e w1 ⟨F, Hb, O, la, sa, rb, rfl, hO, hb1⟩
  have hR1 := block_kept hR0 hb1
  have hB1 := hbA.trans (hb1.mono hbA.size)
  have hO : OwnIs w1 (w.heap.size + 2) F Hb O la sa rb d := by simpa using hO
  clear hov hbA hR0 hb1 hm
  have HO := hid hO
  have HR := hid hR1
  have HB := hid hB1
  obtain ⟨w2, hw2⟩ : ∃ w2, w2 = ((w1.alloc (.cells #[.slice (some ⟨F, 0, none⟩) d.frames.length d.frames.length, .slice (some ⟨Hb, 0, none⟩) d.heap.length d.heap.length, .int .i64 d.made, .slice (some ⟨O, 0, none⟩) d.out.length d.out.length, .int .i64 d.status, .int .i64 d.trap, .int .i64 d.value.k, .int .i64 d.value.n, .string d.value.s, .int .i64 0] 38)).alloc (.map #[] 0)).alloc (.cells #[.slice (some ⟨Hb, 0, none⟩) d.heap.length d.heap.length, .map (some (w1.heap.size + 1)), .slice none 0 0] 111) := ⟨_, rfl⟩
  have hV2 : w2.heap[w1.heap.size]? = some (.cells #[.slice (some ⟨F, 0, none⟩) d.frames.length d.frames.length, .slice (some ⟨Hb, 0, none⟩) d.heap.length d.heap.length, .int .i64 d.made, .slice (some ⟨O, 0, none⟩) d.out.length d.out.length, .int .i64 d.status, .int .i64 d.trap, .int .i64 d.value.k, .int .i64 d.value.n, .string d.value.s, .int .i64 0] 38 (0, 0)) := by
    rw [hw2]
    exact block_old (block_old (block_new w1 #[.slice (some ⟨F, 0, none⟩) d.frames.length d.frames.length, .slice (some ⟨Hb, 0, none⟩) d.heap.length d.heap.length, .int .i64 d.made, .slice (some ⟨O, 0, none⟩) d.out.length d.out.length, .int .i64 d.status, .int .i64 d.trap, .int .i64 d.value.k, .int .i64 d.value.n, .string d.value.s, .int .i64 0] 38) _) _
  have hN2 : NumAt w2 w1.heap.size Hb d.heap.length d.heap.length (w1.heap.size + 2) (w1.heap.size + 1) (.slice none 0 0) [] := by
    refine ⟨?_, ?_, World.ownsRow_nil _ _ _ _, by omega, by omega⟩
    · rw [hw2]
      exact block_new_at _ _ _ _ (by simp)
    · rw [hw2]
      refine block_old ?_ _
      have := (MapKept.heap_alloc (w1.alloc (.cells #[.slice (some ⟨F, 0, none⟩) d.frames.length d.frames.length, .slice (some ⟨Hb, 0, none⟩) d.heap.length d.heap.length, .int .i64 d.made, .slice (some ⟨O, 0, none⟩) d.out.length d.out.length, .int .i64 d.status, .int .i64 d.trap, .int .i64 d.value.k, .int .i64 d.value.n, .string d.value.s, .int .i64 0] 38)) (.map #[] 0)).1
      simpa [recEnts] using this
  have hb2 : Below w1.heap.size w1 w2 := by
    rw [hw2]
    exact (((Below.refl _ _).alloc (Nat.le_refl _) _).alloc (by simp) _).alloc (by simp; omega) _
  clear hO hR1 hB1
  have hmm : ∀ W : World, (Instr.makeMap 108 none).run Tryz.prog W = .ok (.map (some W.heap.size)) (W.alloc (.map #[] 0)) := fun _ => rfl
  go_wp2
  rw [← hw2]
  clear hw2 hmm
  have hAp := HO.out.apart
  have HAp := hid hAp
  go_loopw [17] (fun i wr => ∃ (k : Nat) (mv : Value), k ≤ d.frames.length ∧ i = .int .i64 k ∧ Hid (FrMet wr la sa d.frames k) ∧ Hid (NumAt wr w1.heap.size Hb d.heap.length d.heap.length (w1.heap.size + 2) (w1.heap.size + 1) mv (fS [] (d.frames.take k)))
      ∧ wr.heap[w1.heap.size]? = some (.cells #[.slice (some ⟨F, 0, none⟩) d.frames.length d.frames.length, .slice (some ⟨Hb, 0, none⟩) d.heap.length d.heap.length, .int .i64 d.made, .slice (some ⟨O, 0, none⟩) d.out.length d.out.length, .int .i64 d.status, .int .i64 d.trap, .int .i64 d.value.k, .int .i64 d.value.n, .string d.value.s, .int .i64 0] 38 (0, 0)) ∧ Hid (w1.heap.size ≤ wr.heap.size) ∧ Hid (wr.os = w1.os ∧ wr.tape = w1.tape ∧ wr.output = w1.output) ∧ Hid (∀ kk o, kk < w1.heap.size → (∀ i, i < d.frames.length → kk ≠ la i ∧ kk ≠ sa i) → w1.heap[kk]? = some o → wr.heap[kk]? = some o)) (fun i _ => d.frames.length - (intOf i).toNat)
  case atStart =>
    exact ⟨0, _, by omega, rfl, HO.out.met0.kept (fun b vs _ hv => hv.mono hb2), hN2, hV2, hb2.size, ⟨hb2.os, hb2.tape, hb2.output⟩, fun kk o _ _ ho => block_kept ho hb2⟩
  case round =>
    obtain ⟨k, mv, hk, rfl, HF, HN, hV, HZ, HT, HK⟩ := hrel
    clear hV2 hN2 hb2
    obtain ⟨cur, hFc, hFd⟩ := HO.out.fc
    have hFlt := lt_block hFc
    have hFn : ∀ i, i < d.frames.length → F ≠ la i ∧ F ≠ sa i := fun i hi => by
      have h1 := HO.out.fv.loc i hi hi
      have h2 := HO.out.fv.stk i hi hi
      unfold ValsIs at h1 h2
      constructor
      · intro e; rw [← e, hFc] at h1; cases h1
      · intro e; rw [← e, hFc] at h2; cases h2
    have hFr := HK.out _ _ hFlt hFn hFc
    by_cases hlt : k < d.frames.length
    · obtain ⟨d1, d2, d3, d4⟩ := hFd.2 k hlt hlt
      have c1 : wr.cell? ⟨F, k * 4, none⟩ = some (.int .i64 d.frames[k].fn) := by rw [block_cell hFr]; exact d1
      have c2 : wr.cell? ⟨F, k * 4 + 1, none⟩ = some (.int .i64 d.frames[k].pc) := by rw [block_cell hFr]; exact d2
      have c3 : wr.cell? ⟨F, k * 4 + 2, none⟩ = some (.slice (some ⟨la k, 0, none⟩) d.frames[k].locals.length d.frames[k].locals.length) := by rw [block_cell hFr]; exact d3
      have c4 : wr.cell? ⟨F, k * 4 + 3, none⟩ = some (.slice (some ⟨sa k, 0, none⟩) d.frames[k].stack.length d.frames[k].stack.length) := by rw [block_cell hFr]; exact d4
      obtain ⟨wA, hwA⟩ : ∃ wA, wA = wr.alloc (.cells #[.int .i64 d.frames[k].fn, .int .i64 d.frames[k].pc, .slice (some ⟨la k, 0, none⟩) d.frames[k].locals.length d.frames[k].locals.length, .slice (some ⟨sa k, 0, none⟩) d.frames[k].stack.length d.frames[k].stack.length] 90) := ⟨_, rfl⟩
      have hX : wA.heap[wr.heap.size]? = some (.cells #[.int .i64 d.frames[k].fn, .int .i64 d.frames[k].pc, .slice (some ⟨la k, 0, none⟩) d.frames[k].locals.length d.frames[k].locals.length, .slice (some ⟨sa k, 0, none⟩) d.frames[k].stack.length d.frames[k].stack.length] 90 (0, 0)) := by rw [hwA]; exact block_new _ _ _
      have hbA : Below wr.heap.size wr wA := by rw [hwA]; exact (Below.refl _ _).alloc (Nat.le_refl _) _
      obtain ⟨ms, hms⟩ : ∃ ms, ms = fS [] (d.frames.take k) := ⟨_, rfl⟩
      have hM : Met d.heap.length ms := by rw [hms]; exact (Met.nil _).fS fun f hf => hA.frames f (List.mem_of_mem_take hf)
      have hNA := HN.out.mono hbA
      rw [← hms] at hNA
      have hVL : ValsIs wA (la k) d.frames[k].locals := (HF.out.todoL k hlt (Nat.le_refl _)).mono hbA
      have hVS : ValsIs wA (sa k) d.frames[k].stack := (HF.out.todoS k hlt (Nat.le_refl _)).mono hbA
      have hmL := meetAll_any w1.heap.size Hb d.heap.length d.heap.length (w1.heap.size + 2) (w1.heap.size + 1) mv ms (la k) d.frames[k].locals.length d.frames[k].locals wA hNA hVL (hx.locals _ (List.getElem_mem hlt)).1 (hA.frames _ (List.getElem_mem hlt)).1 hhl hM
      have hVA := block_kept hV hbA
      have HbA := hid hbA
      have HMS := hid hms
      have HFD := hid hFd
      clear hFc hFlt hFn hFr d1 d2 d3 d4 hbA hNA hVL hms hFd
      go_wp2_with fail
      rw [← hwA]
      clear hwA c1 c2 c3 c4 hV
      refine hmL.mono ?_
      rintro e w3 ⟨rfl, hK3, ⟨mv3, hN3⟩, hV3⟩
      have hla := HAp.out.llo k hlt
      have hsa := HAp.out.slo k hlt
      have hlsz := HZ.out
      have hX3 := hK3.kept hX (by omega) ⟨by decide, by decide⟩
      have hVA3 := hK3.kept hVA (by omega) ⟨by decide, by decide⟩
      have hVS3 : ValsIs w3 (sa k) d.frames[k].stack := hK3.low hVS (fun e => HAp.out.ls k k hlt hlt e.symm) hsa
      have hmS := meetAll_any w1.heap.size Hb d.heap.length d.heap.length (w1.heap.size + 2) (w1.heap.size + 1) mv3 (lS ms d.frames[k].locals) (sa k) d.frames[k].stack.length d.frames[k].stack w3 hN3 hVS3 (hx.stack _ (List.getElem_mem hlt)).1 (hA.frames _ (List.getElem_mem hlt)).2 hhl (hM.lS (hA.frames _ (List.getElem_mem hlt)).1)
      have x3 := block_cell hX3
      have HK3 := hid hK3
      have HV3 := hid hV3
      clear hmL hX hVA hVS hN3 hVS3 hK3 hV3
      go_wp2_with fail
      refine hmS.mono ?_
      rintro e w4 ⟨rfl, hK4, ⟨mv4, hN4⟩, hV4⟩
      have hVA4 := hK4.kept hVA3 (by omega) ⟨by decide, by decide⟩
      have HK4 := hid hK4
      have HV4 := hid hV4
      have HN4 := hid hN4
      clear hmS hX3 hVA3 x3 hK4 hV4 hN4
      go_wp2
      go_roundw
      case rel =>
        have k3 := HK3.out
        have k4 := HK4.out
        refine ⟨k + 1, mv4, by omega, by go_num, ?_, ?_, hVA4, Nat.le_trans HZ.out (Nat.le_trans HbA.out.size (Nat.le_trans k3.size k4.size)), ⟨k4.os.trans (k3.os.trans (HbA.out.os.trans HT.out.1)), k4.tape.trans (k3.tape.trans (HbA.out.tape.trans HT.out.2.1)), k4.output.trans (k3.output.trans (HbA.out.output.trans HT.out.2.2))⟩, ?_⟩
        · refine (HF.out.kept fun b vs _ hv => hv.mono HbA.out).step HAp.out hlt k3 ?_ k4 ?_
          · rw [← HMS.out]; exact HV3.out
          · rw [← HMS.out]; exact HV4.out
        · show NumAt _ _ _ _ _ _ _ _ _
          rw [fS_more hlt, ← HMS.out]
          exact HN4.out
        · intro kk o hkk hne ho
          exact k4.low (k3.low (block_kept (HK.out kk o hkk hne ho) HbA.out) (hne k hlt).1 hkk) (hne k hlt).2 hkk
      case measure => simp [intOf]; omega
    · have hkn : k = d.frames.length := by omega
      subst hkn
      have hN := HN.out
      rw [List.take_length] at hN
      have hml := (Met.nil d.heap.length).fS hA.frames
      have hmt := meet_any w1.heap.size Hb d.heap.length d.heap.length (w1.heap.size + 2) (w1.heap.size + 1) mv (fS [] d.frames) w1.heap.size 6 38 d.value _ wr hN hV ⟨by decide, by decide⟩ rfl rfl hA.value hhl hml
      have HFD := hid hFd
      have HFC := hid hFc
      have HFN := hid hFn
      have HFL := hid hFlt
      have hF1 := block_cell hFr
      clear hN hml hFc hFn hFr hFlt hFd
      go_wp2_with fail
      refine hmt.mono ?_
      rintro e w5 ⟨rfl, hK5, ⟨mv5, hN5⟩, hV5⟩
      have hV5 : w5.heap[w1.heap.size]? = some (.cells #[.slice (some ⟨F, 0, none⟩) d.frames.length d.frames.length, .slice (some ⟨Hb, 0, none⟩) d.heap.length d.heap.length, .int .i64 d.made, .slice (some ⟨O, 0, none⟩) d.out.length d.out.length, .int .i64 d.status, .int .i64 d.trap, .int .i64 d.value.k, .int .i64 (mV (fS [] d.frames) d.value).n, .string d.value.s, .int .i64 0] 38 (0, 0)) := by simpa using hV5
      have hN5 : NumAt w5 w1.heap.size Hb d.heap.length d.heap.length (w1.heap.size + 2) (w1.heap.size + 1) mv5 (ms0 d) := hN5
      have hrbl : ∀ j, j < d.heap.length → rb j < w1.heap.size := fun j hj => lt_block (HO.out.hv.fld j hj hj)
      have hlow5 : ∀ kk o, kk < w1.heap.size → (∀ i, i < d.frames.length → kk ≠ la i ∧ kk ≠ sa i) → w1.heap[kk]? = some o → w5.heap[kk]? = some o := fun kk o hkk hne ho => hK5.low (HK.out kk o hkk hne ho) (by omega) hkk
      have hty : ∀ kk c t, t ≠ 36 → w1.heap[kk]? = some (.cells c t (0, 0)) → ∀ i, i < d.frames.length → kk ≠ la i ∧ kk ≠ sa i := fun kk c t ht ho i hi => by
        have h1 := HO.out.fv.loc i hi hi
        have h2 := HO.out.fv.stk i hi hi
        unfold ValsIs at h1 h2
        constructor
        · intro e; rw [← e, ho] at h1; cases h1; exact ht rfl
        · intro e; rw [← e, ho] at h2; cases h2; exact ht rfl
      have htr : ∀ kk c t, t ≠ 36 → w1.heap[kk]? = some (.cells c t (0, 0)) → ∀ j, j < d.heap.length → kk ≠ rb j := fun kk c t ht ho j hj e => by
        have h1 := HO.out.hv.fld j hj hj
        unfold ValsIs at h1
        rw [← e, ho] at h1; cases h1; exact ht rfl
      have hRR : RecRow w5 w1.heap.size Hb rb d.heap := by
        obtain ⟨c2, a2, b2⟩ := HO.out.hc
        exact HO.out.recRow fun o ho => hlow5 _ o (lt_block ho) (hty _ _ _ (by decide) a2) ho
      have hRD : RecDone w5 rb d.heap (ms0 d) [] 0 := ⟨fun j hj _ => hlow5 _ _ (hrbl j hj) (fun i hi => ⟨fun e => (HO.out.fr i j hi hj).1 e.symm, fun e => (HO.out.fr i j hi hj).2 e.symm⟩) (HO.out.hv.fld j hj hj), fun q hq => absurd hq (Nat.not_lt_zero _), fun q hq => absurd hq (Nat.not_lt_zero _)⟩
      have hnb := numbered_any w1.heap.size Hb d.heap.length (w1.heap.size + 2) (w1.heap.size + 1) mv5 rb d.heap (ms0 d) w5 hN5 hRR hRD hhl (fun r hr => (hx.fields r hr).1) hA.heap hA.ms0
      have HF5 : Hid (FrMet w5 la sa d.frames d.frames.length) := HF.out.kept fun b vs hb hv => hK5.low hv (by obtain ⟨i, hi, rfl | rfl⟩ := hb; have := HAp.out.llo i hi; omega; have := HAp.out.slo i hi; omega) (by obtain ⟨i, hi, rfl | rfl⟩ := hb; exact HAp.out.llo i hi; exact HAp.out.slo i hi)
      have HL5 := hid hlow5
      have HTY := hid hty
      have HTR := hid htr
      have HRL := hid hrbl
      have HZ5 : Hid (w1.heap.size < w5.heap.size) := lt_block hV5
      have HT5 : Hid (w5.os = w1.os ∧ w5.tape = w1.tape ∧ w5.output = w1.output) := ⟨hK5.os.trans HT.out.1, hK5.tape.trans HT.out.2.1, hK5.output.trans HT.out.2.2⟩
      clear hmt hK5 hN5 hlow5 hty htr hRR hRD hrbl hV hF1
      go_wp2_with fail
      refine hnb.mono ?_
      rintro e w6 ⟨k5, mv6, ho, rfl, hlen6, hI⟩
      obtain ⟨ms6, rs6, hrs⟩ : ∃ ms6 rs6, rIter d.heap (ms0 d) k5 = (ms6, rs6) := ⟨_, _, rfl⟩
      rw [hrs] at hI hlen6
      obtain ⟨xa, xc, rfl⟩ : ∃ xa xc, ho = .slice xa k5 xc := by
        rcases hI.own.2 with ⟨e, h0⟩ | ⟨b, cp, cu, e, -⟩
        · exact ⟨none, 0, by rw [e, h0]⟩
        · exact ⟨_, cp, e⟩
      have kp := hI.kept
      have hV6 : w6.heap[w1.heap.size]? = some (.cells #[.slice (some ⟨F, 0, none⟩) d.frames.length d.frames.length, .slice (some ⟨Hb, 0, none⟩) d.heap.length d.heap.length, .int .i64 d.made, .slice (some ⟨O, 0, none⟩) d.out.length d.out.length, .int .i64 d.status, .int .i64 d.trap, .int .i64 d.value.k, .int .i64 (mV (fS [] d.frames) d.value).n, .string d.value.s, .int .i64 0] 38 (0, 0)) := kp.block _ _ hV5 (fun j hj e => by have := HRL.out j hj; omega) (.inr ⟨⟨by decide, by decide⟩, by simp [ofTypes]⟩)
      have hlow6 : ∀ kk o, kk < w1.heap.size → (∀ i, i < d.frames.length → kk ≠ la i ∧ kk ≠ sa i) → (∀ j, j < d.heap.length → kk ≠ rb j) → w1.heap[kk]? = some o → w6.heap[kk]? = some o := fun kk o hkk h1 h2 ho => kp.block _ _ (HL5.out kk o hkk h1 ho) h2 (.inl hkk)
      have hR6 := hlow6 _ _ (lt_block HR.out) (HTY.out _ _ _ (by decide) HR.out) (HTR.out _ _ _ (by decide) HR.out) HR.out
      have hC6 := canIs_of (w6 := w6) HO.out (HF5.out.kept fun b vs hb hv => kp.block _ _ hv (fun j hj => by obtain ⟨i, hi, rfl | rfl⟩ := hb; exact (HO.out.fr i j hi hj).1; exact (HO.out.fr i j hi hj).2) (.inl (by obtain ⟨i, hi, rfl | rfl⟩ := hb; exact HAp.out.llo i hi; exact HAp.out.slo i hi))) hI
        (fun o ho => by obtain ⟨c, a, -⟩ := HO.out.fc; exact hlow6 _ o (lt_block a) (HTY.out _ _ _ (by decide) a) (HTR.out _ _ _ (by decide) a) ho) (fun o ho => by obtain ⟨c, a, -⟩ := HO.out.oc; exact hlow6 _ o (lt_block a) (HTY.out _ _ _ (by decide) a) (HTR.out _ _ _ (by decide) a) ho) hrs hlen6 (by have h1 := HO.out.bf; have h2 := HZ5.out; have h3 := HFL.out; omega)
      have HC := hid hC6
      have HB6 : Hid (Below w.heap.size w w6) := by
        refine HB.out.trans ⟨kp.os.trans HT5.out.1, kp.tape.trans HT5.out.2.1, kp.output.trans HT5.out.2.2, Nat.le_trans (Nat.le_of_lt HZ5.out) kp.size, fun kk hkk => ?_⟩
        have hz := HB.out.size
        have hlt : kk < w1.heap.size := by omega
        rw [Array.getElem?_eq_getElem hlt]
        refine hlow6 _ _ hlt (fun i hi => ?_) (fun j hj => ?_) (Array.getElem?_eq_getElem hlt)
        · have h1 := HO.out.fv.lob i hi
          have h2 := HO.out.fv.sob i hi
          omega
        · have h1 := HO.out.hv.rob j hj
          omega
      have HV6 := hid hV6
      have HR6 := hid hR6
      have v6 := block_cell hV6
      have f6 := block_free hV6
      have r6 := block_cell hR6
      have s6 := block_free hR6
      have hne : w.heap.size + 1 ≠ w1.heap.size := by have := lt_block HR.out; omega
      have HNE := hid hne
      clear hnb hI kp hlow6 hC6 hV6 hR6 hV5 hrs hlen6
      go_wp2
      refine bodyPost_ret (v := .agg #[.slice (some ⟨F, 0, none⟩) d.frames.length d.frames.length, .slice xa k5 xc, .int .i64 d.made, .slice (some ⟨O, 0, none⟩) d.out.length d.out.length, .int .i64 d.status, .int .i64 d.trap, .int .i64 d.value.k, .int .i64 (mV (fS [] d.frames) d.value).n, .string d.value.s, .int .i64 0]) (by simp [results, Tryz.results31, go_sem, r6]) rfl ⟨F, xa, xc, O, la, sa, _, ?_, (HC.out.1.kept fun kk c t ht hkk ho => ?_).low (by omega), ?_⟩
      · have e1 : (canonD d).frames.length = d.frames.length := fV_len [] d.frames
        unfold vmCells
        rw [e1, HC.out.2]
        have e2 : (canonD d).value.k = d.value.k := by show (mV _ _).k = _; unfold mV; split <;> rfl
        have e3 : (canonD d).value.s = d.value.s := by show (mV _ _).s = _; unfold mV; split <;> rfl
        rw [e2, e3]
        rfl
      · have h1 : kk ≠ w1.heap.size := fun e => by rw [e, HV6.out] at ho; cases ho; exact ht rfl
        have h2 : kk ≠ w.heap.size + 1 := fun e => by rw [e, HR6.out] at ho; cases ho; exact ht rfl
        iterate 10 (rw [Below.heap_setCell _ _ _ _ h2])
        rw [Below.heap_setCell _ _ _ _ h1]
        exact ho
      · iterate 10 (refine Below.setCell ?_ (by show w.heap.size ≤ w.heap.size + 1; omega) _)
        refine Below.setCell ?_ (by show w.heap.size ≤ w1.heap.size; exact HB.out.size) _
        exact HB6.out
end Go.Proofs.YtcebgbcgkkfedaaGreat

namespace Go.Proofs.YtcebgbcgkkfedaaGreat
open Go.RowKit

theorem mV_s (ms : List Nat) (v : Vl) : (mV ms v).s = v.s := by unfold mV; split <;> rfl
theorem lV_s {n : Nat} (vs : List Vl) : ∀ ms : List Nat, (∀ v ∈ vs, v.s.size ≤ n) → ∀ v ∈ lV ms vs, v.s.size ≤ n := by
  induction vs with
  | nil => intro ms _ v hv; simp [lV] at hv
  | cons u vs ih =>
    intro ms h v hv
    rw [lV, List.mem_cons] at hv
    rcases hv with rfl | hv
    · rw [mV_s]; exact h u (by simp)
    · exact ih (mS ms u) (fun x hx => h x (by simp [hx])) v hv
theorem vals_small {vs : List Vl} (h : ValsSmall vs) (ms : List Nat) : ValsSmall (lV ms vs) := ⟨by rw [lV_len]; exact h.1, lV_s vs ms h.2⟩
theorem fV_small (fr : List Fr) : ∀ ms : List Nat, (∀ f ∈ fr, ValsSmall f.locals ∧ ValsSmall f.stack) → ∀ f ∈ fV ms fr, ValsSmall f.locals ∧ ValsSmall f.stack := by
  induction fr with
  | nil => intro ms _ f hf; simp [fV] at hf
  | cons g fr ih =>
    intro ms h f hf
    rw [fV, List.mem_cons] at hf
    rcases hf with rfl | hf
    · exact ⟨vals_small (h g (by simp)).1 _, vals_small (h g (by simp)).2 _⟩
    · exact ih _ (fun x hx => h x (by simp [hx])) f hf
theorem rIter_small {hp : List (List Vl)} {ms0 : List Nat} (h : ∀ r ∈ hp, ValsSmall r) : ∀ i, (rIter hp ms0 i).2.length ≤ i ∧ ∀ r ∈ (rIter hp ms0 i).2, ValsSmall r
  | 0 => ⟨Nat.le_refl _, fun r hr => by simp [rIter] at hr⟩
  | i + 1 => by
    obtain ⟨h1, h2⟩ := rIter_small (ms0 := ms0) h i
    rw [rIter]
    split
    · refine ⟨by simpa using h1, fun r hr => ?_⟩
      simp only [List.mem_append, List.mem_singleton] at hr
      rcases hr with hr | rfl
      · exact h2 r hr
      · refine vals_small ?_ _
        rw [List.getD_eq_getElem?_getD]
        cases hq : hp[(rIter hp ms0 i).1.getD i 0]? with
        | none => exact ⟨by simp, fun v hv => by simp at hv⟩
        | some r => exact h r (List.mem_of_getElem? hq)
    · exact ⟨by omega, h2⟩
theorem VmSmall.canon {d : VmD} (h : VmSmall d) : VmSmall (canonD d) := by
  have hf := fV_small d.frames [] (fun f hf => ⟨h.locals f hf, h.stack f hf⟩)
  have hr := rIter_small (ms0 := ms0 d) h.fields d.heap.length
  exact ⟨by show (fV [] d.frames).length ≤ _; rw [fV_len]; exact h.frames, fun f hx => (hf f hx).1, fun f hx => (hf f hx).2, Nat.le_trans hr.1 h.heap, hr.2, h.out, h.text, by show (mV _ _).s.size ≤ _; rw [mV_s]; exact h.value⟩
end Go.Proofs.YtcebgbcgkkfedaaGreat

namespace Go.Proofs.YtcebgbcgkkfedaaGreat
open Go.RowKit

/-- Both states are ok, and their canons are the same. -/
def AlikeP (ts : List ByteArray) (fs : List Fn) (x y : VmD) : Prop := VmGood ts fs x ∧ VmGood ts fs y ∧ canonD x = canonD y

set_option maxRecDepth 100000 in
set_option maxHeartbeats 8000000 in
theorem iAlike_any (a1 a2 : Option Addr) (c1 c2 : Nat) (ts : List ByteArray) (fs : List Fn) (x y : VmD) (fa ha oa fb hb ob : Option Addr) (fc hc oc fd hd od : Nat) (w : World) (hsm : Small ts fs) (hst : StrsAt w 0 a1 ts) (hfn : FnsAt w 0 a2 fs) (hxx : VmSmall x) (hxy : VmSmall y) (hm1 : VmAt w 0 fa ha oa x) (hm2 : VmAt w 0 fb hb ob y) :
    Calls Tryz.prog 17 #[.agg #[.slice a1 ts.length c1, .slice a2 fs.length c2], .agg (vmCells fa ha oa fc hc oc x), .agg (vmCells fb hb ob fd hd od y)] w fun e w' => e = .returned (.bool (pB (AlikeP ts fs x y))) ∧ Below w.heap.size w w' := by
  conv => arg 3; unfold vmCells
  obtain ⟨wA, hwA⟩ : ∃ wA, wA = ((w.alloc (.cells #[.slice a1 ts.length c1, .slice a2 fs.length c2] 42)).alloc (.cells #[.slice fa x.frames.length fc, .slice ha x.heap.length hc, .int .i64 x.made, .slice oa x.out.length oc, .int .i64 x.status, .int .i64 x.trap, .int .i64 x.value.k, .int .i64 x.value.n, .string x.value.s, .int .i64 x.steps] 38)).alloc (.cells #[.slice fb y.frames.length fd, .slice hb y.heap.length hd, .int .i64 y.made, .slice ob y.out.length od, .int .i64 y.status, .int .i64 y.trap, .int .i64 y.value.k, .int .i64 y.value.n, .string y.value.s, .int .i64 y.steps] 38) := ⟨_, rfl⟩
  have hbA : Below w.heap.size w wA := by rw [hwA]; exact (((Below.refl _ _).alloc (Nat.le_refl _) _).alloc (by simp) _).alloc (by simp; omega) _
  have hM : wA.heap[w.heap.size]? = some (.cells #[.slice a1 ts.length c1, .slice a2 fs.length c2] 42 (0, 0)) := by rw [hwA]; exact block_old (block_old (block_new _ _ _) _) _
  have hX : wA.heap[w.heap.size + 1]? = some (.cells #[.slice fa x.frames.length fc, .slice ha x.heap.length hc, .int .i64 x.made, .slice oa x.out.length oc, .int .i64 x.status, .int .i64 x.trap, .int .i64 x.value.k, .int .i64 x.value.n, .string x.value.s, .int .i64 x.steps] 38 (0, 0)) := by rw [hwA]; exact block_old (block_new_at _ _ _ _ (by simp)) _
  have hY : wA.heap[w.heap.size + 1 + 1]? = some (.cells #[.slice fb y.frames.length fd, .slice hb y.heap.length hd, .int .i64 y.made, .slice ob y.out.length od, .int .i64 y.status, .int .i64 y.trap, .int .i64 y.value.k, .int .i64 y.value.n, .string y.value.s, .int .i64 y.steps] 38 (0, 0)) := by rw [hwA]; exact block_new_at _ _ _ _ (by simp)
  have hS : ∀ w', Below wA.heap.size wA w' → w'.cell? ⟨w.heap.size, 0, none⟩ = some (.slice a1 ts.length c1) ∧ w'.cell? ⟨w.heap.size, 1, none⟩ = some (.slice a2 fs.length c2) ∧ w'.cell? ⟨w.heap.size + 1, 0, none⟩ = some (.slice fa x.frames.length fc) ∧ w'.cell? ⟨w.heap.size + 1, 1, none⟩ = some (.slice ha x.heap.length hc) ∧ w'.cell? ⟨w.heap.size + 1, 2, none⟩ = some (.int .i64 x.made) ∧ w'.cell? ⟨w.heap.size + 1, 3, none⟩ = some (.slice oa x.out.length oc) ∧ w'.cell? ⟨w.heap.size + 1, 4, none⟩ = some (.int .i64 x.status) ∧ w'.cell? ⟨w.heap.size + 1, 5, none⟩ = some (.int .i64 x.trap) ∧ w'.cell? ⟨w.heap.size + 1, 6, none⟩ = some (.int .i64 x.value.k) ∧ w'.cell? ⟨w.heap.size + 1, 7, none⟩ = some (.int .i64 x.value.n) ∧ w'.cell? ⟨w.heap.size + 1, 8, none⟩ = some (.string x.value.s) ∧ w'.cell? ⟨w.heap.size + 1, 9, none⟩ = some (.int .i64 x.steps) ∧ w'.cell? ⟨w.heap.size + 1 + 1, 0, none⟩ = some (.slice fb y.frames.length fd) ∧ w'.cell? ⟨w.heap.size + 1 + 1, 1, none⟩ = some (.slice hb y.heap.length hd) ∧ w'.cell? ⟨w.heap.size + 1 + 1, 2, none⟩ = some (.int .i64 y.made) ∧ w'.cell? ⟨w.heap.size + 1 + 1, 3, none⟩ = some (.slice ob y.out.length od) ∧ w'.cell? ⟨w.heap.size + 1 + 1, 4, none⟩ = some (.int .i64 y.status) ∧ w'.cell? ⟨w.heap.size + 1 + 1, 5, none⟩ = some (.int .i64 y.trap) ∧ w'.cell? ⟨w.heap.size + 1 + 1, 6, none⟩ = some (.int .i64 y.value.k) ∧ w'.cell? ⟨w.heap.size + 1 + 1, 7, none⟩ = some (.int .i64 y.value.n) ∧ w'.cell? ⟨w.heap.size + 1 + 1, 8, none⟩ = some (.string y.value.s) ∧ w'.cell? ⟨w.heap.size + 1 + 1, 9, none⟩ = some (.int .i64 y.steps) := fun w' q => ⟨by rw [block_cell (block_kept hM q)]; rfl, by rw [block_cell (block_kept hM q)]; rfl, by rw [block_cell (block_kept hX q)]; rfl, by rw [block_cell (block_kept hX q)]; rfl, by rw [block_cell (block_kept hX q)]; rfl, by rw [block_cell (block_kept hX q)]; rfl, by rw [block_cell (block_kept hX q)]; rfl, by rw [block_cell (block_kept hX q)]; rfl, by rw [block_cell (block_kept hX q)]; rfl, by rw [block_cell (block_kept hX q)]; rfl, by rw [block_cell (block_kept hX q)]; rfl, by rw [block_cell (block_kept hX q)]; rfl, by rw [block_cell (block_kept hY q)]; rfl, by rw [block_cell (block_kept hY q)]; rfl, by rw [block_cell (block_kept hY q)]; rfl, by rw [block_cell (block_kept hY q)]; rfl, by rw [block_cell (block_kept hY q)]; rfl, by rw [block_cell (block_kept hY q)]; rfl, by rw [block_cell (block_kept hY q)]; rfl, by rw [block_cell (block_kept hY q)]; rfl, by rw [block_cell (block_kept hY q)]; rfl, by rw [block_cell (block_kept hY q)]; rfl⟩
  have HS := hid hS
  obtain ⟨j0, j1, j2, j3, j4, j5, j6, j7, j8, j9, j10, j11, j12, j13, j14, j15, j16, j17, j18, j19, j20, j21⟩ := hS wA (Below.refl _ _)
  have HB := hid hbA
  have HST := hid (hst.mono hbA)
  have HFN := hid (hfn.mono hbA)
  have HMX := hid (hm1.mono hbA)
  have HMY := hid (hm2.mono hbA)
  clear hS hM hX hY hbA hst hfn hm1 hm2
  have q : Below wA.heap.size wA wA.drew := (Below.refl _ _).drew
  by_cases g1 : VmGood ts fs x
  · have G1 := hid g1
    have p1 : pB (VmGood ts fs x) = true := pB_yes g1
    have HAX := hid (AllNamed.of g1.2.2.2)
    clear g1
    by_cases g2 : VmGood ts fs y
    · have G2 := hid g2
      have p2 : pB (VmGood ts fs y) = true := pB_yes g2
      have HAY := hid (AllNamed.of g2.2.2.2)
      clear g2
      go_enter Tryz.func17, Tryz.ntmps17
      go_wp2
      rw [← hwA]
      clear hwA
      go_region_held3 (fun w' => w'.cell? ⟨w.heap.size, 0, none⟩ = some (.slice a1 ts.length c1) ∧ w'.cell? ⟨w.heap.size, 1, none⟩ = some (.slice a2 fs.length c2) ∧ w'.cell? ⟨w.heap.size + 1, 0, none⟩ = some (.slice fa x.frames.length fc) ∧ w'.cell? ⟨w.heap.size + 1, 1, none⟩ = some (.slice ha x.heap.length hc) ∧ w'.cell? ⟨w.heap.size + 1, 2, none⟩ = some (.int .i64 x.made) ∧ w'.cell? ⟨w.heap.size + 1, 3, none⟩ = some (.slice oa x.out.length oc) ∧ w'.cell? ⟨w.heap.size + 1, 4, none⟩ = some (.int .i64 x.status) ∧ w'.cell? ⟨w.heap.size + 1, 5, none⟩ = some (.int .i64 x.trap) ∧ w'.cell? ⟨w.heap.size + 1, 6, none⟩ = some (.int .i64 x.value.k) ∧ w'.cell? ⟨w.heap.size + 1, 7, none⟩ = some (.int .i64 x.value.n) ∧ w'.cell? ⟨w.heap.size + 1, 8, none⟩ = some (.string x.value.s) ∧ w'.cell? ⟨w.heap.size + 1, 9, none⟩ = some (.int .i64 x.steps) ∧ w'.cell? ⟨w.heap.size + 1 + 1, 0, none⟩ = some (.slice fb y.frames.length fd) ∧ w'.cell? ⟨w.heap.size + 1 + 1, 1, none⟩ = some (.slice hb y.heap.length hd) ∧ w'.cell? ⟨w.heap.size + 1 + 1, 2, none⟩ = some (.int .i64 y.made) ∧ w'.cell? ⟨w.heap.size + 1 + 1, 3, none⟩ = some (.slice ob y.out.length od) ∧ w'.cell? ⟨w.heap.size + 1 + 1, 4, none⟩ = some (.int .i64 y.status) ∧ w'.cell? ⟨w.heap.size + 1 + 1, 5, none⟩ = some (.int .i64 y.trap) ∧ w'.cell? ⟨w.heap.size + 1 + 1, 6, none⟩ = some (.int .i64 y.value.k) ∧ w'.cell? ⟨w.heap.size + 1 + 1, 7, none⟩ = some (.int .i64 y.value.n) ∧ w'.cell? ⟨w.heap.size + 1 + 1, 8, none⟩ = some (.string y.value.s) ∧ w'.cell? ⟨w.heap.size + 1 + 1, 9, none⟩ = some (.int .i64 y.steps))
        (first | exact ⟨j0, j1, j2, j3, j4, j5, j6, j7, j8, j9, j10, j11, j12, j13, j14, j15, j16, j17, j18, j19, j20, j21⟩ | exact HS.out _ q)
        (first
          | (go_at_call_of 30 fa; refine (iVmOk_any a1 a2 c1 c2 ts fs fa ha oa fc hc oc x _ hsm (HST.out.mono q) (HFN.out.mono q) hxx (HMX.out.mono q)).mono ?_; rintro e wa ⟨hsay, kd⟩; obtain rfl := hsay.eq; clear hsay; have q := q.trans (kd.mono q.size))
          | (go_at_call_of 30 fb; refine (iVmOk_any a1 a2 c1 c2 ts fs fb hb ob fd hd od y _ hsm (HST.out.mono q) (HFN.out.mono q) hxy (HMY.out.mono q)).mono ?_; rintro e wb ⟨hsay, kd⟩; obtain rfl := hsay.eq; clear hsay; have q := q.trans (kd.mono q.size))
          | (go_at_call_of 31 fa; refine (canonOf_any fa ha oa fc hc oc x _ hxx (HMX.out.mono q) HAX.out).mono ?_; rintro e wca ⟨Fa, xa, ya, Oa, la, sa, ra, rfl, hca, kd⟩; have hva := (hca.at).low (Nat.zero_le _); have q := q.trans (kd.mono q.size))
          | (go_at_call_of 31 fb; refine (canonOf_any fb hb ob fd hd od y _ hxy (HMY.out.mono q) HAY.out).mono ?_; rintro e wcb ⟨Fb, xb, yb, Ob, lb, sb, rb, rfl, hcb, kd⟩; have hvb := (hcb.at).low (Nat.zero_le _); have hva := hva.mono kd; have q := q.trans (kd.mono q.size))
          | (go_at_call 45; refine (sameStates_any (canonD x) (canonD y) _ _ _ _ _ _ _ _ _ _ _ _ _ hxx.canon hva hvb).mono ?_; rintro e w9 ⟨rfl, kd⟩; have q := q.trans (kd.mono q.size)))
      all_goals
        go_wp2
        go_ret
        refine ⟨?_, HB.out.trans (q.mono HB.out.size)⟩
        rw [show AlikeP ts fs x y = (canonD x = canonD y) from propext ⟨fun h => h.2.2, fun h => ⟨G1.out, G2.out, h⟩⟩]
        rfl
    · have G2 := hid g2
      have p2 : pB (VmGood ts fs y) = false := pB_no g2
      clear g2
      go_enter Tryz.func17, Tryz.ntmps17
      go_wp2
      rw [← hwA]
      clear hwA
      first | (go_region_with (first
          | (go_at_call_of 30 fa; refine (iVmOk_any a1 a2 c1 c2 ts fs fa ha oa fc hc oc x _ hsm (HST.out.mono q) (HFN.out.mono q) hxx (HMX.out.mono q)).mono ?_; rintro e wa ⟨hsay, kd⟩; obtain rfl := hsay.eq; clear hsay; have q := q.trans (kd.mono q.size); obtain ⟨j0, j1, j2, j3, j4, j5, j6, j7, j8, j9, j10, j11, j12, j13, j14, j15, j16, j17, j18, j19, j20, j21⟩ := HS.out _ q)
          | (go_at_call_of 30 fb; refine (iVmOk_any a1 a2 c1 c2 ts fs fb hb ob fd hd od y _ hsm (HST.out.mono q) (HFN.out.mono q) hxy (HMY.out.mono q)).mono ?_; rintro e wb ⟨hsay, kd⟩; obtain rfl := hsay.eq; clear hsay; have q := q.trans (kd.mono q.size); obtain ⟨j0, j1, j2, j3, j4, j5, j6, j7, j8, j9, j10, j11, j12, j13, j14, j15, j16, j17, j18, j19, j20, j21⟩ := HS.out _ q))) | fail
      all_goals
        go_wp2
        go_ret
        exact ⟨by rw [pB_no (fun h => G2.out h.2.1)]; rfl, HB.out.trans (q.mono HB.out.size)⟩
  · have G1 := hid g1
    have p1 : pB (VmGood ts fs x) = false := pB_no g1
    clear g1
    go_enter Tryz.func17, Tryz.ntmps17
    go_wp2
    rw [← hwA]
    clear hwA
    first | (go_region_with (first
        | (go_at_call_of 30 fa; refine (iVmOk_any a1 a2 c1 c2 ts fs fa ha oa fc hc oc x _ hsm (HST.out.mono q) (HFN.out.mono q) hxx (HMX.out.mono q)).mono ?_; rintro e wa ⟨hsay, kd⟩; obtain rfl := hsay.eq; clear hsay; have q := q.trans (kd.mono q.size); obtain ⟨j0, j1, j2, j3, j4, j5, j6, j7, j8, j9, j10, j11, j12, j13, j14, j15, j16, j17, j18, j19, j20, j21⟩ := HS.out _ q))) | fail
    all_goals
      go_wp2
      go_ret
      exact ⟨by rw [pB_no (fun h => G1.out h.1)]; rfl, HB.out.trans (q.mono HB.out.size)⟩
end Go.Proofs.YtcebgbcgkkfedaaGreat

namespace Go.Proofs.YtcebgbcgkkfedaaGreat
open Go.RowKit Go.Deep Go.ChangeShapes Go.WideShapes

section
variable {H : Type} {enc : TypeId × Value → H} {P : Program} {w : World} {base : Nat} {spare : Nat → Bool} {held : Bool}

theorem plain_of {a : Addr} {v : Value} (h : w.cell? (a.add 0) = some v) : ∃ b off, a = ⟨b, off, none⟩ := by
  obtain ⟨b, off, spot⟩ := a
  have hspot : spot = none := by simpa [Addr.add] using World.cell?_spot h
  subst hspot
  exact ⟨b, off, rfl⟩

/-- A []string that came in. -/
theorem read_strs {t e : TypeId} {fuel : Nat} {v : Value} {y : DataW H × List MemPlace} (ht : P.underlying t = some (.slice e)) (he : P.underlying e = some .string) (hc : P.cellsOf e = 1)
    (h : DataW.trod enc P w base spare held fuel t [v] = some y) :
    ∃ a cap ss, v = .slice a ss.length cap ∧ ss.length ≤ maxLen ∧ (∀ s ∈ ss, s.size ≤ maxLen) ∧ StrsAt w 0 a ss := by
  rcases open_strs ht he hc h with ⟨hcs, -⟩ | ⟨a, len, cap, m, Sx, hcs, -, hl, hm, hmm, -, hx⟩
  · simp at hcs
    exact ⟨none, 0, [], by simpa using hcs, by simp, by simp, fun i hi => by simp at hi⟩
  · simp at hcs
    have hlm : len ≤ m := by rw [hmm]; split <;> omega
    refine ⟨some a, cap, (List.range len).map Sx, by simpa using hcs, by simp; omega, ?_, ?_⟩
    · intro s hs
      obtain ⟨i, hi, rfl⟩ := List.mem_map.1 hs
      exact (hx i (by have := List.mem_range.1 hi; omega)).2
    · intro i hi
      have hi' : i < len := by simpa using hi
      obtain ⟨b, off, rfl⟩ := plain_of (hx 0 (by omega)).1
      have hcell := (hx i (by omega)).1
      rw [Go.WideShapes.add_plain] at hcell
      exact ⟨b, off, rfl, Nat.zero_le _, by simpa using hcell⟩

/-- A list of instructions that came in. -/
theorem read_code {t e : TypeId} {f0 f1 : Field} {fuel : Nat} {v : Value} {y : DataW H × List MemPlace} (ht : P.underlying t = some (.slice e)) (he : P.underlying e = some (.struct #[f0, f1]))
    (ce : P.cellsOf e = 2) (o0 : f0.offset = 0) (o1 : f1.offset = 1) (c0 : P.cellsOf f0.type = 1) (c1 : P.cellsOf f1.type = 1) (k0 : P.underlying f0.type = some (.int .i64)) (k1 : P.underlying f1.type = some (.int .i64))
    (h : DataW.trod enc P w base spare held fuel t [v] = some y) :
    ∃ a cap xs, v = .slice a xs.length cap ∧ xs.length ≤ maxLen ∧ CodeAt w 0 a xs := by
  rcases open_slice_pairs ht he ce o0 o1 c0 c1 h with ⟨hcs, -⟩ | ⟨a, len, cap, m, n, V0, V1, D0, D1, P0, P1, hcs, -, hl, hm, hmm, -, hx⟩
  · simp at hcs
    exact ⟨none, 0, [], by simpa using hcs, by simp, fun i hi => by simp at hi⟩
  · simp at hcs
    have hlm : len ≤ m := by rw [hmm]; split <;> omega
    obtain ⟨q, hq⟩ := choose_lt (α := Int × Int) (n := m) (p := fun i z => V0 i = .int .i64 z.1 ∧ V1 i = .int .i64 z.2) (fun i hi => by
      obtain ⟨-, -, g0, g1⟩ := hx i hi
      obtain ⟨z0, e0, -, -⟩ := DataW.trod_int k0 g0
      obtain ⟨z1, e1, -, -⟩ := DataW.trod_int k1 g1
      exact ⟨(z0, z1), by simpa using e0, by simpa using e1⟩)
    refine ⟨some a, cap, (List.range len).map q, by simpa using hcs, by simp; omega, ?_⟩
    intro i hi
    have hi' : i < len := by simpa using hi
    obtain ⟨h0, h1, -, -⟩ := hx i (by omega)
    rw [(hq i (by omega)).1] at h0
    rw [(hq i (by omega)).2] at h1
    obtain ⟨b, off, rfl⟩ := plain_of (by simpa using (hx 0 (by omega)).1)
    rw [Go.WideShapes.add_plain] at h0
    rw [Go.WideShapes.add_plain, ← Nat.add_assoc] at h1
    exact ⟨b, off, rfl, Nat.zero_le _, by simpa using h0, by simpa using h1⟩

/-- A list of functions that came in. -/
theorem read_fns {t e tc ec : TypeId} {f0 f1 f2 g0 g1 : Field} {fuel : Nat} {v : Value} {y : DataW H × List MemPlace} (ht : P.underlying t = some (.slice e)) (he : P.underlying e = some (.struct #[f0, f1, f2]))
    (ce : P.cellsOf e = 3) (o0 : f0.offset = 0) (o1 : f1.offset = 1) (o2 : f2.offset = 2) (c0 : P.cellsOf f0.type = 1) (c1 : P.cellsOf f1.type = 1) (c2 : P.cellsOf f2.type = 1)
    (k0 : P.underlying f0.type = some (.int .i64)) (k1 : P.underlying f1.type = some (.int .i64)) (k2 : f2.type = tc)
    (htc : P.underlying tc = some (.slice ec)) (hec : P.underlying ec = some (.struct #[g0, g1]))
    (cec : P.cellsOf ec = 2) (p0 : g0.offset = 0) (p1 : g1.offset = 1) (d0 : P.cellsOf g0.type = 1) (d1 : P.cellsOf g1.type = 1) (l0 : P.underlying g0.type = some (.int .i64)) (l1 : P.underlying g1.type = some (.int .i64))
    (h : DataW.trod enc P w base spare held fuel t [v] = some y) :
    ∃ a cap fs, v = .slice a fs.length cap ∧ fs.length ≤ maxLen ∧ (∀ f ∈ fs, f.code.length ≤ maxLen) ∧ FnsAt w 0 a fs := by
  rcases open_slice ht h with ⟨hcs, -⟩ | ⟨a, len, cap, m, n, D, Pl, hcs, -, hl, hm, hmm, -, hx⟩
  · simp at hcs
    exact ⟨none, 0, [], by simpa using hcs, by simp, by simp, fun i hi => by simp at hi⟩
  · simp at hcs
    have hlm : len ≤ m := by rw [hmm]; split <;> omega
    have inh : Inhabited Fn := ⟨⟨0, 0, []⟩⟩
    have hplain : ∀ i, i < m → ∃ b off, a = ⟨b, off, none⟩ := fun i hi => by
      obtain ⟨cs', h1, -⟩ := hx 0 (by omega)
      rw [ce] at h1
      obtain ⟨_, hlen, hcell⟩ := World.cells?_some h1
      have e0 := hcell 0 (by omega)
      rw [add_add] at e0
      match cs', hlen with
      | [v0, v1, v2], _ => exact plain_of (by simpa using e0)
    obtain ⟨q, hq⟩ := choose_lt (α := Fn) (n := m) (p := fun i z => z.code.length ≤ maxLen ∧ ∃ b off ca cc, a = ⟨b, off, none⟩ ∧ w.cell? ⟨b, off + i * 3, none⟩ = some (.int .i64 z.params) ∧
        w.cell? ⟨b, off + i * 3 + 1, none⟩ = some (.int .i64 z.locals) ∧ w.cell? ⟨b, off + i * 3 + 2, none⟩ = some (.slice ca z.code.length cc) ∧ CodeAt w 0 ca z.code) (fun i hi => by
      obtain ⟨cs', h1, h2⟩ := hx i hi
      rw [ce] at h1
      obtain ⟨_, hlen, hcell⟩ := World.cells?_some h1
      obtain ⟨y0, y1, y2, n', -, -, t0, t1, t2⟩ := trod_struct3 he h2
      match cs', hlen with
      | [v0, v1, v2], _ =>
        simp [o0, o1, o2, c0, c1, c2] at t0 t1 t2
        have e0 := hcell 0 (by omega)
        have e1 := hcell 1 (by omega)
        have e2 := hcell 2 (by omega)
        rw [add_add] at e0 e1 e2
        simp at e0 e1 e2
        obtain ⟨z0, x0, -, -⟩ := DataW.trod_int k0 t0
        obtain ⟨z1, x1, -, -⟩ := DataW.trod_int k1 t1
        rw [k2] at t2
        obtain ⟨ca, cc, xs, x2, hxs, hcode⟩ := read_code htc hec cec p0 p1 d0 d1 l0 l1 t2
        simp at x0 x1
        rw [x0] at e0
        rw [x1] at e1
        rw [x2] at e2
        obtain ⟨b, off, rfl⟩ := hplain i hi
        rw [Go.WideShapes.add_plain] at e0
        rw [Go.WideShapes.add_plain, ← Nat.add_assoc] at e1 e2
        exact ⟨⟨z0, z1, xs⟩, hxs, b, off, ca, cc, rfl, e0, e1, e2, hcode⟩)
    refine ⟨some a, cap, (List.range len).map q, by simpa using hcs, by simp; omega, ?_, ?_⟩
    · intro f hf
      obtain ⟨i, hi, rfl⟩ := List.mem_map.1 hf
      exact (hq i (by have := List.mem_range.1 hi; omega)).1
    · intro i hi
      have hi' : i < len := by simpa using hi
      obtain ⟨-, b, off, ca, cc, rfl, r0, r1, r2, r3⟩ := hq i (by omega)
      exact ⟨b, off, ca, cc, rfl, Nat.zero_le _, by simpa using r0, by simpa using r1, by simpa using r2, by simpa using r3⟩
end
end Go.Proofs.YtcebgbcgkkfedaaGreat

namespace Go.Proofs.YtcebgbcgkkfedaaGreat
open Go.RowKit Go.Deep Go.ChangeShapes Go.WideShapes Go.Joins

section
variable {H : Type} {enc : TypeId × Value → H} {P : Program} {w : World} {base : Nat} {spare : Nat → Bool} {held : Bool}

/-- A list of values that came in. -/
theorem read_vals {t e : TypeId} {f0 f1 f2 : Field} (ht : P.underlying t = some (.slice e)) (he : P.underlying e = some (.struct #[f0, f1, f2]))
    (ce : P.cellsOf e = 3) (o0 : f0.offset = 0) (o1 : f1.offset = 1) (o2 : f2.offset = 2) (c0 : P.cellsOf f0.type = 1) (c1 : P.cellsOf f1.type = 1) (c2 : P.cellsOf f2.type = 1)
    (k0 : P.underlying f0.type = some (.int .i64)) (k1 : P.underlying f1.type = some (.int .i64)) (k2 : P.underlying f2.type = some .string)
    {fuel : Nat} {v : Value} {y : DataW H × List MemPlace} (h : DataW.trod enc P w base spare held fuel t [v] = some y) :
    ∃ a cap vs, v = .slice a vs.length cap ∧ ValsMax vs ∧ ValsAt w 0 a vs := by
  rcases open_slice ht h with ⟨hcs, -⟩ | ⟨a, len, cap, m, n, D, Pl, hcs, -, hl, hm, hmm, -, hx⟩
  · simp at hcs
    exact ⟨none, 0, [], by simpa using hcs, ⟨by simp, by simp⟩, fun i hi => by simp at hi⟩
  · simp at hcs
    have hlm : len ≤ m := by rw [hmm]; split <;> omega
    have inh : Inhabited Vl := ⟨⟨0, 0, ⟨#[]⟩⟩⟩
    have hplain : ∀ i, i < m → ∃ b off, a = ⟨b, off, none⟩ := fun i hi => by
      obtain ⟨cs', h1, -⟩ := hx 0 (by omega)
      rw [ce] at h1
      obtain ⟨_, hlen, hcell⟩ := World.cells?_some h1
      have e0 := hcell 0 (by omega)
      rw [add_add] at e0
      match cs', hlen with
      | [v0, v1, v2], _ => exact plain_of (by simpa using e0)
    obtain ⟨q, hq⟩ := choose_lt (α := Vl) (n := m) (p := fun i z => z.s.size ≤ maxLen ∧ ∃ b off, a = ⟨b, off, none⟩ ∧ w.cell? ⟨b, off + i * 3, none⟩ = some (.int .i64 z.k) ∧
        w.cell? ⟨b, off + i * 3 + 1, none⟩ = some (.int .i64 z.n) ∧ w.cell? ⟨b, off + i * 3 + 2, none⟩ = some (.string z.s)) (fun i hi => by
      obtain ⟨cs', h1, h2⟩ := hx i hi
      rw [ce] at h1
      obtain ⟨_, hlen, hcell⟩ := World.cells?_some h1
      obtain ⟨y0, y1, y2, n', -, -, t0, t1, t2⟩ := trod_struct3 he h2
      match cs', hlen with
      | [v0, v1, v2], _ =>
        simp [o0, o1, o2, c0, c1, c2] at t0 t1 t2
        have e0 := hcell 0 (by omega)
        have e1 := hcell 1 (by omega)
        have e2 := hcell 2 (by omega)
        rw [add_add] at e0 e1 e2
        simp at e0 e1 e2
        obtain ⟨z0, x0, -, -⟩ := DataW.trod_int k0 t0
        obtain ⟨z1, x1, -, -⟩ := DataW.trod_int k1 t1
        obtain ⟨z2, x2, -, hz2⟩ := DataW.trod_string k2 t2
        simp at x0 x1 x2
        rw [x0] at e0
        rw [x1] at e1
        rw [x2] at e2
        obtain ⟨b, off, rfl⟩ := hplain i hi
        rw [Go.WideShapes.add_plain] at e0
        rw [Go.WideShapes.add_plain, ← Nat.add_assoc] at e1 e2
        exact ⟨⟨z0, z1, z2⟩, hz2, b, off, rfl, e0, e1, e2⟩)
    refine ⟨some a, cap, (List.range len).map q, by simpa using hcs, ⟨by simp; omega, ?_⟩, ?_⟩
    · intro f hf
      obtain ⟨i, hi, rfl⟩ := List.mem_map.1 hf
      exact (hq i (by have := List.mem_range.1 hi; omega)).1
    · intro i hi
      have hi' : i < len := by simpa using hi
      obtain ⟨-, b, off, rfl, r0, r1, r2⟩ := hq i (by omega)
      exact ⟨b, off, rfl, Nat.zero_le _, by simpa using r0, by simpa using r1, by simpa using r2⟩

/-- A list of records that came in. -/
theorem read_recs {t e tv : TypeId} {f0 : Field} (ht : P.underlying t = some (.slice e)) (he : P.underlying e = some (.struct #[f0])) (ce : P.cellsOf e = 1) (o0 : f0.offset = 0) (c0 : P.cellsOf f0.type = 1) (k0 : f0.type = tv)
    (HV : ∀ (fuel : Nat) (v : Value) (y : DataW H × List MemPlace), DataW.trod enc P w base spare held fuel tv [v] = some y → ∃ a cap vs, v = .slice a vs.length cap ∧ ValsMax vs ∧ ValsAt w 0 a vs)
    {fuel : Nat} {v : Value} {y : DataW H × List MemPlace} (h : DataW.trod enc P w base spare held fuel t [v] = some y) :
    ∃ a cap rs, v = .slice a rs.length cap ∧ rs.length ≤ maxLen ∧ (∀ r ∈ rs, ValsMax r) ∧ RecsAt w 0 a rs := by
  rcases open_slice ht h with ⟨hcs, -⟩ | ⟨a, len, cap, m, n, D, Pl, hcs, -, hl, hm, hmm, -, hx⟩
  · simp at hcs
    exact ⟨none, 0, [], by simpa using hcs, by simp, by simp, fun i hi => by simp at hi⟩
  · simp at hcs
    have hlm : len ≤ m := by rw [hmm]; split <;> omega
    have hplain : ∀ i, i < m → ∃ b off, a = ⟨b, off, none⟩ := fun i hi => by
      obtain ⟨cs', h1, -⟩ := hx 0 (by omega)
      rw [ce] at h1
      obtain ⟨_, hlen, hcell⟩ := World.cells?_some h1
      have e0 := hcell 0 (by omega)
      rw [add_add] at e0
      match cs', hlen with
      | [v0], _ => exact plain_of (by simpa using e0)
    obtain ⟨q, hq⟩ := choose_lt (α := List Vl) (n := m) (p := fun i z => ValsMax z ∧ ∃ b off ca cc, a = ⟨b, off, none⟩ ∧ w.cell? ⟨b, off + i, none⟩ = some (.slice ca z.length cc) ∧ ValsAt w 0 ca z) (fun i hi => by
      obtain ⟨cs', h1, h2⟩ := hx i hi
      rw [ce] at h1
      obtain ⟨_, hlen, hcell⟩ := World.cells?_some h1
      obtain ⟨y0, n', -, -, t0⟩ := trod_struct1 he h2
      match cs', hlen with
      | [v0], _ =>
        simp [o0, c0] at t0
        have e0 := hcell 0 (by omega)
        rw [add_add] at e0
        simp at e0
        rw [k0] at t0
        obtain ⟨ca, cc, xs, x0, hxs, hvs⟩ := HV _ _ _ t0
        rw [x0] at e0
        obtain ⟨b, off, rfl⟩ := hplain i hi
        rw [Go.WideShapes.add_plain] at e0
        exact ⟨xs, hxs, b, off, ca, cc, rfl, e0, hvs⟩)
    refine ⟨some a, cap, (List.range len).map q, by simpa using hcs, by simp; omega, ?_, ?_⟩
    · intro f hf
      obtain ⟨i, hi, rfl⟩ := List.mem_map.1 hf
      exact (hq i (by have := List.mem_range.1 hi; omega)).1
    · intro i hi
      have hi' : i < len := by simpa using hi
      obtain ⟨-, b, off, ca, cc, rfl, r0, r1⟩ := hq i (by omega)
      exact ⟨b, off, ca, cc, rfl, Nat.zero_le _, by simpa using r0, by simpa using r1⟩

/-- A list of frames that came in. -/
theorem read_frs {t e tv : TypeId} {f0 f1 f2 f3 : Field} (ht : P.underlying t = some (.slice e)) (he : P.underlying e = some (.struct #[f0, f1, f2, f3])) (ce : P.cellsOf e = 4) (o0 : f0.offset = 0) (o1 : f1.offset = 1) (o2 : f2.offset = 2) (o3 : f3.offset = 3)
    (c0 : P.cellsOf f0.type = 1) (c1 : P.cellsOf f1.type = 1) (c2 : P.cellsOf f2.type = 1) (c3 : P.cellsOf f3.type = 1) (k0 : P.underlying f0.type = some (.int .i64)) (k1 : P.underlying f1.type = some (.int .i64)) (k2 : f2.type = tv) (k3 : f3.type = tv)
    (HV : ∀ (fuel : Nat) (v : Value) (y : DataW H × List MemPlace), DataW.trod enc P w base spare held fuel tv [v] = some y → ∃ a cap vs, v = .slice a vs.length cap ∧ ValsMax vs ∧ ValsAt w 0 a vs)
    {fuel : Nat} {v : Value} {y : DataW H × List MemPlace} (h : DataW.trod enc P w base spare held fuel t [v] = some y) :
    ∃ a cap fr, v = .slice a fr.length cap ∧ fr.length ≤ maxLen ∧ (∀ f ∈ fr, ValsMax f.locals) ∧ (∀ f ∈ fr, ValsMax f.stack) ∧ FrsAt w 0 a fr := by
  rcases open_slice ht h with ⟨hcs, -⟩ | ⟨a, len, cap, m, n, D, Pl, hcs, -, hl, hm, hmm, -, hx⟩
  · simp at hcs
    exact ⟨none, 0, [], by simpa using hcs, by simp, by simp, by simp, fun i hi => by simp at hi⟩
  · simp at hcs
    have hlm : len ≤ m := by rw [hmm]; split <;> omega
    have inh : Inhabited Fr := ⟨⟨0, 0, [], []⟩⟩
    have hplain : ∀ i, i < m → ∃ b off, a = ⟨b, off, none⟩ := fun i hi => by
      obtain ⟨cs', h1, -⟩ := hx 0 (by omega)
      rw [ce] at h1
      obtain ⟨_, hlen, hcell⟩ := World.cells?_some h1
      have e0 := hcell 0 (by omega)
      rw [add_add] at e0
      match cs', hlen with
      | [v0, v1, v2, v3], _ => exact plain_of (by simpa using e0)
    obtain ⟨q, hq⟩ := choose_lt (α := Fr) (n := m) (p := fun i z => (ValsMax z.locals ∧ ValsMax z.stack) ∧ ∃ b off la lc sa sc, a = ⟨b, off, none⟩ ∧ w.cell? ⟨b, off + i * 4, none⟩ = some (.int .i64 z.fn) ∧
        w.cell? ⟨b, off + i * 4 + 1, none⟩ = some (.int .i64 z.pc) ∧ w.cell? ⟨b, off + i * 4 + 2, none⟩ = some (.slice la z.locals.length lc) ∧ w.cell? ⟨b, off + i * 4 + 3, none⟩ = some (.slice sa z.stack.length sc) ∧ ValsAt w 0 la z.locals ∧ ValsAt w 0 sa z.stack) (fun i hi => by
      obtain ⟨cs', h1, h2⟩ := hx i hi
      rw [ce] at h1
      obtain ⟨_, hlen, hcell⟩ := World.cells?_some h1
      obtain ⟨y0, y1, y2, y3, n', -, -, t0, t1, t2, t3⟩ := trod_struct4 he h2
      match cs', hlen with
      | [v0, v1, v2, v3], _ =>
        simp [o0, o1, o2, o3, c0, c1, c2, c3] at t0 t1 t2 t3
        have e0 := hcell 0 (by omega)
        have e1 := hcell 1 (by omega)
        have e2 := hcell 2 (by omega)
        have e3 := hcell 3 (by omega)
        rw [add_add] at e0 e1 e2 e3
        simp at e0 e1 e2 e3
        obtain ⟨z0, x0, -, -⟩ := DataW.trod_int k0 t0
        obtain ⟨z1, x1, -, -⟩ := DataW.trod_int k1 t1
        rw [k2] at t2
        rw [k3] at t3
        obtain ⟨la, lc, ls, x2, hls, hla⟩ := HV _ _ _ t2
        obtain ⟨sa, sc, ss, x3, hss, hsa⟩ := HV _ _ _ t3
        simp at x0 x1
        rw [x0] at e0
        rw [x1] at e1
        rw [x2] at e2
        rw [x3] at e3
        obtain ⟨b, off, rfl⟩ := hplain i hi
        rw [Go.WideShapes.add_plain] at e0
        rw [Go.WideShapes.add_plain, ← Nat.add_assoc] at e1 e2 e3
        exact ⟨⟨z0, z1, ls, ss⟩, ⟨hls, hss⟩, b, off, la, lc, sa, sc, rfl, e0, e1, e2, e3, hla, hsa⟩)
    refine ⟨some a, cap, (List.range len).map q, by simpa using hcs, by simp; omega, ?_, ?_, ?_⟩
    · intro f hf
      obtain ⟨i, hi, rfl⟩ := List.mem_map.1 hf
      exact (hq i (by have := List.mem_range.1 hi; omega)).1.1
    · intro f hf
      obtain ⟨i, hi, rfl⟩ := List.mem_map.1 hf
      exact (hq i (by have := List.mem_range.1 hi; omega)).1.2
    · intro i hi
      have hi' : i < len := by simpa using hi
      obtain ⟨-, b, off, la, lc, sa, sc, rfl, r0, r1, r2, r3, r4, r5⟩ := hq i (by omega)
      exact ⟨b, off, la, lc, sa, sc, rfl, Nat.zero_le _, by simpa using r0, by simpa using r1, by simpa using r2, by simpa using r3, by simpa using r4, by simpa using r5⟩
end

theorem array10 {α : Type} {cs : Array α} (h : cs.size = 10) : ∃ c0 c1 c2 c3 c4 c5 c6 c7 c8 c9, cs = #[c0, c1, c2, c3, c4, c5, c6, c7, c8, c9] := by
  obtain ⟨l⟩ := cs
  match l, h with
  | [c0, c1, c2, c3, c4, c5, c6, c7, c8, c9], _ => exact ⟨c0, c1, c2, c3, c4, c5, c6, c7, c8, c9, rfl⟩

theorem cells3 : Tryz.prog.cellsOf 3 = 1 := by kernel_rfl
theorem cells9 : Tryz.prog.cellsOf 9 = 1 := by kernel_rfl
theorem cells22 : Tryz.prog.cellsOf 22 = 1 := by kernel_rfl
theorem cells77 : Tryz.prog.cellsOf 77 = 1 := by kernel_rfl
theorem cells26 : Tryz.prog.cellsOf 26 = 1 := by kernel_rfl
theorem cells27 : Tryz.prog.cellsOf 27 = 1 := by kernel_rfl
theorem cells29 : Tryz.prog.cellsOf 29 = 3 := by kernel_rfl
theorem cells31 : Tryz.prog.cellsOf 31 = 10 := by kernel_rfl

set_option maxRecDepth 100000 in
theorem read_values {H : Type} {enc : TypeId × Value → H} {w : World} {base : Nat} {sp : Nat → Bool} {held : Bool} (fuel : Nat) (v : Value) (y : DataW H × List MemPlace) (h : DataW.trod enc Tryz.prog w base sp held fuel 77 [v] = some y) :
    ∃ a cap vs, v = .slice a vs.length cap ∧ ValsMax vs ∧ ValsAt w 0 a vs :=
  read_vals Tryz.underlying77 Tryz.underlying29 cells29 rfl rfl rfl cells3 cells3 cells9 Tryz.underlying3 Tryz.underlying3 Tryz.underlying9 h

set_option maxRecDepth 100000 in
set_option maxHeartbeats 1000000 in
theorem open_vm {H : Type} {enc : TypeId × Value → H} {w : World} {base : Nat} {sp : Nat → Bool} {held : Bool} {r : Reach} {b0 : Nat} {v : Value} {d : DataW H} {p : List MemPlace}
    (hv : Value.okWide Tryz.prog w r b0 31 v) (h : DataW.Trod enc Tryz.prog w base sp held 31 v d p) :
    ∃ fa ha oa fc hcp oc, ∃ D : VmD, v = .agg (vmCells fa ha oa fc hcp oc D) ∧ VmMax D ∧ VmAt w 0 fa ha oa D := by
  obtain ⟨cs, rfl, hsz⟩ := okWide_struct Tryz.underlying31 hv
  obtain ⟨c0, c1, c2, c3, c4, c5, c6, c7, c8, c9, rfl⟩ := array10 (hsz.trans cells31)
  obtain ⟨fuel, hf⟩ := h
  obtain ⟨xs, n, -, -, -, hlen, hf⟩ := DataW.trod_struct Tryz.underlying31 hf
  have hlen8 : xs.length = 8 := hlen
  have get : ∀ i (hi : i < 8), xs[i]? = some (xs[i]'(by omega)) := fun i hi => List.getElem?_eq_getElem (by omega)
  have t0 : DataW.trod enc Tryz.prog w base sp held n 26 [c0] = some (xs[0]'(by omega)) := by rw [← get 0 (by omega)]; simpa [Value.cells, cells26] using hf 0 _ rfl
  have t1 : DataW.trod enc Tryz.prog w base sp held n 27 [c1] = some (xs[1]'(by omega)) := by rw [← get 1 (by omega)]; simpa [Value.cells, cells27] using hf 1 _ rfl
  have t2 : DataW.trod enc Tryz.prog w base sp held n 3 [c2] = some (xs[2]'(by omega)) := by rw [← get 2 (by omega)]; simpa [Value.cells, cells3] using hf 2 _ rfl
  have t3 : DataW.trod enc Tryz.prog w base sp held n 22 [c3] = some (xs[3]'(by omega)) := by rw [← get 3 (by omega)]; simpa [Value.cells, cells22] using hf 3 _ rfl
  have t4 : DataW.trod enc Tryz.prog w base sp held n 3 [c4] = some (xs[4]'(by omega)) := by rw [← get 4 (by omega)]; simpa [Value.cells, cells3] using hf 4 _ rfl
  have t5 : DataW.trod enc Tryz.prog w base sp held n 3 [c5] = some (xs[5]'(by omega)) := by rw [← get 5 (by omega)]; simpa [Value.cells, cells3] using hf 5 _ rfl
  have t6 : DataW.trod enc Tryz.prog w base sp held n 29 [c6, c7, c8] = some (xs[6]'(by omega)) := by rw [← get 6 (by omega)]; simpa [Value.cells, cells29] using hf 6 _ rfl
  have t7 : DataW.trod enc Tryz.prog w base sp held n 3 [c9] = some (xs[7]'(by omega)) := by rw [← get 7 (by omega)]; simpa [Value.cells, cells3] using hf 7 _ rfl
  obtain ⟨fa, fc, fr, rfl, f1, f2, f3, f4⟩ := read_frs (tv := 77) Tryz.underlying26 Tryz.underlying79 (by kernel_rfl) rfl rfl rfl rfl cells3 cells3 cells77 cells77 Tryz.underlying3 Tryz.underlying3 rfl rfl read_values t0
  obtain ⟨ha, hcp, rs, rfl, r1, r2, r3⟩ := read_recs (tv := 77) Tryz.underlying27 Tryz.underlying82 (by kernel_rfl) rfl cells77 rfl read_values t1
  obtain ⟨oa, oc, ss, rfl, s1, s2, s3⟩ := read_strs Tryz.underlying22 Tryz.underlying9 cells9 t3
  obtain ⟨z2, x2, -⟩ := DataW.trod_int Tryz.underlying3 t2
  obtain ⟨z4, x4, -⟩ := DataW.trod_int Tryz.underlying3 t4
  obtain ⟨z5, x5, -⟩ := DataW.trod_int Tryz.underlying3 t5
  obtain ⟨z9, x9, -⟩ := DataW.trod_int Tryz.underlying3 t7
  obtain ⟨y0, y1, y2, n', -, -, u0, u1, u2⟩ := trod_struct3 Tryz.underlying29 t6
  simp [cells3, cells9] at u0 u1 u2
  obtain ⟨z6, x6, -⟩ := DataW.trod_int Tryz.underlying3 u0
  obtain ⟨z7, x7, -⟩ := DataW.trod_int Tryz.underlying3 u1
  obtain ⟨z8, x8, -, hz8⟩ := DataW.trod_string Tryz.underlying9 u2
  simp only [List.cons.injEq, and_true] at x2 x4 x5 x9 x6 x7 x8
  subst x2 x4 x5 x9 x6 x7 x8
  exact ⟨fa, ha, oa, fc, hcp, oc, ⟨fr, rs, z2, ss, z4, z5, ⟨z6, z7, z8⟩, z9⟩, rfl, ⟨f1, f2, f3, r1, r2, s1, s2, hz8⟩, ⟨f4, r3, s3⟩⟩
end Go.Proofs.YtcebgbcgkkfedaaGreat
