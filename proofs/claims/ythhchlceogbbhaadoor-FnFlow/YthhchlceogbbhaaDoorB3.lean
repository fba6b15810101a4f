/-
  The contract of the function that goes through a set of bits (bitSet.all).
-/
import Derived.Test.YthhchlceogbbhaaDoorG2
import Derived.Test.YthhchlceogbbhaaDoorL4
import Derived.RangeFuncNested
import Derived.RangeFuncBound
import Derived.RangeFuncCalls
import Derived.RangeFuncLeaves
import Derived.Shelf.Abstract
import Derived.Shelf.RegionOpen
import Derived.WalkKit
import Derived.OwnWalkIn
import Derived.TacticsInMore
import Derived.LoopNIn
import Derived.LoopIn
namespace Go.Proofs.YthhchlceogbbhaaDoor
open Go.RowKit Go.Shelf

attribute [local go_sem] Oper.semAt_some

/-- The places that are in a set. -/
def In (s : Nat × Nat) (j : Nat) : Prop := bhas s j = true
theorem lst_skip {P : Nat → Prop} {a : Nat} : ∀ (n : Nat), (∀ j, a ≤ j → j < a + n → ¬ P j) → lst P (a + n) = lst P a
  | 0, _ => rfl
  | n + 1, h => by
    have h1 := lst_skip n (fun j h1 h2 => h j h1 (by omega))
    rw [← Nat.add_assoc, lst_no (h _ (by omega) (by omega)), h1]
theorem lst_to {P : Nat → Prop} {a b : Nat} (hab : a ≤ b) (h : ∀ j, a ≤ j → j < b → ¬ P j) : lst P b = lst P a := by
  have := lst_skip (P := P) (a := a) (b - a) (fun j h1 h2 => h j h1 (by omega))
  rwa [show a + (b - a) = b by omega] at this
/-- The word of 64 places from 64 * i on. -/
def wordOf (s : Nat × Nat) (i : Nat) : Nat := if i = 0 then s.1 else s.2
theorem in_word {s : Nat × Nat} {i j : Nat} (hi : i < 2) (hj : j < 64) : In s (64 * i + j) ↔ (wordOf s i).testBit j = true := by
  unfold In bhas wordOf
  rcases (show i = 0 ∨ i = 1 by omega) with rfl | rfl
  · rw [if_pos (by omega), if_pos rfl, Nat.mul_zero, Nat.zero_add]
  · rw [if_neg (by omega), if_neg (by omega), show 64 * 1 + j - 64 = j by omega]

/-- The bits of y are those of x from p on. -/
def From (x y p : Nat) : Prop := ∀ j, y.testBit j = (decide (p ≤ j) && x.testBit j)
theorem From.done {s : Nat × Nat} {i p : Nat} (h : From (wordOf s i) 0 p) (hi : i < 2) (hp : p ≤ 64) : lst (In s) (64 * (i + 1)) = lst (In s) (64 * i + p) :=
  lst_to (by omega) (fun j h1 h2 hin => by
    obtain ⟨q, rfl⟩ : ∃ q, j = 64 * i + q := ⟨j - 64 * i, by omega⟩
    have h3 := (in_word hi (by omega)).1 hin
    have h4 := h q
    rw [Nat.zero_testBit, h3, decide_eq_true (by omega)] at h4
    cases h4)
theorem From.step {s : Nat × Nat} {i p k m : Nat} (h : From (wordOf s i) (2 ^ (k + 1) * m + 2 ^ k) p) (hi : i < 2) (hk : k < 64) :
    lst (In s) (64 * i + (k + 1)) = lst (In s) (64 * i + p) ++ [64 * i + k] ∧ From (wordOf s i) ((2 ^ (k + 1) * m + 2 ^ k) &&& (2 ^ (k + 1) * m + 2 ^ k - 1)) (k + 1) := by
  have hk1 := h k
  rw [form_bit, if_pos (by omega), decide_eq_true rfl] at hk1
  have hx : (decide (p ≤ k) && (wordOf s i).testBit k) = true := hk1.symm
  rw [Bool.and_eq_true, decide_eq_true_eq] at hx
  refine ⟨?_, fun j => ?_⟩
  · rw [show 64 * i + (k + 1) = 64 * i + k + 1 by omega, lst_yes ((in_word hi hk).2 hx.2)]
    congr 1
    refine lst_to (by omega) (fun j h1 h2 hin => ?_)
    obtain ⟨q, rfl⟩ : ∃ q, j = 64 * i + q := ⟨j - 64 * i, by omega⟩
    have h3 := (in_word hi (by omega)).1 hin
    have h4 := h q
    rw [form_bit, if_pos (by omega), decide_eq_false (show ¬ k = q by omega), h3, decide_eq_true (show p ≤ q by omega)] at h4
    cases h4
  · rw [clear_low, h j]
    by_cases hj : k < j
    · rw [decide_eq_true hj, decide_eq_true (show p ≤ j by omega), decide_eq_true (show k + 1 ≤ j by omega)]
      simp
    · rw [decide_eq_false hj, decide_eq_false (show ¬ k + 1 ≤ j by omega)]
      simp
theorem wrap_less {y : Nat} (h0 : y ≠ 0) (h : y < 18446744073709551616) : IntKind.u64.wrap ((y : Int) - 1) = ((y - 1 : Nat) : Int) := by
  rw [IntKind.wrap_u64]; omega
theorem and_less {y : Nat} (h0 : y ≠ 0) : y &&& (y - 1) < y := by
  have : y &&& (y - 1) ≤ y - 1 := Nat.and_le_right
  omega

/-- What a round of a word's loop knows. -/
theorem word_facts {s : Nat × Nat} {i p y : Nat} (h : From (wordOf s i) y p) (hi : i < 2) (h0 : y ≠ 0) (hy : y < 2 ^ 64) :
    ∃ k m y1 y2 : Nat, k < 64 ∧ y = 2 ^ (k + 1) * m + 2 ^ k ∧ IntKind.u64.wrap ((y : Int) - 1) = (y1 : Int) ∧ bits .and .u64 (y : Int) (y1 : Int) = (y2 : Int) ∧ y2 < 2 ^ 64 ∧ y2 < y ∧
      lst (In s) (64 * i + (k + 1)) = lst (In s) (64 * i + p) ++ [64 * i + k] ∧ From (wordOf s i) y2 (k + 1) := by
  obtain ⟨k, m, rfl⟩ := low_form y h0
  have hk := form_lt hy
  have hs := h.step hi hk
  refine ⟨k, m, _, _, hk, rfl, wrap_less h0 hy, bits_and hy (Nat.lt_of_le_of_lt (Nat.sub_le _ _) hy), ?_, and_less h0, hs.1, hs.2⟩
  exact Nat.lt_trans (and_less h0) hy

set_option maxRecDepth 100000 in
set_option maxHeartbeats 4000000 in
theorem all1_in (n : Nat) (hn : 2 ≤ n) (l Bs n₀ : Nat) (s : Nat × Nat) (hs : bok s) (J Jx : List Nat → World → Prop)
    (hY : ∀ pre x W, J pre W → pre.length < 128 → YieldAt Fence.wide (n - 1) Tryd.prog l #[.int .i64 ((x : Nat) : Int)] W fun e W' =>
      (e = .returned (.bool true) ∧ J (pre ++ [x]) W' ∧ Below n₀ W W') ∨ (e = .returned (.bool false) ∧ Jx (pre ++ [x]) W'))
    (W : World) (hBs : W.heap[Bs]? = some (.cells #[.int .u64 (s.1 : Int), .int .u64 (s.2 : Int)] 45 (0, 0))) (hD : DB W) (h00 : 0 < n₀) (h0 : J [] W) :
    CallsIn Fence.wide n Tryd.prog 51 #[.func (.yield l) #[] #[], .pointer (some ⟨Bs, 0, none⟩)] W fun e W' => (∃ v, e = .returned v) ∧
      ((∃ ys, ys = lst (In s) 128 ∧ J ys W') ∨ (∃ pre, True ∧ Jx pre W')) := by
  have hDB : ∀ W', Below n₀ W W' → DB W' := fun W' hb i hi => (hb.cell (p := ⟨0, i, none⟩) h00).trans (hD i hi)
  have HDB : Hid (∀ W', Below n₀ W W' → DB W') := hDB
  have c0 := block_cell hBs
  clear hDB hD
  refine callsIn_of_wp Tryd.func51 rfl trivial ?_ rfl
  simp only [Tryd.ntmps51, List.size_toArray, List.length_cons, List.length_nil, Nat.reduceAdd, Nat.reduceSub, Array.replicate_succ, Array.replicate_zero, List.push_toArray, List.append_toArray, List.nil_append, List.cons_append]
  gi_wp2
  clear c0 hBs
  have HS : Hid (bok s) := hs
  clear hs
  gi_loopw [6] (fun i wr => ∃ k : Nat, k ≤ 2 ∧ i = .int .i64 k ∧ J (lst (In s) (64 * k)) wr ∧ Below n₀ W wr)
    (fun i _ => 2 - (intOf i).toNat)
  case atStart => exact ⟨0, by omega, rfl, h0, Below.refl _ _⟩
  case round =>
    obtain ⟨i, hi, rfl, hJs, hnx⟩ := hrel
    obtain ⟨wo, rfl⟩ : ∃ wo, wo = wr := ⟨_, rfl⟩
    by_cases hi2 : i < 2
    case neg =>
      obtain rfl : i = 2 := by omega
      gi_wp2
      go_end0
      exact ⟨⟨_, rfl⟩, .inl ⟨_, rfl, hJs⟩⟩
    rcases (show i = 0 ∨ i = 1 by omega) with rfl | rfl
    · have HW : Hid (wordOf s 0 = s.1) := rfl
      have hF0 : From (wordOf s 0) s.1 0 := fun j => by rw [HW.out]; simp
      simp only [show ((0 : Nat) : Int) = 0 from rfl]
      have hix : (Instr.index 45 (.agg #[.int .u64 (s.1 : Int), .int .u64 (s.2 : Int)]) (.int .i64 0)).run Tryd.prog wo = .ok (.int .u64 (s.1 : Int)) wo := by kernel_rfl
      gi_wp2
      gi_loopw [4] (fun v wq => ∃ (y p : Nat), v = .int .u64 (y : Int) ∧ Hid (y < 2 ^ 64) ∧ p ≤ 64 ∧ From (wordOf s 0) y p ∧ J (lst (In s) (64 * 0 + p)) wq ∧ Below n₀ W wq) (fun v _ => (intOf v).toNat)
      case atStart => exact ⟨s.1, 0, rfl, HS.out.1, by omega, hF0, hJs, hnx⟩
      case round =>
        obtain ⟨y, p, rfl, hy, hp, hF, hJ1, hb1⟩ := hrel
        obtain ⟨wi, rfl⟩ : ∃ wi, wi = wr := ⟨_, rfl⟩
        clear hF0 hJs hnx
        by_cases hy0 : y = 0
        · subst hy0
          have HDN : Hid (lst (In s) (64 * (0 + 1)) = lst (In s) (64 * 0 + p)) := hF.done (by omega) hp
          gi_wp2
          go_roundw
          case rel => exact ⟨0 + 1, by omega, by go_num, by rw [HDN.out]; exact hJ1, hb1⟩
          case measure => simp [intOf]
        obtain ⟨k, m, y1, y2, hk, hform, hsub, hand, hy2, hlt, hlst, hF2⟩ := word_facts hF (by omega) hy0 hy.out
        have HFM : Hid (y = 2 ^ (k + 1) * m + 2 ^ k) := hform
        have HY2 : Hid (y2 < 2 ^ 64) := hy2
        have HL : Hid (lst (In s) (64 * 0 + (k + 1)) = lst (In s) (64 * 0 + p) ++ [64 * 0 + k]) := hlst
        have hll := lst_len (In s) (64 * 0 + p)
        have hln : (lst (In s) (64 * 0 + p)).length < 128 := by
          have h1 := lst_len (In s) (64 * 0 + (k + 1))
          rw [hlst, List.length_append] at h1
          simp only [List.length_cons, List.length_nil] at h1
          omega
        obtain ⟨fn, tmps, assign, body, hyy, hR⟩ := hY _ (64 * 0 + k) wi hJ1 hln
        have hyz : ((64 * 0 + k : Nat) : Int) = (k : Int) := by omega
        rw [hyz] at hyy
        have hy0' : ((y : Int) != 0) = true := by
          have h : ¬ (y : Int) = 0 := by omega
          simpa using h
        clear hform hy2 hlst hln hll hyz
        gi_wp2
        refine ⟨trivial, fun _ => by omega, ?_⟩
        refine (callsIn_wide.2 (tz_any y k m _ HFM.out hy.out (HDB.out _ hb1))).mono ?_
        rintro e w1 ⟨rfl, rfl⟩
        gi_wp2
        refine ⟨fun _ => by omega, ?_⟩
        refine hR.mono ?_
        rintro e W3 (⟨rfl, hJ3, hk3⟩ | ⟨rfl, hJx3⟩)
        · gi_wp2
          go_roundw
          case rel => exact ⟨y2, k + 1, rfl, HY2.out, by omega, hF2, by rw [HL.out]; exact hJ3, hb1.trans hk3⟩
          case measure => simpa [intOf] using hlt
        · gi_wp2
          refine bodyPost_ret (results_none rfl _ _ _) rfl ?_
          exact ⟨⟨_, rfl⟩, .inr ⟨_, trivial, hJx3⟩⟩
    · have HW : Hid (wordOf s 1 = s.2) := rfl
      have hF0 : From (wordOf s 1) s.2 0 := fun j => by rw [HW.out]; simp
      simp only [show ((1 : Nat) : Int) = 1 from rfl]
      have hix : (Instr.index 45 (.agg #[.int .u64 (s.1 : Int), .int .u64 (s.2 : Int)]) (.int .i64 1)).run Tryd.prog wo = .ok (.int .u64 (s.2 : Int)) wo := by kernel_rfl
      gi_wp2
      gi_loopw [4] (fun v wq => ∃ (y p : Nat), v = .int .u64 (y : Int) ∧ Hid (y < 2 ^ 64) ∧ p ≤ 64 ∧ From (wordOf s 1) y p ∧ J (lst (In s) (64 * 1 + p)) wq ∧ Below n₀ W wq) (fun v _ => (intOf v).toNat)
      case atStart => exact ⟨s.2, 0, rfl, HS.out.2, by omega, hF0, hJs, hnx⟩
      case round =>
        obtain ⟨y, p, rfl, hy, hp, hF, hJ1, hb1⟩ := hrel
        obtain ⟨wi, rfl⟩ : ∃ wi, wi = wr := ⟨_, rfl⟩
        clear hF0 hJs hnx
        by_cases hy0 : y = 0
        · subst hy0
          have HDN : Hid (lst (In s) (64 * (1 + 1)) = lst (In s) (64 * 1 + p)) := hF.done (by omega) hp
          gi_wp2
          go_roundw
          case rel => exact ⟨1 + 1, by omega, by go_num, by rw [HDN.out]; exact hJ1, hb1⟩
          case measure => simp [intOf]
        obtain ⟨k, m, y1, y2, hk, hform, hsub, hand, hy2, hlt, hlst, hF2⟩ := word_facts hF (by omega) hy0 hy.out
        have HFM : Hid (y = 2 ^ (k + 1) * m + 2 ^ k) := hform
        have HY2 : Hid (y2 < 2 ^ 64) := hy2
        have HL : Hid (lst (In s) (64 * 1 + (k + 1)) = lst (In s) (64 * 1 + p) ++ [64 * 1 + k]) := hlst
        have hll := lst_len (In s) (64 * 1 + p)
        have hln : (lst (In s) (64 * 1 + p)).length < 128 := by
          have h1 := lst_len (In s) (64 * 1 + (k + 1))
          rw [hlst, List.length_append] at h1
          simp only [List.length_cons, List.length_nil] at h1
          omega
        obtain ⟨fn, tmps, assign, body, hyy, hR⟩ := hY _ (64 * 1 + k) wi hJ1 hln
        have hyz : ((64 * 1 + k : Nat) : Int) = 64 + (k : Int) := by omega
        rw [hyz] at hyy
        have hy0' : ((y : Int) != 0) = true := by
          have h : ¬ (y : Int) = 0 := by omega
          simpa using h
        clear hform hy2 hlst hln hll hyz
        gi_wp2
        refine ⟨trivial, fun _ => by omega, ?_⟩
        refine (callsIn_wide.2 (tz_any y k m _ HFM.out hy.out (HDB.out _ hb1))).mono ?_
        rintro e w1 ⟨rfl, rfl⟩
        gi_wp2
        refine ⟨fun _ => by omega, ?_⟩
        refine hR.mono ?_
        rintro e W3 (⟨rfl, hJ3, hk3⟩ | ⟨rfl, hJx3⟩)
        · gi_wp2
          go_roundw
          case rel => exact ⟨y2, k + 1, rfl, HY2.out, by omega, hF2, by rw [HL.out]; exact hJ3, hb1.trans hk3⟩
          case measure => simpa [intOf] using hlt
        · gi_wp2
          refine bodyPost_ret (results_none rfl _ _ _) rfl ?_
          exact ⟨⟨_, rfl⟩, .inr ⟨_, trivial, hJx3⟩⟩

set_option maxHeartbeats 1000000 in
theorem all_any (x y : Int) (w : World) :
    Calls Tryd.prog 34 #[.agg #[.int .u64 x, .int .u64 y]] w fun e w' => e = .returned (.func (.func 51) #[] #[.pointer (some ⟨w.heap.size, 0, none⟩)]) ∧ w' = w.alloc (.cells #[.int .u64 x, .int .u64 y] 45) := by
  go_enter Tryd.func34, Tryd.ntmps34
  go_wp2
  go_ret
  exact ⟨rfl, rfl⟩

theorem all_stops (n : Nat) (hn : 2 ≤ n) (Bs n₀ : Nat) (s : Nat × Nat) (hs : bok s) (w : World) (hBs : w.heap[Bs]? = some (.cells #[.int .u64 (s.1 : Int), .int .u64 (s.2 : Int)] 45 (0, 0))) (hD : DB w) (h00 : 0 < n₀) :
    SeqStopsK Fence.wide n Tryd.prog 51 #[.pointer (some ⟨Bs, 0, none⟩)] (fun x : Nat => #[Value.int .i64 (x : Int)]) (Below n₀) (fun ys => ys = lst (In s) 128) (fun _ => True) 128 w := fun l J Jx W hW _ _ hY h0 =>
  all1_in n hn l Bs n₀ s hs J Jx hY W (block_kept hBs hW) (hD.mono hW) h00 h0
end Go.Proofs.YthhchlceogbbhaaDoor
