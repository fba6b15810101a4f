/-
  Whether one of the acts is not ok: slices.ContainsFunc.
-/
import Derived.Test.YtedjabgkdogkfaaDoorST1
namespace Go.Proofs.YtedjabgkdogkfaaDoor
open Go.RowKit

theorem iff_no {p : Prop} (h : ¬ p) : (false = true ↔ p) := ⟨fun h' => (by cases h'), fun h' => absurd h' h⟩
theorem iff_yes {p : Prop} (h : p) : (true = true ↔ p) := ⟨fun _ => h, fun _ => rfl⟩
theorem of_no {p : Prop} (h : false = true ↔ p) : ¬ p := fun h' => by have := h.2 h'; cases this
theorem of_yes {p : Prop} (h : true = true ↔ p) : p := h.1 rfl
set_option maxRecDepth 100000 in
set_option maxHeartbeats 1000000 in
theorem notOk_any (x : Ac) (sa : Option Addr) (cap : Nat) (w : World) (hL : LimAt w) (hn : x.ss.length ≤ 1048576) :
    Calls Tryd.prog 14 #[.agg #[.int .i64 x.k, .int .i64 x.a, .int .i64 x.b, .int .i64 x.l, .bool x.s, .slice sa x.ss.length cap]] w fun e w' => ∃ r, e = .returned (.bool r) ∧ (r = true ↔ ¬ AcOk x) ∧ Below w.heap.size w w' := by
  have hb0 : Below w.heap.size w (w.alloc (.cells #[.int .i64 x.k, .int .i64 x.a, .int .i64 x.b, .int .i64 x.l, .bool x.s, .slice sa x.ss.length cap] 37)) := (Below.refl _ _).alloc (Nat.le_refl _) _
  have HC := hid (iAct_any x.k x.a x.b x.l x.s sa x.ss.length cap _ (hL.mono hb0) hn)
  have HB := hid hb0
  clear hb0 hL hn
  have m0 := block_cell (block_new w #[.int .i64 x.k, .int .i64 x.a, .int .i64 x.b, .int .i64 x.l, .bool x.s, .slice sa x.ss.length cap] 37)
  go_enter Tryd.func14, Tryd.ntmps14
  go_wp2_with fail
  refine HC.out.mono ?_
  rintro e w1 ⟨⟨r, rfl, hr⟩, hb1⟩
  have hB := HB.out.trans (hb1.mono HB.out.size)
  clear hb1 HC m0
  cases r
  · have HR : Hid (¬ AcOk x) := of_no hr
    clear hr
    go_wp2
    go_ret
    exact ⟨true, rfl, iff_yes HR.out, hB⟩
  · have HR : Hid (AcOk x) := of_yes hr
    clear hr
    go_wp2
    go_ret
    exact ⟨false, rfl, iff_no (fun h => h HR.out), hB⟩

set_option maxRecDepth 100000 in
set_option maxHeartbeats 1000000 in
theorem index_any (a : Option Addr) (xs : List Ac) (cap : Nat) (w : World) (hL : LimAt w) (hn : xs.length ≤ 1048576) (hc : ActsSmall xs) (hm : ActsAt w a xs) :
    Calls Tryd.prog 24 #[.slice a xs.length cap, .func (.func 14) #[] #[]] w fun e w' => ∃ r : Int, e = .returned (.int .i64 r) ∧ (0 ≤ r ↔ ¬ ∀ x ∈ xs, AcOk x) ∧ Below w.heap.size w w' := by
  have HL := hid hL
  have HM := hid hm
  have HC := hid hc
  clear hL hm hc
  go_enter Tryd.func24, Tryd.ntmps24
  go_wp2_with fail
  go_loopw [8] (fun i wr => ∃ (k : Nat), k ≤ xs.length ∧ i = .int .i64 k ∧ Hid (∀ x ∈ xs.take k, AcOk x) ∧ Below w.heap.size w wr) (fun i _ => xs.length - (intOf i).toNat)
  case atStart => exact ⟨0, by omega, rfl, by intro f hf; simp at hf, Below.refl _ _⟩
  case round =>
    obtain ⟨k, hk, rfl, hall, hb⟩ := hrel
    by_cases hlt : k < xs.length
    · obtain ⟨b, off, sa, cp, rfl, c1, c2, c3, c4, c5, c6, -⟩ := (HM.out.mono hb) k hlt
      have HN := hid (notOk_any xs[k] sa cp wr (HL.out.mono hb) (HC.out _ (List.getElem_mem hlt)))
      have HX : Hid (xs[k] ∈ xs) := List.getElem_mem hlt
      have HT : Hid (AcOk xs[k] → ∀ x ∈ xs.take (k + 1), AcOk x) := fun h => take_succ_mem (p := AcOk) hlt hall.out h
      go_wp2_with fail
      refine HN.out.mono ?_
      rintro e w2 ⟨r, rfl, hr, hb'⟩
      have hB := hb.trans (hb'.mono hb.size)
      clear c1 c2 c3 c4 c5 c6 hb' HN
      cases r
      · have HR : Hid (AcOk xs[k]) := Classical.byContradiction (of_no hr)
        clear hr
        go_wp2
        go_roundw
        case rel => exact ⟨k + 1, by omega, by go_num, HT.out HR.out, hB⟩
        case measure => simp [intOf]; omega
      · have HR : Hid (¬ AcOk xs[k]) := of_yes hr
        clear hr
        go_wp2
        go_ret
        exact ⟨k, rfl, ⟨fun _ h => HR.out (h _ HX.out), fun _ => by omega⟩, hB⟩
    · have HE : Hid (∀ x ∈ xs, AcOk x) := by
        have := hall.out
        rwa [List.take_of_length_le (by omega)] at this
      go_wp2
      go_ret
      exact ⟨-1, rfl, ⟨fun h => absurd h (by decide), fun h => absurd HE.out h⟩, hb⟩

set_option maxRecDepth 100000 in
set_option maxHeartbeats 1000000 in
theorem contains_any (a : Option Addr) (xs : List Ac) (cap : Nat) (w : World) (hL : LimAt w) (hn : xs.length ≤ 1048576) (hc : ActsSmall xs) (hm : ActsAt w a xs) :
    Calls Tryd.prog 13 #[.slice a xs.length cap, .func (.func 14) #[] #[]] w fun e w' => ∃ r, e = .returned (.bool r) ∧ (r = true ↔ ¬ ∀ x ∈ xs, AcOk x) ∧ Below w.heap.size w w' := by
  have HC := hid (index_any a xs cap w hL hn hc hm)
  clear hL hm hc
  go_enter Tryd.func13, Tryd.ntmps13
  go_wp2_with fail
  refine HC.out.mono ?_
  rintro e w1 ⟨r, rfl, hr, hb1⟩
  by_cases h0 : 0 ≤ r
  · have HR : Hid (¬ ∀ x ∈ xs, AcOk x) := hr.1 h0
    clear hr HC
    go_wp2
    go_ret
    exact ⟨true, by first | rfl | simp [h0], iff_yes HR.out, hb1⟩
  · have HR : Hid (¬ ¬ ∀ x ∈ xs, AcOk x) := fun h => h0 (hr.2 h)
    clear hr HC
    go_wp2
    go_ret
    exact ⟨false, by first | rfl | simp [h0], iff_no HR.out, hb1⟩
end Go.Proofs.YtedjabgkdogkfaaDoor
