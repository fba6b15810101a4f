/-
  What bitSet.told returns: the places that are in a set, rising, in a row of its own.
-/
import Derived.Test.YtenmbdegaldngaaDoorB3
import Derived.Test.YtenmbdegaldngaaDoorL5
import Derived.RangeFuncBox
import Derived.Maps.AppendAt
namespace Go.Proofs.YtenmbdegaldngaaDoor
open Go.RowKit Go.Shelf

attribute [local go_sem] Oper.semAt_some

theorem mapI (l : List Nat) : (l.map fun (j : Nat) => (j : Int)).map (Value.int .i64) = l.map fun (j : Nat) => Value.int .i64 (j : Int) := by simp

set_option maxRecDepth 100000 in
set_option maxHeartbeats 4000000 in
theorem told_any (x y : Nat) (w : World) (hs : bok (x, y)) (hD : DB w) :
    Calls Tryd.prog 26 #[.agg #[.int .u64 (x : Int), .int .u64 (y : Int)]] w fun e w' => ∃ v, e = .returned v ∧ DSl w' w.heap.size v (lstI (In (x, y)) 128) ∧ Below w.heap.size w w' := by
  have h00 : 0 < w.heap.size := World.block_lt_of_cell? w _ (hD 0 (by decide))
  obtain ⟨i0, hi, hz0, hz1, hz2⟩ := info_parts info3
  refine (callsIn_wide (n := 4)).1 ?_
  refine callsIn_of_wp_marks Tryd.func26 rfl trivial ?_ rfl
  simp only [Tryd.ntmps26, List.size_toArray, List.length_cons, List.length_nil, Nat.reduceAdd, Nat.reduceSub, Array.replicate_succ, Array.replicate_zero, List.push_toArray, List.append_toArray, List.nil_append, List.cons_append]
  gi_wp2
  refine ⟨trivial, ?_⟩
  refine (callsIn_wide.2 (all_any _ _ _)).mono ?_
  rintro e w2 ⟨rfl, rfl⟩
  gi_wp2
  have bO := (Boxed.new (w.alloc (.cells #[.int .u64 (x : Int), .int .u64 (y : Int)] 45)) 27 (.slice none 0 0)).alloc (.cells #[.int .u64 (x : Int), .int .u64 (y : Int)] 45)
  have hN := block_new ((w.alloc (.cells #[.int .u64 (x : Int), .int .u64 (y : Int)] 45)).alloc (.cells #[.slice none 0 0] 27)) #[.int .u64 (x : Int), .int .u64 (y : Int)] 45
  simp only [World.size_alloc] at bO hN
  have hB0 : Below w.heap.size w (((w.alloc (.cells #[.int .u64 (x : Int), .int .u64 (y : Int)] 45)).alloc (.cells #[.slice none 0 0] 27)).alloc (.cells #[.int .u64 (x : Int), .int .u64 (y : Int)] 45)) := (((Below.refl _ w).alloc (Nat.le_refl _) _).alloc (by simp) _).alloc (by simp; omega) _
  obtain ⟨W0, hW0⟩ : ∃ W0, ((w.alloc (.cells #[.int .u64 (x : Int), .int .u64 (y : Int)] 45)).alloc (.cells #[.slice none 0 0] 27)).alloc (.cells #[.int .u64 (x : Int), .int .u64 (y : Int)] 45) = W0 := ⟨_, rfl⟩
  have hsz : W0.heap.size = w.heap.size + 3 := by rw [← hW0]; simp
  rw [hW0] at bO hN hB0 ⊢
  clear hW0
  have hD0 := hD.mono hB0
  refine wpIn_rangeFunc_ownG (α := Nat) rfl (by omega) (gf := 56) (lb := #[.pointer (some ⟨w.heap.size + 1 + 1, 0, none⟩)]) rfl trivial (enters_of Tryd.func56 (by kernel_rfl) rfl)
    (all_stops 3 (by omega) (w.heap.size + 1 + 1) w.heap.size (x, y) hs W0 hN hD0 h00) belowK_t (belowK_b (by omega)) (Below.refl _ _) (fun _ => rfl)
    (fun pre W => (∃ v, Boxed W (w.heap.size + 1) 27 v ∧ W.ownsRow w.heap.size 3 1 v pre.length (pre.map fun (j : Nat) => Value.int .i64 (j : Int)) ∧ True) ∧ Below w.heap.size w W)
    (fun _ _ _ => False)
    (OwnFrom.and (Own.from (holdsRow_own w.heap.size (w.heap.size + 1) 27 3 1 (fun (pre : List Nat) => pre.length) (fun (pre : List Nat) => pre.map fun (j : Nat) => Value.int .i64 (j : Int)) (fun _ _ => True)) _) (ownFrom_below (Nat.le_refl _) (by omega)))
    (fun _ _ _ _ _ hs _ _ => hs)
    ⟨⟨_, bO, World.ownsRow_nil _ _ _ _, trivial⟩, hB0⟩
    (fun j => { tmps := #[.agg #[.int .u64 (x : Int), .int .u64 (y : Int)], .pointer (some ⟨w.heap.size, 0, none⟩), .slice none 0 0, .pointer (some ⟨w.heap.size + 1, 0, none⟩), .int .i64 (j : Int), .agg #[.int .u64 (x : Int), .int .u64 (y : Int)], .func (.func 56) #[] #[.pointer (some ⟨w.heap.size + 1 + 1, 0, none⟩)], .int .i64 (j : Int), undef, undef, undef, undef, undef], defers := [] }) ?assign ?body ?done ?stop
  case assign =>
    intro l j W K hK
    gi_wp2
    exact hK
  case body =>
    rintro l pre j W ⟨⟨v, hv, hrow, -⟩, hB⟩ hlt
    have hc := hv.cell
    gi_wp2_with (gi_at_builtin; refine wpListIn_append_own _ rfl _ _ 27 rfl w.heap.size 3 i0 (.int .i64 0) 1 8 Tryd.underlying27 hi hz0 hz1 hz2 rfl (by decide) _ _ _ rfl (hrow.alloc _) ⟨W.heap.size, 0, none⟩ 1 1 [.int .i64 (j : Int)] rfl rfl (cell_one_new _ _ _) (by simp [Value.oneCell']) (by unfold maxLen; omega) (by omega) (by have := hB.size; simp; omega) ?_; intro v' w1 hown' hgrow _; obtain ⟨g', cap', rfl⟩ := ownsRow_succ hown'; obtain ⟨hv1, hv2, hr2, hk2, hb2⟩ := hv.appended (by decide) hrow hB.size (by omega) hown' hgrow; have hc1 := hv1.cell; have hf1 := hv1.frozen)
    exact ⟨hk2.from _, hb2, ⟨_, hv2, by simpa using hr2, trivial⟩, hB.trans hb2⟩
  case done =>
    rintro D ys W hD' rfl ⟨⟨v, hv, hrow, -⟩, hB⟩ hK
    have hc := hv.cell
    have hrow' := ownsRow_putObj hrow (.deferred none) hK rfl
    gi_wp2
    refine ⟨by simp, .inl ⟨_, _, rfl, run_takeDeferred hK, ?_⟩⟩
    refine ⟨_, results_tmp rfl _ _ _, v, rfl, own_dsl (d := lstI (In (x, y)) 128) (by unfold lstI; rw [mapI]; exact hrow') (by simp [lstI]), hB.trans (belowK_b (w := w) (Nat.le_refl _) W D _ _ (by omega) hK rfl rfl)⟩
  case stop =>
    rintro D c pre W _ _ h _
    exact h.elim
end Go.Proofs.YtenmbdegaldngaaDoor
