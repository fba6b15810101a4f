/-
  The document's l08Mark, l08Leaders and l08Heads.
  What bitSet.told returns: the places that are in a set, rising, in a row of its own.
-/
import Derived.Test.YthhchlceogbbhaaDoorL4
import Derived.Maps.AppendAt
import Derived.Test.YthhchlceogbbhaaDoorB3
import Derived.RangeFuncBox
namespace Go.Proofs.YthhchlceogbbhaaDoor
open Go.RowKit

theorem infoB : (Tryd.prog.info? 4).map (fun i => (i.zero, i.size, i.bytes)) = some (some (.bool false), 1, 1) := by kernel_rfl

/-- A row of marks: those at which P holds. -/
def MkP (w : World) (g n : Nat) (P : Nat → Prop) : Prop := ∃ c : Array Value, w.heap[g]? = some (.cells c 4 (0, 0)) ∧ c.size = n ∧ ∀ j, j < n → c[j]? = some (.bool (pB (P j)))
theorem MkP.mono {w w' : World} {g n : Nat} {P : Nat → Prop} (h : MkP w g n P) (hb : Below w.heap.size w w') : MkP w' g n P := by
  obtain ⟨c, h1, h2, h3⟩ := h
  exact ⟨c, block_kept h1 hb, h2, h3⟩
theorem MkP.cell {w : World} {g n j : Nat} {P : Nat → Prop} (h : MkP w g n P) (hj : j < n) : w.cell? ⟨g, j, none⟩ = some (.bool (pB (P j))) := by
  obtain ⟨c, h1, h2, h3⟩ := h
  rw [block_cell h1]; exact h3 j hj
theorem MkP.free {w : World} {g n : Nat} {P : Nat → Prop} (h : MkP w g n P) (j : Nat) : w.frozen? ⟨g, j, none⟩ = false := by
  obtain ⟨c, h1, -⟩ := h
  exact block_free h1 j
theorem MkP.lt {w : World} {g n : Nat} {P : Nat → Prop} (h : MkP w g n P) : g < w.heap.size := by
  obtain ⟨c, h1, -⟩ := h
  exact lt_block h1
theorem MkP.as {w : World} {g n : Nat} {P Q : Nat → Prop} (h : MkP w g n P) (hq : ∀ j, j < n → (P j ↔ Q j)) : MkP w g n Q := by
  obtain ⟨c, h1, h2, h3⟩ := h
  exact ⟨c, h1, h2, fun j hj => by rw [h3 j hj]; simp only [show P j = Q j from propext (hq j hj)]⟩
theorem MkP.set {w : World} {g n i : Nat} {P : Nat → Prop} (h : MkP w g n P) (hi : i < n) : MkP (w.setCell ⟨g, i, none⟩ (.bool true)) g n (fun j => P j ∨ j = i) := by
  obtain ⟨c, h1, h2, h3⟩ := h
  refine ⟨_, block_set h1 _, by simpa using h2, fun j hj => ?_⟩
  by_cases e : j = i
  · subst e
    rw [set_self _ (by omega), pB_yes (.inr rfl)]
  · rw [set_else _ e, h3 j hj]
    simp only [show (P j ∨ j = i) = P j from propext ⟨fun h => h.elim id (fun h => absurd h e), .inl⟩]
theorem MkP.other {w : World} {g n B i : Nat} {P : Nat → Prop} {v : Value} (h : MkP w g n P) (hne : g ≠ B) : MkP (w.setCell ⟨B, i, none⟩ v) g n P := by
  obtain ⟨c, h1, h2, h3⟩ := h
  exact ⟨c, by rw [Below.heap_setCell _ _ _ _ hne]; exact h1, h2, h3⟩

theorem own_dsl {w : World} {B : Nat} {v : Value} {n : Nat} {d : List Int} (h : w.ownsRow B 3 1 v n (d.map (Value.int .i64))) (hn : n = d.length) : DSl w B v d := by
  by_cases h0 : 0 < n
  · obtain ⟨g, cap, hv, hg, hH⟩ := Ht.own h rfl hn h0
    exact .inr ⟨g, cap, by rw [hv, hn], hg, hH⟩
  · have hd : d = [] := List.eq_nil_of_length_eq_zero (by omega)
    rcases h.2 with ⟨hv, -⟩ | ⟨g, cap, cur, hv, -⟩
    · exact .inl ⟨hd, _, _, by rw [hv]⟩
    · exact .inl ⟨hd, _, _, by rw [hv, show n = 0 by omega]⟩

set_option maxRecDepth 100000 in
set_option maxHeartbeats 1000000 in
theorem sMark_any (g n : Nat) (P : Nat → Prop) (w : World) (hn : n ≤ 120) (hM : MkP w g n P) :
    Calls Tryd.prog 39 #[.slice (some ⟨g, 0, none⟩) n n] w fun e w' => ∃ v, e = .returned v ∧ DSl w' w.heap.size v (lstI P n) ∧ Below w.heap.size w w' := by
  obtain ⟨i0, hi, hz0, hz1, hz2⟩ := info_parts info3
  have hE0 : (w.alloc (.cells #[] 3)).ownsRow w.heap.size 3 1 (.slice (some ⟨w.heap.size, 0, none⟩) 0 0) 0 [] := by
    have := World.ownsRow_made (base := w.heap.size) (e := 3) (size := 1) w #[] 0 (Nat.le_refl _) (by unfold maxLen; omega) rfl
    simpa using this
  go_enter Tryd.func39, Tryd.ntmps39
  go_wp2
  go_loopw [3, 4] (fun o i wr => ∃ (k : Nat), k ≤ n ∧ i = .int .i64 k ∧ wr.ownsRow w.heap.size 3 1 o (lstI P k).length ((lstI P k).map (Value.int .i64)) ∧ Below w.heap.size w wr) (fun _ i _ => n - (intOf i).toNat)
  case atStart => exact ⟨0, by omega, rfl, hE0, (Below.refl _ _).alloc (Nat.le_refl _) _⟩
  case round =>
    obtain ⟨k, hk, rfl, hown, hb⟩ := hrel
    clear hE0
    by_cases hlt : k < n
    · have hcl := (hM.mono hb).cell hlt
      have hln := lstI_len P k
      by_cases hp : P k
      · rw [pB_yes hp] at hcl
        have HY : Hid (lstI P (k + 1) = lstI P k ++ [(k : Int)]) := lstI_yes hp
        have hszr := hb.size
        go_wp2_with (first | (at_builtin; refine wpList_append_lies _ rfl _ _ 30 rfl w.heap.size 3 i0 (.int .i64 0) 1 8 Tryd.underlying30 hi hz0 hz1 hz2 rfl (by decide) _ _ _ rfl (World.ownsRow.alloc hown _) ⟨wr.heap.size, 0, none⟩ 1 1 [.int .i64 (k : Int)] rfl rfl (cell_one_new _ _ _) (by intro u hu; simp at hu; subst hu; rfl) (by decide) (by unfold maxLen; omega) (by omega) (by simp; omega) _ rfl ?_; intro g1 cap w1 hown1 hgrow1 hat1 hlt1))
        have hk1 := Keeps.grown (ts := [3]) (World.ownsRow.alloc hown _) hgrow1 (by simp)
        have hb1 : Below w.heap.size w w1 := (hb.alloc hb.size _).trans (hk1.toBelow (by simp; omega))
        go_roundw
        case rel => exact ⟨k + 1, by omega, by go_num, by rw [HY.out]; simpa using hown1, hb1⟩
        case measure => simp [intOf]; omega
      · rw [pB_no hp] at hcl
        have HY : Hid (lstI P (k + 1) = lstI P k) := lstI_no hp
        go_wp2
        go_roundw
        case rel => exact ⟨k + 1, by omega, by go_num, by rw [HY.out]; exact hown, hb⟩
        case measure => simp [intOf]; omega
    · have hkn : k = n := by omega
      subst hkn
      have hds := own_dsl hown rfl
      obtain ⟨a, cap, rfl, -⟩ := hds.form
      go_wp2
      go_ret
      exact ⟨_, rfl, hds, hb⟩
end Go.Proofs.YthhchlceogbbhaaDoor

namespace Go.Proofs.YthhchlceogbbhaaDoor
open Go.RowKit Go.Shelf

attribute [local go_sem] Oper.semAt_some

theorem mapI (l : List Nat) : (l.map fun (j : Nat) => (j : Int)).map (Value.int .i64) = l.map fun (j : Nat) => Value.int .i64 (j : Int) := by simp

set_option maxRecDepth 100000 in
set_option maxHeartbeats 4000000 in
theorem told_any (x y : Nat) (w : World) (hs : bok (x, y)) (hD : DB w) :
    Calls Tryd.prog 20 #[.agg #[.int .u64 (x : Int), .int .u64 (y : Int)]] w fun e w' => ∃ v, e = .returned v ∧ DSl w' w.heap.size v (lstI (In (x, y)) 128) ∧ Below w.heap.size w w' := by
  have h00 : 0 < w.heap.size := World.block_lt_of_cell? w _ (hD 0 (by decide))
  obtain ⟨i0, hi, hz0, hz1, hz2⟩ := info_parts info3
  refine (callsIn_wide (n := 4)).1 ?_
  refine callsIn_of_wp_marks Tryd.func20 rfl trivial ?_ rfl
  simp only [Tryd.ntmps20, List.size_toArray, List.length_cons, List.length_nil, Nat.reduceAdd, Nat.reduceSub, Array.replicate_succ, Array.replicate_zero, List.push_toArray, List.append_toArray, List.nil_append, List.cons_append]
  gi_wp2
  refine ⟨trivial, ?_⟩
  refine (callsIn_wide.2 (all_any _ _ _)).mono ?_
  rintro e w2 ⟨rfl, rfl⟩
  gi_wp2
  have bO := (Boxed.new (w.alloc (.cells #[.int .u64 (x : Int), .int .u64 (y : Int)] 45)) 30 (.slice none 0 0)).alloc (.cells #[.int .u64 (x : Int), .int .u64 (y : Int)] 45)
  have hN := block_new ((w.alloc (.cells #[.int .u64 (x : Int), .int .u64 (y : Int)] 45)).alloc (.cells #[.slice none 0 0] 30)) #[.int .u64 (x : Int), .int .u64 (y : Int)] 45
  simp only [World.size_alloc] at bO hN
  have hB0 : Below w.heap.size w (((w.alloc (.cells #[.int .u64 (x : Int), .int .u64 (y : Int)] 45)).alloc (.cells #[.slice none 0 0] 30)).alloc (.cells #[.int .u64 (x : Int), .int .u64 (y : Int)] 45)) := (((Below.refl _ w).alloc (Nat.le_refl _) _).alloc (by simp) _).alloc (by simp; omega) _
  obtain ⟨W0, hW0⟩ : ∃ W0, ((w.alloc (.cells #[.int .u64 (x : Int), .int .u64 (y : Int)] 45)).alloc (.cells #[.slice none 0 0] 30)).alloc (.cells #[.int .u64 (x : Int), .int .u64 (y : Int)] 45) = W0 := ⟨_, rfl⟩
  have hsz : W0.heap.size = w.heap.size + 3 := by rw [← hW0]; simp
  rw [hW0] at bO hN hB0 ⊢
  clear hW0
  have hD0 := hD.mono hB0
  refine wpIn_rangeFunc_ownG (α := Nat) rfl (by omega) (gf := 51) (lb := #[.pointer (some ⟨w.heap.size + 1 + 1, 0, none⟩)]) rfl trivial (enters_of Tryd.func51 (by kernel_rfl) rfl)
    (all_stops 3 (by omega) (w.heap.size + 1 + 1) w.heap.size (x, y) hs W0 hN hD0 h00) belowK_t (belowK_b (by omega)) (Below.refl _ _) (fun _ => rfl)
    (fun pre W => (∃ v, Boxed W (w.heap.size + 1) 30 v ∧ W.ownsRow w.heap.size 3 1 v pre.length (pre.map fun (j : Nat) => Value.int .i64 (j : Int)) ∧ True) ∧ Below w.heap.size w W)
    (fun _ _ _ => False)
    (OwnFrom.and (Own.from (holdsRow_own w.heap.size (w.heap.size + 1) 30 3 1 (fun (pre : List Nat) => pre.length) (fun (pre : List Nat) => pre.map fun (j : Nat) => Value.int .i64 (j : Int)) (fun _ _ => True)) _) (ownFrom_below (Nat.le_refl _) (by omega)))
    (fun _ _ _ _ _ hs _ _ => hs)
    ⟨⟨_, bO, World.ownsRow_nil _ _ _ _, trivial⟩, hB0⟩
    (fun j => { tmps := #[.agg #[.int .u64 (x : Int), .int .u64 (y : Int)], .pointer (some ⟨w.heap.size, 0, none⟩), .slice none 0 0, .pointer (some ⟨w.heap.size + 1, 0, none⟩), .int .i64 (j : Int), .agg #[.int .u64 (x : Int), .int .u64 (y : Int)], .func (.func 51) #[] #[.pointer (some ⟨w.heap.size + 1 + 1, 0, none⟩)], .int .i64 (j : Int), undef, undef, undef, undef, undef], defers := [] }) ?assign ?body ?done ?stop
  case assign =>
    intro l j W K hK
    gi_wp2
    exact hK
  case body =>
    rintro l pre j W ⟨⟨v, hv, hrow, -⟩, hB⟩ hlt
    have hc := hv.cell
    gi_wp2_with (gi_at_builtin; refine wpListIn_append_own _ rfl _ _ 30 rfl w.heap.size 3 i0 (.int .i64 0) 1 8 Tryd.underlying30 hi hz0 hz1 hz2 rfl (by decide) _ _ _ rfl (hrow.alloc _) ⟨W.heap.size, 0, none⟩ 1 1 [.int .i64 (j : Int)] rfl rfl (cell_one_new _ _ _) (by simp [Value.oneCell']) (by unfold maxLen; omega) (by omega) (by have := hB.size; simp; omega) ?_; intro v' w1 hown' hgrow _; obtain ⟨g', cap', rfl⟩ := ownsRow_succ hown'; obtain ⟨hv1, hv2, hr2, hk2, hb2⟩ := hv.appended (by decide) hrow hB.size (by omega) hown' hgrow; have hc1 := hv1.cell; have hf1 := hv1.frozen)
    exact ⟨hk2.from _, hb2, ⟨_, hv2, by simpa using hr2, trivial⟩, hB.trans hb2⟩
  case done =>
    rintro D ys W hD' rfl ⟨⟨v, hv, hrow, -⟩, hB⟩ hK
    have hc := hv.cell
    have hrow' := ownsRow_putObj hrow (.deferred none) hK rfl
    gi_wp2
    refine ⟨by simp, .inl ⟨_, _, rfl, run_takeDeferred hK, ?_⟩⟩
    refine ⟨_, results_tmp rfl _ _ _, v, rfl, own_dsl (d := lstI (In (x, y)) 128) (by unfold lstI; rw [mapI]; exact hrow') (by simp [lstI]), hB.trans (belowK_b (w := w) (Nat.le_refl _) W D _ _ (by omega) hK rfl rfl)⟩
  case stop =>
    rintro D c pre W _ _ h _
    exact h.elim
end Go.Proofs.YthhchlceogbbhaaDoor
