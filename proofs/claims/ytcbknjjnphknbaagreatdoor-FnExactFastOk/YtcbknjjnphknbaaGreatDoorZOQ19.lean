/-
  The document's l08Mark, l08Leaders and l08Heads.
  What bitSet.told returns: the places that are in a set, rising, in a row of its own.
  The document's l08Leaders and l08Heads.
  What flowIn and oneWay return.
  Straight of both sides.
  LeadersOf and HeadsOf of both sides.
  LeadersOf, HeadsOf and EntriesOf of the document, and EntriesOf of the program.
-/
import Derived.Test.YtcbknjjnphknbaaGreatDoorZOQ18
import Derived.Maps.AppendAt
import Derived.RangeFuncBox
import Derived.Deep.RegionHeld3
import Derived.Test.YtcbknjjnphknbaaGreatDoorZOQ2
namespace Go.Proofs.YtcbknjjnphknbaaGreatDoor
open Go.RowKit

theorem infoB : (Tryz.prog.info? 4).map (fun i => (i.zero, i.size, i.bytes)) = some (some (.bool false), 1, 1) := by kernel_rfl

/-- A row of marks: those at which P holds. -/
def MkP (w : World) (g n : Nat) (P : Nat → Prop) : Prop := ∃ c : Array Value, w.heap[g]? = some (.cells c 4 (0, 0)) ∧ c.size = n ∧ ∀ j, j < n → c[j]? = some (.bool (pB (P j)))
theorem MkP.mono {w w' : World} {g n : Nat} {P : Nat → Prop} (h : MkP w g n P) (hb : Below w.heap.size w w') : MkP w' g n P := by
  obtain ⟨c, h1, h2, h3⟩ := h
  exact ⟨c, block_kept h1 hb, h2, h3⟩
theorem MkP.cell {w : World} {g n j : Nat} {P : Nat → Prop} (h : MkP w g n P) (hj : j < n) : w.cell? ⟨g, j, none⟩ = some (.bool (pB (P j))) := by
  obtain ⟨c, h1, h2, h3⟩ := h
  rw [block_cell h1]; exact h3 j hj
theorem MkP.free {w : World} {g n : Nat} {P : Nat → Prop} (h : MkP w g n P) (j : Nat) : w.frozen? ⟨g, j, none⟩ = false := by
  obtain ⟨c, h1, -⟩ := h
  exact block_free h1 j
theorem MkP.lt {w : World} {g n : Nat} {P : Nat → Prop} (h : MkP w g n P) : g < w.heap.size := by
  obtain ⟨c, h1, -⟩ := h
  exact lt_block h1
theorem MkP.as {w : World} {g n : Nat} {P Q : Nat → Prop} (h : MkP w g n P) (hq : ∀ j, j < n → (P j ↔ Q j)) : MkP w g n Q := by
  obtain ⟨c, h1, h2, h3⟩ := h
  exact ⟨c, h1, h2, fun j hj => by rw [h3 j hj]; simp only [show P j = Q j from propext (hq j hj)]⟩
theorem MkP.set {w : World} {g n i : Nat} {P : Nat → Prop} (h : MkP w g n P) (hi : i < n) : MkP (w.setCell ⟨g, i, none⟩ (.bool true)) g n (fun j => P j ∨ j = i) := by
  obtain ⟨c, h1, h2, h3⟩ := h
  refine ⟨_, block_set h1 _, by simpa using h2, fun j hj => ?_⟩
  by_cases e : j = i
  · subst e
    rw [set_self _ (by omega), pB_yes (.inr rfl)]
  · rw [set_else _ e, h3 j hj]
    simp only [show (P j ∨ j = i) = P j from propext ⟨fun h => h.elim id (fun h => absurd h e), .inl⟩]
theorem MkP.other {w : World} {g n B i : Nat} {P : Nat → Prop} {v : Value} (h : MkP w g n P) (hne : g ≠ B) : MkP (w.setCell ⟨B, i, none⟩ v) g n P := by
  obtain ⟨c, h1, h2, h3⟩ := h
  exact ⟨c, by rw [Below.heap_setCell _ _ _ _ hne]; exact h1, h2, h3⟩

theorem own_dsl {w : World} {B : Nat} {v : Value} {n : Nat} {d : List Int} (h : w.ownsRow B 3 1 v n (d.map (Value.int .i64))) (hn : n = d.length) : DSl w B v d := by
  by_cases h0 : 0 < n
  · obtain ⟨g, cap, hv, hg, hH⟩ := Ht.own h rfl hn h0
    exact .inr ⟨g, cap, by rw [hv, hn], hg, hH⟩
  · have hd : d = [] := List.eq_nil_of_length_eq_zero (by omega)
    rcases h.2 with ⟨hv, -⟩ | ⟨g, cap, cur, hv, -⟩
    · exact .inl ⟨hd, _, _, by rw [hv]⟩
    · exact .inl ⟨hd, _, _, by rw [hv, show n = 0 by omega]⟩

set_option maxRecDepth 100000 in
set_option maxHeartbeats 1000000 in
theorem sMark_any (g n : Nat) (P : Nat → Prop) (w : World) (hn : n ≤ 120) (hM : MkP w g n P) :
    Calls Tryz.prog 111 #[.slice (some ⟨g, 0, none⟩) n n] w fun e w' => ∃ v, e = .returned v ∧ DSl w' w.heap.size v (lstI P n) ∧ Below w.heap.size w w' := by
  obtain ⟨i0, hi, hz0, hz1, hz2⟩ := info_parts info3
  have hE0 : (w.alloc (.cells #[] 3)).ownsRow w.heap.size 3 1 (.slice (some ⟨w.heap.size, 0, none⟩) 0 0) 0 [] := by
    have := World.ownsRow_made (base := w.heap.size) (e := 3) (size := 1) w #[] 0 (Nat.le_refl _) (by unfold maxLen; omega) rfl
    simpa using this
  go_enter Tryz.func111, Tryz.ntmps111
  go_wp2
  go_loopw [3, 4] (fun o i wr => ∃ (k : Nat), k ≤ n ∧ i = .int .i64 k ∧ wr.ownsRow w.heap.size 3 1 o (lstI P k).length ((lstI P k).map (Value.int .i64)) ∧ Below w.heap.size w wr) (fun _ i _ => n - (intOf i).toNat)
  case atStart => exact ⟨0, by omega, rfl, hE0, (Below.refl _ _).alloc (Nat.le_refl _) _⟩
  case round =>
    obtain ⟨k, hk, rfl, hown, hb⟩ := hrel
    clear hE0
    by_cases hlt : k < n
    · have hcl := (hM.mono hb).cell hlt
      have hln := lstI_len P k
      by_cases hp : P k
      · rw [pB_yes hp] at hcl
        have HY : Hid (lstI P (k + 1) = lstI P k ++ [(k : Int)]) := lstI_yes hp
        have hszr := hb.size
        go_wp2_with (first | (at_builtin; refine wpList_append_lies _ rfl _ _ 87 rfl w.heap.size 3 i0 (.int .i64 0) 1 8 Tryz.underlying87 hi hz0 hz1 hz2 rfl (by decide) _ _ _ rfl (World.ownsRow.alloc hown _) ⟨wr.heap.size, 0, none⟩ 1 1 [.int .i64 (k : Int)] rfl rfl (cell_one_new _ _ _) (by intro u hu; simp at hu; subst hu; rfl) (by decide) (by unfold maxLen; omega) (by omega) (by simp; omega) _ rfl ?_; intro g1 cap w1 hown1 hgrow1 hat1 hlt1))
        have hk1 := Keeps.grown (ts := [3]) (World.ownsRow.alloc hown _) hgrow1 (by simp)
        have hb1 : Below w.heap.size w w1 := (hb.alloc hb.size _).trans (hk1.toBelow (by simp; omega))
        go_roundw
        case rel => exact ⟨k + 1, by omega, by go_num, by rw [HY.out]; simpa using hown1, hb1⟩
        case measure => simp [intOf]; omega
      · rw [pB_no hp] at hcl
        have HY : Hid (lstI P (k + 1) = lstI P k) := lstI_no hp
        go_wp2
        go_roundw
        case rel => exact ⟨k + 1, by omega, by go_num, by rw [HY.out]; exact hown, hb⟩
        case measure => simp [intOf]; omega
    · have hkn : k = n := by omega
      subst hkn
      have hds := own_dsl hown rfl
      obtain ⟨a, cap, rfl, -⟩ := hds.form
      go_wp2
      go_ret
      exact ⟨_, rfl, hds, hb⟩
end Go.Proofs.YtcbknjjnphknbaaGreatDoor

namespace Go.Proofs.YtcbknjjnphknbaaGreatDoor
open Go.RowKit Go.Shelf

attribute [local go_sem] Oper.semAt_some

theorem mapI (l : List Nat) : (l.map fun (j : Nat) => (j : Int)).map (Value.int .i64) = l.map fun (j : Nat) => Value.int .i64 (j : Int) := by simp

set_option maxRecDepth 100000 in
set_option maxHeartbeats 4000000 in
theorem told_any (x y : Nat) (w : World) (hs : bok (x, y)) (hD : DB w) :
    Calls Tryz.prog 49 #[.agg #[.int .u64 (x : Int), .int .u64 (y : Int)]] w fun e w' => ∃ v, e = .returned v ∧ DSl w' w.heap.size v (lstI (In (x, y)) 128) ∧ Below w.heap.size w w' := by
  have h00 : 1 < w.heap.size := World.block_lt_of_cell? w _ (hD 0 (by decide))
  obtain ⟨i0, hi, hz0, hz1, hz2⟩ := info_parts info3
  refine (callsIn_wide (n := 4)).1 ?_
  refine callsIn_of_wp_marks Tryz.func49 rfl trivial ?_ rfl
  simp only [Tryz.ntmps49, List.size_toArray, List.length_cons, List.length_nil, Nat.reduceAdd, Nat.reduceSub, Array.replicate_succ, Array.replicate_zero, List.push_toArray, List.append_toArray, List.nil_append, List.cons_append]
  gi_wp2
  refine ⟨trivial, ?_⟩
  refine (callsIn_wide.2 (all_any _ _ _)).mono ?_
  rintro e w2 ⟨rfl, rfl⟩
  gi_wp2
  have bO := (Boxed.new (w.alloc (.cells #[.int .u64 (x : Int), .int .u64 (y : Int)] 115)) 87 (.slice none 0 0)).alloc (.cells #[.int .u64 (x : Int), .int .u64 (y : Int)] 115)
  have hN := block_new ((w.alloc (.cells #[.int .u64 (x : Int), .int .u64 (y : Int)] 115)).alloc (.cells #[.slice none 0 0] 87)) #[.int .u64 (x : Int), .int .u64 (y : Int)] 115
  simp only [World.size_alloc] at bO hN
  have hB0 : Below w.heap.size w (((w.alloc (.cells #[.int .u64 (x : Int), .int .u64 (y : Int)] 115)).alloc (.cells #[.slice none 0 0] 87)).alloc (.cells #[.int .u64 (x : Int), .int .u64 (y : Int)] 115)) := (((Below.refl _ w).alloc (Nat.le_refl _) _).alloc (by simp) _).alloc (by simp; omega) _
  obtain ⟨W0, hW0⟩ : ∃ W0, ((w.alloc (.cells #[.int .u64 (x : Int), .int .u64 (y : Int)] 115)).alloc (.cells #[.slice none 0 0] 87)).alloc (.cells #[.int .u64 (x : Int), .int .u64 (y : Int)] 115) = W0 := ⟨_, rfl⟩
  have hsz : W0.heap.size = w.heap.size + 3 := by rw [← hW0]; simp
  rw [hW0] at bO hN hB0 ⊢
  clear hW0
  have hD0 := hD.mono hB0
  refine wpIn_rangeFunc_ownG (α := Nat) rfl (by omega) (gf := 124) (lb := #[.pointer (some ⟨w.heap.size + 1 + 1, 0, none⟩)]) rfl trivial (enters_of Tryz.func124 (by kernel_rfl) rfl)
    (all_stops 3 (by omega) (w.heap.size + 1 + 1) w.heap.size (x, y) hs W0 hN hD0 h00) belowK_t (belowK_b (by omega)) (Below.refl _ _) (fun _ => rfl)
    (fun pre W => (∃ v, Boxed W (w.heap.size + 1) 87 v ∧ W.ownsRow w.heap.size 3 1 v pre.length (pre.map fun (j : Nat) => Value.int .i64 (j : Int)) ∧ True) ∧ Below w.heap.size w W)
    (fun _ _ _ => False)
    (OwnFrom.and (Own.from (holdsRow_own w.heap.size (w.heap.size + 1) 87 3 1 (fun (pre : List Nat) => pre.length) (fun (pre : List Nat) => pre.map fun (j : Nat) => Value.int .i64 (j : Int)) (fun _ _ => True)) _) (ownFrom_below (Nat.le_refl _) (by omega)))
    (fun _ _ _ _ _ hs _ _ => hs)
    ⟨⟨_, bO, World.ownsRow_nil _ _ _ _, trivial⟩, hB0⟩
    (fun j => { tmps := #[.agg #[.int .u64 (x : Int), .int .u64 (y : Int)], .pointer (some ⟨w.heap.size, 0, none⟩), .slice none 0 0, .pointer (some ⟨w.heap.size + 1, 0, none⟩), .int .i64 (j : Int), .agg #[.int .u64 (x : Int), .int .u64 (y : Int)], .func (.func 124) #[] #[.pointer (some ⟨w.heap.size + 1 + 1, 0, none⟩)], .int .i64 (j : Int), undef, undef, undef, undef, undef], defers := [] }) ?assign ?body ?done ?stop
  case assign =>
    intro l j W K hK
    gi_wp2
    exact hK
  case body =>
    rintro l pre j W ⟨⟨v, hv, hrow, -⟩, hB⟩ hlt
    have hc := hv.cell
    gi_wp2_with (gi_at_builtin; refine wpListIn_append_own _ rfl _ _ 87 rfl w.heap.size 3 i0 (.int .i64 0) 1 8 Tryz.underlying87 hi hz0 hz1 hz2 rfl (by decide) _ _ _ rfl (hrow.alloc _) ⟨W.heap.size, 0, none⟩ 1 1 [.int .i64 (j : Int)] rfl rfl (cell_one_new _ _ _) (by simp [Value.oneCell']) (by unfold maxLen; omega) (by omega) (by have := hB.size; simp; omega) ?_; intro v' w1 hown' hgrow _; obtain ⟨g', cap', rfl⟩ := ownsRow_succ hown'; obtain ⟨hv1, hv2, hr2, hk2, hb2⟩ := hv.appended (by decide) hrow hB.size (by omega) hown' hgrow; have hc1 := hv1.cell; have hf1 := hv1.frozen)
    exact ⟨hk2.from _, hb2, ⟨_, hv2, by simpa using hr2, trivial⟩, hB.trans hb2⟩
  case done =>
    rintro D ys W hD' rfl ⟨⟨v, hv, hrow, -⟩, hB⟩ hK
    have hc := hv.cell
    have hrow' := ownsRow_putObj hrow (.deferred none) hK rfl
    gi_wp2
    refine ⟨by simp, .inl ⟨_, _, rfl, run_takeDeferred hK, ?_⟩⟩
    refine ⟨_, results_tmp rfl _ _ _, v, rfl, own_dsl (d := lstI (In (x, y)) 128) (by unfold lstI; rw [mapI]; exact hrow') (by simp [lstI]), hB.trans (belowK_b (w := w) (Nat.le_refl _) W D _ _ (by omega) hK rfl rfl)⟩
  case stop =>
    rintro D c pre W _ _ h _
    exact h.elim
end Go.Proofs.YtcbknjjnphknbaaGreatDoor

namespace Go.Proofs.YtcbknjjnphknbaaGreatDoor
open Go.RowKit

theorem madeB {w1 : World} {base g n : Nat} (h : w1.ownsRow base 4 1 (.slice (some ⟨g, 0, none⟩) n n) n (madeCells (Value.bool false).cells (n * 1)).toList) : MkP w1 g n (fun _ => False) := by
  rcases h.2 with ⟨hv, -⟩ | ⟨g', cap, cur, hv, -, hh, -, -, hs, ht⟩
  · cases hv
  · cases hv
    refine ⟨cur, hh, by omega, fun j hj => ?_⟩
    have h1 : (cur.toList.take (n * 1))[j]? = ((madeCells (Value.bool false).cells (n * 1)).toList)[j]? := by rw [ht]
    rw [List.getElem?_take_of_lt (by omega)] at h1
    rw [pB_no (by simp)]
    have h2 : ((madeCells (Value.bool false).cells (n * 1)).toList)[j]? = some (.bool false) := by
      simp [madeCells, Value.cells, hj, Nat.mod_one]
    rw [h2] at h1
    simpa using h1

set_option maxRecDepth 100000 in
set_option maxHeartbeats 4000000 in
theorem sHeads_any (a1 a2 : Option Addr) (nt c1 c2 : Nat) (fs : List Fn) (f : Nat) (w : World) (hf : f < fs.length) (hn : fs.length ≤ 1048576) (hm : FnsAt w 0 a2 fs) (F : Fine fs fs[f].code) (HG : ∀ d, Done fs fs[f].code d → GJ fs[f].code d) :
    Calls Tryz.prog 66 #[.agg #[.slice a1 nt c1, .slice a2 fs.length c2], .int .i64 f] w fun e w' => ∃ v d, e = .returned v ∧ Done fs fs[f].code d ∧ DSl w' w.heap.size v (lstI (HP fs[f].code d fs[f].code.length) fs[f].code.length) ∧ Below w.heap.size w w' := by
  obtain ⟨i0, hi, hz0, hz1, hz2⟩ := info_parts infoB
  have hone := F.one
  have hmost := F.most
  have HM : Hid (FnsAt w 0 a2 fs) := hm
  obtain ⟨b, off, ca, cc, rfl, -, d1, d2, d3, d4⟩ := hm f hf
  have hbA : Below w.heap.size w (w.alloc (.cells #[.slice a1 nt c1, .slice (some ⟨b, off, none⟩) fs.length c2] 35)) := (Below.refl _ _).alloc (Nat.le_refl _) _
  have d3' := cell_later hbA d3
  clear d1 d2 d3
  go_enter Tryz.func66, Tryz.ntmps66
  go_wp2_with fail
  refine (sDepths_any a1 _ nt c1 c2 fs f _ hf hn (HM.out.mono hbA) F).mono ?_
  rintro e w1 ⟨g, cap, d, rfl, hg, hD, hH, hb⟩
  have G := HG d hD
  have H := hD.hts F
  have HDD : Hid (Done fs fs[f].code d) := hD
  have hb1 : Below w.heap.size w w1 := hbA.trans (hb.mono hbA.size)
  have d4' := d4.mono hb1
  obtain ⟨code, hcode⟩ : ∃ code, code = fs[f].code := ⟨_, rfl⟩
  rw [← hcode] at F d4' hone hmost G H
  have HCO : Hid (code = fs[f].code) := hcode
  rw [← hcode]
  clear hcode hbA d3' hD hb d4 HG HM
  go_wp2_with (first | (at_make; refine wpList_make_full _ rfl _ _ 203 rfl w1.heap.size 4 i0 (.bool false) 1 Tryz.underlying203 hi hz0 hz1 _ _ _ _ code.length rfl rfl rfl rfl (by rw [hz2]; omega) (by unfold maxLen; omega) (Nat.le_refl _) ?_; intro w2 hown hgrow; have hM0 := madeB hown; have m0 := hM0.cell (j := 0) (by omega); have m1 := hM0.free 0))
  have hbm : Below w1.heap.size w1 w2 := (Below.refl _ _).grown hgrow (Nat.le_refl _) (by intro k hk; cases hk)
  have hH2 := hH.mono hbm
  have d42 := d4'.mono hbm
  have hb2 : Below w.heap.size w w2 := hb1.trans (hbm.mono hb1.size)
  have hlo : w.heap.size ≤ w1.heap.size := hb1.size
  have HLD : Hid (d.length = code.length) := H.len
  have hM1 := hM0
  have hH3 := hH2
  have hA3 : ∀ X : World, Below w1.heap.size w1 X → CodeAt X 0 ca code := fun X h => d4'.mono h
  have hb3 : Below w1.heap.size w1 w2 := hbm
  have hM2 : MkP w2 w1.heap.size code.length (HP code d 0) := hM1.as (fun j _ => by show _ ↔ False; simp)
  clear hM1 hM0 m0 m1 hown hgrow hbm hH2 d42
  have HB1 : Hid (Below w.heap.size w w1) := hb1
  have HA3 : Hid (∀ X : World, Below w1.heap.size w1 X → CodeAt X 0 ca code) := hA3
  have HH1 : Hid (Ht w1 g cap d) := hH
  clear hb1 hb2 hA3 d4' hH3 hH hi hz0 hz1 hz2
  go_loopw [8] (fun i wr => ∃ (k : Nat), k ≤ code.length ∧ i = .int .i64 k ∧ MkP wr w1.heap.size code.length (HP code d k) ∧ Below w1.heap.size w1 wr) (fun i _ => code.length - (intOf i).toNat)
  case atStart => exact ⟨0, by omega, rfl, hM2, hb3⟩
  case round =>
    obtain ⟨k, hk, rfl, hM, hb⟩ := hrel
    clear hM2 hb3
    by_cases hlt : k < code.length
    case neg =>
      obtain rfl : k = code.length := by omega
      go_wp2_with fail
      refine (sMark_any _ _ _ _ hmost hM).mono ?_
      rintro e w5 ⟨v, rfl, hds, k5⟩
      have hB5 : Below w.heap.size w w5 := (HB1.out.trans (hb.mono hlo)).trans (k5.mono (Nat.le_trans hlo hb.size))
      have hds' : DSl w5 w.heap.size v (lstI (HP code d code.length) code.length) := hds.low (Nat.le_trans hlo hb.size)
      obtain ⟨av, cv, rfl, -⟩ := hds.form
      clear hds k5 hM
      go_wp2
      go_ret
      exact ⟨_, d, rfl, HDD.out, by rw [← HCO.out]; exact hds', hB5⟩
    have hkd : k < d.length := by rw [HLD.out]; exact hlt
    obtain ⟨b4, off4, rfl, -, e1, e2⟩ := HA3.out wr hb k hlt
    have e3 := (HH1.out.mono hb).cell hkd
    have ec := getD_at (code := code) hlt
    have ed : d.getD k (-1) = d[k] := by rw [List.getD_eq_getElem?_getD, List.getElem?_eq_getElem hkd]; rfl
    have hlow := H.low k hkd
    have HED : Hid (isJ code d k ↔ 0 ≤ d[k] ∧ (code[k].1 = 17 ∨ code[k].1 = 18 ∨ code[k].1 = 19)) := by
      show _ ↔ _
      unfold isJ; rw [ed, ec]
      constructor
      · rintro ⟨h1, h2⟩; exact ⟨by omega, h2⟩
      · rintro ⟨h1, h2⟩; exact ⟨by omega, h2⟩
    have HEC : Hid (code.getD k (0, 0) = code[k]) := ec
    obtain ⟨op, hop⟩ : ∃ op, op = code[k].1 := ⟨_, rfl⟩
    obtain ⟨av, hav⟩ : ∃ av, av = code[k].2 := ⟨_, rfl⟩
    obtain ⟨dk, hdk⟩ : ∃ dk, dk = d[k] := ⟨_, rfl⟩
    rw [← hop] at e1
    rw [← hav] at e2
    rw [← hdk] at e3
    rw [← hop, ← hdk] at HED
    have HOP : Hid (code[k].1 = op ∧ code[k].2 = av) := ⟨hop.symm, hav.symm⟩
    clear ec ed hop hav hdk hlow
    have NO : ¬ isJ code d k → ∀ j, j < code.length → (HP code d k j ↔ HP code d (k + 1) j) := fun h j _ => ⟨.inl, fun q => q.elim id (fun q => absurd q.1 h)⟩
    have HNO : Hid (¬ isJ code d k → ∀ j, j < code.length → (HP code d k j ↔ HP code d (k + 1) j)) := NO
    clear NO
    by_cases hz : dk < 0
    · have HJN : Hid (¬ isJ code d k) := fun h => by have := (HED.out.1 h).1; omega
      have hM' := hM.as (HNO.out HJN.out)
      go_wp2
      go_roundw
      case rel => exact ⟨k + 1, by omega, by go_num, hM', hb⟩
      case measure => simp [intOf]; omega
    by_cases hj : op = 17 ∨ op = 18 ∨ op = 19
    case neg =>
      have HJN : Hid (¬ isJ code d k) := fun h => hj (HED.out.1 h).2
      have q1 : (op != 17) = true := by simpa using fun e => hj (.inl e)
      have q2 : (op != 18) = true := by simpa using fun e => hj (.inr (.inl e))
      have q3 : (op != 19) = true := by simpa using fun e => hj (.inr (.inr e))
      have p1 : (op == 17) = false := by simpa using fun e => hj (.inl e)
      have p2 : (op == 18) = false := by simpa using fun e => hj (.inr (.inl e))
      have p3 : (op == 19) = false := by simpa using fun e => hj (.inr (.inr e))
      have hM' := hM.as (HNO.out HJN.out)
      go_wp2
      go_roundw
      case rel => exact ⟨k + 1, by omega, by go_num, hM', hb⟩
      case measure => simp [intOf]; omega
    have HJY : Hid (isJ code d k) := HED.out.2 ⟨by omega, hj⟩
    obtain ⟨g1, g2, g3⟩ := G.jump k hlt HJY.out
    rw [HEC.out, HOP.out.2] at g1 g2
    rw [HEC.out, HOP.out.1] at g3
    obtain ⟨ai, rfl⟩ : ∃ ai : Nat, av = (ai : Int) := ⟨av.toNat, by omega⟩
    have hai : ai < code.length := by omega
    have s1 := hM.cell hai
    have s2 := hM.free ai
    have hM3 := hM.set hai
    have hb3 := hb.setCell (p := ⟨w1.heap.size, ai, none⟩) (Nat.le_refl _) (.bool true)
    have e9 : ∀ (j : Nat), (j : Int) = (code.getD k (0, 0)).2 ↔ j = ai := fun j => by rw [HEC.out, HOP.out.2]; omega
    by_cases hle : ai ≤ k
    case neg =>
      have hM4 : MkP wr w1.heap.size code.length (HP code d (k + 1)) := hM.as (fun j _ => ⟨.inl, fun q => q.elim id (fun ⟨_, q, _⟩ => by rw [HEC.out, HOP.out.2] at q; omega)⟩)
      have HM4 : Hid (MkP wr w1.heap.size code.length (HP code d (k + 1))) := hM4
      clear hM3 hM4 e9 g3 hM
      rcases hj with rfl | rfl | rfl
      all_goals
        go_wp2
        go_roundw
        case rel => exact ⟨k + 1, by omega, by go_num, HM4.out, hb⟩
        case measure => simp [intOf]; omega
    have hM4 : MkP (wr.setCell ⟨w1.heap.size, ai, none⟩ (.bool true)) w1.heap.size code.length (HP code d (k + 1)) := hM3.as (fun j _ => by
      show _ ↔ HP code d k j ∨ (isJ code d k ∧ (code.getD k (0, 0)).2 ≤ k ∧ (j : Int) = (code.getD k (0, 0)).2)
      constructor
      · rintro (h | h)
        · exact .inl h
        · exact .inr ⟨HJY.out, by rw [HEC.out, HOP.out.2]; omega, (e9 j).2 h⟩
      · rintro (h | ⟨-, -, h⟩)
        · exact .inl h
        · exact .inr ((e9 j).1 h))
    have HM4 : Hid (MkP (wr.setCell ⟨w1.heap.size, ai, none⟩ (.bool true)) w1.heap.size code.length (HP code d (k + 1))) := hM4
    clear hM3 hM4 e9 g3 hM
    rcases hj with rfl | rfl | rfl
    all_goals
      go_wp2
      go_roundw
      case rel => exact ⟨k + 1, by omega, by go_num, HM4.out, hb3⟩
      case measure => simp [intOf]; omega
end Go.Proofs.YtcbknjjnphknbaaGreatDoor

namespace Go.Proofs.YtcbknjjnphknbaaGreatDoor
open Go.RowKit

/-- What flowIn is to answer. -/
def FPost (ts : List ByteArray) (fs : List Fn) (f : Int) (e : Ending) : Prop :=
  (∃ (k : Nat) (hk : k < fs.length) (d : List Int), f = k ∧ Good ts fs ∧ Done fs fs[k].code d ∧ e = .returned (.tuple #[fv (flowB (jl fs[k].code d fs[k].code.length)), .bool true])) ∨
  (¬ (Good ts fs ∧ 0 ≤ f ∧ f < fs.length) ∧ e = .returned (.tuple #[fv ((0, 0), (0, 0)), .bool false]))

theorem four_set {W : World} {R : Nat} {x y z u : Value} (h : W.heap[R]? = some (.cells #[.int .u64 0, .int .u64 0, .int .u64 0, .int .u64 0] 117 (0, 0))) : ((((W.setCell ⟨R, 0, none⟩ x).setCell ⟨R, 1, none⟩ y).setCell ⟨R, 2, none⟩ z).setCell ⟨R, 3, none⟩ u).heap[R]? = some (.cells #[x, y, z, u] 117 (0, 0)) := by
  have := block_set (i := 3) (block_set (i := 2) (block_set (i := 1) (block_set (i := 0) h x) y) z) u
  simpa using this

theorem flowOf_at (g cap cc : Nat) (ca : Option Addr) (code : List (Int × Int)) (d : List Int) (w : World) (HJ : JOk code) (hd : d.length = code.length) (hcode : CodeAt w 0 ca code) (hH : Ht w g cap d) (h1c : 0 < code.length) :
    Calls Tryz.prog 47 #[.slice ca code.length cc, .slice (some ⟨g, 0, none⟩) code.length code.length] w fun e w' => ∃ x y z u : Nat, Hid (flowB (jl code d code.length) = ((x, y), (z, u))) ∧ e = .returned (.agg #[.int .u64 (x : Int), .int .u64 (y : Int), .int .u64 (z : Int), .int .u64 (u : Int)]) ∧ Below w.heap.size w w' :=
  (flowOf_any g cap cc ca code d w HJ hd hcode hH h1c).mono fun _ _ ⟨h1, h2⟩ => ⟨_, _, _, _, rfl, h1, h2⟩

end Go.Proofs.YtcbknjjnphknbaaGreatDoor

namespace Go.Proofs.YtcbknjjnphknbaaGreatDoor
open Go.RowKit

/-- What Straight is to tell. -/
def StrP (ts : List ByteArray) (fs : List Fn) (f : Int) : Prop :=
  Good ts fs ∧ ∃ (k : Nat) (hk : k < fs.length) (d : List Int), f = k ∧ Done fs fs[k].code d ∧ (∀ j, j < fs[k].code.length → LP fs[k].code d fs[k].code.length j → j = 0) ∧ (∀ j, j < fs[k].code.length → ¬ HP fs[k].code d fs[k].code.length j) ∧ fs[k].code.length ≤ 24

theorem way_iff {code : List (Int × Int)} {d : List Int} (HJ : JOk code) (G : GJ code d) : flowB (jl code d code.length) = ((1, 0), (0, 0)) ↔ (∀ j, j < code.length → LP code d code.length j → j = 0) ∧ (∀ j, j < code.length → ¬ HP code d code.length j) := by
  have hb := flow_bits (d := d) HJ (Nat.le_refl _)
  have hm := G.most
  have h1 : ∀ j, j < 128 → (bhas (1, 0) j = true ↔ j = 0) := fun j hj => by
    have := bhas_bw (s := (0, 0)) (k := 0) (j := j) (by decide) hj
    rw [show bw (0, 0) 0 = (1, 0) from rfl, bhas_zero, Bool.false_or] at this
    rw [this, decide_eq_true_eq]
    exact eq_comm
  constructor
  · intro e
    rw [e] at hb
    refine ⟨fun j hj h => ?_, fun j hj h => ?_⟩
    · exact (h1 j (by omega)).1 ((hb j (by omega)).1.2 h)
    · have := (hb j (by omega)).2.2 h
      rw [bhas_zero] at this
      cases this
  · rintro ⟨hl, hh⟩
    have ok := flowB_ok (jl code d code.length)
    apply Prod.ext
    · refine bset_ext ok.1 ⟨by decide, by decide⟩ fun j hj => ?_
      rw [Bool.eq_iff_iff, (hb j hj).1, h1 j hj]
      constructor
      · exact fun h => hl j (h.lt G (Nat.le_refl _)) h
      · rintro rfl; exact LP.zero _ _ _
    · refine bset_ext ok.2 ⟨by decide, by decide⟩ fun j hj => ?_
      rw [Bool.eq_iff_iff, (hb j hj).2, bhas_zero]
      constructor
      · exact fun h => absurd h (hh j (h.lt G (Nat.le_refl _)))
      · intro h; cases h

theorem lst_one {P : Nat → Prop} {n : Nat} (h0 : P 0) (hn : 1 ≤ n) : (lst P n).length = 1 ↔ ∀ j, j < n → P j → j = 0 := by
  have hm : 0 ∈ lst P n := mem_lst.2 ⟨by omega, h0⟩
  have hnd : (lst P n).Nodup := List.nodup_range.sublist List.filter_sublist
  constructor
  · intro h j hj hp
    obtain ⟨x, hx⟩ := List.length_eq_one_iff.1 h
    have h2 : j ∈ lst P n := mem_lst.2 ⟨hj, hp⟩
    rw [hx] at hm h2
    simp at hm h2
    omega
  · intro h
    have hall : ∀ x ∈ lst P n, x = 0 := fun x hx => h x (mem_lst.1 hx).1 (mem_lst.1 hx).2
    rcases hl : lst P n with _ | ⟨x, _ | ⟨y, l⟩⟩
    · rw [hl] at hm; simp at hm
    · rfl
    · rw [hl] at hnd hall
      have h1 := hall x (by simp)
      have h2 := hall y (by simp)
      rw [h1, h2] at hnd
      simp at hnd
theorem lst_none {P : Nat → Prop} {n : Nat} : (lst P n).length = 0 ↔ ∀ j, j < n → ¬ P j := by
  rw [List.length_eq_zero_iff]
  constructor
  · intro h j hj hp
    have := mem_lst.2 ⟨hj, hp⟩
    rw [h] at this
    cases this
  · intro h
    rw [List.eq_nil_iff_forall_not_mem]
    intro j hj
    exact h j (mem_lst.1 hj).1 (mem_lst.1 hj).2
theorem lstI_length (P : Nat → Prop) (n : Nat) : (lstI P n).length = (lst P n).length := by simp [lstI]

theorem StrP.iff {ts : List ByteArray} {fs : List Fn} {k : Nat} (hG : Good ts fs) (hk : k < fs.length) {d : List Int} (hD : Done fs fs[k].code d) :
    StrP ts fs k ↔ (∀ j, j < fs[k].code.length → LP fs[k].code d fs[k].code.length j → j = 0) ∧ (∀ j, j < fs[k].code.length → ¬ HP fs[k].code d fs[k].code.length j) ∧ fs[k].code.length ≤ 24 := by
  constructor
  · rintro ⟨-, k', hk', d', e, hd', h⟩
    obtain rfl : k = k' := by omega
    obtain rfl := hD.one hd'
    exact h
  · intro h
    exact ⟨hG, k, hk, d, rfl, hD, h⟩

end Go.Proofs.YtcbknjjnphknbaaGreatDoor

namespace Go.Proofs.YtcbknjjnphknbaaGreatDoor
open Go.RowKit

/-- What is to be answered: the places at which P holds, or nothing. -/
def Ans (P : List (Int × Int) → List Int → Nat → Nat → Prop) (ts : List ByteArray) (fs : List Fn) (f : Int) (l : List Int) : Prop :=
  (Good ts fs ∧ ∃ (k : Nat) (hk : k < fs.length) (d : List Int), f = k ∧ Done fs fs[k].code d ∧ l = lstI (P fs[k].code d fs[k].code.length) fs[k].code.length) ∨ (¬ (Good ts fs ∧ 0 ≤ f ∧ f < fs.length) ∧ l = [])
theorem Ans.one {P : List (Int × Int) → List Int → Nat → Nat → Prop} {ts : List ByteArray} {fs : List Fn} {f : Int} {l l' : List Int} (h : Ans P ts fs f l) (h' : Ans P ts fs f l') : l = l' := by
  rcases h with ⟨hG, k, hk, d, rfl, hD, rfl⟩ | ⟨hn, rfl⟩
  · rcases h' with ⟨-, k', hk', d', e, hD', rfl⟩ | ⟨hn, -⟩
    · obtain rfl : k = k' := by omega
      obtain rfl := hD.one hD'
      rfl
    · exact absurd ⟨hG, by omega, by omega⟩ hn
  · rcases h' with ⟨hG, k', hk', d', rfl, -, -⟩ | ⟨-, rfl⟩
    · exact absurd ⟨hG, by omega, by omega⟩ hn
    · rfl
theorem good_mod {ts : List ByteArray} {fs : List Fn} (hG : Good ts fs) : modB ts fs = true := by
  obtain ⟨f', a', hV⟩ := hG
  rcases hV with ⟨-, h, -⟩ | ⟨hm, -⟩
  · cases h
  · exact hm
theorem Ans.len {P : List (Int × Int) → List Int → Nat → Nat → Prop} {ts : List ByteArray} {fs : List Fn} {f : Int} {l : List Int} (h : Ans P ts fs f l) : l.length ≤ 120 := by
  rcases h with ⟨hG, k, hk, d, rfl, hD, rfl⟩ | ⟨-, rfl⟩
  · have := (fine_of (good_mod hG) hk).most
    have := lstI_len (P fs[k].code d fs[k].code.length) fs[k].code.length
    omega
  · simp

theorem lst_as {P Q : Nat → Prop} {n : Nat} (h : ∀ j, j < n → (P j ↔ Q j)) : lst P n = lst Q n := by
  unfold lst
  apply List.filter_congr
  intro j hj
  have hj' : j < n := by simpa using hj
  simp only [show P j = Q j from propext (h j hj')]
theorem lstI_as {P Q : Nat → Prop} {n m : Nat} (hnm : n ≤ m) (h : ∀ j, j < m → (P j ↔ Q j)) (hq : ∀ j, n ≤ j → ¬ Q j) : lstI P m = lstI Q n := by
  unfold lstI
  rw [lst_as h, lst_to hnm (fun j h1 _ => hq j h1)]
theorem lst_zero : lst (In (0, 0)) 128 = [] := by
  have := lst_to (P := In (0, 0)) (a := 0) (b := 128) (by omega) (fun j _ _ h => by unfold In at h; rw [bhas_zero] at h; cases h)
  rw [this]; rfl

end Go.Proofs.YtcbknjjnphknbaaGreatDoor

namespace Go.Proofs.YtcbknjjnphknbaaGreatDoor
open Go.RowKit

/-- The entries. -/
def EP (code : List (Int × Int)) (d : List Int) (k j : Nat) : Prop := j = 0 ∨ HP code d k j

theorem lst_cons {P : Nat → Prop} {n : Nat} (hn : 1 ≤ n) : lst (fun j => j = 0 ∨ P j) n = 0 :: (lst P n).filter (fun j => decide (j ≠ 0)) := by
  induction n with
  | zero => omega
  | succ n ih =>
    by_cases h0 : n = 0
    · subst h0
      rw [lst_yes (.inl rfl)]
      by_cases hp : P 0
      · rw [lst_yes hp]; simp [lst]
      · rw [lst_no hp]; simp [lst]
    · by_cases hp : P n
      · rw [lst_yes (.inr hp), lst_yes hp, ih (by omega), List.filter_append]
        simp [h0]
      · rw [lst_no (fun q => q.elim h0 hp), lst_no hp, ih (by omega)]
theorem lst_head {P : Nat → Prop} {n : Nat} (hn : 1 ≤ n) (h : P 0) : ∃ l, lst P n = 0 :: l := by
  have := lst_cons (P := P) hn
  rw [lst_as (Q := P) (fun j _ => ⟨fun q => q.elim (fun e => by rw [e]; exact h) id, .inr⟩)] at this
  exact ⟨_, this⟩
theorem lst_ent_yes {P : Nat → Prop} {n : Nat} (h : P 0) : lst (fun j => j = 0 ∨ P j) n = lst P n := lst_as (fun j _ => ⟨fun q => q.elim (fun e => by rw [e]; exact h) id, .inr⟩)
theorem lst_ent_no {P : Nat → Prop} {n : Nat} (hn : 1 ≤ n) (h : ¬ P 0) : lst (fun j => j = 0 ∨ P j) n = 0 :: lst P n := by
  rw [lst_cons hn, List.filter_eq_self.2]
  intro j hj
  have := (mem_lst.1 hj).2
  simp only [decide_eq_true_eq]
  rintro rfl
  exact h this
theorem lstI_first {P : Nat → Prop} {n : Nat} (h : ¬ P 0) : ∀ (h0 : 0 < (lstI P n).length), (lstI P n)[0] ≠ 0 := by
  intro h0 e
  have hm : (lstI P n)[0] ∈ lstI P n := List.getElem_mem _
  rw [e] at hm
  unfold lstI at hm
  obtain ⟨j, hj, hj0⟩ := List.mem_map.1 hm
  obtain rfl : j = 0 := by omega
  exact h (mem_lst.1 hj).2

theorem app_none (W : World) (a p : Option Addr) (n cap c : Nat) (h : n ≤ cap) (ty : TypeId) : (Builtin.append_ #[87, 87] ty #[.slice a n cap, .slice p 0 c]).run Tryz.prog W = .ok (.slice a n cap) W := by
  obtain ⟨i0, hi, hz0, hz1, hz2⟩ := info_parts info3
  cases a <;> cases p <;> simp [Builtin.append_, run_underlying Tryz.underlying87, sizeOf, typeInfo, hi, Builtin.lenOf, Builtin.firstCells, loadCells, loadCellsFrom, storeCells, h]

set_option maxRecDepth 100000 in
set_option maxHeartbeats 2000000 in
theorem sEntries0_any (a1 a2 : Option Addr) (nt c1 c2 : Nat) (fs : List Fn) (f : Nat) (w : World) (hf : f < fs.length) (hn : fs.length ≤ 1048576) (hm : FnsAt w 0 a2 fs) (F : Fine fs fs[f].code) (HG : ∀ d, Done fs fs[f].code d → GJ fs[f].code d) :
    Calls Tryz.prog 35 #[.agg #[.slice a1 nt c1, .slice a2 fs.length c2], .int .i64 f] w fun e w' => ∃ v d, e = .returned v ∧ Done fs fs[f].code d ∧ DSl w' w.heap.size v (lstI (EP fs[f].code d fs[f].code.length) fs[f].code.length) ∧ Below w.heap.size w w' := by
  obtain ⟨i0, hi, hz0, hz1, hz2⟩ := info_parts info3
  have hbA : Below w.heap.size w (w.alloc (.cells #[.slice a1 nt c1, .slice a2 fs.length c2] 35)) := (Below.refl _ _).alloc (Nat.le_refl _) _
  have hone := F.one
  have hmost := F.most
  go_enter Tryz.func35, Tryz.ntmps35
  go_wp2_with fail
  refine (sHeads_any a1 a2 _ _ _ fs f _ hf hn (hm.mono hbA) F HG).mono ?_
  rintro e w1 ⟨v, d, rfl, hD, hds, hb1⟩
  have hB1 := hbA.trans (hb1.mono hbA.size)
  have HD : Hid (Done fs fs[f].code d) := hD
  have hds1 := hds.low hbA.size
  have hlen := lstI_len (HP fs[f].code d fs[f].code.length) fs[f].code.length
  clear hbA hb1 hD hds
  by_cases h0 : HP fs[f].code d fs[f].code.length 0
  · have HE : Hid (lstI (EP fs[f].code d fs[f].code.length) fs[f].code.length = lstI (HP fs[f].code d fs[f].code.length) fs[f].code.length) := by
      show _ = _
      unfold lstI
      exact congrArg _ (lst_ent_yes h0)
    obtain ⟨t, ht⟩ := lst_head hone h0
    have hl : lstI (HP fs[f].code d fs[f].code.length) fs[f].code.length = 0 :: t.map fun (j : Nat) => (j : Int) := by unfold lstI; rw [ht]; rfl
    have hds2 := hds1
    rw [hl] at hds1
    obtain ⟨av, cv, rfl, hI⟩ := hds1.form
    obtain ⟨b, off, rfl, -, hc⟩ := hI 0 (by simp)
    have hc' : w1.cell? ⟨b, off, none⟩ = some (.int .i64 0) := by simpa using hc
    obtain ⟨n1, hn1⟩ : ∃ n1, n1 = (0 :: t.map fun (j : Nat) => (j : Int)).length := ⟨_, rfl⟩
    have hpos : 0 < n1 := by rw [hn1]; simp
    rw [hl, ← hn1] at hlen
    rw [← hn1] at hds2 ⊢
    clear hn1 hl ht hds1 hI hc
    go_wp2
    go_ret
    exact ⟨_, d, rfl, HD.out, by rw [HE.out]; exact hds2, hB1⟩
  have HE : Hid (lstI (EP fs[f].code d fs[f].code.length) fs[f].code.length = 0 :: lstI (HP fs[f].code d fs[f].code.length) fs[f].code.length) := by
    show _ = _
    unfold lstI
    rw [show lst (EP fs[f].code d fs[f].code.length) fs[f].code.length = 0 :: lst (HP fs[f].code d fs[f].code.length) fs[f].code.length from lst_ent_no hone h0]
    rfl
  have hfirst := lstI_first (n := fs[f].code.length) h0
  obtain ⟨L, hL⟩ : ∃ L, L = lstI (HP fs[f].code d fs[f].code.length) fs[f].code.length := ⟨_, rfl⟩
  rw [← hL] at hlen hds1 hfirst HE
  clear hL h0
  have hown0 : (w1.alloc (.cells #[.int .i64 0] 3)).ownsRow w.heap.size 3 1 (.slice (some ⟨w1.heap.size, 0, none⟩) 1 1) 1 [.int .i64 0] := ⟨rfl, .inr ⟨w1.heap.size, 1, #[.int .i64 0], rfl, hB1.size, block_new _ _ _, by omega, by unfold maxLen; omega, rfl, rfl⟩⟩
  rcases hds1 with ⟨rfl, av, cv, rfl⟩ | ⟨g, cv, rfl, hg, hH⟩
  · have ha := fun ty => app_none (w1.alloc (.cells #[.int .i64 0] 3)) (some ⟨w1.heap.size, 0, none⟩) av 1 1 cv (by omega) ty
    have hB2 : Below w.heap.size w (w1.alloc (.cells #[.int .i64 0] 3)) := hB1.alloc hB1.size _
    have hds2 : DSl (w1.alloc (.cells #[.int .i64 0] 3)) w.heap.size (.slice (some ⟨w1.heap.size, 0, none⟩) 1 1) [0] := own_dsl (d := [0]) hown0 rfl
    clear hfirst
    cases av
    all_goals
      go_wp2
      go_ret
      exact ⟨_, d, rfl, HD.out, by rw [HE.out]; exact hds2, hB2⟩
  by_cases hL0 : L = []
  · subst hL0
    have ha := fun ty => app_none (w1.alloc (.cells #[.int .i64 0] 3)) (some ⟨w1.heap.size, 0, none⟩) (some ⟨g, 0, none⟩) 1 1 cv (by omega) ty
    have hB2 : Below w.heap.size w (w1.alloc (.cells #[.int .i64 0] 3)) := hB1.alloc hB1.size _
    have hds2 : DSl (w1.alloc (.cells #[.int .i64 0] 3)) w.heap.size (.slice (some ⟨w1.heap.size, 0, none⟩) 1 1) [0] := own_dsl (d := [0]) hown0 rfl
    clear hfirst
    simp only [List.length_nil] at hlen ⊢
    go_wp2
    go_ret
    exact ⟨_, d, rfl, HD.out, by rw [HE.out]; exact hds2, hB2⟩
  have hpos : 0 < L.length := List.length_pos_iff.2 hL0
  have c0 := hH.cell hpos
  have hf0 := hfirst hpos
  have hf0' : (L[0] == 0) = false := by simpa using hf0
  have hH2 := hH.mono (w' := w1.alloc (.cells #[.int .i64 0] 3)) ((Below.refl _ _).alloc (Nat.le_refl _) _)
  have HNW : Hid (∀ (j : Nat) (u : Value), (L.map (Value.int .i64))[j]? = some u → (w1.alloc (.cells #[.int .i64 0] 3)).cell? ((⟨g, 0, none⟩ : Addr).add j) = some u) := fun j u hu => by
    rw [Go.WideShapes.add_plain, Nat.zero_add]
    simp only [List.getElem?_map, Option.map_eq_some_iff] at hu
    obtain ⟨z, hz, rfl⟩ := hu
    obtain ⟨hj, rfl⟩ := List.getElem?_eq_some_iff.1 hz
    exact hH2.cell hj
  have hB2 : Below w.heap.size w (w1.alloc (.cells #[.int .i64 0] 3)) := hB1.alloc hB1.size _
  have hz2' := hB2.size
  clear hfirst hf0 hH
  go_wp2_with (first | (at_builtin; refine wpList_append_lies _ rfl _ _ 87 rfl w.heap.size 3 i0 (.int .i64 0) 1 8 Tryz.underlying87 hi hz0 hz1 hz2 rfl (by decide) _ _ _ rfl hown0 ⟨g, 0, none⟩ L.length cv (L.map (Value.int .i64)) rfl (by simp) HNW.out (by intro u hu; obtain ⟨z, -, rfl⟩ := List.mem_map.1 hu; rfl) hpos (by unfold maxLen; omega) (by omega) hz2' _ rfl ?_; intro g1 cap w5 hown1 hgrow1 hat1 hlt1))
  have hk1 := Keeps.grown (ts := [3]) hown0 hgrow1 (by simp)
  have hB3 : Below w.heap.size w w5 := hB2.trans (hk1.toBelow hz2')
  have hds2 : DSl w5 w.heap.size (.slice (some ⟨g1, 0, none⟩) (1 + L.length) cap) (0 :: L) := own_dsl (d := 0 :: L) (by simpa using hown1) (by simp; omega)
  go_wp2
  go_ret
  exact ⟨_, d, rfl, HD.out, by rw [HE.out]; exact hds2, hB3⟩

end Go.Proofs.YtcbknjjnphknbaaGreatDoor
