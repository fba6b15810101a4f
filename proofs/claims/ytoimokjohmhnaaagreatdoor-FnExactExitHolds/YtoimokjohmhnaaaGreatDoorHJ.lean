/-
The document's l08Mark, l08Leaders and l08Heads.
What bitSet.told returns: the places that are in a set, rising, in a row of its own.
The document's l08Leaders and l08Heads.
What flowIn and oneWay return.
Straight of both sides.
LeadersOf and HeadsOf of both sides.
LeadersOf, HeadsOf and EntriesOf of the document, and EntriesOf of the program.
What is asked of code that is ok, on plain data.
What the listed tables hold when a law begins: math/bits' and the program's own shapes.
What the document's FastOk answers.
Small functions of the program on code: between, has, isIn, endOp.
-/
import Derived.Test.YtoimokjohmhnaaaGreatDoorHI
import Derived.Maps.AppendAt
import Derived.Test.YtoimokjohmhnaaaGreatDoorHB3
import Derived.RangeFuncBox
import Derived.Deep.RegionHeld3
import Derived.Test.YtoimokjohmhnaaaGreatDoorHA1
import Derived.Test.YtoimokjohmhnaaaGreatDoorHA2
import Derived.Test.YtoimokjohmhnaaaGreatDoorHC
import Derived.Test.YtoimokjohmhnaaaGreatDoorHW2
import Derived.Test.YtoimokjohmhnaaaGreatDoorHX5
import Derived.Test.YtoimokjohmhnaaaGreatDoorRows
import Derived.Lib.LaidTab
import Derived.MakeChecks
import Derived.Stop.LaidErr
namespace Go.Proofs.YtoimokjohmhnaaaGreatDoor
set_option maxRecDepth 100000
open Go.RowKit
theorem infoB : (Tryz.prog.info? 4).map (fun i => (i.zero, i.size, i.bytes)) = some (some (.bool false), 1, 1) := by kernel_rfl
def MkP (w : World) (g n : Nat) (P : Nat → Prop) : Prop := ∃ c : Array Value, w.heap[g]? = some (.cells c 4 (0, 0)) ∧ c.size = n ∧ ∀ j, j < n → c[j]? = some (.bool (pB (P j)))
theorem MkP.mono {w w' : World} {g n : Nat} {P : Nat → Prop} (h : MkP w g n P) (hb : Below w.heap.size w w') : MkP w' g n P := by
 obtain ⟨c, h1, h2, h3⟩ := h
 exact ⟨c, block_kept h1 hb, h2, h3⟩
theorem MkP.cell {w : World} {g n j : Nat} {P : Nat → Prop} (h : MkP w g n P) (hj : j < n) : w.cell? ⟨g, j, none⟩ = some (.bool (pB (P j))) := by
 obtain ⟨c, h1, h2, h3⟩ := h
 rw [block_cell h1]; exact h3 j hj
theorem MkP.free {w : World} {g n : Nat} {P : Nat → Prop} (h : MkP w g n P) (j : Nat) : w.frozen? ⟨g, j, none⟩ = false := by
 obtain ⟨c, h1, -⟩ := h
 exact block_free h1 j
theorem MkP.lt {w : World} {g n : Nat} {P : Nat → Prop} (h : MkP w g n P) : g < w.heap.size := by
 obtain ⟨c, h1, -⟩ := h
 exact lt_block h1
theorem MkP.as {w : World} {g n : Nat} {P Q : Nat → Prop} (h : MkP w g n P) (hq : ∀ j, j < n → (P j ↔ Q j)) : MkP w g n Q := by
 obtain ⟨c, h1, h2, h3⟩ := h
 exact ⟨c, h1, h2, fun j hj => by rw [h3 j hj]; simp only [show P j = Q j from propext (hq j hj)]⟩
theorem MkP.set {w : World} {g n i : Nat} {P : Nat → Prop} (h : MkP w g n P) (hi : i < n) : MkP (w.setCell ⟨g, i, none⟩ (.bool true)) g n (fun j => P j ∨ j = i) := by
 obtain ⟨c, h1, h2, h3⟩ := h
 refine ⟨_, block_set h1 _, by simpa using h2, fun j hj => ?_⟩
 by_cases e : j = i
 ·
  subst e
  rw [set_self _ (by omega), pB_yes (.inr rfl)]
 ·
  rw [set_else _ e, h3 j hj]
  simp only [show (P j ∨ j = i) = P j from propext ⟨fun h => h.elim id (fun h => absurd h e), .inl⟩]
theorem MkP.other {w : World} {g n B i : Nat} {P : Nat → Prop} {v : Value} (h : MkP w g n P) (hne : g ≠ B) : MkP (w.setCell ⟨B, i, none⟩ v) g n P := by
 obtain ⟨c, h1, h2, h3⟩ := h
 exact ⟨c, by rw [Below.heap_setCell _ _ _ _ hne]; exact h1, h2, h3⟩
theorem own_dsl {w : World} {B : Nat} {v : Value} {n : Nat} {d : List Int} (h : w.ownsRow B 3 1 v n (d.map (Value.int .i64))) (hn : n = d.length) : DSl w B v d := by
 by_cases h0 : 0 < n
 ·
  obtain ⟨g, cap, hv, hg, hH⟩ := Ht.own h rfl hn h0
  exact .inr ⟨g, cap, by rw [hv, hn], hg, hH⟩
 ·
  have hd : d = [] := List.eq_nil_of_length_eq_zero (by omega)
  rcases h.2 with ⟨hv, -⟩ | ⟨g, cap, cur, hv, -⟩
  · exact .inl ⟨hd, _, _, by rw [hv]⟩
  · exact .inl ⟨hd, _, _, by rw [hv, show n = 0 by omega]⟩
set_option maxHeartbeats 1000000 in
theorem sMark_any (g n : Nat) (P : Nat → Prop) (w : World) (hn : n ≤ 120) (hM : MkP w g n P) :
  Calls Tryz.prog 200 #[.slice (some ⟨g, 0, none⟩) n n] w fun e w' => ∃ v, e = .returned v ∧ DSl w' w.heap.size v (lstI P n) ∧ Below w.heap.size w w' := by
 obtain ⟨i0, hi, hz0, hz1, hz2⟩ := info_parts info3
 have hE0 : (w.alloc (.cells #[] 3)).ownsRow w.heap.size 3 1 (.slice (some ⟨w.heap.size, 0, none⟩) 0 0) 0 [] := by
  have := World.ownsRow_made (base := w.heap.size) (e := 3) (size := 1) w #[] 0 (Nat.le_refl _) (by unfold maxLen; omega) rfl
  simpa using this
 go_enter Tryz.func200, Tryz.ntmps200
 go_wp2
 go_loopw [3, 4] (fun o i wr => ∃ (k : Nat), k ≤ n ∧ i = .int .i64 k ∧ wr.ownsRow w.heap.size 3 1 o (lstI P k).length ((lstI P k).map (Value.int .i64)) ∧ Below w.heap.size w wr) (fun _ i _ => n - (intOf i).toNat)
 case atStart => exact ⟨0, by omega, rfl, hE0, (Below.refl _ _).alloc (Nat.le_refl _) _⟩
 case round =>
  obtain ⟨k, hk, rfl, hown, hb⟩ := hrel
  clear hE0
  by_cases hlt : k < n
  ·
   have hcl := (hM.mono hb).cell hlt
   have hln := lstI_len P k
   by_cases hp : P k
   ·
    rw [pB_yes hp] at hcl
    have HY : Hid (lstI P (k + 1) = lstI P k ++ [(k : Int)]) := lstI_yes hp
    have hszr := hb.size
    go_wp2_with (first | (at_builtin; refine wpList_append_lies _ rfl _ _ 46 rfl w.heap.size 3 i0 (.int .i64 0) 1 8 Tryz.underlying46 hi hz0 hz1 hz2 rfl (by decide) _ _ _ rfl (World.ownsRow.alloc hown _) ⟨wr.heap.size, 0, none⟩ 1 1 [.int .i64 (k : Int)] rfl rfl (cell_one_new _ _ _) (by intro u hu; simp at hu; subst hu; rfl) (by decide) (by unfold maxLen; omega) (by omega) (by simp; omega) _ rfl ?_; intro g1 cap w1 hown1 hgrow1 hat1 hlt1))
    have hk1 := Keeps.grown (ts := [3]) (World.ownsRow.alloc hown _) hgrow1 (by simp)
    have hb1 : Below w.heap.size w w1 := (hb.alloc hb.size _).trans (hk1.toBelow (by simp; omega))
    go_roundw
    case rel => exact ⟨k + 1, by omega, by go_num, by rw [HY.out]; simpa using hown1, hb1⟩
    case measure => simp [intOf]; omega
   ·
    rw [pB_no hp] at hcl
    have HY : Hid (lstI P (k + 1) = lstI P k) := lstI_no hp
    go_wp2
    go_roundw
    case rel => exact ⟨k + 1, by omega, by go_num, by rw [HY.out]; exact hown, hb⟩
    case measure => simp [intOf]; omega
  ·
   have hkn : k = n := by omega
   subst hkn
   have hds := own_dsl hown rfl
   obtain ⟨a, cap, rfl, -⟩ := hds.form
   go_wp2
   go_ret
   exact ⟨_, rfl, hds, hb⟩
end Go.Proofs.YtoimokjohmhnaaaGreatDoor
namespace Go.Proofs.YtoimokjohmhnaaaGreatDoor
open Go.RowKit Go.Shelf
attribute [local go_sem] Oper.semAt_some
theorem mapI (l : List Nat) : (l.map fun (j : Nat) => (j : Int)).map (Value.int .i64) = l.map fun (j : Nat) => Value.int .i64 (j : Int) := by simp
set_option maxHeartbeats 4000000 in
theorem told_any (x y : Nat) (w : World) (hs : bok (x, y)) (hD : DB w) :
  Calls Tryz.prog 101 #[.agg #[.int .u64 (x : Int), .int .u64 (y : Int)]] w fun e w' => ∃ v, e = .returned v ∧ DSl w' w.heap.size v (lstI (In (x, y)) 128) ∧ Below w.heap.size w w' := by
 have h00 : 1 < w.heap.size := World.block_lt_of_cell? w _ (hD 0 (by decide))
 obtain ⟨i0, hi, hz0, hz1, hz2⟩ := info_parts info3
 refine (callsIn_wide (n := 4)).1 ?_
 refine callsIn_of_wp_marks Tryz.func101 rfl trivial ?_ rfl
 simp only [Tryz.ntmps101, List.size_toArray, List.length_cons, List.length_nil, Nat.reduceAdd, Nat.reduceSub, Array.replicate_succ, Array.replicate_zero, List.push_toArray, List.append_toArray, List.nil_append, List.cons_append]
 gi_wp2
 refine ⟨trivial, ?_⟩
 refine (callsIn_wide.2 (all_any _ _ _)).mono ?_
 rintro e w2 ⟨rfl, rfl⟩
 gi_wp2
 have bO := (Boxed.new (w.alloc (.cells #[.int .u64 (x : Int), .int .u64 (y : Int)] 180)) 46 (.slice none 0 0)).alloc (.cells #[.int .u64 (x : Int), .int .u64 (y : Int)] 180)
 have hN := block_new ((w.alloc (.cells #[.int .u64 (x : Int), .int .u64 (y : Int)] 180)).alloc (.cells #[.slice none 0 0] 46)) #[.int .u64 (x : Int), .int .u64 (y : Int)] 180
 simp only [World.size_alloc] at bO hN
 have hB0 : Below w.heap.size w (((w.alloc (.cells #[.int .u64 (x : Int), .int .u64 (y : Int)] 180)).alloc (.cells #[.slice none 0 0] 46)).alloc (.cells #[.int .u64 (x : Int), .int .u64 (y : Int)] 180)) := (((Below.refl _ w).alloc (Nat.le_refl _) _).alloc (by simp) _).alloc (by simp; omega) _
 obtain ⟨W0, hW0⟩ : ∃ W0, ((w.alloc (.cells #[.int .u64 (x : Int), .int .u64 (y : Int)] 180)).alloc (.cells #[.slice none 0 0] 46)).alloc (.cells #[.int .u64 (x : Int), .int .u64 (y : Int)] 180) = W0 := ⟨_, rfl⟩
 have hsz : W0.heap.size = w.heap.size + 3 := by rw [← hW0]; simp
 rw [hW0] at bO hN hB0 ⊢
 clear hW0
 have hD0 := hD.mono hB0
 refine wpIn_rangeFunc_ownG (α := Nat) rfl (by omega) (gf := 211) (lb := #[.pointer (some ⟨w.heap.size + 1 + 1, 0, none⟩)]) rfl trivial (enters_of Tryz.func211 (by kernel_rfl) rfl)
  (all_stops 3 (by omega) (w.heap.size + 1 + 1) w.heap.size (x, y) hs W0 hN hD0 h00) belowK_t (belowK_b (by omega)) (Below.refl _ _) (fun _ => rfl)
  (fun pre W => (∃ v, Boxed W (w.heap.size + 1) 46 v ∧ W.ownsRow w.heap.size 3 1 v pre.length (pre.map fun (j : Nat) => Value.int .i64 (j : Int)) ∧ True) ∧ Below w.heap.size w W)
  (fun _ _ _ => False)
  (OwnFrom.and (Own.from (holdsRow_own w.heap.size (w.heap.size + 1) 46 3 1 (fun (pre : List Nat) => pre.length) (fun (pre : List Nat) => pre.map fun (j : Nat) => Value.int .i64 (j : Int)) (fun _ _ => True)) _) (ownFrom_below (Nat.le_refl _) (by omega)))
  (fun _ _ _ _ _ hs _ _ => hs)
  ⟨⟨_, bO, World.ownsRow_nil _ _ _ _, trivial⟩, hB0⟩
  (fun j => { tmps := #[.agg #[.int .u64 (x : Int), .int .u64 (y : Int)], .pointer (some ⟨w.heap.size, 0, none⟩), .slice none 0 0, .pointer (some ⟨w.heap.size + 1, 0, none⟩), .int .i64 (j : Int), .agg #[.int .u64 (x : Int), .int .u64 (y : Int)], .func (.func 211) #[] #[.pointer (some ⟨w.heap.size + 1 + 1, 0, none⟩)], .int .i64 (j : Int), undef, undef, undef, undef, undef], defers := [] }) ?assign ?body ?done ?stop
 case assign =>
  intro l j W K hK
  gi_wp2
  exact hK
 case body =>
  rintro l pre j W ⟨⟨v, hv, hrow, -⟩, hB⟩ hlt
  have hc := hv.cell
  gi_wp2_with (gi_at_builtin; refine wpListIn_append_own _ rfl _ _ 46 rfl w.heap.size 3 i0 (.int .i64 0) 1 8 Tryz.underlying46 hi hz0 hz1 hz2 rfl (by decide) _ _ _ rfl (hrow.alloc _) ⟨W.heap.size, 0, none⟩ 1 1 [.int .i64 (j : Int)] rfl rfl (cell_one_new _ _ _) (by simp [Value.oneCell']) (by unfold maxLen; omega) (by omega) (by have := hB.size; simp; omega) ?_; intro v' w1 hown' hgrow _; obtain ⟨g', cap', rfl⟩ := ownsRow_succ hown'; obtain ⟨hv1, hv2, hr2, hk2, hb2⟩ := hv.appended (by decide) hrow hB.size (by omega) hown' hgrow; have hc1 := hv1.cell; have hf1 := hv1.frozen)
  exact ⟨hk2.from _, hb2, ⟨_, hv2, by simpa using hr2, trivial⟩, hB.trans hb2⟩
 case done =>
  rintro D ys W hD' rfl ⟨⟨v, hv, hrow, -⟩, hB⟩ hK
  have hc := hv.cell
  have hrow' := ownsRow_putObj hrow (.deferred none) hK rfl
  gi_wp2
  refine ⟨by simp, .inl ⟨_, _, rfl, run_takeDeferred hK, ?_⟩⟩
  refine ⟨_, results_tmp rfl _ _ _, v, rfl, own_dsl (d := lstI (In (x, y)) 128) (by unfold lstI; rw [mapI]; exact hrow') (by simp [lstI]), hB.trans (belowK_b (w := w) (Nat.le_refl _) W D _ _ (by omega) hK rfl rfl)⟩
 case stop =>
  rintro D c pre W _ _ h _
  exact h.elim
end Go.Proofs.YtoimokjohmhnaaaGreatDoor
namespace Go.Proofs.YtoimokjohmhnaaaGreatDoor
set_option maxRecDepth 100000
open Go.RowKit
theorem madeB {w1 : World} {base g n : Nat} (h : w1.ownsRow base 4 1 (.slice (some ⟨g, 0, none⟩) n n) n (madeCells (Value.bool false).cells (n * 1)).toList) : MkP w1 g n (fun _ => False) := by
 rcases h.2 with ⟨hv, -⟩ | ⟨g', cap, cur, hv, -, hh, -, -, hs, ht⟩
 · cases hv
 ·
  cases hv
  refine ⟨cur, hh, by omega, fun j hj => ?_⟩
  have h1 : (cur.toList.take (n * 1))[j]? = ((madeCells (Value.bool false).cells (n * 1)).toList)[j]? := by rw [ht]
  rw [List.getElem?_take_of_lt (by omega)] at h1
  rw [pB_no (by simp)]
  have h2 : ((madeCells (Value.bool false).cells (n * 1)).toList)[j]? = some (.bool false) := by
   simp [madeCells, Value.cells, hj, Nat.mod_one]
  rw [h2] at h1
  simpa using h1
set_option maxHeartbeats 4000000 in
theorem sHeads_any (a1 a2 : Option Addr) (nt c1 c2 : Nat) (fs : List Fn) (f : Nat) (w : World) (hf : f < fs.length) (hn : fs.length ≤ 1048576) (hm : FnsAt w 0 a2 fs) (F : Fine fs fs[f].code) (HG : ∀ d, Done fs fs[f].code d → GJ fs[f].code d) :
  Calls Tryz.prog 144 #[.agg #[.slice a1 nt c1, .slice a2 fs.length c2], .int .i64 f] w fun e w' => ∃ v d, e = .returned v ∧ Done fs fs[f].code d ∧ DSl w' w.heap.size v (lstI (HP fs[f].code d fs[f].code.length) fs[f].code.length) ∧ Below w.heap.size w w' := by
 obtain ⟨i0, hi, hz0, hz1, hz2⟩ := info_parts infoB
 have hone := F.one
 have hmost := F.most
 have HM : Hid (FnsAt w 0 a2 fs) := hm
 obtain ⟨b, off, ca, cc, rfl, -, d1, d2, d3, d4⟩ := hm f hf
 have hbA : Below w.heap.size w (w.alloc (.cells #[.slice a1 nt c1, .slice (some ⟨b, off, none⟩) fs.length c2] 35)) := (Below.refl _ _).alloc (Nat.le_refl _) _
 have d3' := cell_later hbA d3
 clear d1 d2 d3
 go_enter Tryz.func144, Tryz.ntmps144
 go_wp2_with fail
 refine (sDepths_any a1 _ nt c1 c2 fs f _ hf hn (HM.out.mono hbA) F).mono ?_
 rintro e w1 ⟨g, cap, d, rfl, hg, hD, hH, hb⟩
 have G := HG d hD
 have H := hD.hts F
 have HDD : Hid (Done fs fs[f].code d) := hD
 have hb1 : Below w.heap.size w w1 := hbA.trans (hb.mono hbA.size)
 have d4' := d4.mono hb1
 obtain ⟨code, hcode⟩ : ∃ code, code = fs[f].code := ⟨_, rfl⟩
 rw [← hcode] at F d4' hone hmost G H
 have HCO : Hid (code = fs[f].code) := hcode
 rw [← hcode]
 clear hcode hbA d3' hD hb d4 HG HM
 go_wp2_with (first | (at_make; refine wpList_make_full _ rfl _ _ 302 rfl w1.heap.size 4 i0 (.bool false) 1 Tryz.underlying302 hi hz0 hz1 _ _ _ _ code.length rfl rfl rfl rfl (by rw [hz2]; omega) (by unfold maxLen; omega) (Nat.le_refl _) ?_; intro w2 hown hgrow; have hM0 := madeB hown; have m0 := hM0.cell (j := 0) (by omega); have m1 := hM0.free 0))
 have hbm : Below w1.heap.size w1 w2 := (Below.refl _ _).grown hgrow (Nat.le_refl _) (by intro k hk; cases hk)
 have hH2 := hH.mono hbm
 have d42 := d4'.mono hbm
 have hb2 : Below w.heap.size w w2 := hb1.trans (hbm.mono hb1.size)
 have hlo : w.heap.size ≤ w1.heap.size := hb1.size
 have HLD : Hid (d.length = code.length) := H.len
 have hM1 := hM0
 have hH3 := hH2
 have hA3 : ∀ X : World, Below w1.heap.size w1 X → CodeAt X 0 ca code := fun X h => d4'.mono h
 have hb3 : Below w1.heap.size w1 w2 := hbm
 have hM2 : MkP w2 w1.heap.size code.length (HP code d 0) := hM1.as (fun j _ => by show _ ↔ False; simp)
 clear hM1 hM0 m0 m1 hown hgrow hbm hH2 d42
 have HB1 : Hid (Below w.heap.size w w1) := hb1
 have HA3 : Hid (∀ X : World, Below w1.heap.size w1 X → CodeAt X 0 ca code) := hA3
 have HH1 : Hid (Ht w1 g cap d) := hH
 clear hb1 hb2 hA3 d4' hH3 hH hi hz0 hz1 hz2
 go_loopw [8] (fun i wr => ∃ (k : Nat), k ≤ code.length ∧ i = .int .i64 k ∧ MkP wr w1.heap.size code.length (HP code d k) ∧ Below w1.heap.size w1 wr) (fun i _ => code.length - (intOf i).toNat)
 case atStart => exact ⟨0, by omega, rfl, hM2, hb3⟩
 case round =>
  obtain ⟨k, hk, rfl, hM, hb⟩ := hrel
  clear hM2 hb3
  by_cases hlt : k < code.length
  case neg =>
   obtain rfl : k = code.length := by omega
   go_wp2_with fail
   refine (sMark_any _ _ _ _ hmost hM).mono ?_
   rintro e w5 ⟨v, rfl, hds, k5⟩
   have hB5 : Below w.heap.size w w5 := (HB1.out.trans (hb.mono hlo)).trans (k5.mono (Nat.le_trans hlo hb.size))
   have hds' : DSl w5 w.heap.size v (lstI (HP code d code.length) code.length) := hds.low (Nat.le_trans hlo hb.size)
   obtain ⟨av, cv, rfl, -⟩ := hds.form
   clear hds k5 hM
   go_wp2
   go_ret
   exact ⟨_, d, rfl, HDD.out, by rw [← HCO.out]; exact hds', hB5⟩
  have hkd : k < d.length := by rw [HLD.out]; exact hlt
  obtain ⟨b4, off4, rfl, -, e1, e2⟩ := HA3.out wr hb k hlt
  have e3 := (HH1.out.mono hb).cell hkd
  have ec := getD_at (code := code) hlt
  have ed : d.getD k (-1) = d[k] := by rw [List.getD_eq_getElem?_getD, List.getElem?_eq_getElem hkd]; rfl
  have hlow := H.low k hkd
  have HED : Hid (isJ code d k ↔ 0 ≤ d[k] ∧ (code[k].1 = 17 ∨ code[k].1 = 18 ∨ code[k].1 = 19)) := by
   show _ ↔ _
   unfold isJ; rw [ed, ec]
   constructor
   · rintro ⟨h1, h2⟩; exact ⟨by omega, h2⟩
   · rintro ⟨h1, h2⟩; exact ⟨by omega, h2⟩
  have HEC : Hid (code.getD k (0, 0) = code[k]) := ec
  obtain ⟨op, hop⟩ : ∃ op, op = code[k].1 := ⟨_, rfl⟩
  obtain ⟨av, hav⟩ : ∃ av, av = code[k].2 := ⟨_, rfl⟩
  obtain ⟨dk, hdk⟩ : ∃ dk, dk = d[k] := ⟨_, rfl⟩
  rw [← hop] at e1
  rw [← hav] at e2
  rw [← hdk] at e3
  rw [← hop, ← hdk] at HED
  have HOP : Hid (code[k].1 = op ∧ code[k].2 = av) := ⟨hop.symm, hav.symm⟩
  clear ec ed hop hav hdk hlow
  have NO : ¬ isJ code d k → ∀ j, j < code.length → (HP code d k j ↔ HP code d (k + 1) j) := fun h j _ => ⟨.inl, fun q => q.elim id (fun q => absurd q.1 h)⟩
  have HNO : Hid (¬ isJ code d k → ∀ j, j < code.length → (HP code d k j ↔ HP code d (k + 1) j)) := NO
  clear NO
  by_cases hz : dk < 0
  ·
   have HJN : Hid (¬ isJ code d k) := fun h => by have := (HED.out.1 h).1; omega
   have hM' := hM.as (HNO.out HJN.out)
   go_wp2
   go_roundw
   case rel => exact ⟨k + 1, by omega, by go_num, hM', hb⟩
   case measure => simp [intOf]; omega
  by_cases hj : op = 17 ∨ op = 18 ∨ op = 19
  case neg =>
   have HJN : Hid (¬ isJ code d k) := fun h => hj (HED.out.1 h).2
   have q1 : (op != 17) = true := by simpa using fun e => hj (.inl e)
   have q2 : (op != 18) = true := by simpa using fun e => hj (.inr (.inl e))
   have q3 : (op != 19) = true := by simpa using fun e => hj (.inr (.inr e))
   have p1 : (op == 17) = false := by simpa using fun e => hj (.inl e)
   have p2 : (op == 18) = false := by simpa using fun e => hj (.inr (.inl e))
   have p3 : (op == 19) = false := by simpa using fun e => hj (.inr (.inr e))
   have hM' := hM.as (HNO.out HJN.out)
   go_wp2
   go_roundw
   case rel => exact ⟨k + 1, by omega, by go_num, hM', hb⟩
   case measure => simp [intOf]; omega
  have HJY : Hid (isJ code d k) := HED.out.2 ⟨by omega, hj⟩
  obtain ⟨g1, g2, g3⟩ := G.jump k hlt HJY.out
  rw [HEC.out, HOP.out.2] at g1 g2
  rw [HEC.out, HOP.out.1] at g3
  obtain ⟨ai, rfl⟩ : ∃ ai : Nat, av = (ai : Int) := ⟨av.toNat, by omega⟩
  have hai : ai < code.length := by omega
  have s1 := hM.cell hai
  have s2 := hM.free ai
  have hM3 := hM.set hai
  have hb3 := hb.setCell (p := ⟨w1.heap.size, ai, none⟩) (Nat.le_refl _) (.bool true)
  have e9 : ∀ (j : Nat), (j : Int) = (code.getD k (0, 0)).2 ↔ j = ai := fun j => by rw [HEC.out, HOP.out.2]; omega
  by_cases hle : ai ≤ k
  case neg =>
   have hM4 : MkP wr w1.heap.size code.length (HP code d (k + 1)) := hM.as (fun j _ => ⟨.inl, fun q => q.elim id (fun ⟨_, q, _⟩ => by rw [HEC.out, HOP.out.2] at q; omega)⟩)
   have HM4 : Hid (MkP wr w1.heap.size code.length (HP code d (k + 1))) := hM4
   clear hM3 hM4 e9 g3 hM
   rcases hj with rfl | rfl | rfl
   all_goals
    go_wp2
    go_roundw
    case rel => exact ⟨k + 1, by omega, by go_num, HM4.out, hb⟩
    case measure => simp [intOf]; omega
  have hM4 : MkP (wr.setCell ⟨w1.heap.size, ai, none⟩ (.bool true)) w1.heap.size code.length (HP code d (k + 1)) := hM3.as (fun j _ => by
   show _ ↔ HP code d k j ∨ (isJ code d k ∧ (code.getD k (0, 0)).2 ≤ k ∧ (j : Int) = (code.getD k (0, 0)).2)
   constructor
   ·
    rintro (h | h)
    · exact .inl h
    · exact .inr ⟨HJY.out, by rw [HEC.out, HOP.out.2]; omega, (e9 j).2 h⟩
   ·
    rintro (h | ⟨-, -, h⟩)
    · exact .inl h
    · exact .inr ((e9 j).1 h))
  have HM4 : Hid (MkP (wr.setCell ⟨w1.heap.size, ai, none⟩ (.bool true)) w1.heap.size code.length (HP code d (k + 1))) := hM4
  clear hM3 hM4 e9 g3 hM
  rcases hj with rfl | rfl | rfl
  all_goals
   go_wp2
   go_roundw
   case rel => exact ⟨k + 1, by omega, by go_num, HM4.out, hb3⟩
   case measure => simp [intOf]; omega
end Go.Proofs.YtoimokjohmhnaaaGreatDoor
namespace Go.Proofs.YtoimokjohmhnaaaGreatDoor
open Go.RowKit
def StrP (ts : List ByteArray) (fs : List Fn) (f : Int) : Prop :=
 Good ts fs ∧ ∃ (k : Nat) (hk : k < fs.length) (d : List Int), f = k ∧ Done fs fs[k].code d ∧ (∀ j, j < fs[k].code.length → LP fs[k].code d fs[k].code.length j → j = 0) ∧ (∀ j, j < fs[k].code.length → ¬ HP fs[k].code d fs[k].code.length j) ∧ fs[k].code.length ≤ 24
theorem StrP.iff {ts : List ByteArray} {fs : List Fn} {k : Nat} (hG : Good ts fs) (hk : k < fs.length) {d : List Int} (hD : Done fs fs[k].code d) :
  StrP ts fs k ↔ (∀ j, j < fs[k].code.length → LP fs[k].code d fs[k].code.length j → j = 0) ∧ (∀ j, j < fs[k].code.length → ¬ HP fs[k].code d fs[k].code.length j) ∧ fs[k].code.length ≤ 24 := by
 constructor
 ·
  rintro ⟨-, k', hk', d', e, hd', h⟩
  obtain rfl : k = k' := by omega
  obtain rfl := hD.one hd'
  exact h
 ·
  intro h
  exact ⟨hG, k, hk, d, rfl, hD, h⟩
def Ans (P : List (Int × Int) → List Int → Nat → Nat → Prop) (ts : List ByteArray) (fs : List Fn) (f : Int) (l : List Int) : Prop :=
 (Good ts fs ∧ ∃ (k : Nat) (hk : k < fs.length) (d : List Int), f = k ∧ Done fs fs[k].code d ∧ l = lstI (P fs[k].code d fs[k].code.length) fs[k].code.length) ∨ (¬ (Good ts fs ∧ 0 ≤ f ∧ f < fs.length) ∧ l = [])
theorem Ans.one {P : List (Int × Int) → List Int → Nat → Nat → Prop} {ts : List ByteArray} {fs : List Fn} {f : Int} {l l' : List Int} (h : Ans P ts fs f l) (h' : Ans P ts fs f l') : l = l' := by
 rcases h with ⟨hG, k, hk, d, rfl, hD, rfl⟩ | ⟨hn, rfl⟩
 ·
  rcases h' with ⟨-, k', hk', d', e, hD', rfl⟩ | ⟨hn, -⟩
  ·
   obtain rfl : k = k' := by omega
   obtain rfl := hD.one hD'
   rfl
  · exact absurd ⟨hG, by omega, by omega⟩ hn
 ·
  rcases h' with ⟨hG, k', hk', d', rfl, -, -⟩ | ⟨-, rfl⟩
  · exact absurd ⟨hG, by omega, by omega⟩ hn
  · rfl
theorem good_mod {ts : List ByteArray} {fs : List Fn} (hG : Good ts fs) : modB ts fs = true := by
 obtain ⟨f', a', hV⟩ := hG
 rcases hV with ⟨-, h, -⟩ | ⟨hm, -⟩
 · cases h
 · exact hm
theorem Ans.len {P : List (Int × Int) → List Int → Nat → Nat → Prop} {ts : List ByteArray} {fs : List Fn} {f : Int} {l : List Int} (h : Ans P ts fs f l) : l.length ≤ 120 := by
 rcases h with ⟨hG, k, hk, d, rfl, hD, rfl⟩ | ⟨-, rfl⟩
 ·
  have := (fine_of (good_mod hG) hk).most
  have := lstI_len (P fs[k].code d fs[k].code.length) fs[k].code.length
  omega
 · simp
theorem lst_as {P Q : Nat → Prop} {n : Nat} (h : ∀ j, j < n → (P j ↔ Q j)) : lst P n = lst Q n := by
 unfold lst
 apply List.filter_congr
 intro j hj
 have hj' : j < n := by simpa using hj
 simp only [show P j = Q j from propext (h j hj')]
theorem lstI_as {P Q : Nat → Prop} {n m : Nat} (hnm : n ≤ m) (h : ∀ j, j < m → (P j ↔ Q j)) (hq : ∀ j, n ≤ j → ¬ Q j) : lstI P m = lstI Q n := by
 unfold lstI
 rw [lst_as h, lst_to hnm (fun j h1 _ => hq j h1)]
end Go.Proofs.YtoimokjohmhnaaaGreatDoor
namespace Go.Proofs.YtoimokjohmhnaaaGreatDoor
set_option maxRecDepth 100000
open Go.RowKit
def EP (code : List (Int × Int)) (d : List Int) (k j : Nat) : Prop := j = 0 ∨ HP code d k j
theorem lst_cons {P : Nat → Prop} {n : Nat} (hn : 1 ≤ n) : lst (fun j => j = 0 ∨ P j) n = 0 :: (lst P n).filter (fun j => decide (j ≠ 0)) := by
 induction n with
 | zero => omega
 | succ n ih =>
  by_cases h0 : n = 0
  ·
   subst h0
   rw [lst_yes (.inl rfl)]
   by_cases hp : P 0
   · rw [lst_yes hp]; simp [lst]
   · rw [lst_no hp]; simp [lst]
  ·
   by_cases hp : P n
   ·
    rw [lst_yes (.inr hp), lst_yes hp, ih (by omega), List.filter_append]
    simp [h0]
   · rw [lst_no (fun q => q.elim h0 hp), lst_no hp, ih (by omega)]
theorem lst_head {P : Nat → Prop} {n : Nat} (hn : 1 ≤ n) (h : P 0) : ∃ l, lst P n = 0 :: l := by
 have := lst_cons (P := P) hn
 rw [lst_as (Q := P) (fun j _ => ⟨fun q => q.elim (fun e => by rw [e]; exact h) id, .inr⟩)] at this
 exact ⟨_, this⟩
theorem lst_ent_yes {P : Nat → Prop} {n : Nat} (h : P 0) : lst (fun j => j = 0 ∨ P j) n = lst P n := lst_as (fun j _ => ⟨fun q => q.elim (fun e => by rw [e]; exact h) id, .inr⟩)
theorem lst_ent_no {P : Nat → Prop} {n : Nat} (hn : 1 ≤ n) (h : ¬ P 0) : lst (fun j => j = 0 ∨ P j) n = 0 :: lst P n := by
 rw [lst_cons hn, List.filter_eq_self.2]
 intro j hj
 have := (mem_lst.1 hj).2
 simp only [decide_eq_true_eq]
 rintro rfl
 exact h this
theorem lstI_first {P : Nat → Prop} {n : Nat} (h : ¬ P 0) : ∀ (h0 : 0 < (lstI P n).length), (lstI P n)[0] ≠ 0 := by
 intro h0 e
 have hm : (lstI P n)[0] ∈ lstI P n := List.getElem_mem _
 rw [e] at hm
 unfold lstI at hm
 obtain ⟨j, hj, hj0⟩ := List.mem_map.1 hm
 obtain rfl : j = 0 := by omega
 exact h (mem_lst.1 hj).2
theorem app_none (W : World) (a p : Option Addr) (n cap c : Nat) (h : n ≤ cap) (ty : TypeId) : (Builtin.append_ #[46, 46] ty #[.slice a n cap, .slice p 0 c]).run Tryz.prog W = .ok (.slice a n cap) W := by
 obtain ⟨i0, hi, hz0, hz1, hz2⟩ := info_parts info3
 cases a <;> cases p <;> simp [Builtin.append_, run_underlying Tryz.underlying46, sizeOf, typeInfo, hi, Builtin.lenOf, Builtin.firstCells, loadCells, loadCellsFrom, storeCells, h]
set_option maxHeartbeats 2000000 in
theorem sEntries0_any (a1 a2 : Option Addr) (nt c1 c2 : Nat) (fs : List Fn) (f : Nat) (w : World) (hf : f < fs.length) (hn : fs.length ≤ 1048576) (hm : FnsAt w 0 a2 fs) (F : Fine fs fs[f].code) (HG : ∀ d, Done fs fs[f].code d → GJ fs[f].code d) :
  Calls Tryz.prog 87 #[.agg #[.slice a1 nt c1, .slice a2 fs.length c2], .int .i64 f] w fun e w' => ∃ v d, e = .returned v ∧ Done fs fs[f].code d ∧ DSl w' w.heap.size v (lstI (EP fs[f].code d fs[f].code.length) fs[f].code.length) ∧ Below w.heap.size w w' := by
 obtain ⟨i0, hi, hz0, hz1, hz2⟩ := info_parts info3
 have hbA : Below w.heap.size w (w.alloc (.cells #[.slice a1 nt c1, .slice a2 fs.length c2] 35)) := (Below.refl _ _).alloc (Nat.le_refl _) _
 have hone := F.one
 have hmost := F.most
 go_enter Tryz.func87, Tryz.ntmps87
 go_wp2_with fail
 refine (sHeads_any a1 a2 _ _ _ fs f _ hf hn (hm.mono hbA) F HG).mono ?_
 rintro e w1 ⟨v, d, rfl, hD, hds, hb1⟩
 have hB1 := hbA.trans (hb1.mono hbA.size)
 have HD : Hid (Done fs fs[f].code d) := hD
 have hds1 := hds.low hbA.size
 have hlen := lstI_len (HP fs[f].code d fs[f].code.length) fs[f].code.length
 clear hbA hb1 hD hds
 by_cases h0 : HP fs[f].code d fs[f].code.length 0
 ·
  have HE : Hid (lstI (EP fs[f].code d fs[f].code.length) fs[f].code.length = lstI (HP fs[f].code d fs[f].code.length) fs[f].code.length) := by
   show _ = _
   unfold lstI
   exact congrArg _ (lst_ent_yes h0)
  obtain ⟨t, ht⟩ := lst_head hone h0
  have hl : lstI (HP fs[f].code d fs[f].code.length) fs[f].code.length = 0 :: t.map fun (j : Nat) => (j : Int) := by unfold lstI; rw [ht]; rfl
  have hds2 := hds1
  rw [hl] at hds1
  obtain ⟨av, cv, rfl, hI⟩ := hds1.form
  obtain ⟨b, off, rfl, -, hc⟩ := hI 0 (by simp)
  have hc' : w1.cell? ⟨b, off, none⟩ = some (.int .i64 0) := by simpa using hc
  obtain ⟨n1, hn1⟩ : ∃ n1, n1 = (0 :: t.map fun (j : Nat) => (j : Int)).length := ⟨_, rfl⟩
  have hpos : 0 < n1 := by rw [hn1]; simp
  rw [hl, ← hn1] at hlen
  rw [← hn1] at hds2 ⊢
  clear hn1 hl ht hds1 hI hc
  go_wp2
  go_ret
  exact ⟨_, d, rfl, HD.out, by rw [HE.out]; exact hds2, hB1⟩
 have HE : Hid (lstI (EP fs[f].code d fs[f].code.length) fs[f].code.length = 0 :: lstI (HP fs[f].code d fs[f].code.length) fs[f].code.length) := by
  show _ = _
  unfold lstI
  rw [show lst (EP fs[f].code d fs[f].code.length) fs[f].code.length = 0 :: lst (HP fs[f].code d fs[f].code.length) fs[f].code.length from lst_ent_no hone h0]
  rfl
 have hfirst := lstI_first (n := fs[f].code.length) h0
 obtain ⟨L, hL⟩ : ∃ L, L = lstI (HP fs[f].code d fs[f].code.length) fs[f].code.length := ⟨_, rfl⟩
 rw [← hL] at hlen hds1 hfirst HE
 clear hL h0
 have hown0 : (w1.alloc (.cells #[.int .i64 0] 3)).ownsRow w.heap.size 3 1 (.slice (some ⟨w1.heap.size, 0, none⟩) 1 1) 1 [.int .i64 0] := ⟨rfl, .inr ⟨w1.heap.size, 1, #[.int .i64 0], rfl, hB1.size, block_new _ _ _, by omega, by unfold maxLen; omega, rfl, rfl⟩⟩
 rcases hds1 with ⟨rfl, av, cv, rfl⟩ | ⟨g, cv, rfl, hg, hH⟩
 ·
  have ha := fun ty => app_none (w1.alloc (.cells #[.int .i64 0] 3)) (some ⟨w1.heap.size, 0, none⟩) av 1 1 cv (by omega) ty
  have hB2 : Below w.heap.size w (w1.alloc (.cells #[.int .i64 0] 3)) := hB1.alloc hB1.size _
  have hds2 : DSl (w1.alloc (.cells #[.int .i64 0] 3)) w.heap.size (.slice (some ⟨w1.heap.size, 0, none⟩) 1 1) [0] := own_dsl (d := [0]) hown0 rfl
  clear hfirst
  cases av
  all_goals
   go_wp2
   go_ret
   exact ⟨_, d, rfl, HD.out, by rw [HE.out]; exact hds2, hB2⟩
 by_cases hL0 : L = []
 ·
  subst hL0
  have ha := fun ty => app_none (w1.alloc (.cells #[.int .i64 0] 3)) (some ⟨w1.heap.size, 0, none⟩) (some ⟨g, 0, none⟩) 1 1 cv (by omega) ty
  have hB2 : Below w.heap.size w (w1.alloc (.cells #[.int .i64 0] 3)) := hB1.alloc hB1.size _
  have hds2 : DSl (w1.alloc (.cells #[.int .i64 0] 3)) w.heap.size (.slice (some ⟨w1.heap.size, 0, none⟩) 1 1) [0] := own_dsl (d := [0]) hown0 rfl
  clear hfirst
  simp only [List.length_nil] at hlen ⊢
  go_wp2
  go_ret
  exact ⟨_, d, rfl, HD.out, by rw [HE.out]; exact hds2, hB2⟩
 have hpos : 0 < L.length := List.length_pos_iff.2 hL0
 have c0 := hH.cell hpos
 have hf0 := hfirst hpos
 have hf0' : (L[0] == 0) = false := by simpa using hf0
 have hH2 := hH.mono (w' := w1.alloc (.cells #[.int .i64 0] 3)) ((Below.refl _ _).alloc (Nat.le_refl _) _)
 have HNW : Hid (∀ (j : Nat) (u : Value), (L.map (Value.int .i64))[j]? = some u → (w1.alloc (.cells #[.int .i64 0] 3)).cell? ((⟨g, 0, none⟩ : Addr).add j) = some u) := fun j u hu => by
  rw [Go.WideShapes.add_plain, Nat.zero_add]
  simp only [List.getElem?_map, Option.map_eq_some_iff] at hu
  obtain ⟨z, hz, rfl⟩ := hu
  obtain ⟨hj, rfl⟩ := List.getElem?_eq_some_iff.1 hz
  exact hH2.cell hj
 have hB2 : Below w.heap.size w (w1.alloc (.cells #[.int .i64 0] 3)) := hB1.alloc hB1.size _
 have hz2' := hB2.size
 clear hfirst hf0 hH
 go_wp2_with (first | (at_builtin; refine wpList_append_lies _ rfl _ _ 46 rfl w.heap.size 3 i0 (.int .i64 0) 1 8 Tryz.underlying46 hi hz0 hz1 hz2 rfl (by decide) _ _ _ rfl hown0 ⟨g, 0, none⟩ L.length cv (L.map (Value.int .i64)) rfl (by simp) HNW.out (by intro u hu; obtain ⟨z, -, rfl⟩ := List.mem_map.1 hu; rfl) hpos (by unfold maxLen; omega) (by omega) hz2' _ rfl ?_; intro g1 cap w5 hown1 hgrow1 hat1 hlt1))
 have hk1 := Keeps.grown (ts := [3]) hown0 hgrow1 (by simp)
 have hB3 : Below w.heap.size w w5 := hB2.trans (hk1.toBelow hz2')
 have hds2 : DSl w5 w.heap.size (.slice (some ⟨g1, 0, none⟩) (1 + L.length) cap) (0 :: L) := own_dsl (d := 0 :: L) (by simpa using hown1) (by simp; omega)
 go_wp2
 go_ret
 exact ⟨_, d, rfl, HD.out, by rw [HE.out]; exact hds2, hB3⟩
end Go.Proofs.YtoimokjohmhnaaaGreatDoor
namespace Go.Proofs.YtoimokjohmhnaaaGreatDoor
open Go.RowKit
def zeroV : Vl := ⟨0, 0, ⟨#[]⟩⟩
def zeroS : Si := ⟨0, 0, 0, 0⟩
def Btw (n lo hi : Int) : Prop := lo ≤ n ∧ n ≤ hi
theorem ret_pB {b : Bool} {P : Prop} (h : b = true ↔ P) : Ending.returned (.bool b) = .returned (.bool (pB P)) := by
 by_cases hp : P
 · rw [pB_yes hp, h.2 hp]
 ·
  rw [pB_no hp]
  cases b
  · rfl
  · exact absurd (h.1 rfl) hp
def Reg (n c : Int) : Prop := 0 ≤ n ∧ n < c
def PartP (nf : Nat) (D : FastD) (at' : Int) (p : Nat) (n : Int) : Prop :=
 match p with
 | 0 => n = 0
 | 1 => Reg n D.vals
 | 2 => Reg n D.nums
 | 3 => 0 ≤ n ∧ n ≤ 6
 | 4 => 0 ≤ n ∧ n ≤ 5
 | 5 => Reg n nf
 | 6 => 0 ≤ n ∧ ∃ h : n.toNat < D.ops.length, at' < n ∨ D.ops[n.toNat].op = 25
 | 7 => 1 ≤ n ∧ n ≤ 3
 | 8 => Reg n D.exits.length
 | _ => False
def ConstP (nf : Nat) (p : Nat) (v : Vl) : Prop :=
 match p with
 | 1 => valB v.k v.n v.s nf 0 = true
 | 2 => v.k = 1 ∧ valB v.k v.n v.s nf 0 = true
 | _ => v = zeroV
def shp : List (List Nat) := [[0, 0, 0, 0, 0], [1, 0, 0, 0, 1], [1, 1, 0, 0, 0], [2, 0, 0, 0, 2], [2, 2, 0, 0, 0], [2, 1, 0, 8, 0], [1, 2, 0, 0, 0], [1, 1, 1, 8, 0], [1, 1, 1, 8, 0], [1, 1, 1, 8, 0], [1, 1, 1, 8, 0], [1, 1, 1, 0, 0], [1, 1, 0, 8, 0], [2, 2, 2, 8, 0], [2, 2, 2, 8, 0], [2, 2, 2, 8, 0], [1, 2, 2, 0, 0], [1, 3, 0, 8, 0], [1, 1, 4, 8, 0], [4, 1, 1, 8, 0], [0, 0, 0, 8, 0], [1, 3, 0, 0, 0], [0, 1, 5, 8, 0], [0, 6, 0, 0, 0], [0, 1, 6, 8, 0], [0, 0, 0, 8, 0], [0, 0, 0, 8, 0], [0, 1, 0, 0, 0], [0, 1, 0, 8, 0], [0, 7, 0, 8, 0]]
def sh (op j : Nat) : Nat := (shp.getD op []).getD j 0
set_option maxRecDepth 10000 in
theorem sh_le : ∀ op, op < 30 → ∀ j, j < 5 → sh op j ≤ 8 := by decide
def ShAt (w : World) : Prop := ∀ op j, op < 30 → j < 5 → w.cell? ⟨0, op * 5 + j, none⟩ = some (.int .i64 (sh op j : Nat))
theorem ShAt.mono {w w' : World} (h : ShAt w) (hb : Below w.heap.size w w') : ShAt w' := fun op j h1 h2 => cell_later hb (h op j h1 h2)
def FopP (fs : List Fn) (D : FastD) (at' : Int) (x : Fo) : Prop :=
 (1 ≤ x.op ∧ x.op ≤ 29) ∧ (insD fs x.f x.p).isSome = true ∧ PartP fs.length D at' (sh x.op.toNat 0) x.d ∧ PartP fs.length D at' (sh x.op.toNat 1) x.a ∧ PartP fs.length D at' (sh x.op.toNat 2) x.b ∧
  PartP fs.length D at' (sh x.op.toNat 3) x.x ∧ ConstP fs.length (sh x.op.toNat 4) x.v
def SrcP (nf : Nat) (D : FastD) (nr : Nat) (s : Sr) : Prop :=
 (s.k = 1 ∧ s.n = 0 ∧ valB s.v.k s.v.n s.v.s nf 0 = true) ∨ (s.v = zeroV ∧ ((s.k = 2 ∧ Reg s.n D.vals) ∨ (s.k = 3 ∧ Reg s.n D.nums) ∨ (s.k = 4 ∧ Reg s.n nr)))
def SrcsP (nf : Nat) (D : FastD) (nr : Nat) (l : List Sr) : Prop := ∀ i (h : i < l.length), SrcP nf D nr l[i]
def EFrameP (fs : List Fn) (D : FastD) (nr : Nat) (x : EF) (last : Bool) : Prop := Fits fs x.fn x.pc x.locals.length x.stack.length last ∧ SrcsP fs.length D nr x.locals ∧ SrcsP fs.length D nr x.stack
def ERecP (nf : Nat) (D : FastD) (nr : Nat) (x : ER) : Prop := x.fields.length ≤ 6 ∧ SrcsP nf D nr x.fields
def EGuessP (fs : List Fn) (e : Ex) : Prop := (e.kind = 2 ∧ SpecP fs e.spec) ∨ (e.kind ≠ 2 ∧ e.spec = zeroS)
def ExitP (fs : List Fn) (D : FastD) (e : Ex) : Prop :=
 (1 ≤ e.kind ∧ e.kind ≤ 4) ∧ EGuessP fs e ∧ (1 ≤ e.frames.length ∧ e.frames.length ≤ 4) ∧ (∃ h : 0 < e.frames.length, e.frames[0].fn = D.fn) ∧
  (∀ i (h : i < e.frames.length), EFrameP fs D e.recs.length e.frames[i] (decide ((i : Int) = (e.frames.length : Int) - 1))) ∧ e.recs.length ≤ 60 ∧ ∀ i (h : i < e.recs.length), ERecP fs.length D e.recs.length e.recs[i]
def EntryP (fs : List Fn) (D : FastD) : Prop :=
 0 ≤ D.fn ∧ ∃ h : D.fn.toNat < fs.length, D.entry ∈ lstI (EP fs[D.fn.toNat].code (dep fs fs[D.fn.toNat].code) fs[D.fn.toNat].code.length) fs[D.fn.toNat].code.length ∧
  Btw D.vals (IntKind.i64.wrap (fs[D.fn.toNat].locals + ht fs D.fn D.entry)) 400 ∧ Btw D.nums 0 400
def EndOp (op : Int) : Prop := op = 23 ∨ op = 26 ∨ op = 27
def OpsP (fs : List Fn) (D : FastD) : Prop := (1 ≤ D.ops.length ∧ D.ops.length ≤ 1500) ∧ (∃ h : D.ops.length - 1 < D.ops.length, EndOp D.ops[D.ops.length - 1].op) ∧ ∀ i (h : i < D.ops.length), FopP fs D i D.ops[i]
def ExitsP (fs : List Fn) (D : FastD) : Prop := D.exits.length ≤ 1500 ∧ ∀ i (h : i < D.exits.length), ExitP fs D D.exits[i]
def FastP (ts : List ByteArray) (fs : List Fn) (D : FastD) : Prop := Good ts fs ∧ EntryP fs D ∧ OpsP fs D ∧ ExitsP fs D
end Go.Proofs.YtoimokjohmhnaaaGreatDoor
namespace Go.Proofs.YtoimokjohmhnaaaGreatDoor
set_option maxRecDepth 100000
open Go.RowKit
theorem gTab : Tryz.prog.globalNamed "math/bits.deBruijn64tab" = some 1 := by kernel_rfl
theorem gShp : Tryz.prog.globalNamed "loop.example/g00094/impl.shapes" = some 0 := by kernel_rfl
def dbZ : List Int := dbT.map fun (k : Nat) => (k : Int)
theorem eTab : (Rows.laid_math_bits_deBruijn64tab : DataW Unit) = Lib.tabData .u8 dbZ := by kernel_rfl
theorem eShp : (Rows.laid_loop_example_g00094_impl_shapes : DataW Unit) = .agg (shp.map fun r => .agg (r.map fun (z : Nat) => .lit (.int .i64 (z : Int)))) := by kernel_rfl
theorem dbZ_at (i : Nat) : dbZ.getD i 0 = ((dbT[i]?.getD 0 : Nat) : Int) := by
 unfold dbZ
 rw [List.getD_eq_getElem?_getD, List.getElem?_map]
 cases dbT[i]? <;> rfl
theorem shp_len : shp.length = 30 := by decide
theorem shp_row : ∀ r ∈ shp, r.length = 5 := by decide
theorem cs261 : Tryz.prog.cellsOf 261 = 1 := by kernel_rfl
theorem cs263 : Tryz.prog.cellsOf 263 = 5 := by kernel_rfl
theorem cs264 : Tryz.prog.cellsOf 264 = 150 := by kernel_rfl
theorem cells_of_rows {H : Type} {enc : TypeId × Value → H} {w : World} {base : Nat} {sp : Nat → Bool} {held : Bool} {fuel : Nat} {cs : List Value} {p : List MemPlace}
  (h : DataW.trod enc Tryz.prog w base sp held fuel 264 cs = some (.agg (shp.map fun r => .agg (r.map fun (z : Nat) => .lit (.int .i64 (z : Int)))), p)) : ∀ op j, op < 30 → j < 5 → cs[op * 5 + j]? = some (.int .i64 (sh op j : Nat)) := by
 cases fuel with
 | zero => simp [DataW.trod] at h
 | succ fuel =>
  simp only [DataW.trod, Tryz.underlying264, cs263, cs264] at h
  split at h
  ·
   obtain ⟨xs, hm, hx⟩ := Option.map_eq_some_iff.1 h
   have hxs : xs.map (·.1) = shp.map fun r => (DataW.agg (r.map fun (z : Nat) => .lit (.int .i64 (z : Int))) : DataW H) := by
    have := congrArg Prod.fst hx
    simpa using this
   intro op j hop hj
   obtain ⟨b, hb, hf⟩ := Lib.mapM_at hm op op (by simp [hop])
   have h2 : (xs.map (·.1))[op]? = some b.1 := by simp [hb]
   rw [hxs, List.getElem?_map] at h2
   obtain ⟨r, hr⟩ : ∃ r, shp[op]? = some r := ⟨_, List.getElem?_eq_getElem (by rw [shp_len]; exact hop)⟩
   rw [hr] at h2
   have hb1 : b.1 = DataW.agg (r.map fun (z : Nat) => .lit (.int .i64 (z : Int))) := by simpa using h2.symm
   have hrl : r.length = 5 := shp_row _ (List.mem_of_getElem? hr)
   obtain ⟨ys, n', _, rfl, _, hyl, hg⟩ := DataW.trod_struct Tryz.underlying263 hf
   have hys : ys.map (·.1) = r.map fun (z : Nat) => (DataW.lit (.int .i64 (z : Int)) : DataW H) := by simpa using hb1
   have hsh : sh op j = r[j]'(by omega) := by
    unfold sh
    rw [List.getD_eq_getElem?_getD, List.getD_eq_getElem?_getD, hr, Option.getD_some, List.getElem?_eq_getElem (by omega), Option.getD_some]
   have key : ∀ y, ys[j]? = some y → y.1 = DataW.lit (.int .i64 ((sh op j : Nat) : Int)) := fun y hy => by
    have h3 : (ys.map (·.1))[j]? = some y.1 := by simp [hy]
    rw [hys, List.getElem?_map, List.getElem?_eq_getElem (by omega)] at h3
    rw [hsh]
    simpa using h3.symm
   have hyl5 : ys.length = 5 := hyl
   have fin : ∀ y, ys[j]? = some y → DataW.trod enc Tryz.prog w base sp held n' 261 ((((cs.drop (op * 5)).take 5).drop j).take 1) = some y → cs[op * 5 + j]? = some (.int .i64 (sh op j : Nat)) := fun y hy ht => by
    obtain ⟨z, hc, rfl, _⟩ := DataW.trod_int Tryz.underlying261 ht
    have h4 := key _ hy
    simp at h4
    have h5 := congrArg (·[0]?) hc
    simp [List.getElem?_drop, hj] at h5
    rw [h5, h4]
   have yj : ys[j]? = some (ys[j]'(by omega)) := List.getElem?_eq_getElem (by omega)
   have hj5 : j = 0 ∨ j = 1 ∨ j = 2 ∨ j = 3 ∨ j = 4 := by omega
   rcases hj5 with rfl | rfl | rfl | rfl | rfl
   · exact fin _ yj (by rw [← yj]; simpa [cs261] using hg 0 _ rfl)
   · exact fin _ yj (by rw [← yj]; simpa [cs261] using hg 1 _ rfl)
   · exact fin _ yj (by rw [← yj]; simpa [cs261] using hg 2 _ rfl)
   · exact fin _ yj (by rw [← yj]; simpa [cs261] using hg 3 _ rfl)
   · exact fin _ yj (by rw [← yj]; simpa [cs261] using hg 4 _ rfl)
  · cases h
theorem of_laid {L : List (String × DataW Unit)} {W : World} (hL : L = [("math/bits.deBruijn64tab", Rows.laid_math_bits_deBruijn64tab), ("loop.example/g00094/impl.shapes", Rows.laid_loop_example_g00094_impl_shapes)]) (h : laidMetH Tryz.prog L W) : ShAt W ∧ DB W := by
 subst hL
 rw [MakeChecks.laidMetH_plain _ _ _ (by kernel_rfl)] at h
 rw [eTab, eShp] at h
 have ht := Lib.tabIs_of_head gTab (t := 342) (e := 5) (by kernel_rfl) Tryz.underlying342 Tryz.underlying5 (by kernel_rfl) (by kernel_rfl) h
 refine ⟨?_, fun i hi => ?_⟩
 ·
  obtain ⟨ps, ⟨g, t, cs, fuel, p, q, hg, ht, hvar, hd, _, _⟩, _⟩ := h.tail
  obtain rfl := Option.some.inj (gShp.symm.trans hg)
  obtain rfl := Option.some.inj ((show (Tryz.prog.globals[0]?).map (·.type) = some 264 by kernel_rfl).symm.trans ht)
  intro op j h1 h2
  have := World.var?_cell hg hvar (op * 5 + j)
  rw [this]
  have := cells_of_rows hd op j h1 h2
  simpa using this
 ·
  have := ht.cell gTab i hi
  rw [this, dbZ_at]
end Go.Proofs.YtoimokjohmhnaaaGreatDoor
namespace Go.Proofs.YtoimokjohmhnaaaGreatDoor
open Go.RowKit
def SFast : Prop := ∀ (a1 a2 oa ea : Option Addr) (c1 c2 oc ec : Nat) (ts : List ByteArray) (fs : List Fn) (D : FastD) (w : World), Small ts fs → FastSmall D → StrsAt w 0 a1 ts → FnsAt w 0 a2 fs → FastAt w 0 oa ea D →
 Calls Tryz.prog 8 #[.agg #[.slice a1 ts.length c1, .slice a2 fs.length c2], .agg (fastCells oa ea oc ec D)] w fun e w' => e = .returned (.bool (pB (FastP ts fs D))) ∧ Below w.heap.size w w'
end Go.Proofs.YtoimokjohmhnaaaGreatDoor
namespace Go.Proofs.YtoimokjohmhnaaaGreatDoor
set_option maxRecDepth 100000
open Go.RowKit
set_option maxHeartbeats 400000 in
theorem iBetween_any (n lo hi : Int) (w : World) :
  Calls Tryz.prog 102 #[.int .i64 n, .int .i64 lo, .int .i64 hi] w fun e w' => e = .returned (.bool (pB (Btw n lo hi))) ∧ w' = w := by
 by_cases h1 : lo ≤ n
 ·
  by_cases h2 : n ≤ hi
  ·
   go_enter Tryz.func102, Tryz.ntmps102
   go_wp2
   go_ret
   exact ⟨ret_bool (pB_yes ⟨h1, h2⟩).symm, rfl⟩
  ·
   go_enter Tryz.func102, Tryz.ntmps102
   go_wp2
   go_ret
   exact ⟨ret_bool (pB_no (fun h => by have a := h.1; have b := h.2; omega)).symm, rfl⟩
 ·
  go_enter Tryz.func102, Tryz.ntmps102
  go_wp2
  go_ret
  exact ⟨ret_bool (pB_no (fun h => by have a := h.1; have b := h.2; omega)).symm, rfl⟩
set_option maxHeartbeats 400000 in
theorem hasFunc_any (a : Option Addr) (n cap : Nat) (i : Int) (w : World) :
  Calls Tryz.prog 97 #[.slice a n cap, .int .i64 i] w fun e w' => e = .returned (.bool (pB (Reg i n))) ∧ w' = w := by
 by_cases h1 : 0 ≤ i
 ·
  by_cases h2 : i < (n : Int)
  ·
   go_enter Tryz.func97, Tryz.ntmps97
   go_wp2
   go_ret
   exact ⟨ret_bool (pB_yes ⟨h1, h2⟩).symm, rfl⟩
  ·
   go_enter Tryz.func97, Tryz.ntmps97
   go_wp2
   go_ret
   exact ⟨ret_bool (pB_no (fun h => by have a := h.1; have b := h.2; omega)).symm, rfl⟩
 ·
  go_enter Tryz.func97, Tryz.ntmps97
  go_wp2
  go_ret
  exact ⟨ret_bool (pB_no (fun h => by have a := h.1; have b := h.2; omega)).symm, rfl⟩
set_option maxHeartbeats 400000 in
theorem hasFOp_any (a : Option Addr) (n cap : Nat) (i : Int) (w : World) :
  Calls Tryz.prog 215 #[.slice a n cap, .int .i64 i] w fun e w' => e = .returned (.bool (pB (Reg i n))) ∧ w' = w := by
 by_cases h1 : 0 ≤ i
 ·
  by_cases h2 : i < (n : Int)
  ·
   go_enter Tryz.func215, Tryz.ntmps215
   go_wp2
   go_ret
   exact ⟨ret_bool (pB_yes ⟨h1, h2⟩).symm, rfl⟩
  ·
   go_enter Tryz.func215, Tryz.ntmps215
   go_wp2
   go_ret
   exact ⟨ret_bool (pB_no (fun h => by have a := h.1; have b := h.2; omega)).symm, rfl⟩
 ·
  go_enter Tryz.func215, Tryz.ntmps215
  go_wp2
  go_ret
  exact ⟨ret_bool (pB_no (fun h => by have a := h.1; have b := h.2; omega)).symm, rfl⟩
set_option maxHeartbeats 400000 in
theorem hasExit_any (a : Option Addr) (n cap : Nat) (i : Int) (w : World) :
  Calls Tryz.prog 114 #[.slice a n cap, .int .i64 i] w fun e w' => e = .returned (.bool (pB (Reg i n))) ∧ w' = w := by
 by_cases h1 : 0 ≤ i
 ·
  by_cases h2 : i < (n : Int)
  ·
   go_enter Tryz.func114, Tryz.ntmps114
   go_wp2
   go_ret
   exact ⟨ret_bool (pB_yes ⟨h1, h2⟩).symm, rfl⟩
  ·
   go_enter Tryz.func114, Tryz.ntmps114
   go_wp2
   go_ret
   exact ⟨ret_bool (pB_no (fun h => by have a := h.1; have b := h.2; omega)).symm, rfl⟩
 ·
  go_enter Tryz.func114, Tryz.ntmps114
  go_wp2
  go_ret
  exact ⟨ret_bool (pB_no (fun h => by have a := h.1; have b := h.2; omega)).symm, rfl⟩
set_option maxHeartbeats 400000 in
theorem hasExRec_any (a : Option Addr) (n cap : Nat) (i : Int) (w : World) :
  Calls Tryz.prog 249 #[.slice a n cap, .int .i64 i] w fun e w' => e = .returned (.bool (pB (Reg i n))) ∧ w' = w := by
 by_cases h1 : 0 ≤ i
 ·
  by_cases h2 : i < (n : Int)
  ·
   go_enter Tryz.func249, Tryz.ntmps249
   go_wp2
   go_ret
   exact ⟨ret_bool (pB_yes ⟨h1, h2⟩).symm, rfl⟩
  ·
   go_enter Tryz.func249, Tryz.ntmps249
   go_wp2
   go_ret
   exact ⟨ret_bool (pB_no (fun h => by have a := h.1; have b := h.2; omega)).symm, rfl⟩
 ·
  go_enter Tryz.func249, Tryz.ntmps249
  go_wp2
  go_ret
  exact ⟨ret_bool (pB_no (fun h => by have a := h.1; have b := h.2; omega)).symm, rfl⟩
set_option maxHeartbeats 400000 in
theorem endOp_any (op : Int) (w : World) :
  Calls Tryz.prog 103 #[.int .i64 op] w fun e w' => e = .returned (.bool (pB (EndOp op))) ∧ w' = w := by
 by_cases h1 : op = 23
 ·
  subst h1
  go_enter Tryz.func103, Tryz.ntmps103
  go_wp2
  go_ret
  exact ⟨ret_bool (pB_yes (.inl rfl)).symm, rfl⟩
 by_cases h2 : op = 26
 ·
  subst h2
  go_enter Tryz.func103, Tryz.ntmps103
  go_wp2
  go_ret
  exact ⟨ret_bool (pB_yes (.inr (.inl rfl))).symm, rfl⟩
 by_cases h3 : op = 27
 ·
  subst h3
  go_enter Tryz.func103, Tryz.ntmps103
  go_wp2
  go_ret
  exact ⟨ret_bool (pB_yes (.inr (.inr rfl))).symm, rfl⟩
 ·
  go_enter Tryz.func103, Tryz.ntmps103
  go_wp2
  go_ret
  exact ⟨ret_bool (pB_no (fun h => h.elim h1 (fun h => h.elim h2 h3))).symm, rfl⟩
set_option maxHeartbeats 400000 in
theorem countV_any (oa ea : Option Addr) (oc ec : Nat) (D : FastD) (w : World) :
  Calls Tryz.prog 272 #[.agg #[], .agg #[.int .i64 D.fn, .int .i64 D.entry, .int .i64 D.vals, .int .i64 D.nums, .slice oa D.ops.length oc, .slice ea D.exits.length ec]] w fun e w' => e = .returned (.int .i64 D.vals) ∧ Below w.heap.size w w' := by
 go_enter Tryz.func272, Tryz.ntmps272
 go_wp2
 go_ret
 exact ⟨rfl, ((Below.refl _ _).alloc (Nat.le_refl _) _).alloc (by simp) _⟩
set_option maxHeartbeats 1000000 in
theorem isInV_any (oa ea : Option Addr) (oc ec : Nat) (D : FastD) (n : Int) (w : World) :
  Calls Tryz.prog 213 #[.int .i64 n, .agg #[.int .i64 D.fn, .int .i64 D.entry, .int .i64 D.vals, .int .i64 D.nums, .slice oa D.ops.length oc, .slice ea D.exits.length ec]] w fun e w' => e = .returned (.bool (pB (Reg n D.vals))) ∧ Below w.heap.size w w' := by
 have m1 : ∀ (v : Value) (W : World), (Go.method 485 317 v "loop.example/g00094/impl.countIn").run Tryz.prog W = .ok (272, v) W := fun _ _ => by kernel_rfl
 have hbA : Below w.heap.size w ((w.alloc (.cells #[.int .i64 D.fn, .int .i64 D.entry, .int .i64 D.vals, .int .i64 D.nums, .slice oa D.ops.length oc, .slice ea D.exits.length ec] 40)).alloc (.cells #[] 317)) := ((Below.refl _ _).alloc (Nat.le_refl _) _).alloc (by simp) _
 by_cases h1 : 0 ≤ n
 ·
  by_cases h2 : n < D.vals
  ·
   go_enter Tryz.func213, Tryz.ntmps213
   go_wp2_with (go_at_call 272; refine (countV_any _ _ _ _ _ _).mono ?_; rintro e w1 ⟨rfl, hb⟩)
   go_ret
   exact ⟨ret_bool (pB_yes ⟨h1, h2⟩).symm, hbA.trans (hb.mono hbA.size)⟩
  ·
   go_enter Tryz.func213, Tryz.ntmps213
   go_wp2_with (go_at_call 272; refine (countV_any _ _ _ _ _ _).mono ?_; rintro e w1 ⟨rfl, hb⟩)
   go_ret
   exact ⟨ret_pB (by simp [Reg]; omega), hbA.trans (hb.mono hbA.size)⟩
 ·
  go_enter Tryz.func213, Tryz.ntmps213
  go_wp2
  go_ret
  exact ⟨ret_bool (pB_no (fun h => by have a := h.1; have b := h.2; omega)).symm, hbA⟩
set_option maxHeartbeats 400000 in
theorem countN_any (oa ea : Option Addr) (oc ec : Nat) (D : FastD) (w : World) :
  Calls Tryz.prog 275 #[.agg #[], .agg #[.int .i64 D.fn, .int .i64 D.entry, .int .i64 D.vals, .int .i64 D.nums, .slice oa D.ops.length oc, .slice ea D.exits.length ec]] w fun e w' => e = .returned (.int .i64 D.nums) ∧ Below w.heap.size w w' := by
 go_enter Tryz.func275, Tryz.ntmps275
 go_wp2
 go_ret
 exact ⟨rfl, ((Below.refl _ _).alloc (Nat.le_refl _) _).alloc (by simp) _⟩
set_option maxHeartbeats 1000000 in
theorem isInN_any (oa ea : Option Addr) (oc ec : Nat) (D : FastD) (n : Int) (w : World) :
  Calls Tryz.prog 214 #[.int .i64 n, .agg #[.int .i64 D.fn, .int .i64 D.entry, .int .i64 D.vals, .int .i64 D.nums, .slice oa D.ops.length oc, .slice ea D.exits.length ec]] w fun e w' => e = .returned (.bool (pB (Reg n D.nums))) ∧ Below w.heap.size w w' := by
 have m1 : ∀ (v : Value) (W : World), (Go.method 485 319 v "loop.example/g00094/impl.countIn").run Tryz.prog W = .ok (275, v) W := fun _ _ => by kernel_rfl
 have hbA : Below w.heap.size w ((w.alloc (.cells #[.int .i64 D.fn, .int .i64 D.entry, .int .i64 D.vals, .int .i64 D.nums, .slice oa D.ops.length oc, .slice ea D.exits.length ec] 40)).alloc (.cells #[] 319)) := ((Below.refl _ _).alloc (Nat.le_refl _) _).alloc (by simp) _
 by_cases h1 : 0 ≤ n
 ·
  by_cases h2 : n < D.nums
  ·
   go_enter Tryz.func214, Tryz.ntmps214
   go_wp2_with (go_at_call 275; refine (countN_any _ _ _ _ _ _).mono ?_; rintro e w1 ⟨rfl, hb⟩)
   go_ret
   exact ⟨ret_bool (pB_yes ⟨h1, h2⟩).symm, hbA.trans (hb.mono hbA.size)⟩
  ·
   go_enter Tryz.func214, Tryz.ntmps214
   go_wp2_with (go_at_call 275; refine (countN_any _ _ _ _ _ _).mono ?_; rintro e w1 ⟨rfl, hb⟩)
   go_ret
   exact ⟨ret_pB (by simp [Reg]; omega), hbA.trans (hb.mono hbA.size)⟩
 ·
  go_enter Tryz.func214, Tryz.ntmps214
  go_wp2
  go_ret
  exact ⟨ret_bool (pB_no (fun h => by have a := h.1; have b := h.2; omega)).symm, hbA⟩
end Go.Proofs.YtoimokjohmhnaaaGreatDoor
