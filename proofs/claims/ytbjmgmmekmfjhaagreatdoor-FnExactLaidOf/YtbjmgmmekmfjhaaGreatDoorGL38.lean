/-
What spec.LaidOf returns.
What the laws' functions over slices of numbers (eqIntS, markIntS, heldIntS) return.
-/
import Derived.Test.YtbjmgmmekmfjhaaGreatDoorGL37
import Derived.Test.YtbjmgmmekmfjhaaGreatDoorGL22
import Derived.Test.YtbjmgmmekmfjhaaGreatDoorGL23
import Derived.Test.YtbjmgmmekmfjhaaGreatDoorGL11
set_option maxRecDepth 100000
namespace Go.Proofs.YtbjmgmmekmfjhaaGreatDoor
open Go.RowKit
theorem lst_asc (P : Nat → Prop) (n : Nat) : (lstI P n).Pairwise (· < ·) := by
 unfold lstI lst
 rw [List.pairwise_map]
 exact (List.Pairwise.filter _ List.pairwise_lt_range).imp (fun {a b} (h : a < b) => by omega)
theorem lst_mem (P : Nat → Prop) (n : Nat) (x : Int) : x ∈ lstI P n ↔ ∃ j, j < n ∧ P j ∧ x = (j : Int) := by
 unfold lstI lst
 simp only [List.mem_map, List.mem_filter, List.mem_range]
 constructor
 ·
  rintro ⟨j, ⟨h1, h2⟩, rfl⟩
  exact ⟨j, h1, Classical.byContradiction (fun q => by rw [pB_no q] at h2; cases h2), rfl⟩
 ·
  rintro ⟨j, h1, h2, rfl⟩
  exact ⟨j, ⟨h1, pB_yes h2⟩, rfl⟩
theorem laidE_in {fs : List Fn} {D : FastD} {e : Ex} (h : ExitP fs D e) (x : Int) (hx : x ∈ laidE e) : 0 ≤ x ∧ x < (fs.length : Int) := by
 unfold laidE at hx
 obtain ⟨y, hy, rfl⟩ := List.mem_map.1 hx
 obtain ⟨i, hi, rfl⟩ := List.getElem_of_mem (List.mem_of_mem_drop hy)
 have := (h.2.2.2.2.1 i hi).1
 exact ⟨this.1, this.2.1⟩
theorem laidL_in {ts : List ByteArray} {fs : List Fn} {D : FastD} (h : FastP ts fs D) (x : Int) (hx : x ∈ laidL D) : 0 ≤ x ∧ x < (fs.length : Int) := by
 unfold laidL at hx
 obtain ⟨l, hl, hx⟩ := List.mem_flatten.1 hx
 obtain ⟨e, he, rfl⟩ := List.mem_map.1 hl
 obtain ⟨i, hi, rfl⟩ := List.getElem_of_mem he
 exact laidE_in (fast_exit h i hi) x hx
theorem good_few {ts : List ByteArray} {fs : List Fn} (h : Good ts fs) : fs.length ≤ 12 := by
 have := good_mod h
 unfold modB at this
 simp only [Bool.and_eq_true, decide_eq_true_eq] at this
 exact this.1.1.1.2
set_option maxHeartbeats 4000000 in
theorem sL10Laid_any (a1 a2 oa ea : Option Addr) (c1 c2 oc ec : Nat) (ts : List ByteArray) (fs : List Fn) (D : FastD) (w : World) (hP : FastP ts fs D) (hf : FastAt w 0 oa ea D) :
  Calls Tryz.prog 67 #[.agg #[.slice a1 ts.length c1, .slice a2 fs.length c2], .agg #[.int .i64 D.fn, .int .i64 D.entry, .int .i64 D.vals, .int .i64 D.nums, .slice oa D.ops.length oc, .slice ea D.exits.length ec]] w fun e w' => ∃ v S, e = .returned v ∧ LaidA ts fs D S ∧ DSl w' w.heap.size v S ∧ Below w.heap.size w w' := by
 have hfl : fs.length ≤ 12 := good_few hP.1
 have hel : D.exits.length ≤ 1500 := hP.2.2.2.1
 have HP : Hid (FastP ts fs D) := hP
 clear hP
 obtain ⟨w0, hw0⟩ : ∃ w0, w0 = (w.alloc (.cells #[.slice a1 ts.length c1, .slice a2 fs.length c2] 36)).alloc (.cells #[.int .i64 D.fn, .int .i64 D.entry, .int .i64 D.vals, .int .i64 D.nums, .slice oa D.ops.length oc, .slice ea D.exits.length ec] 41) := ⟨_, rfl⟩
 have hb0 : Below w.heap.size w w0 := by rw [hw0]; exact ((Below.refl _ _).alloc (Nat.le_refl _) _).alloc (by simp) _
 have hF0 : w0.heap[w.heap.size + 1]? = some (.cells #[.int .i64 D.fn, .int .i64 D.entry, .int .i64 D.vals, .int .i64 D.nums, .slice oa D.ops.length oc, .slice ea D.exits.length ec] 41 (0, 0)) := by rw [hw0]; exact block_new_at _ _ _ _ (by simp)
 have hM0 : w0.heap[w.heap.size]? = some (.cells #[.slice a1 ts.length c1, .slice a2 fs.length c2] 36 (0, 0)) := by rw [hw0]; exact block_old (block_new _ _ _) _
 obtain ⟨i0, hi, hz0, hz1, hz2⟩ := info_parts infoB
 go_enter Tryz.func67, Tryz.ntmps67
 have m1 := block_cell hM0
 go_upto_region 1 with fail
 rw [← hw0]
 clear hw0
 go_wp2_with (first | (at_make; refine wpList_make_full _ rfl _ _ 190 rfl w0.heap.size 4 i0 (.bool false) 1 Tryz.underlying190 hi hz0 hz1 _ _ _ _ fs.length rfl rfl rfl rfl (by rw [hz2]; omega) (by unfold maxLen; omega) (Nat.le_refl _) ?_; intro w1 hown hgrow; have hM1 := madeB hown))
 have hb1 : Below w0.heap.size w0 w1 := (Below.refl _ _).grown hgrow (Nat.le_refl _) (by intro k hk; cases hk)
 obtain ⟨gm, hgm⟩ : ∃ gm, gm = w0.heap.size := ⟨_, rfl⟩
 rw [← hgm] at hM1 ⊢
 have hzg : w.heap.size + 1 < gm := by rw [hgm]; exact lt_block hF0
 have hF1 := block_kept hF0 hb1
 have hB1 := hb0.trans (hb1.mono hb0.size)
 clear hown hgrow hi hz0 hz1 hz2 hgm hb0 hb1 hF0 hM0 m1
 go_loopw [6] (fun i wr => ∃ (k : Nat), k ≤ D.exits.length ∧ i = .int .i64 k ∧ Hid (MkP wr gm fs.length (fun j => (j : Int) ∈ laidT D k)) ∧ Hid (wr.heap[w.heap.size + 1]? = some (.cells #[.int .i64 D.fn, .int .i64 D.entry, .int .i64 D.vals, .int .i64 D.nums, .slice oa D.ops.length oc, .slice ea D.exits.length ec] 41 (0, 0))) ∧ Hid (Below w.heap.size w wr)) (fun i _ => D.exits.length - (intOf i).toNat)
 case atStart => exact ⟨0, by omega, rfl, hM1.as (fun j _ => by simp [laidT_zero]), hF1, hB1⟩
 case round =>
  obtain ⟨k, hk, rfl, HM, HF, HB⟩ := hrel
  clear hM1 hF1 hB1
  have y1 := block_cell HF.out
  by_cases hlt : k < D.exits.length
  case neg =>
   obtain rfl : k = D.exits.length := by omega
   have z2 : ¬ (D.exits.length : Int) < (D.exits.length : Int) := by omega
   have hmk := sMark_any gm fs.length _ wr (by omega) HM.out
   go_wp2_with fail
   refine hmk.mono ?_
   clear hmk
   rintro e w2 ⟨v, rfl, hD, hb⟩
   have HR : Hid (LaidA ts fs D (lstI (fun j => (j : Int) ∈ laidT D D.exits.length) fs.length) ∧ DSl w2 w.heap.size v (lstI (fun j => (j : Int) ∈ laidT D D.exits.length) fs.length) ∧ Below w.heap.size w w2) := by
    refine ⟨.inl ⟨HP.out, lst_asc _ _, fun x => ?_, Nat.le_trans (lstI_len _ _) (by omega)⟩, hD.low HB.out.size, HB.out.trans (hb.mono HB.out.size)⟩
    rw [lst_mem, laidT_all]
    constructor
    ·
     rintro ⟨j, -, h2, rfl⟩
     exact h2
    ·
     intro hx
     have := laidL_in HP.out x hx
     exact ⟨x.toNat, by omega, by rwa [show ((x.toNat : Nat) : Int) = x by omega], by omega⟩
   clear hD hb y1
   go_wp2
   go_ret
   exact ⟨v, _, rfl, HR.out.1, HR.out.2.1, HR.out.2.2⟩
  have zk : (k : Int) < (D.exits.length : Int) := by omega
  obtain ⟨be, oe, xf, xc, ya, yc, hea, -, -, -, -, -, -, e5, -, p0, -⟩ := hf.exits k hlt
  subst hea
  have HXP := hidl (fast_exit HP.out k hlt)
  have HT : Hid (laidT D (k + 1) = laidT D k ++ laidE D.exits[k]) := laidT_succ D k hlt
  have h4 : D.exits[k].frames.length ≤ 4 := HXP.out.2.2.1.2
  have h1f : 1 ≤ D.exits[k].frames.length := HXP.out.2.2.1.1
  go_wp2
  clear y1
  go_loopw [7] (fun i wr => ∃ (j : Nat), 1 ≤ j ∧ j ≤ D.exits[k].frames.length ∧ i = .int .i64 j ∧ Hid (MkP wr gm fs.length (fun x => (x : Int) ∈ laidT D k ++ (laidE D.exits[k]).take (j - 1))) ∧ Hid (wr.heap[w.heap.size + 1]? = some (.cells #[.int .i64 D.fn, .int .i64 D.entry, .int .i64 D.vals, .int .i64 D.nums, .slice oa D.ops.length oc, .slice (some ⟨be, oe, none⟩) D.exits.length ec] 41 (0, 0))) ∧ Hid (Below w.heap.size w wr)) (fun i _ => D.exits[k].frames.length - (intOf i).toNat)
  case atStart => exact ⟨1, by omega, by omega, rfl, HM.out.as (fun j _ => by simp), HF, HB⟩
  case round =>
   obtain ⟨j, h1j, hj, rfl, HM, HF, HB⟩ := hrel
   have y1 := block_cell HF.out
   have f5 := cell_later HB.out e5
   by_cases hjl : j < D.exits[k].frames.length
   case neg =>
    obtain rfl : j = D.exits[k].frames.length := by omega
    have z3 : ¬ (D.exits[k].frames.length : Int) < (D.exits[k].frames.length : Int) := by omega
    have HM2 : Hid (MkP wr gm fs.length (fun x => (x : Int) ∈ laidT D (k + 1))) := by
     show MkP _ _ _ _
     rw [HT.out]
     exact HM.out.as (fun x _ => by rw [List.take_of_length_le (by unfold laidE; simp)])
    go_wp2
    go_roundw
    case rel => exact ⟨k + 1, by omega, by go_num, HM2, HF, HB⟩
    case measure => simp [intOf]; omega
   have zj : (j : Int) < (D.exits[k].frames.length : Int) := by omega
   obtain ⟨b, off, la, lc, sa, sc, ha, -, q0, -, -, -, -, -⟩ := p0 j hjl
   subst ha
   have q0' := cell_later HB.out q0
   have hfit := (HXP.out.2.2.2.2.1 j hjl).1
   obtain ⟨fv, hfv⟩ : ∃ fv : Nat, D.exits[k].frames[j].fn = (fv : Int) := ⟨D.exits[k].frames[j].fn.toNat, by have := hfit.1; omega⟩
   have hfn : fv < fs.length := by have := hfit.2.1; omega
   have zf : (fv : Int) < (fs.length : Int) := by omega
   have zf0 : (0 : Int) ≤ (fv : Int) := by omega
   rw [hfv] at q0'
   have HT2 : Hid ((laidE D.exits[k]).take (j + 1 - 1) = (laidE D.exits[k]).take (j - 1) ++ [(fv : Int)]) := by
    show _ = _
    have hjj : j - 1 < (laidE D.exits[k]).length := by unfold laidE; simp; omega
    rw [show j + 1 - 1 = (j - 1) + 1 by omega, List.take_succ_eq_append_getElem hjj]
    have e : (laidE D.exits[k])[j - 1]? = some (fv : Int) := by
     unfold laidE
     rw [List.getElem?_map, List.getElem?_drop, show 1 + (j - 1) = j by omega, List.getElem?_eq_getElem hjl]
     simp [hfv]
    rw [List.getElem?_eq_getElem hjj] at e
    rw [Option.some.inj e]
   have mc := HM.out.cell hfn
   have mf := HM.out.free
   clear q0 hfit hfv
   have HN : Hid (MkP (wr.setCell ⟨gm, fv, none⟩ (.bool true)) gm fs.length (fun x => (x : Int) ∈ laidT D k ++ (laidE D.exits[k]).take (j + 1 - 1)) ∧ (wr.setCell ⟨gm, fv, none⟩ (.bool true)).heap[w.heap.size + 1]? = some (.cells #[.int .i64 D.fn, .int .i64 D.entry, .int .i64 D.vals, .int .i64 D.nums, .slice oa D.ops.length oc, .slice (some ⟨be, oe, none⟩) D.exits.length ec] 41 (0, 0)) ∧ Below w.heap.size w (wr.setCell ⟨gm, fv, none⟩ (.bool true))) := by
    refine ⟨(HM.out.set hfn).as (fun x _ => ?_), by rw [Below.heap_setCell _ _ _ _ (by simp; omega)]; exact HF.out, HB.out.setCell (by simp; omega) _⟩
    rw [HT2.out]
    simp only [List.mem_append, List.mem_singleton, ← or_assoc]
    constructor
    ·
     rintro (h | rfl)
     · exact .inl h
     · exact .inr rfl
    ·
     rintro (h | h)
     · exact .inl h
     · exact .inr (by omega)
   go_wp2
   go_roundw
   case rel => exact ⟨j + 1, by omega, by omega, by go_num, HN.out.1, HN.out.2.1, HN.out.2.2⟩
   case measure => simp [intOf]; omega
set_option maxHeartbeats 4000000 in
theorem sLaid_any (SF : SFast) (a1 a2 oa ea : Option Addr) (c1 c2 oc ec : Nat) (ts : List ByteArray) (fs : List Fn) (D : FastD) (w : World) (hs : Small ts fs) (hd : FastSmall D) (hm : StrsAt w 0 a1 ts) (hm2 : FnsAt w 0 a2 fs) (hf : FastAt w 0 oa ea D) :
  Calls Tryz.prog 20 #[.agg #[.slice a1 ts.length c1, .slice a2 fs.length c2], .agg (fastCells oa ea oc ec D)] w fun e w' => ∃ v S, e = .returned v ∧ LaidA ts fs D S ∧ DSl w' w.heap.size v S ∧ Below w.heap.size w w' := by
 obtain ⟨w0, hw0⟩ : ∃ w0, w0 = (w.alloc (.cells #[.slice a1 ts.length c1, .slice a2 fs.length c2] 36)).alloc (.cells #[.int .i64 D.fn, .int .i64 D.entry, .int .i64 D.vals, .int .i64 D.nums, .slice oa D.ops.length oc, .slice ea D.exits.length ec] 41) := ⟨_, rfl⟩
 have hb0 : Below w.heap.size w w0 := by rw [hw0]; exact ((Below.refl _ _).alloc (Nat.le_refl _) _).alloc (by simp) _
 have hF0 : w0.heap[w.heap.size + 1]? = some (.cells #[.int .i64 D.fn, .int .i64 D.entry, .int .i64 D.vals, .int .i64 D.nums, .slice oa D.ops.length oc, .slice ea D.exits.length ec] 41 (0, 0)) := by rw [hw0]; exact block_new_at _ _ _ _ (by simp)
 have hM0 : w0.heap[w.heap.size]? = some (.cells #[.slice a1 ts.length c1, .slice a2 fs.length c2] 36 (0, 0)) := by rw [hw0]; exact block_old (block_new _ _ _) _
 have hfo := SF a1 a2 oa ea c1 c2 oc ec ts fs D w0 hs hd (hm.mono hb0) (hm2.mono hb0) (hf.mono hb0)
 unfold fastCells at hfo ⊢
 go_enter Tryz.func20, Tryz.ntmps20
 go_wp2_with fail
 rw [← hw0]
 refine hfo.mono ?_
 clear hfo hw0
 rintro e w1 ⟨rfl, hb1⟩
 have hB1 := hb0.trans (hb1.mono hb0.size)
 have hF1 := block_kept hF0 hb1
 have hM1 := block_kept hM0 hb1
 clear hF0 hM0 hb0 hb1
 by_cases hP : FastP ts fs D
 case neg =>
  rw [pB_no hP]
  have HN := hidl hP
  clear hP
  go_wp2
  go_ret
  exact ⟨_, [], rfl, .inr ⟨HN.out, rfl⟩, .inl ⟨rfl, _, _, rfl⟩, hB1.alloc hB1.size _⟩
 rw [pB_yes hP]
 have HP : Hid (FastP ts fs D) := hP
 clear hP
 have x1 := block_cell hM1
 have y1 := block_cell hF1
 go_wp2_with fail
 refine (sL10Laid_any a1 a2 oa ea c1 c2 oc ec ts fs D w1 HP.out (hf.mono hB1)).mono ?_
 rintro e w2 ⟨v, S, rfl, h1, h2, h3⟩
 have HR : Hid (LaidA ts fs D S ∧ DSl w2 w.heap.size v S ∧ Below w.heap.size w w2) := ⟨h1, h2.low hB1.size, hB1.trans (h3.mono hB1.size)⟩
 clear h1 h2 h3 x1 y1 hF1 hM1 hB1
 go_wp2
 go_ret
 exact ⟨v, S, rfl, HR.out.1, HR.out.2.1, HR.out.2.2⟩
end Go.Proofs.YtbjmgmmekmfjhaaGreatDoor
namespace Go.Proofs.YtbjmgmmekmfjhaaGreatDoor
open Go.RowKit
theorem DSl.ints {w : World} {B n cap : Nat} {a : Option Addr} {d : List Int} (h : DSl w B (.slice a n cap) d) : IntsAt w 0 a d := by
 obtain ⟨a', cap', hv, hi⟩ := h.form
 cases hv
 exact hi.low (Nat.zero_le _)
set_option maxHeartbeats 400000 in
theorem eqIntS_any (a a2 : Option Addr) (bs : List Int) (cap cap2 : Nat) (w : World) (hn : bs.length ≤ 1048576) (hm : IntsAt w 0 a bs) (hm2 : IntsAt w 0 a2 bs) :
  Calls Tryz.prog 22 #[.slice a bs.length cap, .slice a2 bs.length cap2] w fun e w' => e = .returned (.bool true) ∧ Below w.heap.size w w' := by
 go_enter Tryz.func22, Tryz.ntmps22
 go_wp2
 go_loopw [5] (fun i wr => ∃ (k : Nat), k ≤ bs.length ∧ i = .int .i64 k ∧ Below w.heap.size w wr) (fun i _ => bs.length - (intOf i).toNat)
 case atStart => exact ⟨0, by omega, rfl, Below.refl _ _⟩
 case round =>
  obtain ⟨k, hk, rfl, hb⟩ := hrel
  by_cases hlt : k < bs.length
  ·
   obtain ⟨b, off, rfl, -, c1⟩ := hm k hlt
   obtain ⟨b2, off2, rfl, -, c2⟩ := hm2 k hlt
   have c1' := cell_later hb c1
   have c2' := cell_later hb c2
   clear c1 c2
   go_wp2
   go_quiet (fail)
   go_wp2
   go_roundw
   case rel => exact ⟨k + 1, by omega, by go_num, below_draws hb _⟩
   case measure => simp [intOf]; omega
  ·
   go_wp2
   go_ret
   exact ⟨rfl, hb⟩
def imarks (k : Int) (n : Nat) : List Int := (List.range n).map fun (i : Nat) => k + (i : Int)
theorem imarks_len (k : Int) (n : Nat) : (imarks k n).length = n := by simp [imarks]
theorem imarks_at (k : Int) (n i : Nat) (h : i < (imarks k n).length) : (imarks k n)[i] = k + i := by simp [imarks]
set_option maxHeartbeats 400000 in
theorem heldIntS_any (a : Option Addr) (n : Nat) (cap : Nat) (k0 : Int) (w : World) (hn : n ≤ 1048576) (h0 : 0 ≤ k0) (h1 : k0 ≤ 1000) (hm : IntsAt w 0 a (imarks k0 n)) :
  Calls Tryz.prog 24 #[.slice a n cap, .int .i64 k0] w fun e w' => e = .returned (.int .i64 (k0 + n)) ∧ Below w.heap.size w w' := by
 go_enter Tryz.func24, Tryz.ntmps24
 go_wp2
 go_loopw [1, 5] (fun q i wr => ∃ (k : Nat), k ≤ n ∧ i = .int .i64 k ∧ q = .int .i64 (k0 + k) ∧ Below w.heap.size w wr) (fun _ i _ => n - (intOf i).toNat)
 case atStart => exact ⟨0, by omega, rfl, by go_num, Below.refl _ _⟩
 case round =>
  obtain ⟨k, hk, rfl, rfl, hb⟩ := hrel
  by_cases hlt : k < n
  ·
   obtain ⟨b, off, rfl, -, c1⟩ := hm k (by rw [imarks_len]; exact hlt)
   rw [imarks_at] at c1
   have c1' := cell_later hb c1
   clear c1
   go_wp2
   go_roundw
   case rel => exact ⟨k + 1, by omega, by go_num, by go_num, hb⟩
   case measure => simp [intOf]; omega
  ·
   go_wp2
   go_ret
   exact ⟨ret_int (by omega), hb⟩
set_option maxHeartbeats 400000 in
theorem markIntS_any (B : Nat) (a : Option Addr) (bs : List Int) (cap : Nat) (k0 : Int) (w : World) (hn : bs.length ≤ 1048576) (h0 : 0 ≤ k0) (h1 : k0 ≤ 1000) (hown : DSl w B (.slice a bs.length cap) bs) :
  Calls Tryz.prog 23 #[.slice a bs.length cap, .int .i64 k0] w fun e w' => e = .returned (.int .i64 (k0 + bs.length)) ∧ DSl w' B (.slice a bs.length cap) (imarks k0 bs.length) ∧ Keeps B [3] w w' := by
 rcases hown with ⟨rfl, a', cap', hv⟩ | ⟨g, cp, hv, hgB, hH0⟩
 ·
  go_enter Tryz.func23, Tryz.ntmps23
  go_wp2
  go_loopw [1, 5] (fun q i wr => q = .int .i64 k0 ∧ i = .int .i64 0 ∧ wr = w) (fun _ i _ => (intOf i).toNat)
  case atStart => exact ⟨rfl, rfl, rfl⟩
  case round =>
   obtain ⟨rfl, rfl, rfl⟩ := hrel
   go_wp2
   go_ret
   exact ⟨ret_int (by simp), .inl ⟨rfl, _, _, rfl⟩, Keeps.refl _ _ _⟩
 ·
  cases hv
  go_enter Tryz.func23, Tryz.ntmps23
  go_wp2
  go_loopw [1, 5] (fun q i wr => ∃ (k : Nat) (cur : List Int), k ≤ bs.length ∧ i = .int .i64 k ∧ q = .int .i64 (k0 + k) ∧ Ht wr g cap cur ∧ Hid (cur.length = bs.length) ∧ Hid (∀ j (hj : j < cur.length), j < k → cur[j] = k0 + j) ∧ Keeps B [3] w wr) (fun _ i _ => bs.length - (intOf i).toNat)
  case atStart => exact ⟨0, bs, by omega, rfl, by go_num, hH0, rfl, fun j _ h => absurd h (Nat.not_lt_zero _), Keeps.refl _ _ _⟩
  case round =>
   obtain ⟨k, cur, hk, rfl, rfl, hH, hlen, hdone, hkr⟩ := hrel
   by_cases hlt : k < bs.length
   ·
    have hkl : k < cur.length := by rw [hlen.out]; exact hlt
    have hfz := hH.free k
    have hcl := hH.cell hkl
    have hH2 := hH.set hkl (k0 + k)
    obtain ⟨c, hblk, -⟩ := hH
    have hk2 := Keeps.set hkr hblk (by simp) hgB k (.int .i64 (k0 + k))
    clear hblk
    go_wp2
    go_roundw
    case rel =>
     refine ⟨k + 1, cur.set k (k0 + k), by omega, by go_num, by go_num, hH2, ?_, ?_, hk2⟩
     ·
      show _ = _
      rw [List.length_set]
      exact hlen.out
     ·
      intro j hj hjk
      rw [List.length_set] at hj
      by_cases e : j = k
      · subst e; simp
      · rw [List.getElem_set_ne (fun q => e q.symm)]; exact hdone.out j hj (by omega)
    case measure => simp [intOf]; omega
   ·
    have hce : Hid (cur = imarks k0 bs.length) := by
     show _ = _
     apply List.ext_getElem
     · rw [imarks_len]; exact hlen.out
     ·
      intro j h1 h2
      rw [imarks_at]
      exact hdone.out j h1 (by rw [imarks_len] at h2; omega)
    go_wp2
    go_ret
    refine ⟨ret_int (by omega), .inr ⟨g, cap, by rw [imarks_len], hgB, by rw [← hce.out]; exact hH⟩, hkr⟩
end Go.Proofs.YtbjmgmmekmfjhaaGreatDoor
