/-
  The document's l08Leaders and l08Heads.
-/
import Derived.Test.YthhchlceogbbhaaDoorG13
namespace Go.Proofs.YthhchlceogbbhaaDoor
open Go.RowKit

theorem madeB {w1 : World} {base g n : Nat} (h : w1.ownsRow base 4 1 (.slice (some ⟨g, 0, none⟩) n n) n (madeCells (Value.bool false).cells (n * 1)).toList) : MkP w1 g n (fun _ => False) := by
  rcases h.2 with ⟨hv, -⟩ | ⟨g', cap, cur, hv, -, hh, -, -, hs, ht⟩
  · cases hv
  · cases hv
    refine ⟨cur, hh, by omega, fun j hj => ?_⟩
    have h1 : (cur.toList.take (n * 1))[j]? = ((madeCells (Value.bool false).cells (n * 1)).toList)[j]? := by rw [ht]
    rw [List.getElem?_take_of_lt (by omega)] at h1
    rw [pB_no (by simp)]
    have h2 : ((madeCells (Value.bool false).cells (n * 1)).toList)[j]? = some (.bool false) := by
      simp [madeCells, Value.cells, hj, Nat.mod_one]
    rw [h2] at h1
    simpa using h1

set_option maxRecDepth 100000 in
set_option maxHeartbeats 4000000 in
theorem sLeaders_any (a1 a2 : Option Addr) (nt c1 c2 : Nat) (fs : List Fn) (f : Nat) (w : World) (hf : f < fs.length) (hn : fs.length ≤ 1048576) (hm : FnsAt w 0 a2 fs) (F : Fine fs fs[f].code) (HG : ∀ d, Done fs fs[f].code d → GJ fs[f].code d) :
    Calls Tryd.prog 23 #[.agg #[.slice a1 nt c1, .slice a2 fs.length c2], .int .i64 f] w fun e w' => ∃ v d, e = .returned v ∧ Done fs fs[f].code d ∧ DSl w' w.heap.size v (lstI (LP fs[f].code d fs[f].code.length) fs[f].code.length) ∧ Below w.heap.size w w' := by
  obtain ⟨i0, hi, hz0, hz1, hz2⟩ := info_parts infoB
  have hone := F.one
  have hmost := F.most
  have HM : Hid (FnsAt w 0 a2 fs) := hm
  obtain ⟨b, off, ca, cc, rfl, -, d1, d2, d3, d4⟩ := hm f hf
  have hbA : Below w.heap.size w (w.alloc (.cells #[.slice a1 nt c1, .slice (some ⟨b, off, none⟩) fs.length c2] 27)) := (Below.refl _ _).alloc (Nat.le_refl _) _
  have d3' := cell_later hbA d3
  clear d1 d2 d3
  go_enter Tryd.func23, Tryd.ntmps23
  go_wp2_with fail
  refine (sDepths_any a1 _ nt c1 c2 fs f _ hf hn (HM.out.mono hbA) F).mono ?_
  rintro e w1 ⟨g, cap, d, rfl, hg, hD, hH, hb⟩
  have G := HG d hD
  have H := hD.hts F
  have HDD : Hid (Done fs fs[f].code d) := hD
  have hb1 : Below w.heap.size w w1 := hbA.trans (hb.mono hbA.size)
  have d4' := d4.mono hb1
  obtain ⟨code, hcode⟩ : ∃ code, code = fs[f].code := ⟨_, rfl⟩
  rw [← hcode] at F d4' hone hmost G H
  have HCO : Hid (code = fs[f].code) := hcode
  rw [← hcode]
  clear hcode hbA d3' hD hb d4 HG HM
  go_wp2_with (first | (at_make; refine wpList_make_full _ rfl _ _ 70 rfl w1.heap.size 4 i0 (.bool false) 1 Tryd.underlying70 hi hz0 hz1 _ _ _ _ code.length rfl rfl rfl rfl (by rw [hz2]; omega) (by unfold maxLen; omega) (Nat.le_refl _) ?_; intro w2 hown hgrow; have hM0 := madeB hown; have m0 := hM0.cell (j := 0) (by omega); have m1 := hM0.free 0))
  have hbm : Below w1.heap.size w1 w2 := (Below.refl _ _).grown hgrow (Nat.le_refl _) (by intro k hk; cases hk)
  have hH2 := hH.mono hbm
  have d42 := d4'.mono hbm
  have hb2 : Below w.heap.size w w2 := hb1.trans (hbm.mono hb1.size)
  have hlo : w.heap.size ≤ w1.heap.size := hb1.size
  have HLD : Hid (d.length = code.length) := H.len
  have hM1 := hM0.set (i := 0) (by omega)
  have hH3 : Ht (w2.setCell ⟨w1.heap.size, 0, none⟩ (.bool true)) g cap d := by
    obtain ⟨cc', hc1, hc2⟩ := hH2
    exact ⟨cc', by rw [Below.heap_setCell _ _ _ _ (Nat.ne_of_lt hH.lt)]; exact hc1, hc2⟩
  have hA3 : ∀ X : World, Below w1.heap.size w1 X → CodeAt X 0 ca code := fun X h => d4'.mono h
  have hb3 : Below w1.heap.size w1 (w2.setCell ⟨w1.heap.size, 0, none⟩ (.bool true)) := hbm.setCell (p := ⟨w1.heap.size, 0, none⟩) (Nat.le_refl _) _
  have hM2 : MkP (w2.setCell ⟨w1.heap.size, 0, none⟩ (.bool true)) w1.heap.size code.length (LP code d 0) := hM1.as (fun j _ => by show _ ↔ j = 0; simp)
  clear hM1 hM0 m0 m1 hown hgrow hbm hH2 d42
  have HB1 : Hid (Below w.heap.size w w1) := hb1
  have HA3 : Hid (∀ X : World, Below w1.heap.size w1 X → CodeAt X 0 ca code) := hA3
  have HH1 : Hid (Ht w1 g cap d) := hH
  clear hb1 hb2 hA3 d4' hH3 hH hi hz0 hz1 hz2
  go_loopw [8] (fun i wr => ∃ (k : Nat), k ≤ code.length ∧ i = .int .i64 k ∧ MkP wr w1.heap.size code.length (LP code d k) ∧ Below w1.heap.size w1 wr) (fun i _ => code.length - (intOf i).toNat)
  case atStart => exact ⟨0, by omega, rfl, hM2, hb3⟩
  case round =>
    obtain ⟨k, hk, rfl, hM, hb⟩ := hrel
    clear hM2 hb3
    by_cases hlt : k < code.length
    case neg =>
      obtain rfl : k = code.length := by omega
      go_wp2_with fail
      refine (sMark_any _ _ _ _ hmost hM).mono ?_
      rintro e w5 ⟨v, rfl, hds, k5⟩
      have hB5 : Below w.heap.size w w5 := (HB1.out.trans (hb.mono hlo)).trans (k5.mono (Nat.le_trans hlo hb.size))
      have hds' : DSl w5 w.heap.size v (lstI (LP code d code.length) code.length) := hds.low (Nat.le_trans hlo hb.size)
      obtain ⟨av, cv, rfl, -⟩ := hds.form
      clear hds k5 hM
      go_wp2
      go_ret
      exact ⟨_, d, rfl, HDD.out, by rw [← HCO.out]; exact hds', hB5⟩
    have hkd : k < d.length := by rw [HLD.out]; exact hlt
    obtain ⟨b4, off4, rfl, -, e1, e2⟩ := HA3.out wr hb k hlt
    have e3 := (HH1.out.mono hb).cell hkd
    have ec := getD_at (code := code) hlt
    have ed : d.getD k (-1) = d[k] := by rw [List.getD_eq_getElem?_getD, List.getElem?_eq_getElem hkd]; rfl
    have hlow := H.low k hkd
    have HED : Hid (isJ code d k ↔ 0 ≤ d[k] ∧ (code[k].1 = 17 ∨ code[k].1 = 18 ∨ code[k].1 = 19)) := by
      show _ ↔ _
      unfold isJ; rw [ed, ec]
      constructor
      · rintro ⟨h1, h2⟩; exact ⟨by omega, h2⟩
      · rintro ⟨h1, h2⟩; exact ⟨by omega, h2⟩
    have HEC : Hid (code.getD k (0, 0) = code[k]) := ec
    obtain ⟨op, hop⟩ : ∃ op, op = code[k].1 := ⟨_, rfl⟩
    obtain ⟨av, hav⟩ : ∃ av, av = code[k].2 := ⟨_, rfl⟩
    obtain ⟨dk, hdk⟩ : ∃ dk, dk = d[k] := ⟨_, rfl⟩
    rw [← hop] at e1
    rw [← hav] at e2
    rw [← hdk] at e3
    rw [← hop, ← hdk] at HED
    have HOP : Hid (code[k].1 = op ∧ code[k].2 = av) := ⟨hop.symm, hav.symm⟩
    clear ec ed hop hav hdk hlow
    have NO : ¬ isJ code d k → ∀ j, j < code.length → (LP code d k j ↔ LP code d (k + 1) j) := fun h j _ => ⟨.inl, fun q => q.elim id (fun q => absurd q.1 h)⟩
    have HNO : Hid (¬ isJ code d k → ∀ j, j < code.length → (LP code d k j ↔ LP code d (k + 1) j)) := NO
    clear NO
    by_cases hz : dk < 0
    · have HJN : Hid (¬ isJ code d k) := fun h => by have := (HED.out.1 h).1; omega
      have hM' := hM.as (HNO.out HJN.out)
      go_wp2
      go_roundw
      case rel => exact ⟨k + 1, by omega, by go_num, hM', hb⟩
      case measure => simp [intOf]; omega
    by_cases hj : op = 17 ∨ op = 18 ∨ op = 19
    case neg =>
      have HJN : Hid (¬ isJ code d k) := fun h => hj (HED.out.1 h).2
      have q1 : (op != 17) = true := by simpa using fun e => hj (.inl e)
      have q2 : (op != 18) = true := by simpa using fun e => hj (.inr (.inl e))
      have q3 : (op != 19) = true := by simpa using fun e => hj (.inr (.inr e))
      have p1 : (op == 17) = false := by simpa using fun e => hj (.inl e)
      have p2 : (op == 18) = false := by simpa using fun e => hj (.inr (.inl e))
      have p3 : (op == 19) = false := by simpa using fun e => hj (.inr (.inr e))
      have hM' := hM.as (HNO.out HJN.out)
      go_wp2
      go_roundw
      case rel => exact ⟨k + 1, by omega, by go_num, hM', hb⟩
      case measure => simp [intOf]; omega
    have HJY : Hid (isJ code d k) := HED.out.2 ⟨by omega, hj⟩
    obtain ⟨g1, g2, g3⟩ := G.jump k hlt HJY.out
    rw [HEC.out, HOP.out.2] at g1 g2
    rw [HEC.out, HOP.out.1] at g3
    obtain ⟨ai, rfl⟩ : ∃ ai : Nat, av = (ai : Int) := ⟨av.toNat, by omega⟩
    have hai : ai < code.length := by omega
    have s1 := hM.cell hai
    have s2 := hM.free ai
    have hM3 := hM.set hai
    have hb3 := hb.setCell (p := ⟨w1.heap.size, ai, none⟩) (Nat.le_refl _) (.bool true)
    have e9 : ∀ (j : Nat), (j : Int) = (code.getD k (0, 0)).2 ↔ j = ai := fun j => by rw [HEC.out, HOP.out.2]; omega
    by_cases h17 : op = 17
    · have hM4 : MkP (wr.setCell ⟨w1.heap.size, ai, none⟩ (.bool true)) w1.heap.size code.length (LP code d (k + 1)) := hM3.as (fun j _ => by
        show _ ↔ LP code d k j ∨ (isJ code d k ∧ ((j : Int) = (code.getD k (0, 0)).2 ∨ ((code.getD k (0, 0)).1 ≠ 17 ∧ j = k + 1)))
        constructor
        · rintro (h | h)
          · exact .inl h
          · exact .inr ⟨HJY.out, .inl ((e9 j).2 h)⟩
        · rintro (h | ⟨-, h | ⟨h, -⟩⟩)
          · exact .inl h
          · exact .inr ((e9 j).1 h)
          · rw [HEC.out, HOP.out.1] at h; exact absurd h17 h)
      have HM4 : Hid (MkP (wr.setCell ⟨w1.heap.size, ai, none⟩ (.bool true)) w1.heap.size code.length (LP code d (k + 1))) := hM4
      clear hM3 hM4 e9 g3
      subst h17
      go_wp2
      go_roundw
      case rel => exact ⟨k + 1, by omega, by go_num, HM4.out, hb3⟩
      case measure => simp [intOf]; omega
    have hk1 := g3 h17
    have t1 := hM3.cell hk1
    have t2 := hM3.free (k + 1)
    have hM5 := hM3.set hk1
    have hb5 := hb3.setCell (p := ⟨w1.heap.size, k + 1, none⟩) (Nat.le_refl _) (.bool true)
    have hM4 : MkP ((wr.setCell ⟨w1.heap.size, ai, none⟩ (.bool true)).setCell ⟨w1.heap.size, k + 1, none⟩ (.bool true)) w1.heap.size code.length (LP code d (k + 1)) := hM5.as (fun j _ => by
      show _ ↔ LP code d k j ∨ (isJ code d k ∧ ((j : Int) = (code.getD k (0, 0)).2 ∨ ((code.getD k (0, 0)).1 ≠ 17 ∧ j = k + 1)))
      constructor
      · rintro ((h | h) | h)
        · exact .inl h
        · exact .inr ⟨HJY.out, .inl ((e9 j).2 h)⟩
        · exact .inr ⟨HJY.out, .inr ⟨by rw [HEC.out, HOP.out.1]; exact h17, h⟩⟩
      · rintro (h | ⟨-, h | ⟨-, h⟩⟩)
        · exact .inl (.inl h)
        · exact .inl (.inr ((e9 j).1 h))
        · exact .inr h)
    have HM4 : Hid (MkP ((wr.setCell ⟨w1.heap.size, ai, none⟩ (.bool true)).setCell ⟨w1.heap.size, k + 1, none⟩ (.bool true)) w1.heap.size code.length (LP code d (k + 1))) := hM4
    clear hM3 hM4 hM5 e9 g3
    rcases hj.resolve_left h17 with rfl | rfl
    · go_wp2
      go_roundw
      case rel => exact ⟨k + 1, by omega, by go_num, HM4.out, hb5⟩
      case measure => simp [intOf]; omega
    · go_wp2
      go_roundw
      case rel => exact ⟨k + 1, by omega, by go_num, HM4.out, hb5⟩
      case measure => simp [intOf]; omega

set_option maxRecDepth 100000 in
set_option maxHeartbeats 4000000 in
theorem sHeads_any (a1 a2 : Option Addr) (nt c1 c2 : Nat) (fs : List Fn) (f : Nat) (w : World) (hf : f < fs.length) (hn : fs.length ≤ 1048576) (hm : FnsAt w 0 a2 fs) (F : Fine fs fs[f].code) (HG : ∀ d, Done fs fs[f].code d → GJ fs[f].code d) :
    Calls Tryd.prog 24 #[.agg #[.slice a1 nt c1, .slice a2 fs.length c2], .int .i64 f] w fun e w' => ∃ v d, e = .returned v ∧ Done fs fs[f].code d ∧ DSl w' w.heap.size v (lstI (HP fs[f].code d fs[f].code.length) fs[f].code.length) ∧ Below w.heap.size w w' := by
  obtain ⟨i0, hi, hz0, hz1, hz2⟩ := info_parts infoB
  have hone := F.one
  have hmost := F.most
  have HM : Hid (FnsAt w 0 a2 fs) := hm
  obtain ⟨b, off, ca, cc, rfl, -, d1, d2, d3, d4⟩ := hm f hf
  have hbA : Below w.heap.size w (w.alloc (.cells #[.slice a1 nt c1, .slice (some ⟨b, off, none⟩) fs.length c2] 27)) := (Below.refl _ _).alloc (Nat.le_refl _) _
  have d3' := cell_later hbA d3
  clear d1 d2 d3
  go_enter Tryd.func24, Tryd.ntmps24
  go_wp2_with fail
  refine (sDepths_any a1 _ nt c1 c2 fs f _ hf hn (HM.out.mono hbA) F).mono ?_
  rintro e w1 ⟨g, cap, d, rfl, hg, hD, hH, hb⟩
  have G := HG d hD
  have H := hD.hts F
  have HDD : Hid (Done fs fs[f].code d) := hD
  have hb1 : Below w.heap.size w w1 := hbA.trans (hb.mono hbA.size)
  have d4' := d4.mono hb1
  obtain ⟨code, hcode⟩ : ∃ code, code = fs[f].code := ⟨_, rfl⟩
  rw [← hcode] at F d4' hone hmost G H
  have HCO : Hid (code = fs[f].code) := hcode
  rw [← hcode]
  clear hcode hbA d3' hD hb d4 HG HM
  go_wp2_with (first | (at_make; refine wpList_make_full _ rfl _ _ 70 rfl w1.heap.size 4 i0 (.bool false) 1 Tryd.underlying70 hi hz0 hz1 _ _ _ _ code.length rfl rfl rfl rfl (by rw [hz2]; omega) (by unfold maxLen; omega) (Nat.le_refl _) ?_; intro w2 hown hgrow; have hM0 := madeB hown; have m0 := hM0.cell (j := 0) (by omega); have m1 := hM0.free 0))
  have hbm : Below w1.heap.size w1 w2 := (Below.refl _ _).grown hgrow (Nat.le_refl _) (by intro k hk; cases hk)
  have hH2 := hH.mono hbm
  have d42 := d4'.mono hbm
  have hb2 : Below w.heap.size w w2 := hb1.trans (hbm.mono hb1.size)
  have hlo : w.heap.size ≤ w1.heap.size := hb1.size
  have HLD : Hid (d.length = code.length) := H.len
  have hM1 := hM0
  have hH3 := hH2
  have hA3 : ∀ X : World, Below w1.heap.size w1 X → CodeAt X 0 ca code := fun X h => d4'.mono h
  have hb3 : Below w1.heap.size w1 w2 := hbm
  have hM2 : MkP w2 w1.heap.size code.length (HP code d 0) := hM1.as (fun j _ => by show _ ↔ False; simp)
  clear hM1 hM0 m0 m1 hown hgrow hbm hH2 d42
  have HB1 : Hid (Below w.heap.size w w1) := hb1
  have HA3 : Hid (∀ X : World, Below w1.heap.size w1 X → CodeAt X 0 ca code) := hA3
  have HH1 : Hid (Ht w1 g cap d) := hH
  clear hb1 hb2 hA3 d4' hH3 hH hi hz0 hz1 hz2
  go_loopw [8] (fun i wr => ∃ (k : Nat), k ≤ code.length ∧ i = .int .i64 k ∧ MkP wr w1.heap.size code.length (HP code d k) ∧ Below w1.heap.size w1 wr) (fun i _ => code.length - (intOf i).toNat)
  case atStart => exact ⟨0, by omega, rfl, hM2, hb3⟩
  case round =>
    obtain ⟨k, hk, rfl, hM, hb⟩ := hrel
    clear hM2 hb3
    by_cases hlt : k < code.length
    case neg =>
      obtain rfl : k = code.length := by omega
      go_wp2_with fail
      refine (sMark_any _ _ _ _ hmost hM).mono ?_
      rintro e w5 ⟨v, rfl, hds, k5⟩
      have hB5 : Below w.heap.size w w5 := (HB1.out.trans (hb.mono hlo)).trans (k5.mono (Nat.le_trans hlo hb.size))
      have hds' : DSl w5 w.heap.size v (lstI (HP code d code.length) code.length) := hds.low (Nat.le_trans hlo hb.size)
      obtain ⟨av, cv, rfl, -⟩ := hds.form
      clear hds k5 hM
      go_wp2
      go_ret
      exact ⟨_, d, rfl, HDD.out, by rw [← HCO.out]; exact hds', hB5⟩
    have hkd : k < d.length := by rw [HLD.out]; exact hlt
    obtain ⟨b4, off4, rfl, -, e1, e2⟩ := HA3.out wr hb k hlt
    have e3 := (HH1.out.mono hb).cell hkd
    have ec := getD_at (code := code) hlt
    have ed : d.getD k (-1) = d[k] := by rw [List.getD_eq_getElem?_getD, List.getElem?_eq_getElem hkd]; rfl
    have hlow := H.low k hkd
    have HED : Hid (isJ code d k ↔ 0 ≤ d[k] ∧ (code[k].1 = 17 ∨ code[k].1 = 18 ∨ code[k].1 = 19)) := by
      show _ ↔ _
      unfold isJ; rw [ed, ec]
      constructor
      · rintro ⟨h1, h2⟩; exact ⟨by omega, h2⟩
      · rintro ⟨h1, h2⟩; exact ⟨by omega, h2⟩
    have HEC : Hid (code.getD k (0, 0) = code[k]) := ec
    obtain ⟨op, hop⟩ : ∃ op, op = code[k].1 := ⟨_, rfl⟩
    obtain ⟨av, hav⟩ : ∃ av, av = code[k].2 := ⟨_, rfl⟩
    obtain ⟨dk, hdk⟩ : ∃ dk, dk = d[k] := ⟨_, rfl⟩
    rw [← hop] at e1
    rw [← hav] at e2
    rw [← hdk] at e3
    rw [← hop, ← hdk] at HED
    have HOP : Hid (code[k].1 = op ∧ code[k].2 = av) := ⟨hop.symm, hav.symm⟩
    clear ec ed hop hav hdk hlow
    have NO : ¬ isJ code d k → ∀ j, j < code.length → (HP code d k j ↔ HP code d (k + 1) j) := fun h j _ => ⟨.inl, fun q => q.elim id (fun q => absurd q.1 h)⟩
    have HNO : Hid (¬ isJ code d k → ∀ j, j < code.length → (HP code d k j ↔ HP code d (k + 1) j)) := NO
    clear NO
    by_cases hz : dk < 0
    · have HJN : Hid (¬ isJ code d k) := fun h => by have := (HED.out.1 h).1; omega
      have hM' := hM.as (HNO.out HJN.out)
      go_wp2
      go_roundw
      case rel => exact ⟨k + 1, by omega, by go_num, hM', hb⟩
      case measure => simp [intOf]; omega
    by_cases hj : op = 17 ∨ op = 18 ∨ op = 19
    case neg =>
      have HJN : Hid (¬ isJ code d k) := fun h => hj (HED.out.1 h).2
      have q1 : (op != 17) = true := by simpa using fun e => hj (.inl e)
      have q2 : (op != 18) = true := by simpa using fun e => hj (.inr (.inl e))
      have q3 : (op != 19) = true := by simpa using fun e => hj (.inr (.inr e))
      have p1 : (op == 17) = false := by simpa using fun e => hj (.inl e)
      have p2 : (op == 18) = false := by simpa using fun e => hj (.inr (.inl e))
      have p3 : (op == 19) = false := by simpa using fun e => hj (.inr (.inr e))
      have hM' := hM.as (HNO.out HJN.out)
      go_wp2
      go_roundw
      case rel => exact ⟨k + 1, by omega, by go_num, hM', hb⟩
      case measure => simp [intOf]; omega
    have HJY : Hid (isJ code d k) := HED.out.2 ⟨by omega, hj⟩
    obtain ⟨g1, g2, g3⟩ := G.jump k hlt HJY.out
    rw [HEC.out, HOP.out.2] at g1 g2
    rw [HEC.out, HOP.out.1] at g3
    obtain ⟨ai, rfl⟩ : ∃ ai : Nat, av = (ai : Int) := ⟨av.toNat, by omega⟩
    have hai : ai < code.length := by omega
    have s1 := hM.cell hai
    have s2 := hM.free ai
    have hM3 := hM.set hai
    have hb3 := hb.setCell (p := ⟨w1.heap.size, ai, none⟩) (Nat.le_refl _) (.bool true)
    have e9 : ∀ (j : Nat), (j : Int) = (code.getD k (0, 0)).2 ↔ j = ai := fun j => by rw [HEC.out, HOP.out.2]; omega
    by_cases hle : ai ≤ k
    case neg =>
      have hM4 : MkP wr w1.heap.size code.length (HP code d (k + 1)) := hM.as (fun j _ => ⟨.inl, fun q => q.elim id (fun ⟨_, q, _⟩ => by rw [HEC.out, HOP.out.2] at q; omega)⟩)
      have HM4 : Hid (MkP wr w1.heap.size code.length (HP code d (k + 1))) := hM4
      clear hM3 hM4 e9 g3 hM
      rcases hj with rfl | rfl | rfl
      all_goals
        go_wp2
        go_roundw
        case rel => exact ⟨k + 1, by omega, by go_num, HM4.out, hb⟩
        case measure => simp [intOf]; omega
    have hM4 : MkP (wr.setCell ⟨w1.heap.size, ai, none⟩ (.bool true)) w1.heap.size code.length (HP code d (k + 1)) := hM3.as (fun j _ => by
      show _ ↔ HP code d k j ∨ (isJ code d k ∧ (code.getD k (0, 0)).2 ≤ k ∧ (j : Int) = (code.getD k (0, 0)).2)
      constructor
      · rintro (h | h)
        · exact .inl h
        · exact .inr ⟨HJY.out, by rw [HEC.out, HOP.out.2]; omega, (e9 j).2 h⟩
      · rintro (h | ⟨-, -, h⟩)
        · exact .inl h
        · exact .inr ((e9 j).1 h))
    have HM4 : Hid (MkP (wr.setCell ⟨w1.heap.size, ai, none⟩ (.bool true)) w1.heap.size code.length (HP code d (k + 1))) := hM4
    clear hM3 hM4 e9 g3 hM
    rcases hj with rfl | rfl | rfl
    all_goals
      go_wp2
      go_roundw
      case rel => exact ⟨k + 1, by omega, by go_num, HM4.out, hb3⟩
      case measure => simp [intOf]; omega
end Go.Proofs.YthhchlceogbbhaaDoor
