/-
  What the program's ShowModule gives: the text of the module.
-/
import Derived.Test.YtpmkfdinkomaiaaGreatDoorGQ15
import Derived.Test.YtpmkfdinkomaiaaGreatDoorT3
import Derived.Test.YtpmkfdinkomaiaaGreatDoorGQ16
import Derived.Deep.CutRange
namespace Go.Proofs.YtpmkfdinkomaiaaGreatDoor
open Go.RowKit

theorem lineT_eq (t : ByteArray) : (⟨#[116, 101, 120, 116, 32, 34]⟩ : ByteArray) ++ t ++ ⟨#[34]⟩ ++ ⟨#[10]⟩ = lineT t := by
  unfold lineT
  rw [ByteArray.append_assoc]
  rfl
theorem itoa_fit {n : Int} (h : Fits n) (w : World) (htab : Lib.TabIs Tryz.prog w "internal/strconv.uint64pow10" .u64 Lib.pow10Tab) : Calls Tryz.prog 17 #[.int .i64 n] w fun e w' => e = .returned (.string (numText n)) ∧ Below w.heap.size w w' :=
  itoa_any n w (by show _ ≤ _; have := h.1; omega) (by show _ ≤ _; have := h.2; omega) htab
theorem string_is (B b : Nat) (s : ByteArray) (w : World) (h : Bld w B b s) (hBw : B ≤ w.heap.size) : Calls Tryz.prog 19 #[.pointer (some ⟨b, 0, none⟩)] w fun e w' => e = .returned (.string s) ∧ Below B w w' := by
  obtain ⟨hB, p, v, hb, hp, ht⟩ := h
  have hown : w.ownsRow B 5 1 v (Lib.strCells s).length (Lib.strCells s) := by rw [Lib.strCells_length]; exact ht
  have hne := Lib.ownBlock_ne hown hb (by decide)
  have hat : Lib.IsBuilderF 41 5 B b (Lib.byteCells s.data.toList) w := by
    refine Lib.IsBuilderF.of ?_
    rcases hp with rfl | rfl
    · exact Or.inl ⟨hB, v, hb, hown, hne⟩
    · exact Or.inr ⟨hB, v, hb, hown, hne⟩
  refine (Tryz.Builder_String_any_k B b s.data.toList w hat hBw).mono ?_
  rintro e w' ⟨rfl, -, hbe, -⟩
  exact ⟨by simp, hbe⟩

set_option maxRecDepth 100000 in
set_option maxHeartbeats 4000000 in
theorem iShow_any (a1 a2 : Option Addr) (ts : List ByteArray) (fs : List Fn) (c1 c2 : Nat) (w : World) (hs : Small ts fs) (hm : StrsAt w 0 a1 ts) (hf : FnsAt w 0 a2 fs) (hw : Hid (∀ k s, words[k]? = some s → w.cell? ⟨0, k, none⟩ = some (.string s)))
    (htab : Lib.TabIs Tryz.prog w "internal/strconv.uint64pow10" .u64 Lib.pow10Tab) :
    Calls Tryz.prog 6 #[.agg #[.slice a1 ts.length c1, .slice a2 fs.length c2]] w fun e w' => e = .returned (.string (shown ts fs)) ∧ Below w.heap.size w w' := by
  have hbA : Below w.heap.size w (w.alloc (.cells #[.slice a1 ts.length c1, .slice a2 fs.length c2] 27)) := (Below.refl _ _).alloc (Nat.le_refl _) _
  have hM0 := block_new w #[.slice a1 ts.length c1, .slice a2 fs.length c2] 27
  unfold shown
  cases hok : modB ts fs
  · go_enter Tryz.func6, Tryz.ntmps6
    go_wp2_with fail
    refine (iModuleOk_any a1 a2 ts fs c1 c2 _ hs (hm.mono hbA) (hf.mono hbA)).mono ?_
    rintro e w1 ⟨rfl, hbx⟩
    rw [hok]
    have hb1 : Below w.heap.size w w1 := hbA.trans (hbx.mono hbA.size)
    clear hbA hbx hM0
    go_wp2
    go_ret
    exact ⟨rfl, hb1⟩
  · rw [if_pos rfl]
    have ok := okMod hok
    have n1 := ok.nt
    have n2 := ok.nf
    go_enter Tryz.func6, Tryz.ntmps6
    go_wp2_with fail
    refine (iModuleOk_any a1 a2 ts fs c1 c2 _ hs (hm.mono hbA) (hf.mono hbA)).mono ?_
    rintro e w1 ⟨rfl, hbx⟩
    rw [hok]
    have hM1 := block_kept hM0 hbx
    have hb1 : Below w.heap.size w w1 := hbA.trans (hbx.mono hbA.size)
    have hE1 : Bld (w1.alloc (.cells #[.pointer none, .slice none 0 0] 41)) w1.heap.size w1.heap.size (tB (ts.take 0)) := ⟨Nat.le_refl _, _, _, block_new w1 _ 41, Or.inl rfl, World.ownsRow_nil _ _ _ _⟩
    have hM2 := block_old hM1 (.cells #[.pointer none, .slice none 0 0] 41)
    have x2 := block_cell hM2
    have hb2 : Below w.heap.size w (w1.alloc (.cells #[.pointer none, .slice none 0 0] 41)) := hb1.alloc hb1.size _
    have hB2 : w1.heap.size ≤ (w1.alloc (.cells #[.pointer none, .slice none 0 0] 41)).heap.size := by simp
    clear hbA hbx hM0 hM1
    go_wp2_with fail
    obtain ⟨B, eB⟩ : ∃ B, Hid (B = w1.heap.size) := ⟨_, rfl⟩
    rw [← eB.out] at hE1 hB2 ⊢
    have hwB : w.heap.size ≤ B := by rw [eB.out]; exact hb1.size
    generalize (w1.alloc (.cells #[.pointer none, .slice none 0 0] 41)) = w2 at hE1 hM2 hb2 hB2 x2 ⊢
    clear hb1
    go_loopw [16] (fun i wr => ∃ (k : Nat), k ≤ ts.length ∧ i = .int .i64 k ∧ Bld wr B B (tB (ts.take k)) ∧ Keeps B [5, 41] w2 wr) (fun i _ => ts.length - (intOf i).toNat)
    case atStart => exact ⟨0, by omega, rfl, hE1, Keeps.refl _ _ _⟩
    case round =>
      obtain ⟨k, hk, rfl, hbuf, hkr⟩ := hrel
      have hb3 : Below w.heap.size w wr := hb2.trans ((hkr.toBelow hB2).mono hwB)
      have hBr : B ≤ wr.heap.size := Nat.le_trans hB2 hkr.size
      have htl := tB_size ok.text k hk
      by_cases hlt : k < ts.length
      · obtain ⟨b, off, rfl, -, e1⟩ := hm k hlt
        have e1' := cell_later hb3 e1
        have ht60 := ok.text ts[k] (List.getElem_mem hlt)
        have hlz := lineT_size ht60
        have HS : Hid (tB (ts.take (k + 1)) = tB (ts.take k) ++ lineT ts[k]) := tB_succ hlt
        have HE := lineT_eq ts[k]
        clear e1 x2
        generalize ts[k] = t at *
        go_wp2_with fail
        refine (write_is B B (tB (ts.take k)) (lineT t) wr hbuf (by omega) hBr).mono ?_
        rintro e w4 ⟨rfl, hbuf4, hk4⟩
        have hkk := hkr.trans hk4
        clear hk4 hbuf hkr HE e1'
        go_wp2
        go_roundw
        case rel => exact ⟨k + 1, by omega, by go_num, by rw [HS.out]; exact hbuf4, hkk⟩
        case measure => simp [intOf]; omega
      · have hke : k = ts.length := by omega
        subst hke
        rw [tB_all] at hbuf htl
        have hs1 : (tB ts).size ≤ 1360 := by omega
        have x3 := block_cell (hkr.cell hM2 (by simp))
        clear htl x2
        go_wp2_with fail
        go_loopw [29] (fun i wr => ∃ (k : Nat), k ≤ fs.length ∧ i = .int .i64 k ∧ Bld wr B B (fB (tB ts) (fs.take k)) ∧ Keeps B [5, 41] w2 wr) (fun i _ => fs.length - (intOf i).toNat)
        case atStart => exact ⟨0, by omega, rfl, hbuf, hkr⟩
        case round =>
          clear hbuf hkr x3 hb3 hBr
          obtain ⟨k, hk, rfl, hbuf, hkr⟩ := hrel
          have hb3 : Below w.heap.size w wr := hb2.trans ((hkr.toBelow hB2).mono hwB)
          have hBr : B ≤ wr.heap.size := Nat.le_trans hB2 hkr.size
          have hfl := fB_size (s := tB ts) ok k hk
          by_cases hlt : k < fs.length
          · obtain ⟨b, off, ca, cc, rfl, -, e1, e2, e3, e4⟩ := hf k hlt
            have e1' := cell_later hb3 e1
            have e2' := cell_later hb3 e2
            have e3' := cell_later hb3 e3
            have hmem : fs[k] ∈ fs := List.getElem_mem hlt
            have hp := ok.params fs[k] hmem
            have hl := ok.locals fs[k] hmem
            have hnc := ok.ncode fs[k] hmem
            have hcf := ok.code fs[k] hmem
            have hln := lineF_size hp hl
            have hpz := fits_num hp
            have hlz := fits_num hl
            have HS : Hid (fB (tB ts) (fs.take (k + 1)) = cB (fB (tB ts) (fs.take k) ++ lineF fs[k].params fs[k].locals) fs[k].code) := fB_succ hlt
            generalize fs[k] = f at *
            have hY : Below wr.heap.size wr (wr.alloc (.cells #[.int .i64 f.params, .int .i64 f.locals, .slice ca f.code.length cc] 48)).drew := ((Below.refl _ _).alloc (Nat.le_refl _) _).drew
            have hXd : (wr.alloc (.cells #[.int .i64 f.params, .int .i64 f.locals, .slice ca f.code.length cc] 48)).drew.heap[wr.heap.size]? = some (Obj.cells #[.int .i64 f.params, .int .i64 f.locals, .slice ca f.code.length cc] 48 (0, 0)) := block_new wr _ 48
            have hbufd := hbuf.below hY
            have hkd := hkr.trans (Keeps.below (B := B) (ts := [5, 41]) hY)
            have hBd : B ≤ (wr.alloc (.cells #[.int .i64 f.params, .int .i64 f.locals, .slice ca f.code.length cc] 48)).drew.heap.size := Nat.le_trans hBr hY.size
            have hbd : Below w.heap.size w (wr.alloc (.cells #[.int .i64 f.params, .int .i64 f.locals, .slice ca f.code.length cc] 48)).drew := hb3.trans (hY.mono hb3.size)
            have htd := Lib.tabBelow_of_tabIs htab _ hbd
            have q1 : ¬ 9223372036854775807 < 5 + (numText f.params).size := by omega
            have q2 : ¬ 9223372036854775807 < 5 + (numText f.params).size + 1 := by omega
            have q3 : ¬ 9223372036854775807 < 5 + (numText f.params).size + 1 + (numText f.locals).size := by omega
            have q4 : ¬ 9223372036854775807 < 5 + (numText f.params).size + 1 + (numText f.locals).size + 1 := by omega
            clear e1 e2 e3 hY
            go_wp2_with fail
            go_cut [29] from 29 to 57 (fun s29 wx => s29 = .int .i64 k ∧ Bld wx B B (fB (tB ts) (fs.take k) ++ lineF f.params f.locals) ∧ Keeps B [5, 41] w2 wx ∧ wx.heap[wr.heap.size]? = some (Obj.cells #[.int .i64 f.params, .int .i64 f.locals, .slice ca f.code.length cc] 48 (0, 0)))
            case first =>
              go_region_with (first
                | (go_at_call 17; refine (itoa_fit hp _ htd).mono ?_; rintro e w5 ⟨rfl, hb5⟩; have hX5 := block_kept hXd hb5; have hbuf5 := hbufd.below hb5; have hk5 := hkd.trans (Keeps.below (B := B) (ts := [5, 41]) hb5); have hB5 := Nat.le_trans hBd hb5.size; have hbd5 := hbd.trans (hb5.mono hbd.size); have ht5 := Lib.tabBelow_of_tabIs htab _ hbd5; have xc5 := block_cell hX5; clear hb5)
                | (go_at_call 17; refine (itoa_fit hl _ ht5).mono ?_; rintro e w6 ⟨rfl, hb6⟩; have hX6 := block_kept hX5 hb6; have hbuf6 := hbuf5.below hb6; have hk6 := hk5.trans (Keeps.below (B := B) (ts := [5, 41]) hb6); have hB6 := Nat.le_trans hB5 hb6.size; clear hb6)
                | (go_at_call 16; refine (write_is B B (fB (tB ts) (fs.take k)) (lineF f.params f.locals) _ hbuf6 (by omega) hB6).mono ?_; rintro e w8 ⟨rfl, hbuf8, hk68⟩; have hX8 := hk68.cell hX6 (by simp); have hk8 := hk6.trans hk68; clear hk68))
              all_goals
                go_wp2_with fail
                go_meet
                case rel => exact ⟨rfl, hbuf8, hk8, hX8⟩
            case rest =>
              obtain ⟨rfl, hbufc, hkc, hXc⟩ := hcut
              have xcc := block_cell hXc
              have hbc : Below w.heap.size w wc := hb2.trans ((hkc.toBelow hB2).mono hwB)
              have hs2 : (fB (tB ts) (fs.take k) ++ lineF f.params f.locals).size ≤ 60000 := by rw [ByteArray.size_append]; omega
              clear hbuf hkr hb3 hBr hbufd hkd hBd hbd htd e1' e2' e3' q1 q2 q3 q4 hpz hlz hln hXd
              go_wp2_with fail
              generalize (fB (tB ts) (fs.take k) ++ lineF f.params f.locals) = s1 at hbufc hs2 HS
              go_loopw [47] (fun i wr => ∃ (j : Nat), j ≤ f.code.length ∧ i = .int .i64 j ∧ Bld wr B B (cB s1 (f.code.take j)) ∧ Keeps B [5, 41] w2 wr) (fun i _ => f.code.length - (intOf i).toNat)
              case atStart => exact ⟨0, by omega, rfl, hbufc, hkc⟩
              case round =>
                clear hbufc hkc hXc xcc hbc
                obtain ⟨j, hj, rfl, hbuf, hkr⟩ := hrel
                have hb3 : Below w.heap.size w wr := hb2.trans ((hkr.toBelow hB2).mono hwB)
                have hBr : B ≤ wr.heap.size := Nat.le_trans hB2 hkr.size
                have hcl := cB_size (s := s1) (fun x hx => (hcf x hx).2) j hj
                by_cases hjl : j < f.code.length
                · obtain ⟨b', off', hca, -, g1, g2⟩ := e4 j hjl
                  have g1' := cell_later hb3 g1
                  have g2' := cell_later hb3 g2
                  have hfit := hcf f.code[j] (List.getElem_mem hjl)
                  have hA0 : Hid (-9223372036854775808 ≤ f.code[j].2) := by show _ ≤ _; have := hfit.2.1; omega
                  have hA1 : Hid (f.code[j].2 ≤ 9223372036854775807) := by show _ ≤ _; have := hfit.2.2; omega
                  have hiz := insText_size f.code[j].1 f.code[j].2 hfit.2
                  have hlz := lineI_size (o := f.code[j].1) hfit.2
                  have HC : Hid (cB s1 (f.code.take (j + 1)) = cB s1 (f.code.take j) ++ lineI f.code[j].1 f.code[j].2) := cB_succ hjl
                  subst hca
                  generalize f.code[j] = x at *
                  obtain ⟨op, a⟩ := x
                  simp only at g1' g2' hA0 hA1 hiz hlz HC
                  have r1 : ¬ 9223372036854775807 < 2 + (insText op a).size := by omega
                  have r2 : ¬ 9223372036854775807 < 2 + (insText op a).size + 1 := by omega
                  have hY : Below wr.heap.size wr (wr.alloc (.cells #[.int .i64 op, .int .i64 a] 51)) := (Below.refl _ _).alloc (Nat.le_refl _) _
                  have hbz := hb3.trans (hY.mono hb3.size)
                  have hbufz := hbuf.below hY
                  have hkz := hkr.trans (Keeps.below (B := B) (ts := [5, 41]) hY)
                  have hBz := Nat.le_trans hBr hY.size
                  clear g1 g2 hY hbuf hkr hBr hfit
                  go_wp2_with fail
                  refine (iInsText_any op a _ hA0 hA1 (fun k s h => cell_later hbz (hw.out k s h)) (Lib.tabBelow_of_tabIs htab _ hbz)).mono ?_
                  rintro e w9 ⟨rfl, hb9⟩
                  have hbuf9 := hbufz.below hb9
                  have hk9 := hkz.trans (Keeps.below (B := B) (ts := [5, 41]) hb9)
                  have hB9 := Nat.le_trans hBz hb9.size
                  clear hbufz hkz hBz hb9 hbz hb3 g1' g2'
                  go_wp2_with fail
                  refine (write_is B B (cB s1 (f.code.take j)) (lineI op a) w9 hbuf9 (by omega) hB9).mono ?_
                  rintro e wa ⟨rfl, hbufa, hka⟩
                  have hkk := hk9.trans hka
                  clear hbuf9 hk9 hB9 hka r1 r2
                  go_wp2
                  exact ⟨⟨j + 1, by omega, by go_num, by rw [HC.out]; exact hbufa, hkk⟩, by simp [intOf]; omega⟩
                · have hje : j = f.code.length := by omega
                  subst hje
                  rw [cB_all] at hbuf
                  clear hcl
                  go_wp2
                  exact ⟨⟨k + 1, by omega, by go_num, by rw [HS.out]; exact hbuf, hkr⟩, by simp [intOf]; omega⟩
          · have hke : k = fs.length := by omega
            subst hke
            rw [fB_all] at hbuf
            clear hfl
            go_wp2_with fail
            refine (string_is B B (fB (tB ts) fs) wr hbuf hBr).mono ?_
            rintro e w4 ⟨rfl, hb4⟩
            have hbz := hb3.trans (hb4.mono hwB)
            clear hbuf hb4 hb3
            go_wp2
            go_ret
            exact ⟨rfl, hbz⟩
end Go.Proofs.YtpmkfdinkomaiaaGreatDoor
