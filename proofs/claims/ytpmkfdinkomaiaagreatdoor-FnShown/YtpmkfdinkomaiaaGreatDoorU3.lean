/-
  What the document's ShowModule gives: the text of the module.
-/
import Derived.Test.YtpmkfdinkomaiaaGreatDoorGQ5
import Derived.Test.YtpmkfdinkomaiaaGreatDoorT3
import Derived.Test.YtpmkfdinkomaiaaGreatDoorW8
import Derived.Deep.CutRange
namespace Go.Proofs.YtpmkfdinkomaiaaGreatDoor
open Go.RowKit

set_option maxRecDepth 100000 in
set_option maxHeartbeats 4000000 in
theorem sShow_any (a1 a2 : Option Addr) (ts : List ByteArray) (fs : List Fn) (c1 c2 : Nat) (w : World) (hs : Small ts fs) (hm : StrsAt w 0 a1 ts) (hf : FnsAt w 0 a2 fs) :
    Calls Tryz.prog 7 #[.agg #[.slice a1 ts.length c1, .slice a2 fs.length c2]] w fun e w' => e = .returned (.string (shown ts fs)) ∧ Below w.heap.size w w' := by
  obtain ⟨i0, hi, hz0, hz1, hz2⟩ := info_parts info5
  have hbA : Below w.heap.size w (w.alloc (.cells #[.slice a1 ts.length c1, .slice a2 fs.length c2] 27)) := (Below.refl _ _).alloc (Nat.le_refl _) _
  have hM0 := block_new w #[.slice a1 ts.length c1, .slice a2 fs.length c2] 27
  unfold shown
  cases hok : modB ts fs
  · go_enter Tryz.func7, Tryz.ntmps7
    go_wp2_with fail
    refine (sModuleOk_any a1 a2 ts fs c1 c2 _ hs (hm.mono hbA) (hf.mono hbA)).mono ?_
    rintro e w1 ⟨rfl, hbx⟩
    rw [hok]
    have hb1 : Below w.heap.size w w1 := hbA.trans (hbx.mono hbA.size)
    clear hbA hbx hM0
    go_wp2
    go_ret
    exact ⟨rfl, hb1⟩
  · rw [if_pos rfl]
    have ok := okMod hok
    have n1 := ok.nt
    have n2 := ok.nf
    go_enter Tryz.func7, Tryz.ntmps7
    go_wp2_with fail
    refine (sModuleOk_any a1 a2 ts fs c1 c2 _ hs (hm.mono hbA) (hf.mono hbA)).mono ?_
    rintro e w1 ⟨rfl, hbx⟩
    rw [hok]
    have hM1 := block_kept hM0 hbx
    have hb1 : Below w.heap.size w w1 := hbA.trans (hbx.mono hbA.size)
    have hE1 : TBuf (w1.alloc (.cells #[] 5)) w1.heap.size (.slice (some ⟨w1.heap.size, 0, none⟩) 0 0) (tB (ts.take 0)) := World.ownsRow_made (base := w1.heap.size) (e := 5) (size := 1) w1 #[] 0 (Nat.le_refl _) (by unfold maxLen; omega) rfl
    have hM2 := block_old hM1 (.cells #[] 5)
    have hb2 : Below w.heap.size w (w1.alloc (.cells #[] 5)) := hb1.alloc hb1.size _
    have hB2 : w1.heap.size ≤ (w1.alloc (.cells #[] 5)).heap.size := by simp
    clear hbA hbx hM0 hM1
    go_wp2_with fail
    obtain ⟨B, eB⟩ : ∃ B, Hid (B = w1.heap.size) := ⟨_, rfl⟩
    rw [← eB.out] at hE1 hB2 ⊢
    have hwB : w.heap.size ≤ B := by rw [eB.out]; exact hb1.size
    generalize (w1.alloc (.cells #[] 5)) = w2 at hE1 hM2 hb2 hB2 ⊢
    clear hb1
    go_loopw [3, 4] (fun o i wr => ∃ (k : Nat), k ≤ ts.length ∧ i = .int .i64 k ∧ TBuf wr B o (tB (ts.take k)) ∧ Keeps B [5] w2 wr) (fun _ i _ => ts.length - (intOf i).toNat)
    case atStart => exact ⟨0, by omega, rfl, hE1, Keeps.refl _ _ _⟩
    case round =>
      obtain ⟨k, hk, rfl, hbuf, hkr⟩ := hrel
      have x3 := block_cell (hkr.cell hM2 (by simp))
      have hb3 : Below w.heap.size w wr := hb2.trans ((hkr.toBelow hB2).mono hwB)
      have hBr : B ≤ wr.heap.size := Nat.le_trans hB2 hkr.size
      have htl := tB_size ok.text k hk
      by_cases hlt : k < ts.length
      · obtain ⟨b, off, rfl, -, e1⟩ := hm k hlt
        have e1' := cell_later hb3 e1
        have ht60 := ok.text ts[k] (List.getElem_mem hlt)
        have hlz := lineT_size ht60
        have HS : Hid (tB (ts.take (k + 1)) = tB (ts.take k) ++ lineT ts[k]) := tB_succ hlt
        clear e1
        go_wp2_with (first | (at_builtin; refine Lib.wpList_append_own_string _ rfl _ _ 22 9 rfl B 5 i0 Tryz.underlying22 Tryz.underlying9 hi hz0 hz1 hz2 _ _ _ rfl hbuf (lineT ts[k]) rfl (by unfold maxLen; omega) (by omega) hBr ?_; intro v4 w4 hown4 hgrow4 hnil4))
        have hk4 : Keeps B [5] w2 w4 := hkr.trans (Keeps.grown hbuf hgrow4 (by simp))
        have hbuf4 := TBuf.add hown4
        clear hown4 hgrow4 hnil4
        go_roundw
        case rel => exact ⟨k + 1, by omega, by go_num, by rw [HS.out]; exact hbuf4, hk4⟩
        case measure => simp [intOf]; omega
      · have hke : k = ts.length := by omega
        subst hke
        rw [tB_all] at hbuf htl
        have hs1 : (tB ts).size ≤ 1360 := by omega
        clear hb3 hBr htl
        go_wp2_with fail
        go_loopw [3, 5] (fun o i wr => ∃ (k : Nat), k ≤ fs.length ∧ i = .int .i64 k ∧ TBuf wr B o (fB (tB ts) (fs.take k)) ∧ Keeps B [5] w2 wr) (fun _ i _ => fs.length - (intOf i).toNat)
        case atStart => exact ⟨0, by omega, rfl, hbuf, hkr⟩
        case round =>
          clear hbuf hkr x3
          obtain ⟨k, hk, rfl, hbuf, hkr⟩ := hrel
          have x3 := block_cell (hkr.cell hM2 (by simp))
          have hb3 : Below w.heap.size w wr := hb2.trans ((hkr.toBelow hB2).mono hwB)
          have hBr : B ≤ wr.heap.size := Nat.le_trans hB2 hkr.size
          have hfl := fB_size (s := tB ts) ok k hk
          by_cases hlt : k < fs.length
          · obtain ⟨b, off, ca, cc, rfl, -, e1, e2, e3, e4⟩ := hf k hlt
            have e1' := cell_later hb3 e1
            have e2' := cell_later hb3 e2
            have e3' := cell_later hb3 e3
            have hmem : fs[k] ∈ fs := List.getElem_mem hlt
            have hp := ok.params fs[k] hmem
            have hl := ok.locals fs[k] hmem
            have hnc := ok.ncode fs[k] hmem
            have hcf := ok.code fs[k] hmem
            have hln := lineF_size hp hl
            have hpz := fits_num hp
            have hlz := fits_num hl
            have HS : Hid (fB (tB ts) (fs.take (k + 1)) = cB (fB (tB ts) (fs.take k) ++ lineF fs[k].params fs[k].locals) fs[k].code) := fB_succ hlt
            generalize fs[k] = f at *
            have hY : Below wr.heap.size wr (wr.alloc (.cells #[.int .i64 f.params, .int .i64 f.locals, .slice ca f.code.length cc] 48)).drew := ((Below.refl _ _).alloc (Nat.le_refl _) _).drew
            have hXd : (wr.alloc (.cells #[.int .i64 f.params, .int .i64 f.locals, .slice ca f.code.length cc] 48)).drew.heap[wr.heap.size]? = some (Obj.cells #[.int .i64 f.params, .int .i64 f.locals, .slice ca f.code.length cc] 48 (0, 0)) := block_new wr _ 48
            have hbufd := hbuf.below hY
            have hkd := hkr.trans (Keeps.below (B := B) (ts := [5]) hY)
            have hBd : B ≤ (wr.alloc (.cells #[.int .i64 f.params, .int .i64 f.locals, .slice ca f.code.length cc] 48)).drew.heap.size := Nat.le_trans hBr hY.size
            have q1 : ¬ 9223372036854775807 < 5 + (numText f.params).size := by omega
            have q2 : ¬ 9223372036854775807 < 5 + (numText f.params).size + 1 := by omega
            have q3 : ¬ 9223372036854775807 < 5 + (numText f.params).size + 1 + (numText f.locals).size := by omega
            have q4 : ¬ 9223372036854775807 < 5 + (numText f.params).size + 1 + (numText f.locals).size + 1 := by omega
            clear e1 e2 e3 hY
            go_wp2_with fail
            go_cut [3] from 28 to 68 (fun s3 wx => TBuf wx B s3 (fB (tB ts) (fs.take k) ++ lineF f.params f.locals) ∧ Keeps B [5] w2 wx ∧ wx.heap[wr.heap.size]? = some (Obj.cells #[.int .i64 f.params, .int .i64 f.locals, .slice ca f.code.length cc] 48 (0, 0)))
            case first =>
              go_region_law (first
                | (refine step_append_text (by rfl) _ _ 22 9 (by rfl) B 5 i0 Tryz.underlying22 Tryz.underlying9 hi hz0 hz1 hz2 _ _ _ (by rfl) hbuf6 (lineF f.params f.locals) (by rfl) (by unfold maxLen; omega) (by omega) hB6 ?_; intro v8 w8 hown8 hgrow8; have hk68 : Keeps B [5] w6 w8 := Keeps.grown hbuf6 hgrow8 (by simp); have hX8 := hk68.cell hX6 (by simp); have hk8 := hk6.trans hk68; have hbuf8 := TBuf.add hown8; clear hown8 hgrow8 hk68)
                | (go_simp; go_at_call_of 20 f.params; refine (digits_fit hp _).mono ?_; rintro e w5 ⟨rfl, hb5⟩; have hX5 := block_kept hXd hb5; have hbuf5 := hbufd.below hb5; have hk5 := hkd.trans (Keeps.below (B := B) (ts := [5]) hb5); have hB5 := Nat.le_trans hBd hb5.size; have xc5 := block_cell hX5; clear hb5)
                | (go_simp; go_at_call_of 20 f.locals; refine (digits_fit hl _).mono ?_; rintro e w6 ⟨rfl, hb6⟩; have hX6 := block_kept hX5 hb6; have hbuf6 := hbuf5.below hb6; have hk6 := hk5.trans (Keeps.below (B := B) (ts := [5]) hb6); have hB6 := Nat.le_trans hB5 hb6.size; clear hb6))
              all_goals
                go_wp2_with fail
                go_meet
                case rel => exact ⟨hbuf8, hk8, hX8⟩
            case rest =>
              obtain ⟨hbufc, hkc, hXc⟩ := hcut
              have hbc : Below w.heap.size w wc := hb2.trans ((hkc.toBelow hB2).mono hwB)
              have hs2 : (fB (tB ts) (fs.take k) ++ lineF f.params f.locals).size ≤ 60000 := by rw [ByteArray.size_append]; omega
              obtain ⟨X, eX⟩ : ∃ X, Hid (X = wr.heap.size) := ⟨_, rfl⟩
              rw [← eX.out] at hXc ⊢
              clear hbuf hkr hb3 hBr hbufd hkd hBd e1' e2' e3' q1 q2 q3 q4 hpz hlz hln hXd
              go_wp2_with fail
              generalize (fB (tB ts) (fs.take k) ++ lineF f.params f.locals) = s1 at hbufc hs2 HS
              obtain ⟨wo, hwo⟩ : ∃ wo, wo = wr := ⟨_, rfl⟩
              rw [← hwo] at eX
              clear hwo
              go_loopw [3, 7] (fun o i wr => ∃ (j : Nat), j ≤ f.code.length ∧ i = .int .i64 j ∧ TBuf wr B o (cB s1 (f.code.take j)) ∧ Keeps B [5] w2 wr ∧ wr.heap[X]? = some (Obj.cells #[.int .i64 f.params, .int .i64 f.locals, .slice ca f.code.length cc] 48 (0, 0))) (fun _ i _ => f.code.length - (intOf i).toNat)
              case atStart => exact ⟨0, by omega, rfl, hbufc, hkc, hXc⟩
              case round =>
                clear hbufc hkc hXc hbc
                obtain ⟨j, hj, rfl, hbuf, hkr, hX⟩ := hrel
                have xc := block_cell hX
                have hb3 : Below w.heap.size w wr := hb2.trans ((hkr.toBelow hB2).mono hwB)
                have hBr : B ≤ wr.heap.size := Nat.le_trans hB2 hkr.size
                have hcl := cB_size (s := s1) (fun x hx => (hcf x hx).2) j hj
                by_cases hjl : j < f.code.length
                · obtain ⟨b', off', hca, -, g1, g2⟩ := e4 j hjl
                  have g1' := cell_later hb3 g1
                  have g2' := cell_later hb3 g2
                  have hfit := hcf f.code[j] (List.getElem_mem hjl)
                  have hA0 : Hid (-9223372036854775808 ≤ f.code[j].2) := by show _ ≤ _; have := hfit.2.1; omega
                  have hA1 : Hid (f.code[j].2 ≤ 9223372036854775807) := by show _ ≤ _; have := hfit.2.2; omega
                  have hiz := insText_size f.code[j].1 f.code[j].2 hfit.2
                  have hlz := lineI_size (o := f.code[j].1) hfit.2
                  have HC : Hid (cB s1 (f.code.take (j + 1)) = cB s1 (f.code.take j) ++ lineI f.code[j].1 f.code[j].2) := cB_succ hjl
                  subst hca
                  generalize f.code[j] = x at *
                  obtain ⟨op, a⟩ := x
                  simp only at g1' g2' hA0 hA1 hiz hlz HC
                  have r1 : ¬ 9223372036854775807 < 2 + (insText op a).size := by omega
                  have r2 : ¬ 9223372036854775807 < 2 + (insText op a).size + 1 := by omega
                  clear g1 g2 hfit
                  go_wp2_with fail
                  refine (sInsText_any op a wr hA0 hA1).mono ?_
                  rintro e w9 ⟨rfl, hb9⟩
                  have hbuf9 := hbuf.below hb9
                  have hk9 := hkr.trans (Keeps.below (B := B) (ts := [5]) hb9)
                  have hB9 := Nat.le_trans hBr hb9.size
                  have hX9 := block_kept hX hb9
                  clear hbuf hkr hBr hb9 hb3 g1' g2' xc hX
                  go_wp2_with (first | (at_builtin; refine Lib.wpList_append_own_string _ rfl _ _ 22 9 rfl B 5 i0 Tryz.underlying22 Tryz.underlying9 hi hz0 hz1 hz2 _ _ _ rfl hbuf9 (lineI op a) rfl (by unfold maxLen; omega) (by omega) hB9 ?_; intro v4 w4 hown4 hgrow4 hnil4))
                  have hk94 : Keeps B [5] w9 w4 := Keeps.grown hbuf9 hgrow4 (by simp)
                  have hX4 := hk94.cell hX9 (by simp)
                  have hbuf4 := TBuf.add hown4
                  have hk4 := hk9.trans hk94
                  first
                    | exact ⟨⟨j + 1, by omega, by go_num, by rw [HC.out]; exact hbuf4, hk4, hX4⟩, by simp [intOf]; omega⟩
                    | (go_roundw
                       case rel => exact ⟨j + 1, by omega, by go_num, by rw [HC.out]; exact hbuf4, hk4, hX4⟩
                       case measure => simp [intOf]; omega)
                · have hje : j = f.code.length := by omega
                  subst hje
                  rw [cB_all] at hbuf
                  clear hcl
                  go_wp2
                  exact ⟨⟨k + 1, by omega, by go_num, by rw [HS.out]; exact hbuf, hkr⟩, by simp [intOf]; omega⟩
          · have hke : k = fs.length := by omega
            subst hke
            rw [fB_all] at hbuf
            have hcv := hbuf.text
            clear hBr hfl hbuf
            go_wp2
            go_ret
            exact ⟨rfl, hb3⟩
end Go.Proofs.YtpmkfdinkomaiaaGreatDoor
