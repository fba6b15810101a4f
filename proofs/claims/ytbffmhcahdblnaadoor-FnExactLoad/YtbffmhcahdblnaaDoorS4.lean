/-
  What spec.Save returns: the bytes of the module, or none, in memory of the call's own.
-/
import Derived.Test.YtbffmhcahdblnaaDoorS3
import Derived.Test.YtbffmhcahdblnaaDoorW8
namespace Go.Proofs.YtbffmhcahdblnaaDoor
open Go.RowKit

set_option maxRecDepth 100000 in
set_option maxHeartbeats 1600000 in
theorem sSave_any (a1 a2 : Option Addr) (ts : List ByteArray) (fs : List Fn) (c1 c2 : Nat) (w : World) (hs : Small ts fs) (hm : StrsAt w 0 a1 ts) (hf : FnsAt w 0 a2 fs) :
    Calls Tryd.prog 8 #[.agg #[.slice a1 ts.length c1, .slice a2 fs.length c2]] w fun e w' => ∃ v', e = .returned v' ∧ Buf w' w.heap.size v' (saved ts fs) ∧ Below w.heap.size w w' := by
  obtain ⟨i0, hi, hz0, hz1, hz2⟩ := info_parts info5
  obtain ⟨B, hBd⟩ : ∃ B, w.heap.size + 1 = B := ⟨_, rfl⟩
  have hbA : Below w.heap.size w ((w.alloc (.cells #[.slice a1 ts.length c1, .slice a2 fs.length c2] 27)).alloc (.cells #[] 5)) := ((Below.refl _ _).alloc (Nat.le_refl _) _).alloc (by simp) _
  have hM0 := block_old (block_new w #[.slice a1 ts.length c1, .slice a2 fs.length c2] 27) (.cells #[] 5)
  have hE0 : Buf ((w.alloc (.cells #[.slice a1 ts.length c1, .slice a2 fs.length c2] 27)).alloc (.cells #[] 5)) B (.slice (some ⟨B, 0, none⟩) 0 0) [] := by
    subst hBd
    have := World.ownsRow_made (base := w.heap.size + 1) (e := 5) (size := 1) (w.alloc (.cells #[.slice a1 ts.length c1, .slice a2 fs.length c2] 27)) #[] 0 (by simp) (by unfold maxLen; omega) rfl
    simpa [Buf] using this
  by_cases hok : modB ts fs = true
  · have ok := okMod hok
    have n1 := ok.nt
    have n2 := ok.nf
    have f1 : Fits (ts.length : Int) := by unfold Fits; omega
    have f2 : Fits (fs.length : Int) := by unfold Fits; omega
    have l1 := num_fits f1
    have l2 := num_fits f2
    go_enter Tryd.func8, Tryd.ntmps8
    go_wp2_with fail
    refine (sModuleOk_any a1 a2 ts fs c1 c2 _ hs (hm.mono hbA) (hf.mono hbA)).mono ?_
    rintro e w1 ⟨rfl, hbx⟩
    have hM1 := block_kept hM0 hbx
    have hE1 := World.ownsRow.kept hE0 (row := none) ⟨hbx.os, hbx.tape, hbx.output, hbx.size, fun k hk _ => hbx.block k hk⟩ (.inr (by simp [Value.ownBlock]))
    have hb1 : Below w.heap.size w w1 := hbA.trans (hbx.mono (by simp; omega))
    have hB1 : B ≤ w1.heap.size := by have := hbx.size; simp at this; omega
    have x1 := block_cell hM1
    clear hM0 hbA hbx hE0
    go_wp2_with fail
    refine (specN B _ [] ts.length _ f1 hE1 hB1 (by simp)).mono ?_
    rintro e w2 ⟨v2, rfl, hbuf2, hk2⟩
    clear x1 hE1
    go_wp2_with fail
    go_loopw [3, 4] (fun o i wr => ∃ (k : Nat), k ≤ ts.length ∧ i = .int .i64 k ∧ Buf wr B o (num ts.length ++ textsBytes (ts.take k)) ∧ Keeps B [5] w1 wr) (fun _ i _ => ts.length - (intOf i).toNat)
    case atStart => exact ⟨0, by omega, rfl, by simpa [textsBytes] using hbuf2, hk2⟩
    case round =>
      obtain ⟨k, hk, rfl, hbuf, hkr⟩ := hrel
      clear hbuf2 hk2
      have hM3 := hkr.cell hM1 (by simp)
      have x3 := block_cell hM3
      have hb3 : Below w.heap.size w wr := hb1.trans ((hkr.toBelow hB1).mono (by omega))
      have hBr : B ≤ wr.heap.size := Nat.le_trans hB1 hkr.size
      have htl : (textsBytes (ts.take k)).length ≤ k * 65 := take_flat_len (fun s hs' => by
        have a := num_fits (n := s.size) (by have := ok.text s hs'; unfold Fits; omega)
        have b := ok.text s hs'
        simp only [List.length_append, textBytes_len]; omega) k
      by_cases hlt : k < ts.length
      · obtain ⟨b, off, rfl, -, e1⟩ := hm k hlt
        have e1' := cell_later hb3 e1
        have ht60 := ok.text ts[k] (List.getElem_mem hlt)
        have f3 : Fits (ts[k].size : Int) := by unfold Fits; omega
        have l3 := num_fits f3
        go_wp2_with fail
        refine (specN B _ (num ts.length ++ textsBytes (ts.take k)) ts[k].size _ f3 hbuf hBr (by simp; omega)).mono ?_
        rintro e w3 ⟨v3, rfl, hbuf3, hk3⟩
        have hB3 : B ≤ w3.heap.size := Nat.le_trans hBr hk3.size
        have y3 := block_cell (hk3.cell hM3 (by simp))
        have e3 := cell_later (hb3.trans ((hk3.toBelow hBr).mono (by omega))) e1
        clear e1' x3 e1
        go_wp2_with (first | (at_builtin; refine Lib.wpList_append_own_string _ rfl _ _ 22 9 rfl B 5 i0 Tryd.underlying22 Tryd.underlying9 hi hz0 hz1 hz2 _ _ _ rfl hbuf3 ts[k] rfl (by unfold maxLen; simp; omega) (by simp; omega) hB3 ?_; intro v4 w4 hown4 hgrow4 hnil4))
        have hk4 : Keeps B [5] w1 w4 := (hkr.trans hk3).trans (Keeps.grown hbuf3 hgrow4 (by simp))
        have hbuf4 := Buf.text hown4 (by simp)
        have HS : Hid (textsBytes (ts.take (k + 1)) = textsBytes (ts.take k) ++ (num ts[k].size ++ textBytes ts[k])) := take_flat hlt
        clear hown4 hgrow4 hnil4
        go_roundw
        case rel => exact ⟨k + 1, by omega, by go_num, by rw [HS.out]; simpa using hbuf4, hk4⟩
        case measure => simp [intOf]; omega
      · rw [List.take_of_length_le (by omega)] at hbuf
        have htl2 : (textsBytes ts).length ≤ 1300 := by rw [List.take_of_length_le (by omega)] at htl; omega
        clear htl
        go_wp2_with fail
        refine (specN B _ (num ts.length ++ textsBytes ts) fs.length _ f2 hbuf hBr (by simp; omega)).mono ?_
        rintro e w5 ⟨v5, rfl, hbuf5, hk5⟩
        have hk6 := hkr.trans hk5
        obtain ⟨hd, hhd⟩ : ∃ hd, hd = num ts.length ++ textsBytes ts ++ num fs.length := ⟨_, rfl⟩
        have hdl : hd.length ≤ 1310 := by rw [hhd]; simp; omega
        rw [← hhd] at hbuf5
        have HD : Hid (modBytes ts fs = hd ++ fnsBytes fs) := by show modBytes ts fs = _; rw [hhd]; rfl
        clear hhd x3 hM3 hkr hk5 hbuf hb3 hBr
        go_wp2_with fail
        go_loopw [3, 5] (fun o i wr => ∃ (q : Nat), q ≤ fs.length ∧ i = .int .i64 q ∧ Buf wr B o (hd ++ fnsBytes (fs.take q)) ∧ Keeps B [5] w1 wr) (fun _ i _ => fs.length - (intOf i).toNat)
        case atStart => exact ⟨0, by omega, rfl, by simpa [fnsBytes] using hbuf5, hk6⟩
        case round =>
          obtain ⟨q, hq, rfl, hbuf, hkr⟩ := hrel
          obtain ⟨wo, rfl⟩ : ∃ wo, wo = wr := ⟨_, rfl⟩
          clear hbuf5 hk6
          have hM3 := hkr.cell hM1 (by simp)
          have x3 := block_cell hM3
          have hb3 : Below w.heap.size w wo := hb1.trans ((hkr.toBelow hB1).mono (by omega))
          have hBr : B ≤ wo.heap.size := Nat.le_trans hB1 hkr.size
          have hfl : (fnsBytes (fs.take q)).length ≤ q * 1215 := take_flat_len (fun f hf' => fnBytes_len (ok.params f hf') (ok.locals f hf') (ok.ncode f hf') (ok.code f hf')) q
          by_cases hlq : q < fs.length
          · obtain ⟨b, off, ca, cc, rfl, -, d1, d2, d3, d4⟩ := hf q hlq
            have d1' := cell_later hb3 d1
            have d2' := cell_later hb3 d2
            have d3' := cell_later hb3 d3
            clear d1 d2 d3
            have hmem := List.getElem_mem hlq
            have g1 := ok.params _ hmem
            have g2 := ok.locals _ hmem
            have g3 := ok.ncode _ hmem
            have g4 := ok.code _ hmem
            have f5 : Fits (fs[q].code.length : Int) := by unfold Fits; omega
            have m1 := num_fits g1
            have m2 := num_fits g2
            have m3 := num_fits f5
            obtain ⟨he, hhe⟩ : ∃ he, he = hd ++ fnsBytes (fs.take q) := ⟨_, rfl⟩
            have hel : he.length ≤ 20000 := by rw [hhe]; simp; omega
            rw [← hhe] at hbuf
            have HE : Hid (he = hd ++ fnsBytes (fs.take q)) := hhe
            clear hhe hfl
            have hX := block_new wo #[.int .i64 fs[q].params, .int .i64 fs[q].locals, .slice ca fs[q].code.length cc] 44
            have hM4 := block_old hM3 (.cells #[.int .i64 fs[q].params, .int .i64 fs[q].locals, .slice ca fs[q].code.length cc] 44)
            go_wp2_with fail
            refine (specN B _ he fs[q].params _ g1 (hbuf.alloc _) (by simp; omega) (by omega)).mono ?_
            rintro e w6 ⟨v6, rfl, hbuf6, hkx⟩
            have hX6 := hkx.cell hX (by simp)
            have hk6 : Keeps B [5] w1 w6 := (hkr.alloc _).trans hkx
            have z6 := block_cell hX6
            clear hkx hX hM4 d1' d2' d3' x3 hM3 hbuf
            go_wp2_with fail
            refine (specN B _ (he ++ num fs[q].params) fs[q].locals _ g2 hbuf6 (Nat.le_trans hB1 hk6.size) (by simp; omega)).mono ?_
            rintro e w7 ⟨v7, rfl, hbuf7, hkx⟩
            have hX7 := hkx.cell hX6 (by simp)
            have hk7 : Keeps B [5] w1 w7 := hk6.trans hkx
            have z7 := block_cell hX7
            clear hkx hX6 z6 hk6 hbuf6
            go_wp2_with fail
            refine (specN B _ (he ++ num fs[q].params ++ num fs[q].locals) fs[q].code.length _ f5 hbuf7 (Nat.le_trans hB1 hk7.size) (by simp; omega)).mono ?_
            rintro e w8 ⟨v8, rfl, hbuf8, hkx⟩
            have hX8 := hkx.cell hX7 (by simp)
            have hk8 : Keeps B [5] w1 w8 := hk7.trans hkx
            clear hkx hX7 z7 hk7 hbuf7
            obtain ⟨hh, hhh⟩ : ∃ hh, hh = he ++ num fs[q].params ++ num fs[q].locals ++ num fs[q].code.length := ⟨_, rfl⟩
            have hhl : hh.length ≤ 20015 := by rw [hhh]; simp; omega
            rw [← hhh] at hbuf8
            have HH : Hid (hh = he ++ num fs[q].params ++ num fs[q].locals ++ num fs[q].code.length) := hhh
            clear hhh m1 m2 m3
            go_wp2_with fail
            go_loopw [3, 7] (fun o i wr => ∃ (j : Nat), j ≤ fs[q].code.length ∧ i = .int .i64 j ∧ Buf wr B o (hh ++ codeBytes (fs[q].code.take j)) ∧ wr.heap[wo.heap.size]? = some (.cells #[.int .i64 fs[q].params, .int .i64 fs[q].locals, .slice ca fs[q].code.length cc] 44 (0, 0)) ∧ Keeps B [5] w1 wr) (fun _ i _ => fs[q].code.length - (intOf i).toNat)
            case atStart => exact ⟨0, by omega, rfl, by simpa [codeBytes] using hbuf8, hX8, hk8⟩
            case round =>
              obtain ⟨j, hj, rfl, hbuf, hX, hks⟩ := hrel
              clear hbuf8 hX8 hk8
              have z := block_cell hX
              have hcl := codeBytes_len g4 j
              have hb4 : Below w.heap.size w wr := hb1.trans ((hks.toBelow hB1).mono (by omega))
              have hBs : B ≤ wr.heap.size := Nat.le_trans hB1 hks.size
              by_cases hlj : j < fs[q].code.length
              · obtain ⟨cb, co, rfl, -, e1, e2⟩ := d4 j hlj
                have e1' := cell_later hb4 e1
                have e2' := cell_later hb4 e2
                have hfk := g4 fs[q].code[j] (List.getElem_mem hlj)
                have m1 := num_fits hfk.1
                have m2 := num_fits hfk.2
                go_wp2_with fail
                refine (specN B _ (hh ++ codeBytes (fs[q].code.take j)) fs[q].code[j].1 _ hfk.1 hbuf hBs (by simp; omega)).mono ?_
                rintro e w9 ⟨v9, rfl, hbuf9, hk9⟩
                have hX9 := hk9.cell hX (by simp)
                have z9 := block_cell hX9
                have hb9 : Below w.heap.size w w9 := hb4.trans ((hk9.toBelow hBs).mono (by omega))
                have e19 := cell_later hb9 e1
                have e29 := cell_later hb9 e2
                clear z e1' e2' hX hbuf e1 e2
                go_wp2_with fail
                refine (specN B _ (hh ++ codeBytes (fs[q].code.take j) ++ num fs[q].code[j].1) fs[q].code[j].2 _ hfk.2 hbuf9 (Nat.le_trans hBs hk9.size) (by simp; omega)).mono ?_
                rintro e w10 ⟨v10, rfl, hbuf10, hk10⟩
                have hX10 := hk10.cell hX9 (by simp)
                have hk11 : Keeps B [5] w1 w10 := (hks.trans hk9).trans hk10
                have HS : Hid (codeBytes (fs[q].code.take (j + 1)) = codeBytes (fs[q].code.take j) ++ (num fs[q].code[j].1 ++ num fs[q].code[j].2)) := take_flat hlj
                clear z9 e19 e29 hX9 hbuf9 hk9 hk10 hks
                go_wp2
                go_roundw
                case rel => exact ⟨j + 1, by omega, by go_num, by rw [HS.out]; simpa using hbuf10, hX10, hk11⟩
                case measure => simp [intOf]; omega
              · have HS : Hid (fnsBytes (fs.take (q + 1)) = fnsBytes (fs.take q) ++ fnBytes fs[q]) := take_flat hlq
                rw [List.take_of_length_le (by omega), HH.out, HE.out] at hbuf
                go_wp2
                go_roundw
                case rel => exact ⟨q + 1, by omega, by go_num, by rw [HS.out]; simpa [fnBytes] using hbuf, hks⟩
                case measure => simp [intOf]; omega
          · rw [List.take_of_length_le (by omega), ← HD.out] at hbuf
            obtain ⟨av, capv, rfl, -⟩ := hbuf.form
            by_cases h2 : (modBytes ts fs).length ≤ 20000
            · have HR : Hid (saved ts fs = modBytes ts fs) := by show saved ts fs = _; unfold saved; rw [if_pos ⟨hok, h2⟩]
              have h2' : ((modBytes ts fs).length : Int) ≤ 20000 := by omega
              go_wp2
              go_ret
              exact ⟨_, rfl, by rw [HR.out]; exact hbuf.low (by omega), hb3⟩
            · have HR : Hid (saved ts fs = []) := by show saved ts fs = _; unfold saved; rw [if_neg (fun h => h2 h.2)]
              have h2' : (20000 : Int) < ((modBytes ts fs).length : Int) := by omega
              go_wp2
              go_ret
              refine ⟨_, rfl, ?_, hb3.alloc (by omega) _⟩
              rw [HR.out]
              have := World.ownsRow_made (base := w.heap.size) (e := 5) (size := 1) wo #[] 0 (by omega) (by unfold maxLen; omega) rfl
              simpa [Buf] using this
  · have hok' : modB ts fs = false := by simpa using hok
    have HR : Hid (saved ts fs = []) := by show saved ts fs = _; unfold saved; rw [if_neg (fun h => hok h.1)]
    clear hok
    go_enter Tryd.func8, Tryd.ntmps8
    go_wp2_with fail
    refine (sModuleOk_any a1 a2 ts fs c1 c2 _ hs (hm.mono hbA) (hf.mono hbA)).mono ?_
    rintro e w1 ⟨rfl, hbx⟩
    have hb1 : Below w.heap.size w w1 := hbA.trans (hbx.mono (by simp; omega))
    have hE1 := World.ownsRow.kept hE0 (row := none) ⟨hbx.os, hbx.tape, hbx.output, hbx.size, fun k hk _ => hbx.block k hk⟩ (.inr (by simp [Value.ownBlock]))
    go_wp2
    go_ret
    refine ⟨.slice (some ⟨B, 0, none⟩) 0 0, rfl, ?_, hb1⟩
    rw [HR.out]
    exact Buf.low (B := B) hE1 (by omega)
end Go.Proofs.YtbffmhcahdblnaaDoor
