/-
  What impl.Save returns: the bytes of the module, or none, in memory of the call's own.
-/
import Derived.Test.YtbffmhcahdblnaaDoorS2
import Derived.Test.YtbffmhcahdblnaaDoorW7
import Derived.Lib.AppendStr
namespace Go.Proofs.YtbffmhcahdblnaaDoor
open Go.RowKit

theorem strCells_text (s : ByteArray) : Lib.strCells s = (textBytes s).map (Value.int .u8) := by
  simp [Lib.strCells, textBytes, Function.comp_def]
theorem Buf.text {w' : World} {B n : Nat} {v' : Value} {bs : List Int} {s : ByteArray} (h : w'.ownsRow B 5 1 v' n (bs.map (Value.int .u8) ++ Lib.strCells s)) (hn : n = bs.length + s.size) : Buf w' B v' (bs ++ textBytes s) := by
  unfold Buf
  rw [List.map_append, ← strCells_text, List.length_append, textBytes_len, ← hn]
  exact h

set_option maxRecDepth 100000 in
set_option maxHeartbeats 1600000 in
theorem iSave_any (a1 a2 : Option Addr) (ts : List ByteArray) (fs : List Fn) (c1 c2 : Nat) (w : World) (hs : Small ts fs) (hm : StrsAt w 0 a1 ts) (hf : FnsAt w 0 a2 fs) :
    Calls Tryd.prog 7 #[.agg #[.slice a1 ts.length c1, .slice a2 fs.length c2]] w fun e w' => ∃ v', e = .returned v' ∧ Buf w' w.heap.size v' (saved ts fs) ∧ Below w.heap.size w w' := by
  obtain ⟨i0, hi, hz0, hz1, hz2⟩ := info_parts info5
  obtain ⟨B, hBd⟩ : ∃ B, w.heap.size + 1 = B := ⟨_, rfl⟩
  have hbA : Below w.heap.size w (w.alloc (.cells #[.slice a1 ts.length c1, .slice a2 fs.length c2] 27)) := (Below.refl _ _).alloc (Nat.le_refl _) _
  have hM0 := block_new w #[.slice a1 ts.length c1, .slice a2 fs.length c2] 27
  by_cases hok : modB ts fs = true
  · have ok := okMod hok
    have n1 := ok.nt
    have n2 := ok.nf
    have f1 : Fits (ts.length : Int) := by unfold Fits; omega
    have f2 : Fits (fs.length : Int) := by unfold Fits; omega
    have l1 := num_fits f1
    have l2 := num_fits f2
    go_enter Tryd.func7, Tryd.ntmps7
    go_wp2_with fail
    refine (iModuleOk_any a1 a2 ts fs c1 c2 _ hs (hm.mono hbA) (hf.mono hbA)).mono ?_
    rintro e w1 ⟨rfl, hbx⟩
    have hM1 := block_kept hM0 hbx
    have hb1 : Below w.heap.size w w1 := hbA.trans (hbx.mono (by simp))
    have hB1 : B ≤ w1.heap.size := by have := hbx.size; simp at this; omega
    have x1 := block_cell hM1
    clear hM0 hbA hbx
    go_wp2_with fail
    refine (putN B _ [] ts.length _ f1 (World.ownsRow_nil _ _ _ _) hB1 (by simp)).mono ?_
    rintro e w2 ⟨v2, rfl, hbuf2, hk2⟩
    have hM2 := hk2.cell hM1 (by simp)
    have x2 := block_cell hM2
    clear x1
    go_wp2_with fail
    go_loopw [3, 18] (fun o i wr => ∃ (k : Nat), k ≤ ts.length ∧ i = .int .i64 k ∧ Buf wr B o (num ts.length ++ textsBytes (ts.take k)) ∧ Keeps B [5] w1 wr) (fun _ i _ => ts.length - (intOf i).toNat)
    case atStart => exact ⟨0, by omega, rfl, by simpa [textsBytes] using hbuf2, hk2⟩
    case round =>
      obtain ⟨k, hk, rfl, hbuf, hkr⟩ := hrel
      clear x2 hM2 hbuf2 hk2
      have hM3 := hkr.cell hM1 (by simp)
      have hb3 : Below w.heap.size w wr := hb1.trans ((hkr.toBelow hB1).mono (by omega))
      have hBr : B ≤ wr.heap.size := Nat.le_trans hB1 hkr.size
      have htl : (textsBytes (ts.take k)).length ≤ k * 65 := take_flat_len (fun s hs' => by
        have a := num_fits (n := s.size) (by have := ok.text s hs'; unfold Fits; omega)
        have b := ok.text s hs'
        simp only [List.length_append, textBytes_len]; omega) k
      by_cases hlt : k < ts.length
      · obtain ⟨b, off, rfl, -, e1⟩ := hm k hlt
        have e1' := cell_later hb3 e1
        have ht60 := ok.text ts[k] (List.getElem_mem hlt)
        have f3 : Fits (ts[k].size : Int) := by unfold Fits; omega
        have l3 := num_fits f3
        clear e1
        go_wp2_with fail
        refine (putN B _ (num ts.length ++ textsBytes (ts.take k)) ts[k].size _ f3 hbuf hBr (by simp; omega)).mono ?_
        rintro e w3 ⟨v3, rfl, hbuf3, hk3⟩
        have hB3 : B ≤ w3.heap.size := Nat.le_trans hBr hk3.size
        go_wp2_with (first | (at_builtin; refine Lib.wpList_append_own_string _ rfl _ _ 22 9 rfl B 5 i0 Tryd.underlying22 Tryd.underlying9 hi hz0 hz1 hz2 _ _ _ rfl hbuf3 ts[k] rfl (by unfold maxLen; simp; omega) (by simp; omega) hB3 ?_; intro v4 w4 hown4 hgrow4 hnil4))
        have hk4 : Keeps B [5] w1 w4 := (hkr.trans hk3).trans (Keeps.grown hbuf3 hgrow4 (by simp))
        have hbuf4 := Buf.text hown4 (by simp)
        have HS : Hid (textsBytes (ts.take (k + 1)) = textsBytes (ts.take k) ++ (num ts[k].size ++ textBytes ts[k])) := take_flat hlt
        clear hown4 hgrow4 hnil4
        go_roundw
        case rel => exact ⟨k + 1, by omega, by go_num, by rw [HS.out]; simpa using hbuf4, hk4⟩
        case measure => simp [intOf]; omega
      · have x3 := block_cell hM3
        rw [List.take_of_length_le (by omega)] at hbuf
        have htl2 : (textsBytes ts).length ≤ 1300 := by rw [List.take_of_length_le (by omega)] at htl; omega
        clear htl
        go_wp2_with fail
        refine (putN B _ (num ts.length ++ textsBytes ts) fs.length _ f2 hbuf hBr (by simp; omega)).mono ?_
        rintro e w5 ⟨v5, rfl, hbuf5, hk5⟩
        have hk6 := hkr.trans hk5
        have hM5 := hk5.cell hM3 (by simp)
        have x5 := block_cell hM5
        obtain ⟨hd, hhd⟩ : ∃ hd, hd = num ts.length ++ textsBytes ts ++ num fs.length := ⟨_, rfl⟩
        have hdl : hd.length ≤ 1310 := by rw [hhd]; simp; omega
        rw [← hhd] at hbuf5
        have HD : Hid (modBytes ts fs = hd ++ fnsBytes fs) := by show modBytes ts fs = _; rw [hhd]; rfl
        clear hhd x3 hM3 hkr hk5 hbuf hb3 hBr
        go_wp2_with fail
        go_loopw [3, 38] (fun o i wr => ∃ (q : Nat), q ≤ fs.length ∧ i = .int .i64 q ∧ Buf wr B o (hd ++ fnsBytes (fs.take q)) ∧ Keeps B [5] w1 wr) (fun _ i _ => fs.length - (intOf i).toNat)
        case atStart => exact ⟨0, by omega, rfl, by simpa [fnsBytes] using hbuf5, hk6⟩
        case round =>
          obtain ⟨q, hq, rfl, hbuf, hkr⟩ := hrel
          clear x5 hM5 hbuf5 hk6
          have hb3 : Below w.heap.size w wr := hb1.trans ((hkr.toBelow hB1).mono (by omega))
          have hBr : B ≤ wr.heap.size := Nat.le_trans hB1 hkr.size
          have hfl : (fnsBytes (fs.take q)).length ≤ q * 1215 := take_flat_len (fun f hf' => fnBytes_len (ok.params f hf') (ok.locals f hf') (ok.ncode f hf') (ok.code f hf')) q
          by_cases hlq : q < fs.length
          · obtain ⟨b, off, ca, cc, rfl, -, d1, d2, d3, d4⟩ := hf q hlq
            have d1' := cell_later hb3 d1
            have d2' := cell_later hb3 d2
            have d3' := cell_later hb3 d3
            clear d1 d2 d3
            have hmem := List.getElem_mem hlq
            go_wp2_with fail
            refine (putFunc_any B _ (hd ++ fnsBytes (fs.take q)) fs[q].params fs[q].locals ca fs[q].code cc _ w (ok.params _ hmem) (ok.locals _ hmem) (ok.ncode _ hmem) (ok.code _ hmem) (hbuf.alloc _) (by simp; omega) (by simp; omega) d4 (by omega) (hb3.alloc (by omega) _)).mono ?_
            rintro e w6 ⟨v6, rfl, hbuf6, hk6⟩
            have hk7 : Keeps B [5] w1 w6 := (hkr.alloc _).trans hk6
            have HS : Hid (fnsBytes (fs.take (q + 1)) = fnsBytes (fs.take q) ++ fnBytes fs[q]) := take_flat hlq
            clear d1' d2' d3' hk6
            go_wp2
            go_roundw
            case rel => exact ⟨q + 1, by omega, by go_num, by rw [HS.out]; simpa using hbuf6, hk7⟩
            case measure => simp [intOf]; omega
          · rw [List.take_of_length_le (by omega), ← HD.out] at hbuf
            obtain ⟨av, capv, rfl, -⟩ := hbuf.form
            by_cases h2 : (modBytes ts fs).length ≤ 20000
            · have HR : Hid (saved ts fs = modBytes ts fs) := by show saved ts fs = _; unfold saved; rw [if_pos ⟨hok, h2⟩]
              have h2' : ((modBytes ts fs).length : Int) ≤ 20000 := by omega
              go_wp2
              go_ret
              exact ⟨_, rfl, by rw [HR.out]; exact hbuf.low (by omega), hb3⟩
            · have HR : Hid (saved ts fs = []) := by show saved ts fs = _; unfold saved; rw [if_neg (fun h => h2 h.2)]
              have h2' : (20000 : Int) < ((modBytes ts fs).length : Int) := by omega
              go_wp2
              go_ret
              exact ⟨_, rfl, by rw [HR.out]; exact World.ownsRow_nil _ _ _ _, hb3⟩
  · have hok' : modB ts fs = false := by simpa using hok
    have HR : Hid (saved ts fs = []) := by show saved ts fs = _; unfold saved; rw [if_neg (fun h => hok h.1)]
    clear hok
    go_enter Tryd.func7, Tryd.ntmps7
    go_wp2_with fail
    refine (iModuleOk_any a1 a2 ts fs c1 c2 _ hs (hm.mono hbA) (hf.mono hbA)).mono ?_
    rintro e w1 ⟨rfl, hbx⟩
    have hb1 : Below w.heap.size w w1 := hbA.trans (hbx.mono (by simp))
    go_wp2
    go_ret
    exact ⟨_, rfl, by rw [HR.out]; exact World.ownsRow_nil _ _ _ _, hb1⟩
end Go.Proofs.YtbffmhcahdblnaaDoor
