/-
  The law laws.FnShown, walked, over what its drawing gives.
-/
import Derived.Test.YtpmkfdinkomaiaaGreatDoorGQ2
import Derived.Test.YtpmkfdinkomaiaaGreatDoorS6
import Derived.Test.YtpmkfdinkomaiaaGreatDoorD9
import Derived.Test.YtpmkfdinkomaiaaGreatDoorR20
import Derived.Test.YtpmkfdinkomaiaaGreatDoorR19
import Derived.Test.YtpmkfdinkomaiaaGreatDoorU5
import Derived.Test.YtpmkfdinkomaiaaGreatDoorW8
import Derived.Deep.CutRange
namespace Go.Proofs.YtpmkfdinkomaiaaGreatDoor
open Go.RowKit

/-- A module was drawn in memory. -/
def ShowP (w : World) (e : Ending) (w' : World) : Prop :=
  ∃ ta tc fa fc ts fs, e = .returned (.agg #[.slice ta (List.length ts) tc, .slice fa (List.length fs) fc]) ∧ StrsAt w' 0 ta ts ∧ FnsAt w' 0 fa fs ∧ Small ts fs ∧ Below w.heap.size w w'

set_option maxRecDepth 100000 in
set_option maxHeartbeats 16000000 in
theorem lawShown (xa ya : Option Addr) (bs cs : List Int) (xc yc : Nat) (w : World)
    (HS : bs.length ≤ 1048576 → ∀ w', Below w.heap.size w w' → Calls Tryz.prog 5 #[.slice xa bs.length xc] w' (ShowP w')) (HR : cs.length ≤ 1048576 → ∀ w', Below w.heap.size w w' → Calls Tryz.prog 11 #[.slice ya cs.length yc] w' (DrawnText w'))
    (hw : Hid (∀ k s, words[k]? = some s → w.cell? ⟨0, k, none⟩ = some (.string s))) (htab : Lib.TabIs Tryz.prog w "internal/strconv.uint64pow10" .u64 Lib.pow10Tab) (hvr : Vars w) :
    Calls Tryz.prog 3 #[.slice xa bs.length xc, .slice ya cs.length yc] w fun e w' => e = .returned (.bool true) ∧ Below w.heap.size w w' := by
  have IR : ∀ t : ByteArray, t.size ≤ 1048576 → ∀ w' : World, Below w.heap.size w w' → Calls Tryz.prog 9 #[.string t] w' (OnePost t w') := fun t ht w' hb =>
    (iRead_any t w' ht (fun k s h => cell_later hb (hw.out k s h)) (Lib.tabBelow_of_tabIs htab _ hb) (hvr.below hb)).mono fun _ _ h => h.one
  have SR : ∀ t : ByteArray, t.size ≤ 1048576 → ∀ w' : World, Calls Tryz.prog 12 #[.string t] w' (OnePost t w') := fun t ht w' => (sRead_any t w' ht).mono fun _ _ h => h.one
  have IS : ∀ w' : World, Below w.heap.size w w' → ∀ (a1 a2 : Option Addr) (ts : List ByteArray) (fs : List Fn) (c1 c2 : Nat), Small ts fs → StrsAt w' 0 a1 ts → FnsAt w' 0 a2 fs → Calls Tryz.prog 6 #[.agg #[.slice a1 ts.length c1, .slice a2 fs.length c2]] w' fun e w'' => e = .returned (.string (shown ts fs)) ∧ Below w'.heap.size w' w'' := fun w' hb a1 a2 ts fs c1 c2 hs hm hf =>
    iShow_any a1 a2 ts fs c1 c2 w' hs hm hf (fun k s h => cell_later hb (hw.out k s h)) (Lib.tabBelow_of_tabIs htab _ hb)
  clear hw htab hvr
  go_enter Tryz.func3, Tryz.ntmps3
  go_wp2_with fail
  refine (big_any xa bs.length xc w).mono ?_
  rintro e w0 ⟨rfl, hw0⟩
  rw [hw0]
  clear hw0 w0
  by_cases hb1 : (1048576 : Int) < (bs.length : Int)
  · rw [decide_eq_true hb1]
    go_wp2
    go_ret
    exact ⟨rfl, Below.refl _ _⟩
  rw [decide_eq_false hb1]
  go_wp2_with fail
  refine (big_any ya cs.length yc _).mono ?_
  rintro e w0 ⟨rfl, hw0⟩
  rw [hw0]
  clear hw0 w0
  by_cases hb2 : (1048576 : Int) < (cs.length : Int)
  · rw [decide_eq_true hb2]
    go_wp2
    go_ret
    exact ⟨rfl, Below.refl _ _⟩
  rw [decide_eq_false hb2]
  have HS1 := HS (by omega) _ (Below.refl _ _)
  have HR1 := HR (by omega)
  clear HS HR hb1 hb2
  go_wp2_with fail
  refine HS1.mono ?_
  rintro e w1 ⟨ta, tc, fa, fc, ts, fs, rfl, hst, hsf, hsm, hbw1⟩
  obtain ⟨wA, hwA⟩ : ∃ wA, wA = w1.alloc (.cells #[.slice ta ts.length tc, .slice fa fs.length fc] 27) := ⟨_, rfl⟩
  obtain ⟨X, hX⟩ : ∃ X, X = w1.heap.size := ⟨_, rfl⟩
  have hbA : Below w1.heap.size w1 wA := by rw [hwA]; exact (Below.refl _ _).alloc (Nat.le_refl _) _
  have hA : wA.heap[X]? = some (.cells #[.slice ta ts.length tc, .slice fa fs.length fc] 27 (0, 0)) := by rw [hwA, hX]; exact block_new _ _ _
  have hBA := hbw1.trans (hbA.mono hbw1.size)
  have hstA := hst.mono hbA
  have hsfA := hsf.mono hbA
  clear HS1 hst hsf
  go_upto_region 4 with fail
  rw [← hwA, ← hX]
  clear hwA hX hbA hbw1
  have xA := block_cell hA
  go_wp2_with fail
  refine (IS wA hBA ta fa ts fs tc fc hsm hstA hsfA).mono ?_
  rintro e w2 ⟨rfl, hb⟩
  have hA2 := block_kept hA hb
  have hst2 := hstA.mono hb
  have hsf2 := hsfA.mono hb
  have hB2 := hBA.trans (hb.mono hBA.size)
  clear hA hstA hsfA hBA hb xA
  have x2 := block_cell hA2
  go_wp2_with fail
  refine (sShow_any ta fa ts fs tc fc w2 hsm hst2 hsf2).mono ?_
  rintro e w3 ⟨rfl, hb⟩
  have hA3 := block_kept hA2 hb
  have hst3 := hst2.mono hb
  have hsf3 := hsf2.mono hb
  have hB3 := hB2.trans (hb.mono hB2.size)
  clear hA2 hst2 hsf2 hB2 hb x2
  have x3 := block_cell hA3
  obtain ⟨sh, hsh⟩ : ∃ sh, sh = shown ts fs := ⟨_, rfl⟩
  rw [← hsh]
  have hq : (sh.toList == sh.toList) = true := by simp
  have hshz : sh.size ≤ 1048576 := by rw [hsh]; exact Nat.le_trans (shown_size ts fs) (by omega)
  have HSH : Hid (sh = shown ts fs) := hsh
  clear hsh
  go_wp2_with fail
  refine (sModuleOk_any ta fa ts fs tc fc w3 hsm hst3 hsf3).mono ?_
  rintro e w4 ⟨rfl, hb⟩
  have hA4 := block_kept hA3 hb
  have hst4 := hst3.mono hb
  have hsf4 := hsf3.mono hb
  have hB4 := hB3.trans (hb.mono hB3.size)
  clear hA3 hst3 hsf3 hB3 hb x3
  cases hmo : modB ts fs
  case' false =>
    obtain ⟨wT, hwT⟩ : ∃ wT, wT = w4 := ⟨_, rfl⟩
    have HBT : Hid (Below w.heap.size w wT) := by rw [hwT]; exact hB4
    go_upto_region 11 with fail
    rw [← hwT]
    clear hwT
  case' true =>
    have HOK : Hid (ReadOf sh true ts fs) := Or.inl ⟨rfl, hmo, by rw [HSH.out]; unfold shown; rw [if_pos hmo]⟩
    go_wp2_with fail
    refine (IR sh hshz w4 hB4).mono ?_
    rintro e w5 ⟨ok, ts', fs', ck, a1, c1, a2, c2, HL, rfl, mo, hb⟩
    obtain ⟨rfl, rfl, rfl⟩ := HOK.out.one HL.out
    have hA5 := block_kept hA4 hb
    have hst5 := hst4.mono hb
    have hsf5 := hsf4.mono hb
    have hB5 := hB4.trans (hb.mono hB4.size)
    obtain ⟨w6, hw6⟩ : ∃ w6, w6 = w5.alloc (.cells #[.slice a1 ts'.length c1, .slice a2 fs'.length c2] 27) := ⟨_, rfl⟩
    obtain ⟨Y, hY⟩ : ∃ Y, Y = w5.heap.size := ⟨_, rfl⟩
    have hb6 : Below w5.heap.size w5 w6 := by rw [hw6]; exact (Below.refl _ _).alloc (Nat.le_refl _) _
    have hY6 : w6.heap[Y]? = some (.cells #[.slice a1 ts'.length c1, .slice a2 fs'.length c2] 27 (0, 0)) := by rw [hw6, hY]; exact block_new _ _ _
    have hA6 := block_kept hA5 hb6
    have hst6 := hst5.mono hb6
    have hsf6 := hsf5.mono hb6
    have mo6 := (mo.below hb6).low (Nat.zero_le _)
    have hB6 := hB5.trans (hb6.mono hB5.size)
    clear hb HL mo hA5 hst5 hsf5 hB5
    go_upto_region 9 with fail
    rw [← hw6, ← hY]
    clear hw6 hY hb6
    have x6 := block_cell hA6
    have y6 := block_cell hY6
    go_wp2_with fail
    refine (sameModule_any a1 a2 ta fa ts' fs' c1 c2 tc fc w6 hsm mo6.strs hst6 mo6.fns hsf6).mono ?_
    rintro e wT ⟨rfl, hbT⟩
    have HBT : Hid (Below w.heap.size w wT) := hB6.trans (hbT.mono hB6.size)
    clear x6 y6
    go_upto_region 11 with fail
  all_goals
    have hBT := HBT.out
    go_wp2_with fail
    refine (HR1 wT hBT).mono ?_
    rintro e w7 ⟨t, rfl, htz, hb7⟩
    have hB7 := hBT.trans (hb7.mono hBT.size)
    have htz' : t.size ≤ 1048576 := by omega
    clear hb7
    go_wp2_with fail
    refine (IR t htz' w7 hB7).mono ?_
    rintro e w8 ⟨ok1, ts1, fs1, ck1, p1, pc1, p2, pc2, HL1, rfl, mo1, hb8⟩
    have hB8 := hB7.trans (hb8.mono hB7.size)
    obtain ⟨w9, hw9⟩ : ∃ w9, w9 = w8.alloc (.cells #[.slice p1 ts1.length pc1, .slice p2 fs1.length pc2] 27) := ⟨_, rfl⟩
    obtain ⟨Z, hZ⟩ : ∃ Z, Z = w8.heap.size := ⟨_, rfl⟩
    have hb9 : Below w8.heap.size w8 w9 := by rw [hw9]; exact (Below.refl _ _).alloc (Nat.le_refl _) _
    have hZ9 : w9.heap[Z]? = some (.cells #[.slice p1 ts1.length pc1, .slice p2 fs1.length pc2] 27 (0, 0)) := by rw [hw9, hZ]; exact block_new _ _ _
    have mo9 := mo1.below hb9
    have hB9 := hB8.trans (hb9.mono hB8.size)
    clear hb8 mo1
    go_upto_region 13 with fail
    rw [← hw9, ← hZ]
    clear hw9 hZ hb9
    go_wp2_with fail
    refine (SR t htz' w9).mono ?_
    rintro e wa ⟨ok2, ts2, fs2, ck2, r1, rc1, r2, rc2, HL2, rfl, mo2, hba⟩
    obtain ⟨rfl, rfl, rfl⟩ := HL1.out.one HL2.out
    have hBa := hB9.trans (hba.mono hB9.size)
    have hZa := block_kept hZ9 hba
    have moa := mo9.below hba
    obtain ⟨wb, hwb⟩ : ∃ wb, wb = wa.alloc (.cells #[.slice r1 ts2.length rc1, .slice r2 fs2.length rc2] 27) := ⟨_, rfl⟩
    obtain ⟨U, hU⟩ : ∃ U, U = wa.heap.size := ⟨_, rfl⟩
    have hbb : Below wa.heap.size wa wb := by rw [hwb]; exact (Below.refl _ _).alloc (Nat.le_refl _) _
    have hUb : wb.heap[U]? = some (.cells #[.slice r1 ts2.length rc1, .slice r2 fs2.length rc2] 27 (0, 0)) := by rw [hwb, hU]; exact block_new _ _ _
    have hZb := block_kept hZa hbb
    have mob := (moa.below hbb).low (Nat.zero_le _)
    have mo2b := (mo2.below hbb).low (Nat.zero_le _)
    have hBb := hBa.trans (hbb.mono hBa.size)
    have hsm2 := HL2.out.small
    clear hba hZa moa mo2 mo9 hZ9 HL1
    go_upto_region 14 with fail
    rw [← hwb, ← hU]
    clear hwb hU hbb
    have zb := block_cell hZb
    have ub := block_cell hUb
    go_wp2_with fail
    refine (sameModule_any p1 p2 r1 r2 ts2 fs2 pc1 pc2 rc1 rc2 wb hsm2 mob.strs mo2b.strs mob.fns mo2b.fns).mono ?_
    rintro e wc ⟨rfl, hbc⟩
    have hBc := hBb.trans (hbc.mono hBb.size)
    have hZc := block_kept hZb hbc
    have mocS := mob.strs.mono hbc
    have mocF := mob.fns.mono hbc
    have zc := block_cell hZc
    clear zb ub hZb hUb mob mo2b hbc
    cases ok2
    case false =>
      go_wp2
      go_ret
      exact ⟨rfl, hBc⟩
    case true =>
      have HT : Hid (shown ts2 fs2 = t) := by
        rcases HL2.out with ⟨-, h1, h2⟩ | ⟨h, -⟩
        · show shown ts2 fs2 = t
          unfold shown
          rw [if_pos h1, h2]
        · cases h
      go_wp2_with fail
      refine (IS wc hBc p1 p2 ts2 fs2 pc1 pc2 hsm2 mocS mocF).mono ?_
      rintro e wd ⟨rfl, hbd⟩
      rw [HT.out]
      have hqt : (t.toList == t.toList) = true := by simp
      have hBd := hBc.trans (hbd.mono hBc.size)
      clear hbd
      go_wp2
      go_ret
      exact ⟨rfl, hBd⟩
end Go.Proofs.YtpmkfdinkomaiaaGreatDoor
