/-
  The walk of laws.FnFlow: it returns true and writes nothing that was there.
-/
import Derived.Test.YthhchlceogbbhaaDoorE2
import Derived.Test.YthhchlceogbbhaaDoorG15
import Derived.Test.YthhchlceogbbhaaDoorL9
import Derived.Test.YthhchlceogbbhaaDoorG11
import Derived.Deep.RegionHeld3
namespace Go.Proofs.YthhchlceogbbhaaDoor
open Go.RowKit

theorem DSl.ints0 {w : World} {B n cap : Nat} {a : Option Addr} {d : List Int} (h : DSl w B (.slice a n cap) d) : IntsAt w 0 a d := by
  obtain ⟨a', cap', hv, hi⟩ := h.form
  cases hv
  exact hi.low (Nat.zero_le _)

set_option maxRecDepth 100000 in
set_option maxHeartbeats 8000000 in
theorem lawFlow (xa : Option Addr) (bs : List Int) (xc : Nat) (w : World) (hB : BytesAt w 0 xa bs) (hv : ∀ x ∈ bs, 0 ≤ x ∧ x ≤ 255) (hDB : DB w) :
    Calls Tryd.prog 3 #[.slice xa bs.length xc] w fun e w' => e = .returned (.bool true) ∧ Below w.heap.size w w' := by
  go_enter Tryd.func3, Tryd.ntmps3
  go_wp2_with fail
  refine (big_any xa bs.length xc w).mono ?_
  rintro e w0 ⟨rfl, hw0⟩
  subst hw0
  by_cases hbig : (1048576 : Int) < (bs.length : Int)
  · rw [decide_eq_true hbig]
    go_wp2
    go_ret
    exact ⟨rfl, Below.refl _ _⟩
  rw [decide_eq_false hbig]
  have hn : bs.length ≤ 1048576 := by omega
  clear hbig
  go_wp2_with fail
  refine (drawLead_any xa bs xc w0 hn hB hv).mono ?_
  rintro e w1 ⟨ta, nt, tc, fa, fc, hs, z, rfl, hT, hn3, hG, hh1, hh14, hb1⟩
  obtain ⟨ts, hts, hst, hsz⟩ := strs_of hT
  obtain ⟨fs, hfl, hfn, hfz⟩ := fns_of hG
  have hsm : Small ts fs := small_of (by omega) hsz (by omega) hfz
  rw [← hfl, ← hts]
  clear hT hG hsz hfz hn hB hv
  obtain ⟨wA, hwA⟩ : ∃ wA, wA = w1.alloc (.cells #[.slice ta ts.length tc, .slice fa fs.length fc] 27) := ⟨_, rfl⟩
  have hbA : Below w1.heap.size w1 wA := by rw [hwA]; exact (Below.refl _ _).alloc (Nat.le_refl _) _
  have hMA : wA.heap[w1.heap.size]? = some (.cells #[.slice ta ts.length tc, .slice fa fs.length fc] 27 (0, 0)) := by rw [hwA]; exact block_new _ _ _
  have hBA : Below w0.heap.size w0 wA := hb1.trans (hbA.mono hb1.size)
  have hstA := hst.mono hbA
  have hfnA := hfn.mono hbA
  have hDA := hDB.mono hBA
  have hn14 : fs.length ≤ 14 := by omega
  clear hst hfn hb1 hbA hts hfl hn3 hh1 hh14 hDB
  go_wp2_with fail
  rw [← hwA]
  clear hwA
  refine (iLeaders_any ta fa tc fc ts fs z wA hsm hstA hfnA hDA).mono ?_
  rintro e w2 ⟨v, L, rfl, hAL, hdL, hb2⟩
  have m2 := block_cell (block_kept hMA hb2)
  obtain ⟨aL, cL, rfl, -⟩ := hdL.form
  have iL2 := hdL.ints0
  clear hdL
  go_wp2_with fail
  refine (iHeads_any ta fa tc fc ts fs z w2 hsm (hstA.mono hb2) (hfnA.mono hb2) (hDA.mono hb2)).mono ?_
  rintro e w3 ⟨v, H, rfl, hAH, hdH, hb3⟩
  have hA3 : Below wA.heap.size wA w3 := hb2.trans (hb3.mono hb2.size)
  have m3 := block_cell (block_kept hMA hA3)
  obtain ⟨aH, cH, rfl, -⟩ := hdH.form
  have iH3 := hdH.ints0
  have iL3 := iL2.mono hb3
  clear hdH iL2 m2 hb2 hb3
  go_wp2_with fail
  refine (iEntries_any ta fa tc fc ts fs z w3 hsm (hstA.mono hA3) (hfnA.mono hA3) (hDA.mono hA3)).mono ?_
  rintro e w4 ⟨v, E, rfl, hAE, hdE, hb4⟩
  have hA4 : Below wA.heap.size wA w4 := hA3.trans (hb4.mono hA3.size)
  have hM4 := block_kept hMA hA4
  obtain ⟨aE, cE, rfl, -⟩ := hdE.form
  have iE := hdE.ints0
  have iH := iH3.mono hb4
  have iL := iL3.mono hb4
  have hLn := hAL.len
  have hHn := hAH.len
  have hEn := hAE.len
  have HAL : Hid (Ans LP ts fs z L) := hAL
  have HAH : Hid (Ans HP ts fs z H) := hAH
  have HAE : Hid (Ans EP ts fs z E) := hAE
  clear hdE iH3 iL3 m3 hA3 hb4 hAL hAH hAE
  obtain ⟨r, hr⟩ : ∃ r, r = pB (StrP ts fs z) := ⟨_, rfl⟩
  have HR : Hid (pB (StrP ts fs z) = r) := hr.symm
  clear hr
  have hrr : (r != r) = false := by cases r <;> rfl
  have HS : Hid (∀ w', Below w4.heap.size w4 w' → (∀ i, w'.cell? ⟨w1.heap.size, i, none⟩ = #[Value.slice ta ts.length tc, .slice fa fs.length fc][i]?)) := fun w' q => block_cell (block_kept hM4 q)
  have HST : Hid (∀ w', Below w4.heap.size w4 w' → StrsAt w' 0 ta ts ∧ FnsAt w' 0 fa fs) := fun w' q => ⟨(hstA.mono hA4).mono q, (hfnA.mono hA4).mono q⟩
  go_wp2
  have j0 := HS.out w4 (Below.refl _ _)
  have q : Below w4.heap.size w4 w4.drew := (Below.refl _ _).drew
  go_region_held3 (fun w' => (∀ i, w'.cell? ⟨w1.heap.size, i, none⟩ = #[Value.slice ta ts.length tc, .slice fa fs.length fc][i]?))
    (first | exact j0 | exact HS.out _ q)
    (first
      | (go_at_call 10; refine (sLeadersOf_any ta fa tc fc ts fs z _ hsm (by exact (HST.out _ q).1) (by exact (HST.out _ q).2)).mono ?_; rintro e wa ⟨v, L', rfl, hA', hds', kd⟩; have e' := HAL.out.one hA'; subst e'; obtain ⟨aL', cL', rfl, -⟩ := hds'.form; have iL' := hds'.ints0; have q := q.trans (kd.mono q.size); clear hA' hds')
      | (go_at_call_of 9 aL; refine (sameInts_any aL aL' L cL cL' _ (by omega) (by exact iL.mono q) iL').mono ?_; rintro e wb ⟨rfl, kd⟩; have q := q.trans (kd.mono q.size); clear iL')
      | (go_at_call 11; refine (sHeadsOf_any ta fa tc fc ts fs z _ hsm (by exact (HST.out _ q).1) (by exact (HST.out _ q).2)).mono ?_; rintro e wc ⟨v, H', rfl, hA', hds', kd⟩; have e' := HAH.out.one hA'; subst e'; obtain ⟨aH', cH', rfl, -⟩ := hds'.form; have iH' := hds'.ints0; have q := q.trans (kd.mono q.size); clear hA' hds')
      | (go_at_call_of 9 aH; refine (sameInts_any aH aH' H cH cH' _ (by omega) (by exact iH.mono q) iH').mono ?_; rintro e wd ⟨rfl, kd⟩; have q := q.trans (kd.mono q.size); clear iH')
      | (go_at_call 12; refine (sEntriesOf_any ta fa tc fc ts fs z _ hsm (by exact (HST.out _ q).1) (by exact (HST.out _ q).2)).mono ?_; rintro e we ⟨v, E', rfl, hA', hds', kd⟩; have e' := HAE.out.one hA'; subst e'; obtain ⟨aE', cE', rfl, -⟩ := hds'.form; have iE' := hds'.ints0; have q := q.trans (kd.mono q.size); clear hA' hds')
      | (go_at_call_of 9 aE; refine (sameInts_any aE aE' E cE cE' _ (by omega) (by exact iE.mono q) iE').mono ?_; rintro e wf ⟨rfl, kd⟩; have q := q.trans (kd.mono q.size); clear iE')
      | (go_at_call 13; refine (iStraight_any ta fa tc fc ts fs z _ hsm (by exact (HST.out _ q).1) (by exact (HST.out _ q).2)).mono ?_; rintro e wg ⟨he, kd⟩; rw [HR.out] at he; subst he; have q := q.trans (kd.mono q.size))
      | (go_at_call 14; refine (sStraight_any ta fa tc fc ts fs z _ hsm (by exact (HST.out _ q).1) (by exact (HST.out _ q).2)).mono ?_; rintro e wh ⟨he, kd⟩; rw [HR.out] at he; subst he; have q := q.trans (kd.mono q.size)))
  have HB : Hid (Below w0.heap.size w0 wh) := hBA.trans ((hA4.trans (q.mono hA4.size)).mono hBA.size)
  have HSS : Hid (StrsAt wh 0 ta ts ∧ FnsAt wh 0 fa fs) := HST.out wh q
  have hMh := block_kept hM4 q
  have iLh := iL.mono q
  have iHh := iH.mono q
  have iEh := iE.mono q
  clear hA4 hM4 hMA hstA hfnA hDA j0 HS HST iL iH iE HR hBA q kd
  by_cases hL0 : L.length = 0
  · obtain ⟨rfl, rfl⟩ := HAL.out.none_of HAH.out HAE.out hL0
    obtain rfl : L = [] := List.eq_nil_of_length_eq_zero hL0
    clear hL0 hMh iLh iHh iEh
    go_wp2
    go_ret
    exact ⟨rfl, HB.out⟩
  obtain ⟨hG, k, hk, d, rfl, hD, hLe, hHe, hEe⟩ := HAL.out.some_of HAH.out HAE.out hL0
  have hL1 : ((L.length : Int) == 0) = false := by simp only [beq_eq_false_iff_ne]; omega
  have HLe : Hid (L = lstI (LP fs[k].code d fs[k].code.length) fs[k].code.length) := hLe
  have HHe : Hid (H = lstI (HP fs[k].code d fs[k].code.length) fs[k].code.length) := hHe
  have HEe : Hid (E = lstI (EP fs[k].code d fs[k].code.length) fs[k].code.length) := hEe
  have HG : Hid (Good ts fs) := hG
  have HD : Hid (Done fs fs[k].code d) := hD
  clear hLe hHe hEe hG hD HAL HAH HAE
  have mh := block_cell hMh
  go_wp2_with fail
  refine (iDepthsOf_any ta fa tc fc ts fs k wh hsm HSS.out.1 HSS.out.2).mono ?_
  rintro e w5 ⟨v, d', rfl, hI, hds, hb5⟩
  obtain rfl : d' = d := by
    rcases hI with ⟨-, k', hk', e', hd⟩ | ⟨h, -⟩
    · obtain rfl : k = k' := by omega
      exact hd.one HD.out
    · exact absurd ⟨good_mod HG.out, by omega, by omega⟩ h
  have F := fine_of (good_mod HG.out) hk
  have hH := HD.out.hts F
  have hone := F.one
  have hmost := F.most
  obtain ⟨g, cap, rfl, hHt⟩ : ∃ g cap, v = .slice (some ⟨g, 0, none⟩) d'.length cap ∧ Ht w5 g cap d' := by
    rcases hds with ⟨rfl, -⟩ | ⟨g, cap, hv, -, hH'⟩
    · have := hH.len; simp at this; omega
    · exact ⟨g, cap, hv, hH'⟩
  obtain ⟨b, off, ca, cc, hfa, -, d1, d2, d3, d4⟩ := HSS.out.2.mono hb5 k hk
  have HHF : Hid (Hts fs[k].code.length d') := hH
  have HFI : Hid (Fine fs fs[k].code) := F
  have HD4 : Hid (CodeAt w5 0 ca fs[k].code) := d4
  have HHT : Hid (Ht w5 g cap d') := hHt
  have HB5 : Hid (Below w0.heap.size w0 w5) := HB.out.trans (hb5.mono HB.out.size)
  have HIL : Hid (IntsAt w5 0 aL L) := iLh.mono hb5
  have HIH : Hid (IntsAt w5 0 aH H) := iHh.mono hb5
  have HIE : Hid (IntsAt w5 0 aE E) := iEh.mono hb5
  have m5 := block_cell (block_kept hMh hb5)
  rw [hH.len]
  clear d1 d2 hI hds hb5 hH F hHt d4 hMh mh iLh iHh iEh HB HSS
  subst hfa
  go_wp2
  go_loopw [10] (fun i ws => ∃ (j : Nat), j ≤ H.length ∧ i = .int .i64 j ∧ Below w5.heap.size w5 ws) (fun i _ => H.length - (intOf i).toNat)
  case atStart => exact ⟨0, by omega, rfl, Below.refl _ _⟩
  case round =>
    obtain ⟨j, hj, rfl, hbs⟩ := hrel
    obtain ⟨ws, rfl⟩ : ∃ ws, ws = wr := ⟨_, rfl⟩
    by_cases hlj : j < H.length
    · obtain ⟨b4, off4, rfl, -, c1⟩ := HIH.out.mono hbs j hlj
      have hmem : H[j] ∈ H := List.getElem_mem _
      obtain ⟨z, hz⟩ : ∃ z, z = H[j] := ⟨_, rfl⟩
      rw [← hz] at c1 hmem
      have HM : Hid (pB (z ∈ L) = true ∧ pB (z ∈ E) = true) := by
        rw [HHe.out] at hmem
        obtain ⟨jj, e1, e2, e3⟩ := mem_lstI.1 hmem
        exact ⟨pB_yes (by rw [HLe.out]; exact mem_lstI.2 ⟨jj, e1, e2, head_lead e3⟩), pB_yes (by rw [HEe.out]; exact mem_lstI.2 ⟨jj, e1, e2, .inr e3⟩)⟩
      clear hz hmem m5
      go_wp2_with fail
      refine (member_any aL L z cL ws (by omega) (HIL.out.mono hbs)).mono ?_
      rintro e wx ⟨he, hwx⟩
      rw [HM.out.1] at he
      subst he hwx
      go_wp2_with fail
      refine (member_any aE E z cE _ (by omega) (HIE.out.mono hbs)).mono ?_
      rintro e wy ⟨he, hwy⟩
      rw [HM.out.2] at he
      subst he hwy
      go_wp2
      go_roundw
      case rel => exact ⟨j + 1, by omega, by go_num, hbs⟩
      case measure => simp [intOf]; omega
    clear m5 hj
    have HBS : Hid (Below w5.heap.size w5 ws) := hbs
    clear hbs
    go_wp2
    go_loopw [11] (fun i wt => ∃ (l : Nat), l ≤ fs[k].code.length ∧ i = .int .i64 l ∧ Below w5.heap.size w5 wt) (fun i _ => fs[k].code.length - (intOf i).toNat)
    case atStart => exact ⟨0, by omega, rfl, HBS.out⟩
    case round =>
      obtain ⟨l, hl, rfl, hbt⟩ := hrel
      obtain ⟨wt, rfl⟩ : ∃ wt, wt = wr := ⟨_, rfl⟩
      clear hlj
      by_cases hll : l < fs[k].code.length
      case neg =>
        have hEl : E.length ≤ H.length + 1 := by rw [HEe.out, HHe.out]; exact ent_len hone
        obtain ⟨tl, htl⟩ := lstI_zero (P := LP fs[k].code d' fs[k].code.length) hone (LP.zero _ _ _)
        obtain ⟨te, hte⟩ := lstI_zero (P := EP fs[k].code d' fs[k].code.length) hone (.inl rfl)
        rw [← HLe.out] at htl
        rw [← HEe.out] at hte
        have hl0 : 0 < L.length := by rw [htl]; simp
        have he0 : 0 < E.length := by rw [hte]; simp
        have hlz : L[0] = 0 := by simp only [htl]; rfl
        have hez : E[0] = 0 := by simp only [hte]; rfl
        obtain ⟨bl, ol, rfl, -, cl⟩ := HIL.out.mono hbt 0 hl0
        obtain ⟨be, oe, rfl, -, ce⟩ := HIE.out.mono hbt 0 he0
        rw [hlz] at cl
        rw [hez] at ce
        rw [Nat.add_zero] at cl ce
        have HBF : Hid (Below w0.heap.size w0 wt) := HB5.out.trans (hbt.mono HB5.out.size)
        have hw1 : IntKind.i64.wrap ((H.length : Int) + 1) = (H.length : Int) + 1 := by rw [IntKind.wrap_i64]; omega
        have hle : (E.length : Int) ≤ (H.length : Int) + 1 := by omega
        clear htl hte hlz hez hbt
        go_wp2
        go_ret
        exact ⟨rfl, HBF.out⟩
      have hld : l < d'.length := by rw [HHF.out.len]; exact hll
      obtain ⟨b4, off4, rfl, -, e1, e2⟩ := HD4.out.mono hbt l hll
      have c3 := (HHT.out.mono hbt).cell hld
      obtain ⟨z, hz⟩ : ∃ z, z = d'[l] := ⟨_, rfl⟩
      obtain ⟨op, hop⟩ : ∃ op, op = fs[k].code[l].1 := ⟨_, rfl⟩
      obtain ⟨av, hav⟩ : ∃ av, av = fs[k].code[l].2 := ⟨_, rfl⟩
      have HJ : Hid ((op = 17 ∨ op = 18 ∨ op = 19) → ¬ z < 0 → pB (av ∈ L) = true ∧ (av ≤ l → pB (av ∈ H) = true)) := fun h1 h2 => by
        have gq := HFI.out.jump l hll (by rw [← hop]; exact h1)
        have hJ : isJ fs[k].code d' l := ⟨by rw [HHF.out.get hll, ← hz]; omega, by rw [getD_code hll, ← hop]; exact h1⟩
        rw [← hav] at gq
        have ea : ((av.toNat : Nat) : Int) = (fs[k].code.getD l (0, 0)).2 := by rw [getD_code hll, ← hav]; omega
        refine ⟨pB_yes ?_, fun h3 => pB_yes ?_⟩
        · rw [HLe.out, mem_lstI]; exact ⟨av.toNat, by omega, by omega, jump_lead hll hJ ea⟩
        · rw [HHe.out, mem_lstI]; exact ⟨av.toNat, by omega, by omega, jump_head hll hJ (by rw [getD_code hll, ← hav]; exact h3) ea⟩
      rw [← hop] at e1
      rw [← hav] at e2
      rw [← hz] at c3
      clear hz hop hav
      by_cases hjp : op = 17 ∨ op = 18 ∨ op = 19
      case neg =>
        have p17 : (op == 17) = false := by simpa using fun e => hjp (.inl e)
        have p18 : (op == 18) = false := by simpa using fun e => hjp (.inr (.inl e))
        have p19 : (op == 19) = false := by simpa using fun e => hjp (.inr (.inr e))
        by_cases hz0 : z < 0
        · have hz1 : ¬ 0 ≤ z := by omega
          clear hjp HJ
          go_wp2
          go_roundw
          case rel => exact ⟨l + 1, by omega, by go_num, hbt⟩
          case measure => simp [intOf]; omega
        · have hz1 : 0 ≤ z := by omega
          clear hjp HJ
          go_wp2
          go_roundw
          case rel => exact ⟨l + 1, by omega, by go_num, hbt⟩
          case measure => simp [intOf]; omega
      by_cases hz0 : z < 0
      · have hz1 : ¬ 0 ≤ z := by omega
        clear HJ
        rcases hjp with rfl | rfl | rfl
        all_goals
          go_wp2
          go_roundw
          case rel => exact ⟨l + 1, by omega, by go_num, hbt⟩
          case measure => simp [intOf]; omega
      have HJ1 : Hid (pB (av ∈ L) = true) := (HJ.out hjp hz0).1
      have HJ2 : Hid (av ≤ l → pB (av ∈ H) = true) := (HJ.out hjp hz0).2
      have hz1 : 0 ≤ z := by omega
      clear HJ
      rcases hjp with rfl | rfl | rfl
      all_goals
        go_wp2_with fail
        refine (member_any aL L av cL wt (by omega) (HIL.out.mono hbt)).mono ?_
        rintro e wx ⟨he, hwx⟩
        rw [HJ1.out] at he
        subst he hwx
        by_cases hav : av ≤ l
        · go_wp2_with fail
          refine (member_any aH H av cH _ (by omega) (HIH.out.mono hbt)).mono ?_
          rintro e wy ⟨he, hwy⟩
          rw [HJ2.out hav] at he
          subst he hwy
          go_wp2
          go_roundw
          case rel => exact ⟨l + 1, by omega, by go_num, hbt⟩
          case measure => simp [intOf]; omega
        · go_wp2
          go_roundw
          case rel => exact ⟨l + 1, by omega, by go_num, hbt⟩
          case measure => simp [intOf]; omega
end Go.Proofs.YthhchlceogbbhaaDoor
