/-
  The walk of laws.FnVerified: it returns true and writes nothing that was there.
-/
import Derived.Test.YtkcpfokhmjiifaaD18
import Derived.Deep.RegionHeld3
namespace Go.Proofs.Ytkcpfokhmjiifaa
open Go.RowKit

set_option maxRecDepth 100000 in
set_option maxHeartbeats 4000000 in
theorem lawVerified (xa : Option Addr) (bs : List Int) (xc : Nat) (w : World) (hB : BytesAt w 0 xa bs) (hv : ∀ x ∈ bs, 0 ≤ x ∧ x ≤ 255) :
    Calls Try.prog 3 #[.slice xa bs.length xc] w fun e w' => e = .returned (.bool true) ∧ Below w.heap.size w w' := by
  go_enter Try.func3, Try.ntmps3
  go_wp2_with fail
  refine (big_any xa bs.length xc w).mono ?_
  rintro e w0 ⟨rfl, hw0⟩
  subst hw0
  by_cases hbig : (1048576 : Int) < (bs.length : Int)
  · rw [decide_eq_true hbig]
    go_wp2
    go_ret
    exact ⟨rfl, Below.refl _ _⟩
  rw [decide_eq_false hbig]
  have hn : bs.length ≤ 1048576 := by omega
  clear hbig
  go_wp2_with fail
  refine (drawVerify_any xa bs xc w0 hn hB hv).mono ?_
  rintro e w1 ⟨ta, nt, tc, fa, fc, hs, rfl, hT, hn3, hG, hh1, hh14, hb1⟩
  obtain ⟨ts, hts, hst, hsz⟩ := strs_of hT
  obtain ⟨fs, hfl, hfn, hfz⟩ := fns_of hG
  have hsm : Small ts fs := ⟨by omega, fun s h => Nat.le_trans (hsz s h) (by omega), by omega, fun f h => Nat.le_trans (hfz f h) (by omega)⟩
  rw [← hfl, ← hts]
  clear hT hG hsz hfz hn hB hv
  obtain ⟨wA, hwA⟩ : ∃ wA, wA = w1.alloc (.cells #[.slice ta ts.length tc, .slice fa fs.length fc] 27) := ⟨_, rfl⟩
  have hbA : Below w1.heap.size w1 wA := by rw [hwA]; exact (Below.refl _ _).alloc (Nat.le_refl _) _
  have hMA : wA.heap[w1.heap.size]? = some (.cells #[.slice ta ts.length tc, .slice fa fs.length fc] 27 (0, 0)) := by rw [hwA]; exact block_new _ _ _
  have hBA : Below w0.heap.size w0 wA := hb1.trans (hbA.mono hb1.size)
  have hstA := hst.mono hbA
  have hfnA := hfn.mono hbA
  have hn14 : fs.length ≤ 14 := by omega
  clear hst hfn hb1 hbA hts hfl hn3 hh1 hh14
  go_wp2_with fail
  rw [← hwA]
  clear hwA
  refine (sVerify_any ta fa tc fc ts fs wA hsm hstA hfnA).mono ?_
  rintro e w2 ⟨c, f, a, rfl, hV, hb2⟩
  obtain ⟨wB, hwB⟩ : ∃ wB, wB = w2.alloc (.cells #[.int .i64 c, .int .i64 f, .int .i64 a] 30) := ⟨_, rfl⟩
  have hbB : Below w2.heap.size w2 wB := by rw [hwB]; exact (Below.refl _ _).alloc (Nat.le_refl _) _
  have hTB : wB.heap[w2.heap.size]? = some (.cells #[.int .i64 c, .int .i64 f, .int .i64 a] 30 (0, 0)) := by rw [hwB]; exact block_new _ _ _
  have hAB : Below wA.heap.size wA wB := hb2.trans (hbB.mono hb2.size)
  have HV : Hid (VPost ts fs c f a) := hV
  clear hV hb2 hbB
  have gd := guard30
  have e30 := eqIn30 c f a
  go_wp2
  rw [← hwB]
  clear hwB
  have HS : Hid (∀ w', Below wB.heap.size wB w' → (∀ i, w'.cell? ⟨w1.heap.size, i, none⟩ = #[Value.slice ta ts.length tc, .slice fa fs.length fc][i]?) ∧ (∀ i, w'.cell? ⟨w2.heap.size, i, none⟩ = #[Value.int .i64 c, .int .i64 f, .int .i64 a][i]?)) := fun w' q => ⟨block_cell (block_kept (block_kept hMA hAB) q), block_cell (block_kept hTB q)⟩
  obtain ⟨j0, j1⟩ := HS.out wB (Below.refl _ _)
  have q : Below wB.heap.size wB wB.drew := (Below.refl _ _).drew
  go_region_held3 (fun w' => (∀ i, w'.cell? ⟨w1.heap.size, i, none⟩ = #[Value.slice ta ts.length tc, .slice fa fs.length fc][i]?) ∧ (∀ i, w'.cell? ⟨w2.heap.size, i, none⟩ = #[Value.int .i64 c, .int .i64 f, .int .i64 a][i]?))
    (first | exact ⟨j0, j1⟩ | exact HS.out _ q)
    (first
      | (go_at_call 7; refine (iVerify_any ta fa tc fc ts fs _ hsm (by exact hstA.mono (hAB.trans (q.mono hAB.size))) (by exact hfnA.mono (hAB.trans (q.mono hAB.size)))).mono ?_; rintro e w5 ⟨c', f', a', rfl, hV', kd⟩; obtain ⟨rfl, rfl, rfl⟩ := HV.out.one hV'; have q := q.trans (kd.mono q.size)))
  have hA5 : Below wA.heap.size wA w5 := hAB.trans (q.mono hAB.size)
  have hT5 := block_kept hTB q
  have t5 := block_cell hT5
  clear j0 j1 HS kd hTB hAB q gd e30 hV'
  by_cases hc0 : c = 0
  case neg =>
    have hc1 : (c != 0) = true := by simpa using hc0
    have HB9 : Hid (Below w0.heap.size w0 w5) := hBA.trans (hA5.mono hBA.size)
    go_wp2
    go_ret
    exact ⟨rfl, HB9.out⟩
  subst hc0
  obtain ⟨hmod, hclear⟩ : modB ts fs = true ∧ ∀ g (hg : g < fs.length), Clear fs fs[g].code fs[g].code.length := by
    rcases HV.out with ⟨-, h, -⟩ | ⟨hm, hT⟩
    · cases h
    · refine ⟨hm, ?_⟩
      rcases hT with ⟨-, -, -, h⟩ | ⟨g, hg, k, d', -, -, -, -, -, h, -⟩
      · exact h
      · exact absurd rfl h
  have HMOD : Hid (modB ts fs = true) := hmod
  have HCL : Hid (∀ g (hg : g < fs.length), Clear fs fs[g].code fs[g].code.length) := hclear
  have HMA : Hid (wA.heap[w1.heap.size]? = some (.cells #[.slice ta ts.length tc, .slice fa fs.length fc] 27 (0, 0))) := hMA
  have HBA : Hid (Below w0.heap.size w0 wA) := hBA
  have HST : Hid (StrsAt wA 0 ta ts) := hstA
  have HFN : Hid (FnsAt wA 0 fa fs) := hfnA
  clear hmod hclear hMA hBA hstA hfnA HV
  go_wp2
  clear t5 hT5
  go_loopw [5] (fun i wr => ∃ (k : Nat), k ≤ fs.length ∧ i = .int .i64 k ∧ Below wA.heap.size wA wr) (fun i _ => fs.length - (intOf i).toNat)
  case atStart => exact ⟨0, by omega, rfl, hA5⟩
  case round =>
    obtain ⟨k, hk, rfl, hb⟩ := hrel
    obtain ⟨wo, rfl⟩ : ∃ wo, wo = wr := ⟨_, rfl⟩
    clear hA5
    have m0 := block_cell (block_kept HMA.out hb)
    by_cases hlt : k < fs.length
    case neg =>
      obtain rfl : k = fs.length := by omega
      have HB9 : Hid (Below w0.heap.size w0 wo) := HBA.out.trans (hb.mono HBA.out.size)
      go_wp2
      go_ret
      exact ⟨rfl, HB9.out⟩
    have F := fine_of HMOD.out hlt
    go_wp2_with fail
    refine (iDepthsOf_any ta fa tc fc ts fs k wo hsm (HST.out.mono hb) (HFN.out.mono hb)).mono ?_
    rintro e w3 ⟨v, d, rfl, hI, hds, hb3⟩
    have hD : Done fs fs[k].code d := by
      rcases hI with ⟨-, k', hk', e', hd⟩ | ⟨h, -⟩
      · obtain rfl : k = k' := by omega
        exact hd
      · exact absurd ⟨HMOD.out, by omega, by omega⟩ h
    have H := hD.hts F
    have hone := F.one
    have hmost := F.most
    obtain ⟨g, cap, rfl, hH⟩ : ∃ g cap, v = .slice (some ⟨g, 0, none⟩) d.length cap ∧ Ht w3 g cap d := by
      rcases hds with ⟨rfl, -⟩ | ⟨g, cap, hv, -, hH⟩
      · have := H.len; simp at this; omega
      · exact ⟨g, cap, hv, hH⟩
    have HTR : Hid (∀ j, j < fs[k].code.length → troubleB fs fs[k].code d j = 0) := HCL.out k hlt d hD
    have hz := done_zero F hD
    have hA3 : Below wA.heap.size wA w3 := hb.trans (hb3.mono hb.size)
    obtain ⟨b, off, ca, cc, hfa, -, d1, d2, d3, d4⟩ := HFN.out.mono hA3 k hlt
    have HHF : Hid (Hts fs[k].code.length d) := H
    have HFI : Hid (Fine fs fs[k].code) := F
    have HD4 : Hid (CodeAt w3 0 ca fs[k].code) := d4
    have hz0 : d[0]'(by rw [H.len]; omega) = 0 := by rw [← H.get (by omega)]; exact hz
    have c0 := hH.cell (j := 0) (by rw [H.len]; omega)
    rw [hz0] at c0
    have m3 := block_cell (block_kept HMA.out hA3)
    rw [H.len]
    have HHT : Hid (Ht w3 g cap d) := hH
    clear d1 d2 hI hds hb3 hD H F hz hz0 hH d4 m0 hb
    subst hfa
    go_wp2
    clear c0 m3
    go_loopw [8] (fun i ws => ∃ (j : Nat), j ≤ fs[k].code.length ∧ i = .int .i64 j ∧ Below w3.heap.size w3 ws) (fun i _ => fs[k].code.length - (intOf i).toNat)
    case atStart => exact ⟨0, by omega, rfl, Below.refl _ _⟩
    case round =>
      obtain ⟨j, hj, rfl, hbs⟩ := hrel
      obtain ⟨ws, rfl⟩ : ∃ ws, ws = wr := ⟨_, rfl⟩
      by_cases hlj : j < fs[k].code.length
      case neg =>
        obtain rfl : j = fs[k].code.length := by omega
        have HA9 : Hid (Below wA.heap.size wA ws) := hA3.trans (hbs.mono hA3.size)
        go_wp2
        go_roundw
        case rel => exact ⟨k + 1, by omega, by go_num, HA9.out⟩
        case measure => simp [intOf]; omega
      have hjd : j < d.length := by rw [HHF.out.len]; exact hlj
      obtain ⟨b4, off4, rfl, -, e1, e2⟩ := HD4.out.mono hbs j hlj
      have c3 := (HHT.out.mono hbs).cell hjd
      have NT := no_trouble hlj (HTR.out j hlj)
      have hjmp := HFI.out.jump j hlj
      have uo := usesB_ok (fs := fs) HFI.out.params fs[k].code[j].1 fs[k].code[j].2
      have hgd : d.getD j (-1) = d[j] := HHF.out.get hlj
      have hhi := HHF.out.high j hjd
      rw [hgd] at NT
      obtain ⟨z, hz⟩ : ∃ z, z = d[j] := ⟨_, rfl⟩
      obtain ⟨op, hop⟩ : ∃ op, op = fs[k].code[j].1 := ⟨_, rfl⟩
      obtain ⟨av, hav⟩ : ∃ av, av = fs[k].code[j].2 := ⟨_, rfl⟩
      rw [← hop, ← hav] at NT uo hjmp
      rw [← hop] at e1
      rw [← hav] at e2
      rw [← hz] at NT c3 hhi
      obtain ⟨⟨p, l⟩, hu⟩ : ∃ u, u = usesB fs op av := ⟨_, rfl⟩
      rw [← hu] at NT uo
      dsimp only at NT uo
      have HU : Hid ((p, l) = usesB fs op av) := hu
      clear hz hop hav hgd hu
      by_cases hz0 : z < 0
      · clear NT
        go_wp2
        go_roundw
        case rel => exact ⟨j + 1, by omega, by go_num, hbs⟩
        case measure => simp [intOf]; omega
      have hN := NT hz0
      clear NT
      have HN3 : Hid (∀ nx ∈ nextB op av j, nx < fs[k].code.length ∧ d.getD nx.toNat (-1) = z - p + l) := hN.2.2
      have hN1 : p ≤ z := by have := hN.1; omega
      have hN2 : z - p + l ≤ 16 := by have := hN.2.1; omega
      clear hN
      have HAS : Hid (Below wA.heap.size wA ws) := hA3.trans (hbs.mono hA3.size)
      have HS : Hid (∀ w', Below ws.heap.size ws w' → w'.cell? ⟨w1.heap.size, 0, none⟩ = some (.slice ta ts.length tc) ∧ w'.cell? ⟨w1.heap.size, 1, none⟩ = some (.slice (some ⟨b, off, none⟩) fs.length fc) ∧ w'.cell? ⟨b4, off4 + j * 2, none⟩ = some (.int .i64 op) ∧ w'.cell? ⟨b4, off4 + j * 2 + 1, none⟩ = some (.int .i64 av)) := fun w' q =>
        ⟨by rw [block_cell (block_kept (block_kept HMA.out HAS.out) q)]; rfl, by rw [block_cell (block_kept (block_kept HMA.out HAS.out) q)]; rfl, cell_later q e1, cell_later q e2⟩
      go_wp2
      obtain ⟨j0, j1, j2, j3⟩ := HS.out ws (Below.refl _ _)
      have q : Below ws.heap.size ws ws.drew := (Below.refl _ _).drew
      go_region_held3 (fun w' => w'.cell? ⟨w1.heap.size, 0, none⟩ = some (.slice ta ts.length tc) ∧ w'.cell? ⟨w1.heap.size, 1, none⟩ = some (.slice (some ⟨b, off, none⟩) fs.length fc) ∧ w'.cell? ⟨b4, off4 + j * 2, none⟩ = some (.int .i64 op) ∧ w'.cell? ⟨b4, off4 + j * 2 + 1, none⟩ = some (.int .i64 av))
        (first | exact ⟨j0, j1, j2, j3⟩ | exact HS.out _ q)
        (first
          | (go_at_call 9; refine (iUses_any ta (some ⟨b, off, none⟩) ts.length tc fc fs op av _ (by exact HFN.out.mono (HAS.out.trans (q.mono HAS.out.size)))).mono ?_; rintro e w6 ⟨he, kd⟩; rw [← HU.out] at he; subst he; have q := q.trans (kd.mono q.size)))
      obtain ⟨-, -, j2', j3'⟩ := HS.out w6 q
      have c3' := cell_later q c3
      have HQ : Hid (Below w3.heap.size w3 w6) := hbs.trans (q.mono hbs.size)
      have HT6 : Hid (Ht w6 g cap d) := (HHT.out.mono hbs).mono q
      have HDL : Hid (∀ nx : Nat, nx < fs[k].code.length → d.getD nx (-1) = z - p + l → w6.cell? ⟨g, nx, none⟩ = some (.int .i64 (z - p + l))) := fun nx hnx e => by
        have := HT6.out.cell (j := nx) (by rw [HHF.out.len]; exact hnx)
        rw [← HHF.out.get hnx, e] at this
        exact this
      clear j0 j1 j2 j3 HS kd q c3 e1 e2
      have w1' : IntKind.i64.wrap (z - p) = z - p := by rw [IntKind.wrap_i64]; omega
      have w2' : IntKind.i64.wrap (z - p + l) = z - p + l := by rw [IntKind.wrap_i64]; omega
      have w3' : IntKind.i64.wrap ((j : Int) + 1) = (j : Int) + 1 := by rw [IntKind.wrap_i64]; omega
      have n1 : ¬ z < p := by omega
      have n2 : ¬ 16 < z - p + l := by omega
      have hbb : 0 ≤ p ∧ p ≤ 7 ∧ 0 ≤ l ∧ l ≤ 2 := uo
      clear uo hN1 hN2
      by_cases h17 : op = 17
      case pos =>
        subst h17
        obtain ⟨g1, g2⟩ := HN3.out av (by unfold nextB; simp)
        obtain ⟨g3, -⟩ := hjmp (by omega)
        obtain ⟨ai, rfl⟩ : ∃ ai : Nat, av = (ai : Int) := ⟨av.toNat, by omega⟩
        have ca1 := HDL.out ai (by omega) (by simpa using g2)
        have hal : ai < fs[k].code.length := by omega
        clear g2 g1 g3 hjmp
        go_wp2
        go_roundw
        case rel => exact ⟨j + 1, by omega, by go_num, HQ.out⟩
        case measure => simp [intOf]; omega
      by_cases h25 : op = 25
      case pos =>
        subst h25
        clear hjmp
        go_wp2
        go_roundw
        case rel => exact ⟨j + 1, by omega, by go_num, HQ.out⟩
        case measure => simp [intOf]; omega
      by_cases hif : op = 18 ∨ op = 19
      case pos =>
        obtain ⟨g1, g2⟩ := HN3.out av (by unfold nextB; rw [if_neg h25, if_neg h17, if_pos hif]; simp)
        obtain ⟨r1, r2⟩ := HN3.out ((j : Int) + 1) (by unfold nextB; rw [if_neg h25, if_neg h17, if_pos hif]; simp)
        obtain ⟨g3, -⟩ := hjmp (by omega)
        obtain ⟨ai, rfl⟩ : ∃ ai : Nat, av = (ai : Int) := ⟨av.toNat, by omega⟩
        have ca1 := HDL.out ai (by omega) (by simpa using g2)
        have hal : ai < fs[k].code.length := by omega
        have cn1 := HDL.out (j + 1) (by omega) (by have e : ((j : Int) + 1).toNat = j + 1 := by omega
                                                   rw [e] at r2; exact r2)
        have hjl : j + 1 < fs[k].code.length := by omega
        clear g2 g1 g3 r1 r2 hjmp
        rcases hif with rfl | rfl
        all_goals
          go_wp2
          go_roundw
          case rel => exact ⟨j + 1, by omega, by go_num, HQ.out⟩
          case measure => simp [intOf]; omega
      obtain ⟨r1, r2⟩ := HN3.out ((j : Int) + 1) (by unfold nextB; rw [if_neg h25, if_neg h17, if_neg hif]; simp)
      have cn1 := HDL.out (j + 1) (by omega) (by have e : ((j : Int) + 1).toNat = j + 1 := by omega
                                                 rw [e] at r2; exact r2)
      have hjl : j + 1 < fs[k].code.length := by omega
      have o17 : (op != 17) = true := by simpa using h17
      have o25 : (op != 25) = true := by simpa using h25
      have p17 : (op == 17) = false := by simpa using h17
      have p18 : (op == 18) = false := by simpa using fun e => hif (.inl e)
      have p19 : (op == 19) = false := by simpa using fun e => hif (.inr e)
      clear r1 r2 hjmp
      go_wp2
      go_roundw
      case rel => exact ⟨j + 1, by omega, by go_num, HQ.out⟩
      case measure => simp [intOf]; omega
end Go.Proofs.Ytkcpfokhmjiifaa
