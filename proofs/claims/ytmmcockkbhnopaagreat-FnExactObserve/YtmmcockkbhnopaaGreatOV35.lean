/-
  What spec.Verify returns, for every module within the stated sizes.
-/
import Derived.Test.YtmmcockkbhnopaaGreatOV20
import Derived.Test.YtmmcockkbhnopaaGreatOV19
namespace Go.Proofs.YtmmcockkbhnopaaGreat
open Go.RowKit

set_option maxRecDepth 100000 in
set_option maxHeartbeats 4000000 in
theorem sVerify_any (a1 a2 : Option Addr) (c1 c2 : Nat) (ts : List ByteArray) (fs : List Fn) (w : World) (hs : Small ts fs) (hm : StrsAt w 0 a1 ts) (hm2 : FnsAt w 0 a2 fs) :
    Calls Tryz.prog 90 #[.agg #[.slice a1 ts.length c1, .slice a2 fs.length c2]] w fun e w' => ∃ c f a, e = .returned (.agg #[.int .i64 c, .int .i64 f, .int .i64 a]) ∧ VPost ts fs c f a ∧ Below w.heap.size w w' := by
  have hn := hs.funcs
  have hbA : Below w.heap.size w ((w.alloc (.cells #[.slice a1 ts.length c1, .slice a2 fs.length c2] 40)).alloc (.cells #[.int .i64 0, .int .i64 0, .int .i64 0] 121)) := ((Below.refl _ _).alloc (Nat.le_refl _) _).alloc (by simp) _
  have hM0 := block_old (block_new w #[.slice a1 ts.length c1, .slice a2 fs.length c2] 40) (.cells #[.int .i64 0, .int .i64 0, .int .i64 0] 121)
  have hR0 := block_new (w.alloc (.cells #[.slice a1 ts.length c1, .slice a2 fs.length c2] 40)) #[.int .i64 0, .int .i64 0, .int .i64 0] 121
  rw [World.size_alloc] at hR0
  go_enter Tryz.func90, Tryz.ntmps90
  go_wp2_with fail
  refine (sModuleOk_any _ _ ts fs _ _ _ hs (hm.mono hbA) (hm2.mono hbA)).mono ?_
  rintro e w1 ⟨rfl, hb⟩
  have hM1 := block_kept hM0 hb
  have hR1 := block_kept hR0 hb
  have hb1 : Below w.heap.size w w1 := hbA.trans (hb.mono (by simp; omega))
  have r1 := block_cell hR1
  have r2 := block_free hR1
  clear hbA hM0 hR0 hb
  by_cases hok : modB ts fs = true
  · have HO : Hid (modB ts fs = true) := hok
    have FF : ∀ k (hk : k < fs.length), Fine fs fs[k].code := fun k hk => fine_of hok hk
    go_wp2
    clear hok r1 r2
    go_loopw [3] (fun i wr => ∃ (k : Nat), k ≤ fs.length ∧ i = .int .i64 k ∧ Hid (∀ q (hq : q < fs.length), q < k → Clear fs fs[q].code fs[q].code.length) ∧ wr.heap[w.heap.size]? = some (.cells #[.slice a1 ts.length c1, .slice a2 fs.length c2] 40 (0, 0)) ∧ wr.heap[w.heap.size + 1]? = some (.cells #[.int .i64 0, .int .i64 0, .int .i64 0] 121 (0, 0)) ∧ Below w.heap.size w wr) (fun i _ => fs.length - (intOf i).toNat)
    case atStart => exact ⟨0, by omega, rfl, fun _ _ h => absurd h (Nat.not_lt_zero _), hM1, hR1, hb1⟩
    case round =>
      obtain ⟨k, hk, rfl, hcl, hM, hR, hb⟩ := hrel
      obtain ⟨wo, rfl⟩ : ∃ wo, wo = wr := ⟨_, rfl⟩
      clear hM1 hR1 hb1
      have y0 := block_cell hM
      by_cases hlt : k < fs.length
      · have F := FF k hlt
        have hmost := F.most
        obtain ⟨b, off, ca, cc, rfl, -, d1, d2, d3, d4⟩ := hm2 k hlt
        have d3' := cell_later hb d3
        clear d1 d2 d3
        go_wp2_with fail
        refine (sDepths_any _ _ _ _ _ fs k _ hlt hn (hm2.mono hb) F).mono ?_
        rintro e w2 ⟨g, cap, d, rfl, hg, hD, hH, k2⟩
        have P := hD.hts F
        have hM2 := block_kept hM k2
        have hR2 := block_kept hR k2
        have hb2 : Below w.heap.size w w2 := hb.trans (k2.mono hb.size)
        clear k2 d3' hM hR hb y0
        go_wp2
        go_loopw [6] (fun i ws => ∃ (j : Nat), j ≤ fs[k].code.length ∧ i = .int .i64 j ∧ Hid (∀ q, q < j → troubleB fs fs[k].code d q = 0) ∧ Ht ws g cap d ∧ ws.heap[w.heap.size]? = some (.cells #[.slice a1 ts.length c1, .slice (some ⟨b, off, none⟩) fs.length c2] 40 (0, 0)) ∧ ws.heap[w.heap.size + 1]? = some (.cells #[.int .i64 0, .int .i64 0, .int .i64 0] 121 (0, 0)) ∧ Below w.heap.size w ws) (fun i _ => fs[k].code.length - (intOf i).toNat)
        case atStart => exact ⟨0, by omega, rfl, fun _ h => absurd h (Nat.not_lt_zero _), hH, hM2, hR2, hb2⟩
        case round =>
          obtain ⟨j, hj, rfl, hno, hH3, hM3, hR3, hb3⟩ := hrel
          obtain ⟨ws, rfl⟩ : ∃ ws, ws = wr := ⟨_, rfl⟩
          clear hH hM2 hR2 hb2
          by_cases hlj : j < fs[k].code.length
          · have hlen : j < d.length := by rw [P.len]; exact hlj
            have HZ : Hid (d.getD j (-1) = d[j]) := P.get hlj
            have z0 := P.low j hlen
            have z1 := P.high j hlen
            have hcell := hH3.cell hlen
            by_cases hneg : d[j] < 0
            · have HT : Hid (troubleB fs fs[k].code d j = 0) := trouble_none hlj HZ.out hneg
              go_wp2
              go_roundw
              case rel => exact ⟨j + 1, by omega, by go_num, fun q hq => (by
                by_cases e : q = j
                · subst e; exact HT.out
                · exact hno.out q (by omega)), hH3, hM3, hR3, hb3⟩
              case measure => simp [intOf]; omega
            have HNN : Hid (0 ≤ d[j]) := (show 0 ≤ d[j] by omega)
            obtain ⟨cb, co, rfl, -, e1, e2⟩ := d4 j hlj
            have e1' := cell_later hb3 e1
            have e2' := cell_later hb3 e2
            have y1 := block_cell hM3
            obtain ⟨u0, u1, u2, u3⟩ := usesB_ok F.params fs[k].code[j].1 fs[k].code[j].2
            clear e1 e2
            go_wp2
            go_region_held3 (fun w' => w'.cell? ⟨w.heap.size, 0, none⟩ = some (.slice a1 ts.length c1) ∧ w'.cell? ⟨w.heap.size, 1, none⟩ = some (.slice (some ⟨b, off, none⟩) fs.length c2) ∧ w'.cell? ⟨cb, co + j * 2, none⟩ = some (.int .i64 fs[k].code[j].1) ∧ w'.cell? ⟨cb, co + j * 2 + 1, none⟩ = some (.int .i64 fs[k].code[j].2))
              (first | exact ⟨(y1 0).trans rfl, (y1 1).trans rfl, e1', e2'⟩ | exact ⟨by rw [block_cell (block_kept hM3 k6)]; rfl, by rw [block_cell (block_kept hM3 k6)]; rfl, cell_later k6 e1', cell_later k6 e2'⟩)
              (first | (go_at_call 119; refine (sUses_any _ _ _ _ _ fs fs[k].code[j].1 fs[k].code[j].2 _ hn (by exact hm2.mono hb3.drew)).mono ?_; rintro e w4 ⟨rfl, k6d⟩; have k6 := below_undraw k6d))
            have hM4 := block_kept hM3 k6
            have hR4 := block_kept hR3 k6
            have hH4 := hH3.mono k6
            have hb4 : Below w.heap.size w w4 := hb3.trans (k6.mono hb3.size)
            have hcell4 := hH4.cell hlen
            have e14 := cell_later k6 e1'
            have e24 := cell_later k6 e2'
            clear hM3 hR3 hH3 hb3 hcell y1 e1' e2' k6 k6d
            by_cases hfit : d[j] < (usesB fs fs[k].code[j].1 fs[k].code[j].2).1 ∨ 16 < d[j] - (usesB fs fs[k].code[j].1 fs[k].code[j].2).1 + (usesB fs fs[k].code[j].1 fs[k].code[j].2).2
            · have HT : Hid (troubleB fs fs[k].code d j = 2) := trouble_stack hlj HZ.out rfl rfl (by have := HNN.out; omega) hfit
              have r4 := block_cell hR4
              have q4 := block_free hR4
              rcases (show d[j] < (usesB fs fs[k].code[j].1 fs[k].code[j].2).1 ∨ ((usesB fs fs[k].code[j].1 fs[k].code[j].2).1 ≤ d[j] ∧ 16 < d[j] - (usesB fs fs[k].code[j].1 fs[k].code[j].2).1 + (usesB fs fs[k].code[j].1 fs[k].code[j].2).2) by omega) with hx | ⟨hx, hy⟩
              all_goals
                clear hfit
                go_wp2
                have rr := block_cell (three_set (x := 2) (y := (k : Int)) (z := (j : Int)) hR4)
                refine bodyPost_ret (v := .agg #[.int .i64 2, .int .i64 (k : Int), .int .i64 (j : Int)]) (by simp [results, Tryz.results90, go_sem, rr]) rfl ⟨2, (k : Int), (j : Int), rfl, .inr ⟨HO.out, .inr ⟨k, hlt, j, d, rfl, rfl, hlj, hD, HT.out, by decide, clear_of hD hno.out, hcl.out⟩⟩, ?_⟩
                exact ((hb4.setCell (by simp) _).setCell (by simp) _).setCell (by simp) _
            obtain ⟨left, hleft⟩ : ∃ left, left = d[j] - (usesB fs fs[k].code[j].1 fs[k].code[j].2).1 + (usesB fs fs[k].code[j].1 fs[k].code[j].2).2 := ⟨_, rfl⟩
            have HL : Hid (left = d[j] - (usesB fs fs[k].code[j].1 fs[k].code[j].2).1 + (usesB fs fs[k].code[j].1 fs[k].code[j].2).2) := hleft
            have hx : (usesB fs fs[k].code[j].1 fs[k].code[j].2).1 ≤ d[j] := by omega
            have hy : d[j] - (usesB fs fs[k].code[j].1 fs[k].code[j].2).1 + (usesB fs fs[k].code[j].1 fs[k].code[j].2).2 ≤ 16 := by omega
            have HF : Hid ((usesB fs fs[k].code[j].1 fs[k].code[j].2).1 ≤ d[j] ∧ d[j] - (usesB fs fs[k].code[j].1 fs[k].code[j].2).1 + (usesB fs fs[k].code[j].1 fs[k].code[j].2).2 ≤ 16) := ⟨hx, hy⟩
            have hnx := next_in F hlj
            clear hfit hleft
            go_wp2_with fail
            rw [← HL.out]
            refine (sNext_any fs[k].code[j].1 fs[k].code[j].2 j _ (by omega)).mono ?_
            rintro e w5 ⟨ad, ncap, rfl, hI, k7⟩
            have hM5 := block_kept hM4 k7
            have hR5 := block_kept hR4 k7
            have hH5 := hH4.mono k7
            have hb5 : Below w.heap.size w w5 := hb4.trans (k7.mono hb4.size)
            have r5 := block_cell hR5
            have q5 := block_free hR5
            obtain ⟨nx, hnxe⟩ : ∃ nx, nx = nextB fs[k].code[j].1 fs[k].code[j].2 j := ⟨_, rfl⟩
            have HX : Hid (nx = nextB fs[k].code[j].1 fs[k].code[j].2 j) := hnxe
            rw [← hnxe] at hI hnx ⊢
            have hnl : nx.length ≤ 2 := by rw [hnxe]; exact next_len _ _ _
            clear hM4 hR4 hH4 hb4 k7 hcell4 e14 e24 hnxe
            go_wp2
            go_loop [11] (fun i => ∃ (q : Nat), q ≤ nx.length ∧ i = .int .i64 q ∧ Hid ((nx.take q).any (fun x => decide ((fs[k].code.length : Int) ≤ x)) = false)) (fun i => nx.length - (intOf i).toNat)
            case atStart => exact ⟨0, by omega, rfl, by show _ = _; simp⟩
            case round =>
              obtain ⟨q, hq, rfl, hqn⟩ := hrel
              by_cases hlq : q < nx.length
              · obtain ⟨v0, v1⟩ := hnx nx[q] (List.getElem_mem hlq)
                obtain ⟨nb, no, rfl, hnb, m1⟩ := hI q hlq
                by_cases hend : (fs[k].code.length : Int) ≤ nx[q]
                · have HT : Hid (troubleB fs fs[k].code d j = 3) := by
                    refine trouble_end hlj HZ.out rfl rfl (by have := HNN.out; omega) (by have := HF.out; omega) ?_
                    rw [← HX.out]
                    exact any_yes (p := fun x => decide ((fs[k].code.length : Int) ≤ x)) hlq (by simpa using hend)
                  clear hqn
                  go_wp2
                  have rr := block_cell (three_set (x := 3) (y := (k : Int)) (z := (j : Int)) hR5)
                  refine bodyPost_ret (v := .agg #[.int .i64 3, .int .i64 (k : Int), .int .i64 (j : Int)]) (by simp [results, Tryz.results90, go_sem, rr]) rfl ⟨3, (k : Int), (j : Int), rfl, .inr ⟨HO.out, .inr ⟨k, hlt, j, d, rfl, rfl, hlj, hD, HT.out, by decide, clear_of hD hno.out, hcl.out⟩⟩, ?_⟩
                  exact ((hb5.setCell (by simp) _).setCell (by simp) _).setCell (by simp) _
                · have HQ : Hid ((nx.take (q + 1)).any (fun x => decide ((fs[k].code.length : Int) ≤ x)) = false) := any_take_no hlq hqn.out (by simpa using hend)
                  clear hqn
                  go_wp2
                  go_round
                  case rel => exact ⟨q + 1, by omega, by go_num, HQ⟩
                  case measure => simp [intOf]; omega
              · have HN : Hid (nx.any (fun x => decide ((fs[k].code.length : Int) ≤ x)) = false) := any_end (by omega) hqn.out
                clear hqn
                go_wp2
                go_loop [12] (fun i => ∃ (q : Nat), q ≤ nx.length ∧ i = .int .i64 q ∧ Hid ((nx.take q).any (fun x => decide (d.getD x.toNat (-1) ≠ left)) = false)) (fun i => nx.length - (intOf i).toNat)
                case atStart => exact ⟨0, by omega, rfl, by show _ = _; simp⟩
                case round =>
                  obtain ⟨p, hp, rfl, hpn⟩ := hrel
                  by_cases hlp : p < nx.length
                  · obtain ⟨v0, v1⟩ := hnx nx[p] (List.getElem_mem hlp)
                    obtain ⟨nb, no, rfl, hnb, m1⟩ := hI p hlp
                    obtain ⟨nk, hnk⟩ : ∃ nk : Nat, nx[p] = (nk : Int) := ⟨nx[p].toNat, by omega⟩
                    have hin : nk < fs[k].code.length := by
                      rcases Nat.lt_or_ge nk fs[k].code.length with h | h
                      · exact h
                      · have := any_yes (p := fun x => decide ((fs[k].code.length : Int) ≤ x)) hlp (by simp; omega)
                        rw [HN.out] at this
                        cases this
                    rw [hnk] at m1
                    have hkl : nk < d.length := by rw [P.len]; exact hin
                    have m2 := hH5.cell hkl
                    have hget : d.getD nx[p].toNat (-1) = d[nk] := by rw [hnk, Int.toNat_natCast]; exact P.get hin
                    by_cases he : d[nk] = left
                    · have HQ : Hid ((nx.take (p + 1)).any (fun x => decide (d.getD x.toNat (-1) ≠ left)) = false) := any_take_no hlp hpn.out (by simp only [hget, he]; simp)
                      have b1 : (d[nk] != left) = false := by simp [he]
                      clear hpn hget hnk he
                      go_wp2
                      go_round
                      case rel => exact ⟨p + 1, by omega, by go_num, HQ⟩
                      case measure => simp [intOf]; omega
                    · have HT : Hid (troubleB fs fs[k].code d j = 4) := by
                        refine trouble_join hlj HZ.out rfl rfl (by have := HNN.out; omega) (by have := HF.out; omega) (by rw [← HX.out]; exact HN.out) ?_
                        rw [← HX.out, ← HL.out]
                        exact any_yes (p := fun x => decide (d.getD x.toNat (-1) ≠ left)) hlp (by simp only [hget]; simpa using he)
                      have b1 : (d[nk] != left) = true := by simpa using he
                      clear hpn hget hnk he
                      go_wp2
                      have rr := block_cell (three_set (x := 4) (y := (k : Int)) (z := (j : Int)) hR5)
                      refine bodyPost_ret (v := .agg #[.int .i64 4, .int .i64 (k : Int), .int .i64 (j : Int)]) (by simp [results, Tryz.results90, go_sem, rr]) rfl ⟨4, (k : Int), (j : Int), rfl, .inr ⟨HO.out, .inr ⟨k, hlt, j, d, rfl, rfl, hlj, hD, HT.out, by decide, clear_of hD hno.out, hcl.out⟩⟩, ?_⟩
                      exact ((hb5.setCell (by simp) _).setCell (by simp) _).setCell (by simp) _
                  · have HT : Hid (troubleB fs fs[k].code d j = 0) := by
                      refine trouble_fine hlj HZ.out rfl rfl (by have := HNN.out; omega) (by have := HF.out; omega) (by rw [← HX.out]; exact HN.out) ?_
                      rw [← HX.out, ← HL.out]
                      exact any_end (by omega) hpn.out
                    clear hpn
                    go_wp2
                    go_roundw
                    case rel => exact ⟨j + 1, by omega, by go_num, fun q hq => (by
                      by_cases e : q = j
                      · subst e; exact HT.out
                      · exact hno.out q (by omega)), hH5, hM5, hR5, hb5⟩
                    case measure => simp [intOf]; omega
          · have hjn : j = fs[k].code.length := by omega
            subst hjn
            go_wp2
            go_roundw
            case rel => exact ⟨k + 1, by omega, by go_num, fun q hq hqk => (by
                by_cases e : q = k
                · subst e; exact clear_of hD hno.out
                · exact hcl.out q hq (by omega)), hM3, hR3, hb3⟩
            case measure => simp [intOf]; omega
      · have r4 := block_cell hR
        have q4 := block_free hR
        go_wp2
        have rr := block_cell (three_set (x := 0) (y := 0) (z := 0) hR)
        refine bodyPost_ret (v := .agg #[.int .i64 0, .int .i64 0, .int .i64 0]) (by simp [results, Tryz.results90, go_sem, rr]) rfl ⟨0, 0, 0, rfl, .inr ⟨HO.out, .inl ⟨rfl, rfl, rfl, fun q hq => hcl.out q hq (by omega)⟩⟩, ?_⟩
        exact ((hb.setCell (by simp) _).setCell (by simp) _).setCell (by simp) _
  · have hok' : modB ts fs = false := by simpa using hok
    have HO : Hid (modB ts fs = false) := hok'
    clear hok
    go_wp2
    have rr := block_cell (three_set (x := 1) (y := 0) (z := 0) hR1)
    refine bodyPost_ret (v := .agg #[.int .i64 1, .int .i64 0, .int .i64 0]) (by simp [results, Tryz.results90, go_sem, rr]) rfl ⟨1, 0, 0, rfl, .inl ⟨HO.out, rfl, rfl, rfl⟩, ?_⟩
    exact ((hb1.setCell (by simp) _).setCell (by simp) _).setCell (by simp) _
end Go.Proofs.YtmmcockkbhnopaaGreat
