/-
  What spec.l03Depths returns for a module that is ok: the heights that are told, in memory of the call's own.
-/
import Derived.Test.YtmmcockkbhnopaaGreatOV12
namespace Go.Proofs.YtmmcockkbhnopaaGreat
open Go.RowKit

theorem next_len (op a : Int) (pc : Nat) : (nextB op a pc).length ≤ 2 := by
  unfold nextB
  split
  · simp
  · split
    · simp
    · split <;> simp

set_option maxRecDepth 100000 in
set_option maxHeartbeats 4000000 in
theorem sDepths_any (a1 a2 : Option Addr) (nt c1 c2 : Nat) (fs : List Fn) (f : Nat) (w : World) (hf : f < fs.length) (hn : fs.length ≤ 1048576) (hm : FnsAt w 0 a2 fs) (F : Fine fs fs[f].code) :
    Calls Tryz.prog 93 #[.agg #[.slice a1 nt c1, .slice a2 fs.length c2], .int .i64 f] w fun e w' => ∃ g cap d, e = .returned (.slice (some ⟨g, 0, none⟩) fs[f].code.length cap) ∧ w.heap.size ≤ g ∧ Done fs fs[f].code d ∧ Ht w' g cap d ∧ Below w.heap.size w w' := by
  obtain ⟨i0, hi, hz0, hz1, hz2⟩ := info_parts info3
  have hone := F.one
  have hmost := F.most
  obtain ⟨b, off, ca, cc, rfl, -, d1, d2, d3, d4⟩ := hm f hf
  have hbA : Below w.heap.size w (w.alloc (.cells #[.slice a1 nt c1, .slice (some ⟨b, off, none⟩) fs.length c2] 40)) := (Below.refl _ _).alloc (Nat.le_refl _) _
  have hM0 := block_new w #[.slice a1 nt c1, .slice (some ⟨b, off, none⟩) fs.length c2] 40
  have d3' := cell_later hbA d3
  have hE0 : ((w.alloc (.cells #[.slice a1 nt c1, .slice (some ⟨b, off, none⟩) fs.length c2] 40)).alloc (.cells #[] 3)).ownsRow (w.heap.size + 1) 3 1 (.slice (some ⟨w.heap.size + 1, 0, none⟩) 0 0) 0 [] := by
    have := World.ownsRow_made (base := w.heap.size + 1) (e := 3) (size := 1) (w.alloc (.cells #[.slice a1 nt c1, .slice (some ⟨b, off, none⟩) fs.length c2] 40)) #[] 0 (by simp) (by unfold maxLen; omega) rfl
    rw [World.size_alloc] at this
    simpa using this
  have hbE : Below w.heap.size w ((w.alloc (.cells #[.slice a1 nt c1, .slice (some ⟨b, off, none⟩) fs.length c2] 40)).alloc (.cells #[] 3)) := hbA.alloc (by simp) _
  have hME := block_old hM0 (.cells #[] 3)
  clear d1 d2 d3
  obtain ⟨code, hcode⟩ : ∃ code, code = fs[f].code := ⟨_, rfl⟩
  rw [← hcode] at F d3' d4 hone hmost ⊢
  clear hcode
  go_enter Tryz.func93, Tryz.ntmps93
  go_wp2
  go_loopw [6, 7] (fun o i wr => ∃ (k : Nat), k ≤ code.length ∧ i = .int .i64 k ∧ wr.ownsRow (w.heap.size + 1) 3 1 o k ((List.replicate k (-1)).map (Value.int .i64)) ∧ wr.heap[w.heap.size]? = some (.cells #[.slice a1 nt c1, .slice (some ⟨b, off, none⟩) fs.length c2] 40 (0, 0)) ∧ Below w.heap.size w wr) (fun _ i _ => code.length - (intOf i).toNat)
  case atStart => exact ⟨0, by omega, rfl, hE0, hME, hbE⟩
  case round =>
    obtain ⟨k, hk, rfl, hown, hM, hb⟩ := hrel
    clear hE0 hME hbE hbA hM0 d3'
    by_cases hlt : k < code.length
    · have hszr := lt_block hM
      go_wp2_with (first | (at_builtin; refine wpList_append_lies _ rfl _ _ 156 rfl (w.heap.size + 1) 3 i0 (.int .i64 0) 1 8 Tryz.underlying156 hi hz0 hz1 hz2 rfl (by decide) _ _ _ rfl (World.ownsRow.alloc hown _) ⟨wr.heap.size, 0, none⟩ 1 1 [.int .i64 (-1)] rfl rfl (cell_one_new _ _ _) (by intro u hu; simp at hu; subst hu; rfl) (by decide) (by unfold maxLen; omega) (by omega) (by simp; omega) _ rfl ?_; intro g cap w1 hown1 hgrow1 hat1 hlt1))
      have hk1 := Keeps.grown (ts := [3]) (World.ownsRow.alloc hown _) hgrow1 (by simp)
      have hM1 := hk1.cell (block_old hM _) (by simp)
      have hb1 : Below w.heap.size w w1 := (hb.alloc hb.size _).trans ((hk1.toBelow (by simp; omega)).mono (by omega))
      go_roundw
      case rel => exact ⟨k + 1, by omega, by go_num, by simpa [List.replicate_succ'] using hown1, hM1, hb1⟩
      case measure => simp [intOf]; omega
    · have hkn : k = code.length := by omega
      subst hkn
      obtain ⟨g, cap, rfl, hg, hH⟩ := Ht.own (d := List.replicate code.length (-1)) hown rfl (by simp) (by omega)
      have hcl := hH.cell (j := 0) (by simp; omega)
      have hfz := hH.free 0
      clear hown hlt
      go_wp2
      have hH1 : Ht (wr.setCell ⟨g, 0, none⟩ (.int .i64 0)) g cap (iterB fs code 0) := hH.set (j := 0) (by simp; omega) 0
      have hM1 : (wr.setCell ⟨g, 0, none⟩ (.int .i64 0)).heap[w.heap.size]? = some (.cells #[.slice a1 nt c1, .slice (some ⟨b, off, none⟩) fs.length c2] 40 (0, 0)) := by rw [Below.heap_setCell _ _ _ _ (by simp; omega)]; exact hM
      have hb1 : Below w.heap.size w (wr.setCell ⟨g, 0, none⟩ (.int .i64 0)) := hb.setCell (by simp; omega) _
      clear hH hcl hfz hM hb hk
      go_loopg [8] (code.length + 2) (fun gk ag wo => ∃ (j : Nat) (bb : Bool), ag = .bool bb ∧ (bb = true → negs (iterB fs code j) + 1 ≤ gk) ∧ (bb = false → roundB fs code (iterB fs code j) = iterB fs code j) ∧ Ht wo g cap (iterB fs code j) ∧ wo.heap[w.heap.size]? = some (.cells #[.slice a1 nt c1, .slice (some ⟨b, off, none⟩) fs.length c2] 40 (0, 0)) ∧ Below w.heap.size w wo)
      case atStart => exact ⟨0, true, rfl, fun _ => (by have := init_negs hone; show negs (initB code.length) + 1 ≤ _; omega), fun h => (by cases h), hH1, hM1, hb1⟩
      case round =>
        obtain ⟨j, bb, rfl, hN, hD, hH, hM, hb⟩ := hrel
        clear hH1 hM1 hb1
        cases bb with
        | false =>
          have hD' := hD rfl
          have HD : Hid (roundB fs code (iterB fs code j) = iterB fs code j) := hD'
          clear hD hD' hN
          go_wp2
          go_ret
          exact ⟨g, cap, iterB fs code j, rfl, by omega, ⟨⟨j, rfl⟩, HD.out⟩, hH, hb⟩
        | true =>
          have hN' := hN rfl
          clear hN hD
          have H0 := iter_hts F j
          obtain ⟨h0, hh0⟩ : ∃ h0, h0 = iterB fs code j := ⟨_, rfl⟩
          have HH : Hid (h0 = iterB fs code j) := hh0
          rw [← hh0] at hN' H0 hH
          clear hh0
          go_wp2
          go_loopw [8, 9] (fun ag i wi => ∃ (pc : Nat) (bb : Bool), pc ≤ code.length ∧ i = .int .i64 pc ∧ ag = .bool bb ∧ (bb = true → negs (partB fs code pc h0) < negs h0) ∧ (bb = false → partB fs code pc h0 = h0) ∧ Ht wi g cap (partB fs code pc h0) ∧ wi.heap[w.heap.size]? = some (.cells #[.slice a1 nt c1, .slice (some ⟨b, off, none⟩) fs.length c2] 40 (0, 0)) ∧ Below w.heap.size w wi) (fun _ i _ => code.length - (intOf i).toNat)
          case atStart => exact ⟨0, false, by omega, rfl, rfl, fun h => (by cases h), fun _ => rfl, hH, hM, hb⟩
          case round =>
            obtain ⟨pc, bb, hpc, rfl, rfl, hT, hFa, hH1, hM1, hb1⟩ := hrel
            obtain ⟨wi, rfl⟩ : ∃ wi, wi = wr := ⟨_, rfl⟩
            clear hH hM hb
            by_cases hlt : pc < code.length
            · have HT : Hid (bb = true → negs (partB fs code pc h0) < negs h0) := hT
              have HFa : Hid (bb = false → partB fs code pc h0 = h0) := hFa
              have P1 := (part_ok F H0 pc hpc).1
              have HP : Hid (partB fs code (pc + 1) h0 = stepB fs code[pc] pc (partB fs code pc h0)) := part_succ hlt h0
              clear hT hFa
              obtain ⟨h1, hh1⟩ : ∃ h1, h1 = partB fs code pc h0 := ⟨_, rfl⟩
              rw [← hh1] at HT HFa P1 HP hH1
              clear hh1
              have hlen : pc < h1.length := by rw [P1.len]; exact hlt
              have HZ : Hid (h1.getD pc (-1) = h1[pc]) := P1.get hlt
              have z0 := P1.low pc hlen
              have z1 := P1.high pc hlen
              have hcl := hH1.cell hlen
              obtain ⟨cb, co, rfl, -, e1, e2⟩ := d4 pc hlt
              have e1' := cell_later hb1 e1
              have e2' := cell_later hb1 e2
              have y1 := block_cell hM1
              obtain ⟨u0, u1, u2, u3⟩ := usesB_ok F.params code[pc].1 code[pc].2
              clear e1 e2
              go_wp2
              go_region_held3 (fun w' => w'.cell? ⟨w.heap.size, 0, none⟩ = some (.slice a1 nt c1) ∧ w'.cell? ⟨w.heap.size, 1, none⟩ = some (.slice (some ⟨b, off, none⟩) fs.length c2) ∧ w'.cell? ⟨cb, co + pc * 2, none⟩ = some (.int .i64 code[pc].1) ∧ w'.cell? ⟨cb, co + pc * 2 + 1, none⟩ = some (.int .i64 code[pc].2))
                (first | exact ⟨(y1 0).trans rfl, (y1 1).trans rfl, e1', e2'⟩ | exact ⟨by rw [block_cell (block_kept hM1 k6)]; rfl, by rw [block_cell (block_kept hM1 k6)]; rfl, cell_later k6 e1', cell_later k6 e2'⟩)
                (first | (go_at_call 119; refine (sUses_any _ _ _ _ _ fs code[pc].1 code[pc].2 _ hn (by exact hm.mono hb1.drew)).mono ?_; rintro e w4 ⟨rfl, k6d⟩; have k6 := below_undraw k6d))
              have hM2 := block_kept hM1 k6
              have hH2 := hH1.mono k6
              have hb2 : Below w.heap.size w w4 := hb1.trans (k6.mono hb1.size)
              have hcl2 := hH2.cell hlen
              have e12 := cell_later k6 e1'
              have e22 := cell_later k6 e2'
              clear hM1 hH1 hb1 hcl y1 e1' e2' k6 k6d
              by_cases hfit : h1[pc] < (usesB fs code[pc].1 code[pc].2).1 ∨ 16 < h1[pc] - (usesB fs code[pc].1 code[pc].2).1 + (usesB fs code[pc].1 code[pc].2).2
              · have HS : Hid (partB fs code (pc + 1) h0 = h1) := by show _ = _; rw [HP.out]; exact stepB_no HZ.out rfl rfl hfit
                have hH3 : Ht w4 g cap (partB fs code (pc + 1) h0) := by rw [HS.out]; exact hH2
                rcases (show h1[pc] < (usesB fs code[pc].1 code[pc].2).1 ∨ ((usesB fs code[pc].1 code[pc].2).1 ≤ h1[pc] ∧ 16 < h1[pc] - (usesB fs code[pc].1 code[pc].2).1 + (usesB fs code[pc].1 code[pc].2).2) by omega) with hx | ⟨hx, hy⟩
                all_goals
                  clear hfit
                  go_wp2
                  go_roundw
                  case rel => exact ⟨pc + 1, bb, by omega, by go_num, rfl, fun h => (by rw [HS.out]; exact HT.out h), fun h => (by rw [HS.out]; exact HFa.out h), hH3, hM2, hb2⟩
                  case measure => simp [intOf]; omega
              · obtain ⟨left, hleft⟩ : ∃ left, left = h1[pc] - (usesB fs code[pc].1 code[pc].2).1 + (usesB fs code[pc].1 code[pc].2).2 := ⟨_, rfl⟩
                have HL : Hid (left = h1[pc] - (usesB fs code[pc].1 code[pc].2).1 + (usesB fs code[pc].1 code[pc].2).2) := hleft
                have hx : (usesB fs code[pc].1 code[pc].2).1 ≤ h1[pc] := by omega
                have hy : h1[pc] - (usesB fs code[pc].1 code[pc].2).1 + (usesB fs code[pc].1 code[pc].2).2 ≤ 16 := by omega
                have l0 : 0 ≤ left := by omega
                have l1 : left ≤ 16 := by omega
                have HS : Hid (partB fs code (pc + 1) h0 = (nextB code[pc].1 code[pc].2 pc).foldl (layB left) h1) := by show _ = _; rw [HP.out, hleft]; exact stepB_yes HZ.out rfl rfl hfit
                have hnx := next_in F hlt
                clear hfit hleft
                go_wp2_with fail
                rw [← HL.out]
                refine (sNext_any code[pc].1 code[pc].2 pc _ (by omega)).mono ?_
                rintro e w5 ⟨ad, ncap, rfl, hI, k7⟩
                have hM3 := block_kept hM2 k7
                have hH3 := hH2.mono k7
                have hb3 : Below w.heap.size w w5 := hb2.trans (k7.mono hb2.size)
                have hglt := hH2.lt
                obtain ⟨nx, hnxe⟩ : ∃ nx, nx = nextB code[pc].1 code[pc].2 pc := ⟨_, rfl⟩
                rw [← hnxe] at hI hnx HS ⊢
                have hnl : nx.length ≤ 2 := by rw [hnxe]; exact next_len _ _ _
                clear hM2 hH2 hb2 k7 hcl2 e12 e22 hnxe
                go_wp2
                go_loopw [8, 14] (fun ag i ws => ∃ (q : Nat) (bb : Bool) (cur : List Int), q ≤ nx.length ∧ i = .int .i64 q ∧ ag = .bool bb ∧ Hid (cur = (nx.take q).foldl (layB left) h1) ∧ Hid (bb = true → negs cur < negs h0) ∧ Hid (bb = false → cur = h0) ∧ Hts code.length cur ∧ Ht ws g cap cur ∧ IntsAt ws w4.heap.size ad nx ∧ ws.heap[w.heap.size]? = some (.cells #[.slice a1 nt c1, .slice (some ⟨b, off, none⟩) fs.length c2] 40 (0, 0)) ∧ Below w.heap.size w ws) (fun _ i _ => nx.length - (intOf i).toNat)
                case atStart => exact ⟨0, bb, h1, by omega, rfl, rfl, rfl, HT.out, HFa.out, P1, hH3, hI, hM3, hb3⟩
                case round =>
                  obtain ⟨q, b4, cur, hq, rfl, rfl, hcur, hT4, hF4, P4, hH4, hI4, hM4, hb4⟩ := hrel
                  obtain ⟨ws, rfl⟩ : ∃ ws, ws = wr := ⟨_, rfl⟩
                  clear hH3 hI hM3 hb3
                  by_cases hlq : q < nx.length
                  · obtain ⟨v0, v1⟩ := hnx nx[q] (List.getElem_mem hlq)
                    obtain ⟨nb, no, rfl, hnb, m1⟩ := hI4 q hlq
                    obtain ⟨nk, hnk⟩ : ∃ nk : Nat, nx[q] = (nk : Int) := ⟨nx[q].toNat, by omega⟩
                    rw [hnk] at m1
                    have HK : Hid (cur = (nx.take q).foldl (layB left) h1) := hcur
                    have HN : Hid ((nx.take (q + 1)).foldl (layB left) h1 = layB left cur nk) := by show _ = _; rw [fold_take hlq, ← hcur.out, hnk]
                    clear hcur
                    by_cases hin : nk < code.length
                    · have hkl : nk < cur.length := by rw [P4.len]; exact hin
                      have m2 := hH4.cell hkl
                      have m3 := hH4.free nk
                      have hget : cur.getD ((nk : Int)).toNat (-1) = cur[nk] := by rw [Int.toNat_natCast]; exact P4.get hin
                      have hin' : (nk : Int) < (code.length : Int) := by omega
                      rcases layB_less (h := cur) (left := left) (nx := (nk : Int)) l0 (by omega) with ⟨hsame, hno⟩ | ⟨-, hneg, hset, hless⟩
                      · have hnn : 0 ≤ cur[nk] := by
                          rw [hget, P4.len] at hno
                          omega
                        have HN2 : Hid (cur = (nx.take (q + 1)).foldl (layB left) h1) := by show _ = _; rw [HN.out, hsame]
                        clear hsame hno hget hnk
                        go_wp2
                        go_roundw
                        case rel => exact ⟨q + 1, b4, cur, by omega, by go_num, rfl, HN2, hT4, hF4, P4, hH4, hI4, hM4, hb4⟩
                        case measure => simp [intOf]; omega
                      · have hnn : cur[nk] < 0 := by rw [hget] at hneg; exact hneg
                        have HN2 : Hid (cur.set nk left = (nx.take (q + 1)).foldl (layB left) h1) := by show _ = _; rw [HN.out, hset, Int.toNat_natCast]
                        have P5 : Hts code.length (cur.set nk left) := by have := layB_hts (nx := (nk : Int)) P4 l0 l1; rw [hset, Int.toNat_natCast] at this; exact this
                        have HT5 : Hid (negs (cur.set nk left) < negs h0) := by
                          show _ < _
                          rw [hset, Int.toNat_natCast] at hless
                          cases b4 with
                          | true => have := hT4.out rfl; omega
                          | false => have := hF4.out rfl; rw [this] at hless ⊢; omega
                        have hH5 := hH4.set hkl left
                        have hI5 := hI4.above ((Above.refl _ _).setCell (p := ⟨g, nk, none⟩) hglt (.int .i64 left))
                        have hM5 : (ws.setCell ⟨g, nk, none⟩ (.int .i64 left)).heap[w.heap.size]? = some (.cells #[.slice a1 nt c1, .slice (some ⟨b, off, none⟩) fs.length c2] 40 (0, 0)) := by rw [Below.heap_setCell _ _ _ _ (by simp; omega)]; exact hM4
                        have hb5 : Below w.heap.size w (ws.setCell ⟨g, nk, none⟩ (.int .i64 left)) := hb4.setCell (by simp; omega) _
                        clear hset hless hneg hget hnk
                        go_wp2
                        go_roundw
                        case rel => exact ⟨q + 1, true, cur.set nk left, by omega, by go_num, rfl, HN2, fun _ => HT5.out, fun h => (by cases h), P5, hH5, hI5, hM5, hb5⟩
                        case measure => simp [intOf]; omega
                    · have hout : (code.length : Int) ≤ (nk : Int) := by omega
                      have HN2 : Hid (cur = (nx.take (q + 1)).foldl (layB left) h1) := by
                        show _ = _
                        rw [HN.out]
                        unfold layB
                        rw [if_neg (by rw [P4.len]; omega)]
                      clear hnk
                      go_wp2
                      go_roundw
                      case rel => exact ⟨q + 1, b4, cur, by omega, by go_num, rfl, HN2, hT4, hF4, P4, hH4, hI4, hM4, hb4⟩
                      case measure => simp [intOf]; omega
                  · have HC : Hid (cur = partB fs code (pc + 1) h0) := by
                      show _ = _
                      rw [HS.out, hcur.out, List.take_of_length_le (by omega)]
                    clear hcur
                    go_wp2
                    go_roundw
                    case rel => exact ⟨pc + 1, b4, by omega, by go_num, rfl, fun h => (by rw [← HC.out]; exact hT4.out h), fun h => (by rw [← HC.out]; exact hF4.out h), by rw [← HC.out]; exact hH4, hM4, hb4⟩
                    case measure => simp [intOf]; omega
            · have hpn : pc = code.length := by omega
              subst hpn
              have HT : Hid (bb = true → negs (partB fs code code.length h0) < negs h0) := hT
              have HFa : Hid (bb = false → partB fs code code.length h0 = h0) := hFa
              clear hT hFa
              go_wp2
              go_roundg (gk - 1)
              case measure => omega
              case rel =>
                have he : iterB fs code (j + 1) = partB fs code code.length h0 := by rw [HH.out]; rfl
                refine ⟨j + 1, bb, rfl, fun h => ?_, fun h => ?_, by rw [he]; exact hH1, hM1, hb1⟩
                · rw [he]; have := HT.out h; omega
                · rw [he]
                  have e3 := HFa.out h
                  have e4 : roundB fs code h0 = h0 := e3
                  rw [e3, e4]
end Go.Proofs.YtmmcockkbhnopaaGreat
