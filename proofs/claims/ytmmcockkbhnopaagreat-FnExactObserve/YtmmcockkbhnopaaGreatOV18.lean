/-
  What impl.heightsOf returns for a function of a module that is ok: the heights that are told, in memory of the call's own.
  What impl.DepthsOf and spec.DepthsOf return at every module within the stated sizes and every number; the laws' functions over slices of numbers.
-/
import Derived.Test.YtmmcockkbhnopaaGreatOV13
import Derived.Test.YtmmcockkbhnopaaGreatOV14
import Derived.WalkMore
import Derived.Test.YtmmcockkbhnopaaGreatOV17
namespace Go.Proofs.YtmmcockkbhnopaaGreat
open Go.RowKit

theorem LeftPost.no {fs : List Fn} {op a z : Int} {e : Ending} (h : LeftPost fs op a z e) (hc : z < (usesB fs op a).1 ∨ 16 < z - (usesB fs op a).1 + (usesB fs op a).2) : ∃ q, e = .returned (.tuple #[.int .i64 q, .bool false]) := by
  unfold LeftPost at h
  rwa [if_pos hc] at h
theorem LeftPost.yes {fs : List Fn} {op a z : Int} {e : Ending} (h : LeftPost fs op a z e) (hc : ¬ (z < (usesB fs op a).1 ∨ 16 < z - (usesB fs op a).1 + (usesB fs op a).2)) : e = .returned (.tuple #[.int .i64 (z - (usesB fs op a).1 + (usesB fs op a).2), .bool true]) := by
  unfold LeftPost at h
  rwa [if_neg hc] at h

set_option maxRecDepth 100000 in
set_option maxHeartbeats 4000000 in
theorem iHeights_any (a1 a2 ca : Option Addr) (nt c1 c2 cc : Nat) (fs : List Fn) (code : List (Int × Int)) (w : World) (hm : FnsAt w 0 a2 fs) (d4 : CodeAt w 0 ca code) (F : Fine fs code) :
    Calls Tryz.prog 99 #[.agg #[.slice a1 nt c1, .slice a2 fs.length c2], .slice ca code.length cc] w fun e w' => ∃ g d, e = .returned (.slice (some ⟨g, 0, none⟩) code.length code.length) ∧ w.heap.size ≤ g ∧ Done fs code d ∧ Ht w' g code.length d ∧ Below w.heap.size w w' := by
  have hone := F.one
  have hmost := F.most
  have hbA : Below w.heap.size w (w.alloc (.cells #[.slice a1 nt c1, .slice a2 fs.length c2] 40)) := (Below.refl _ _).alloc (Nat.le_refl _) _
  have hM0 := block_new w #[.slice a1 nt c1, .slice a2 fs.length c2] 40
  have hbB : Below w.heap.size w ((w.alloc (.cells #[.slice a1 nt c1, .slice a2 fs.length c2] 40)).alloc (.cells #[.int .i64 (-1)] 3)) := hbA.alloc (by simp) _
  have hMB := block_old hM0 (.cells #[.int .i64 (-1)] 3)
  have hX := one_new (w.alloc (.cells #[.slice a1 nt c1, .slice a2 fs.length c2] 40)) (w.heap.size + 1) (by simp) (.int .i64 (-1)) 3 0 (.int .i64 (-1)) rfl
  rw [add_at] at hX
  go_enter Tryz.func99, Tryz.ntmps99
  go_wp2
  go_step3
  go_wp2_with fail
  refine (repeat_any (w.heap.size + 1) code.length (-1) _ hone hmost hX).mono ?_
  rintro e w1 ⟨g, rfl, hg, hH, hb⟩
  have hM1 := block_kept hMB hb
  have hb1 : Below w.heap.size w w1 := hbB.trans (hb.mono (by simp; omega))
  have hg1 : w.heap.size + 1 ≤ g := by simp at hg; omega
  have hcl := hH.cell (j := 0) (by simp; omega)
  have hfz := hH.free 0
  clear hbA hM0 hbB hMB hX hb hg
  go_wp2
  go_step3
  go_wp2
  have hH1 : Ht (w1.setCell ⟨g, 0, none⟩ (.int .i64 0)) g code.length (iterB fs code 0) := hH.set (j := 0) (by simp; omega) 0
  have hM2 : (w1.setCell ⟨g, 0, none⟩ (.int .i64 0)).heap[w.heap.size]? = some (.cells #[.slice a1 nt c1, .slice a2 fs.length c2] 40 (0, 0)) := by rw [Below.heap_setCell _ _ _ _ (by simp; omega)]; exact hM1
  have hb2 : Below w.heap.size w (w1.setCell ⟨g, 0, none⟩ (.int .i64 0)) := hb1.setCell (by simp; omega) _
  have hN0 : negs (iterB fs code 0) = code.length - 1 := init_negs hone
  have HN0 : Hid (negs (iterB fs code 0) = code.length - 1) := hN0
  clear hN0 hH hcl hfz hM1 hb1
  go_loopw [6] (fun mi wo => ∃ (j : Nat), mi = .int .i64 (negs (iterB fs code j) : Nat) ∧ Ht wo g code.length (iterB fs code j) ∧ wo.heap[w.heap.size]? = some (.cells #[.slice a1 nt c1, .slice a2 fs.length c2] 40 (0, 0)) ∧ Below w.heap.size w wo) (fun mi _ => (intOf mi).toNat)
  case atStart => exact ⟨0, by rw [HN0.out]; congr 1; omega, hH1, hM2, hb2⟩
  case round =>
    obtain ⟨j, rfl, hH, hM, hb⟩ := hrel
    clear hH1 hM2 hb2 HN0
    have H0 := iter_hts F j
    have hle : negs (iterB fs code j) ≤ code.length := by
      have h1 : negs (iterB fs code j) ≤ (iterB fs code j).length := List.countP_le_length
      rw [H0.len] at h1
      exact h1
    obtain ⟨h0, hh0⟩ : ∃ h0, h0 = iterB fs code j := ⟨_, rfl⟩
    have HH : Hid (h0 = iterB fs code j) := hh0
    rw [← hh0] at H0 hH hle ⊢
    clear hh0
    obtain ⟨N, hN⟩ : ∃ N, N = negs h0 := ⟨_, rfl⟩
    have HNN : Hid (N = negs h0) := hN
    rw [← hN] at hle ⊢
    clear hN
    go_wp2
    go_loopw [6, 26] (fun mi i wi => ∃ (pc : Nat) (M : Nat), pc ≤ code.length ∧ i = .int .i64 pc ∧ mi = .int .i64 M ∧ Hid (M = negs (partB fs code pc h0)) ∧ M ≤ N ∧ Ht wi g code.length (partB fs code pc h0) ∧ wi.heap[w.heap.size]? = some (.cells #[.slice a1 nt c1, .slice a2 fs.length c2] 40 (0, 0)) ∧ Below w.heap.size w wi) (fun _ i _ => code.length - (intOf i).toNat)
    case atStart => exact ⟨0, N, by omega, rfl, rfl, HNN.out, by omega, hH, hM, hb⟩
    case round =>
      obtain ⟨pc, M, hpc, rfl, rfl, hMN, hMle, hH1, hM1, hb1⟩ := hrel
      obtain ⟨wi, rfl⟩ : ∃ wi, wi = wr := ⟨_, rfl⟩
      clear hH hM hb
      by_cases hlt : pc < code.length
      · have P1 := (part_ok F H0 pc hpc).1
        have HP : Hid (partB fs code (pc + 1) h0 = stepB fs code[pc] pc (partB fs code pc h0)) := part_succ hlt h0
        obtain ⟨h1, hh1⟩ : ∃ h1, h1 = partB fs code pc h0 := ⟨_, rfl⟩
        rw [← hh1] at hMN P1 HP hH1
        clear hh1
        have hlen : pc < h1.length := by rw [P1.len]; exact hlt
        have HZ : Hid (h1.getD pc (-1) = h1[pc]) := P1.get hlt
        have z0 := P1.low pc hlen
        have z1 := P1.high pc hlen
        obtain ⟨cb, co, rfl, -, e1, e2⟩ := d4 pc hlt
        have e1' := cell_later hb1 e1
        have e2' := cell_later hb1 e2
        obtain ⟨u0, u1, u2, u3⟩ := usesB_ok F.params code[pc].1 code[pc].2
        clear e1 e2
        obtain ⟨wx, hwx⟩ : ∃ wx, wx = wi.alloc (.cells #[.int .i64 code[pc].1, .int .i64 code[pc].2] 152) := ⟨_, rfl⟩
        have hkx : Below wi.heap.size wi wx := by rw [hwx]; exact (Below.refl _ _).alloc (Nat.le_refl _) _
        have hXx : wx.heap[wi.heap.size]? = some (.cells #[.int .i64 code[pc].1, .int .i64 code[pc].2] 152 (0, 0)) := by rw [hwx]; exact block_new _ _ _
        have hMx := block_kept hM1 hkx
        have hHx := hH1.mono hkx
        have hbx : Below w.heap.size w wx := hb1.trans (hkx.mono hb1.size)
        have HWX : Hid (wx = wi.alloc (.cells #[.int .i64 code[pc].1, .int .i64 code[pc].2] 152)) := hwx
        clear hwx hkx
        by_cases hfit : h1[pc] < (usesB fs code[pc].1 code[pc].2).1 ∨ 16 < h1[pc] - (usesB fs code[pc].1 code[pc].2).1 + (usesB fs code[pc].1 code[pc].2).2
        · have HS : Hid (partB fs code (pc + 1) h0 = h1) := by show _ = _; rw [HP.out]; exact stepB_no HZ.out rfl rfl hfit
          have HF : Hid (h1[pc] < (usesB fs code[pc].1 code[pc].2).1 ∨ 16 < h1[pc] - (usesB fs code[pc].1 code[pc].2).1 + (usesB fs code[pc].1 code[pc].2).2) := hfit
          clear hfit
          go_wp2
          rw [← HWX.out]
          have hcl := hHx.cell hlen
          have y1 := block_cell hMx
          have v1 := block_cell hXx
          go_region_held3 (fun w' => w'.cell? ⟨w.heap.size, 0, none⟩ = some (.slice a1 nt c1) ∧ w'.cell? ⟨w.heap.size, 1, none⟩ = some (.slice a2 fs.length c2) ∧ w'.cell? ⟨wi.heap.size, 0, none⟩ = some (.int .i64 code[pc].1) ∧ w'.cell? ⟨wi.heap.size, 1, none⟩ = some (.int .i64 code[pc].2) ∧ w'.cell? ⟨g, pc, none⟩ = some (.int .i64 h1[pc]))
            (first | exact ⟨(y1 0).trans rfl, (y1 1).trans rfl, (v1 0).trans rfl, (v1 1).trans rfl, hcl⟩ | exact ⟨by rw [block_cell (block_kept hMx k6)]; rfl, by rw [block_cell (block_kept hMx k6)]; rfl, by rw [block_cell (block_kept hXx k6)]; rfl, by rw [block_cell (block_kept hXx k6)]; rfl, cell_later k6 hcl⟩)
            (first | (go_at_call 125; refine (iLeft_any _ _ _ _ _ fs code[pc].1 code[pc].2 h1[pc] _ (by exact hm.mono hbx.drew) F.params (by exact z0) (by exact z1)).mono ?_; rintro e w4 ⟨hL, k6d⟩; have k6 := below_undraw k6d; obtain ⟨qq, rfl⟩ := hL.no HF.out))
          have hM2 := block_kept hMx k6
          have hH2 : Ht w4 g code.length (partB fs code (pc + 1) h0) := by rw [HS.out]; exact hHx.mono k6
          have hb2 : Below w.heap.size w w4 := hbx.trans (k6.mono hbx.size)
          clear hMx hHx hbx hcl y1 v1 k6 k6d hXx
          go_wp2
          go_roundw
          case rel => exact ⟨pc + 1, M, by omega, by go_num, rfl, by rw [HS.out]; exact hMN, hMle, hH2, hM2, hb2⟩
          case measure => simp [intOf]; omega
        · obtain ⟨left, hleft⟩ : ∃ left, left = h1[pc] - (usesB fs code[pc].1 code[pc].2).1 + (usesB fs code[pc].1 code[pc].2).2 := ⟨_, rfl⟩
          have HL : Hid (left = h1[pc] - (usesB fs code[pc].1 code[pc].2).1 + (usesB fs code[pc].1 code[pc].2).2) := hleft
          have l0 : 0 ≤ left := by omega
          have l1 : left ≤ 16 := by omega
          have HS : Hid (partB fs code (pc + 1) h0 = (nextB code[pc].1 code[pc].2 pc).foldl (layB left) h1) := by show _ = _; rw [HP.out, hleft]; exact stepB_yes HZ.out rfl rfl hfit
          have HF : Hid (¬ (h1[pc] < (usesB fs code[pc].1 code[pc].2).1 ∨ 16 < h1[pc] - (usesB fs code[pc].1 code[pc].2).1 + (usesB fs code[pc].1 code[pc].2).2)) := hfit
          have hnx := next_in F hlt
          clear hfit hleft
          go_wp2
          rw [← HWX.out]
          have hcl := hHx.cell hlen
          have y1 := block_cell hMx
          have v1 := block_cell hXx
          go_region_held3 (fun w' => w'.cell? ⟨w.heap.size, 0, none⟩ = some (.slice a1 nt c1) ∧ w'.cell? ⟨w.heap.size, 1, none⟩ = some (.slice a2 fs.length c2) ∧ w'.cell? ⟨wi.heap.size, 0, none⟩ = some (.int .i64 code[pc].1) ∧ w'.cell? ⟨wi.heap.size, 1, none⟩ = some (.int .i64 code[pc].2) ∧ w'.cell? ⟨g, pc, none⟩ = some (.int .i64 h1[pc]))
            (first | exact ⟨(y1 0).trans rfl, (y1 1).trans rfl, (v1 0).trans rfl, (v1 1).trans rfl, hcl⟩ | exact ⟨by rw [block_cell (block_kept hMx k6)]; rfl, by rw [block_cell (block_kept hMx k6)]; rfl, by rw [block_cell (block_kept hXx k6)]; rfl, by rw [block_cell (block_kept hXx k6)]; rfl, cell_later k6 hcl⟩)
            (first | (go_at_call 125; refine (iLeft_any _ _ _ _ _ fs code[pc].1 code[pc].2 h1[pc] _ (by exact hm.mono hbx.drew) F.params (by exact z0) (by exact z1)).mono ?_; rintro e w4 ⟨hL, k6d⟩; have k6 := below_undraw k6d; obtain rfl := hL.yes HF.out; rw [← HL.out]))
          have hM2 := block_kept hMx k6
          have hX2 := block_kept hXx k6
          have hH2 := hHx.mono k6
          have hb2 : Below w.heap.size w w4 := hbx.trans (k6.mono hbx.size)
          have v2 := block_cell hX2
          clear hMx hHx hbx hcl y1 v1 k6 k6d hXx
          go_wp2_with fail
          refine (iNext_any code[pc].1 code[pc].2 pc _ (by omega)).mono ?_
          rintro e w5 ⟨ad, ncap, rfl, hI, k7⟩
          have hM3 := block_kept hM2 k7
          have hH3 := hH2.mono k7
          have hb3 : Below w.heap.size w w5 := hb2.trans (k7.mono hb2.size)
          have hglt := hH2.lt
          obtain ⟨nx, hnxe⟩ : ∃ nx, nx = nextB code[pc].1 code[pc].2 pc := ⟨_, rfl⟩
          rw [← hnxe] at hI hnx HS ⊢
          have hnl : nx.length ≤ 2 := by rw [hnxe]; exact next_len _ _ _
          clear hM2 hH2 hb2 k7 hX2 v2 hnxe
          go_wp2
          go_loopw [6, 47] (fun mi i ws => ∃ (q M4 : Nat) (cur : List Int), q ≤ nx.length ∧ i = .int .i64 q ∧ mi = .int .i64 M4 ∧ Hid (cur = (nx.take q).foldl (layB left) h1) ∧ Hid (M4 = negs cur) ∧ M4 ≤ N ∧ Hts code.length cur ∧ Ht ws g code.length cur ∧ IntsAt ws w4.heap.size ad nx ∧ ws.heap[w.heap.size]? = some (.cells #[.slice a1 nt c1, .slice a2 fs.length c2] 40 (0, 0)) ∧ Below w.heap.size w ws) (fun _ i _ => nx.length - (intOf i).toNat)
          case atStart => exact ⟨0, M, h1, by omega, rfl, rfl, rfl, hMN, hMle, P1, hH3, hI, hM3, hb3⟩
          case round =>
            obtain ⟨q, M4, cur, hq, rfl, rfl, hcur, hM4n, hM4le, P4, hH4, hI4, hM4, hb4⟩ := hrel
            obtain ⟨ws, rfl⟩ : ∃ ws, ws = wr := ⟨_, rfl⟩
            clear hH3 hI hM3 hb3
            by_cases hlq : q < nx.length
            · obtain ⟨v0, v1⟩ := hnx nx[q] (List.getElem_mem hlq)
              obtain ⟨nb, no, rfl, hnb, m1⟩ := hI4 q hlq
              obtain ⟨nk, hnk⟩ : ∃ nk : Nat, nx[q] = (nk : Int) := ⟨nx[q].toNat, by omega⟩
              rw [hnk] at m1
              have HN : Hid ((nx.take (q + 1)).foldl (layB left) h1 = layB left cur nk) := by show _ = _; rw [fold_take hlq, ← hcur.out, hnk]
              clear hcur
              by_cases hin : nk < code.length
              · have hkl : nk < cur.length := by rw [P4.len]; exact hin
                have m2 := hH4.cell hkl
                have m3 := hH4.free nk
                have hget : cur.getD ((nk : Int)).toNat (-1) = cur[nk] := by rw [Int.toNat_natCast]; exact P4.get hin
                have bne : ((nk : Int) == (code.length : Int)) = false := by rw [beq_eq_false_iff_ne]; omega
                rcases layB_less (h := cur) (left := left) (nx := (nk : Int)) l0 (by omega) with ⟨hsame, hno⟩ | ⟨-, hneg, hset, hless⟩
                · have hnn : 0 ≤ cur[nk] := by
                    rw [hget, P4.len] at hno
                    omega
                  have bn1 : (cur[nk] != -1) = true := by rw [bne_iff_ne]; omega
                  have HN2 : Hid (cur = (nx.take (q + 1)).foldl (layB left) h1) := by show _ = _; rw [HN.out, hsame]
                  clear hsame hno hget hnk
                  go_wp2
                  go_roundw
                  case rel => exact ⟨q + 1, M4, cur, by omega, by go_num, rfl, HN2, hM4n, hM4le, P4, hH4, hI4, hM4, hb4⟩
                  case measure => simp [intOf]; omega
                · have hnn : cur[nk] = -1 := by rw [hget] at hneg; have := P4.low nk hkl; omega
                  rw [hnn] at m2
                  have HN2 : Hid (cur.set nk left = (nx.take (q + 1)).foldl (layB left) h1) := by show _ = _; rw [HN.out, hset, Int.toNat_natCast]
                  have P5 : Hts code.length (cur.set nk left) := by have := layB_hts (nx := (nk : Int)) P4 l0 l1; rw [hset, Int.toNat_natCast] at this; exact this
                  have hM1' : 1 ≤ M4 := by rw [hM4n.out]; omega
                  have HT5 : Hid (M4 - 1 = negs (cur.set nk left)) := by
                    show _ = _
                    rw [hset, Int.toNat_natCast] at hless
                    rw [hM4n.out]
                    omega
                  have hH5 := hH4.set hkl left
                  have hI5 := hI4.above ((Above.refl _ _).setCell (p := ⟨g, nk, none⟩) hglt (.int .i64 left))
                  have hM5 : (ws.setCell ⟨g, nk, none⟩ (.int .i64 left)).heap[w.heap.size]? = some (.cells #[.slice a1 nt c1, .slice a2 fs.length c2] 40 (0, 0)) := by rw [Below.heap_setCell _ _ _ _ (by simp; omega)]; exact hM4
                  have hb5 : Below w.heap.size w (ws.setCell ⟨g, nk, none⟩ (.int .i64 left)) := hb4.setCell (by simp; omega) _
                  clear hset hless hneg hget hnk hnn
                  go_wp2
                  go_roundw
                  case rel => exact ⟨q + 1, M4 - 1, cur.set nk left, by omega, by go_num, by congr 1; omega, HN2, HT5, by omega, P5, hH5, hI5, hM5, hb5⟩
                  case measure => simp [intOf]; omega
              · have bne : ((nk : Int) == (code.length : Int)) = true := by rw [beq_iff_eq]; omega
                have HN2 : Hid (cur = (nx.take (q + 1)).foldl (layB left) h1) := by
                  show _ = _
                  rw [HN.out]
                  unfold layB
                  rw [if_neg (by rw [P4.len]; omega)]
                clear hnk
                go_wp2
                go_roundw
                case rel => exact ⟨q + 1, M4, cur, by omega, by go_num, rfl, HN2, hM4n, hM4le, P4, hH4, hI4, hM4, hb4⟩
                case measure => simp [intOf]; omega
            · have HC : Hid (cur = partB fs code (pc + 1) h0) := by
                show _ = _
                rw [HS.out, hcur.out, List.take_of_length_le (by omega)]
              clear hcur
              by_cases hz : M4 = 0
              · subst hz
                have hD : Done fs code (partB fs code (pc + 1) h0) := by
                  have e1 := HH.out
                  have e2 := hM4n.out
                  have e3 := HC.out
                  subst e1
                  exact done_full F (by omega) (by rw [← e3]; exact e2.symm)
                go_wp2
                rw [Exit.noGoto_ret]
                go_ret
                exact ⟨g, _, rfl, by omega, hD, by rw [← HC.out]; exact hH4, hb4⟩
              · have bz : ((M4 : Int) == 0) = false := by rw [beq_eq_false_iff_ne]; omega
                go_wp2
                go_roundw
                case rel => exact ⟨pc + 1, M4, by omega, by go_num, rfl, by rw [← HC.out]; exact hM4n, hM4le, by rw [← HC.out]; exact hH4, hM4, hb4⟩
                case measure => simp [intOf]; omega
      · have hpn : pc = code.length := by omega
        subst hpn
        by_cases hMM : M = N
        · subst hMM
          have hD : Done fs code (partB fs code code.length h0) := by
            have e1 := HH.out
            have e2 := hMN.out
            have e3 := HNN.out
            subst e1
            exact done_same F (by omega)
          go_wp2
          rw [Exit.noGoto_ret]
          go_ret
          exact ⟨g, _, rfl, by omega, hD, hH1, hb1⟩
        · go_wp2
          go_roundw
          case rel => exact ⟨j + 1, by rw [hMN.out, HH.out]; rfl, by rw [HH.out] at hH1; exact hH1, hM1, hb1⟩
          case measure => simp [intOf]; omega
end Go.Proofs.YtmmcockkbhnopaaGreat

namespace Go.Proofs.YtmmcockkbhnopaaGreat
open Go.RowKit

theorem fine_of {ts : List ByteArray} {fs : List Fn} (h : modB ts fs = true) {k : Nat} (hk : k < fs.length) : Fine fs fs[k].code := by
  unfold modB at h
  simp only [Bool.and_eq_true, decide_eq_true_eq, List.all_eq_true] at h
  have hall := h.2
  have hf : ∀ f ∈ fs, fnB ts.length fs.length f = true := hall
  have hfn : ∀ f ∈ fs, (0 ≤ f.params ∧ f.params ≤ 6) ∧ 1 ≤ f.code.length ∧ f.code.length ≤ 120 ∧ ∀ x ∈ f.code, insB ts.length fs.length f.locals f.code.length x.1 x.2 = true := by
    intro f hm
    have := hf f hm
    unfold fnB at this
    simp only [Bool.and_eq_true, decide_eq_true_eq, List.all_eq_true] at this
    exact ⟨⟨by omega, by omega⟩, by omega, by omega, this.2⟩
  have hkk := hfn fs[k] (List.getElem_mem hk)
  refine ⟨fun f hm => (hfn f hm).1, hkk.2.1, hkk.2.2.1, fun i hi hj => ?_⟩
  have hx := hkk.2.2.2 fs[k].code[i] (List.getElem_mem hi)
  unfold insB at hx
  rcases hj with e | e | e
  all_goals
    rw [e] at hx
    simp at hx
    omega

/-- What DepthsOf is to answer. -/
def IsDep (ts : List ByteArray) (fs : List Fn) (f : Int) (d : List Int) : Prop :=
  (modB ts fs = true ∧ ∃ (k : Nat) (hk : k < fs.length), f = k ∧ Done fs fs[k].code d) ∨ (¬ (modB ts fs = true ∧ 0 ≤ f ∧ f < fs.length) ∧ d = [])

theorem IsDep.one {ts : List ByteArray} {fs : List Fn} {f : Int} {d e : List Int} (h1 : IsDep ts fs f d) (h2 : IsDep ts fs f e) : d = e := by
  rcases h1 with ⟨hm, k, hk, rfl, hd⟩ | ⟨hn, rfl⟩
  · rcases h2 with ⟨-, k', hk', e', hd'⟩ | ⟨hn, -⟩
    · obtain rfl : k = k' := by omega
      exact hd.one hd'
    · exact absurd ⟨hm, by omega, by omega⟩ hn
  · rcases h2 with ⟨hm, k, hk, rfl, -⟩ | ⟨-, rfl⟩
    · exact absurd ⟨hm, by omega, by omega⟩ hn
    · rfl
theorem IsDep.len {ts : List ByteArray} {fs : List Fn} {f : Int} {d : List Int} (h : IsDep ts fs f d) : d.length ≤ 120 := by
  rcases h with ⟨hm, k, hk, rfl, hd⟩ | ⟨-, rfl⟩
  · have F := fine_of hm hk
    have := F.most
    have := (hd.hts F).len
    omega
  · simp

/-- A slice of numbers in memory from 'base' on. -/
def DSl (w : World) (base : Nat) (v : Value) (d : List Int) : Prop := (d = [] ∧ ∃ a cap, v = .slice a 0 cap) ∨ (∃ g cap, v = .slice (some ⟨g, 0, none⟩) d.length cap ∧ base ≤ g ∧ Ht w g cap d)

theorem DSl.form {w : World} {base : Nat} {v : Value} {d : List Int} (h : DSl w base v d) : ∃ a cap, v = .slice a d.length cap ∧ IntsAt w base a d := by
  rcases h with ⟨rfl, a, cap, rfl⟩ | ⟨g, cap, rfl, hg, hH⟩
  · exact ⟨a, cap, rfl, fun i hi => absurd hi (by simp)⟩
  · exact ⟨_, cap, rfl, hH.ints hg⟩
theorem DSl.mono {w w' : World} {base : Nat} {v : Value} {d : List Int} (h : DSl w base v d) (hb : Below w.heap.size w w') : DSl w' base v d := by
  rcases h with h | ⟨g, cap, rfl, hg, hH⟩
  · exact .inl h
  · exact .inr ⟨g, cap, rfl, hg, hH.mono hb⟩
theorem Ht.keeps {w w' : World} {g cap B : Nat} {ts : List Nat} {d : List Int} (h : Ht w g cap d) (hk : Keeps B ts w w') (ht : 3 ∉ ts) : Ht w' g cap d := by
  obtain ⟨c, h1, h2⟩ := h
  exact ⟨c, hk.cell h1 ht, h2⟩
theorem DSl.keeps {w w' : World} {base B : Nat} {ts : List Nat} {v : Value} {d : List Int} (h : DSl w base v d) (hk : Keeps B ts w w') (ht : 3 ∉ ts) : DSl w' base v d := by
  rcases h with h | ⟨g, cap, rfl, hg, hH⟩
  · exact .inl h
  · exact .inr ⟨g, cap, rfl, hg, hH.keeps hk ht⟩
theorem DSl.low {w : World} {base base' : Nat} {v : Value} {d : List Int} (h : DSl w base v d) (hl : base' ≤ base) : DSl w base' v d := by
  rcases h with h | ⟨g, cap, rfl, hg, hH⟩
  · exact .inl h
  · exact .inr ⟨g, cap, rfl, by omega, hH⟩

end Go.Proofs.YtmmcockkbhnopaaGreat
