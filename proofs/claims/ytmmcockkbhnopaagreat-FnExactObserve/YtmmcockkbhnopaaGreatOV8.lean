/-
  What spec.ModuleOk returns, for every module within the stated sizes.
-/
import Derived.Test.YtmmcockkbhnopaaGreatOV7
import Derived.Test.YtmmcockkbhnopaaGreatOV3
namespace Go.Proofs.YtmmcockkbhnopaaGreat
open Go.RowKit

theorem below_undraw {w w' : World} (h : Below w.drew.heap.size w.drew w') : Below w.heap.size w w' := ⟨h.os, h.tape, h.output, h.size, h.block⟩

set_option maxHeartbeats 2000000 in
theorem sModuleOk_any (a1 a2 : Option Addr) (ts : List ByteArray) (fs : List Fn) (c1 c2 : Nat) (w : World) (hs : Small ts fs) (hm : StrsAt w 0 a1 ts) (hf : FnsAt w 0 a2 fs) :
    Calls Tryz.prog 118 #[.agg #[.slice a1 ts.length c1, .slice a2 fs.length c2]] w fun e w' => e = .returned (.bool (modB ts fs)) ∧ Below w.heap.size w w' := by
  have s1 := hs.texts
  have s2 := hs.funcs
  by_cases hh : 1 ≤ fs.length ∧ fs.length ≤ 12 ∧ ts.length ≤ 20
  · have HF : Hid (modB ts fs = (ts.all textB && fs.all fun f => fnB ts.length fs.length f)) := modB_all hh
    have g1 : (1 : Int) ≤ (fs.length : Int) := by omega
    have g2 : (fs.length : Int) ≤ 12 := by omega
    have g3 : (ts.length : Int) ≤ 20 := by omega
    clear hh
    have hbA : Below w.heap.size w (w.alloc (.cells #[.slice a1 ts.length c1, .slice a2 fs.length c2] 40)) := (Below.refl _ _).alloc (Nat.le_refl _) _
    have hM0 := block_new w #[.slice a1 ts.length c1, .slice a2 fs.length c2] 40
    go_enter Tryz.func118, Tryz.ntmps118
    go_wp2_with (go_at_call 57; refine (between_any _ _ _ _).mono ?_; rintro e w1 ⟨rfl, rfl⟩)
    go_loop [3] (fun i => ∃ (k : Nat), k ≤ ts.length ∧ i = .int .i64 k ∧ (ts.take k).all textB = true) (fun i => ts.length - (intOf i).toNat)
    case atStart => exact ⟨0, by omega, rfl, by simp⟩
    case round =>
      obtain ⟨k, hk, rfl, hall⟩ := hrel
      by_cases hlt : k < ts.length
      · obtain ⟨b, off, rfl, -, e1⟩ := hm k hlt
        have e1' := cell_later hbA e1
        have hts := hs.text ts[k] (List.getElem_mem hlt)
        clear e1 hM0
        by_cases hi : textB ts[k] = true
        · go_wp2_with (go_at_call 60; refine (l01Text_any _ _ hts).mono ?_; rintro e w' ⟨rfl, rfl⟩)
          go_round
          case rel => exact ⟨k + 1, by omega, by go_num, all_take hlt hall hi⟩
          case measure => simp [intOf]; omega
        · have hi' : textB ts[k] = false := by simpa using hi
          have HN : Hid (modB ts fs = false) := by rw [HF.out, all_no hlt hi']; rfl
          clear hi
          go_wp2_with (go_at_call 60; refine (l01Text_any _ _ hts).mono ?_; rintro e w' ⟨rfl, rfl⟩)
          go_ret
          exact ⟨ret_bool HN.out.symm, hbA⟩
      · have hall2 : ts.all textB = true := all_end (by omega) hall
        have HF2 : Hid (modB ts fs = fs.all fun f => fnB ts.length fs.length f) := by rw [HF.out, hall2]; rfl
        clear hall hall2
        go_wp2
        go_loopw [4] (fun i wr => ∃ (k : Nat), k ≤ fs.length ∧ i = .int .i64 k ∧ (fs.take k).all (fun f => fnB ts.length fs.length f) = true ∧ wr.heap[w.heap.size]? = some (.cells #[.slice a1 ts.length c1, .slice a2 fs.length c2] 40 (0, 0)) ∧ Below w.heap.size w wr) (fun i _ => fs.length - (intOf i).toNat)
        case atStart => exact ⟨0, by omega, rfl, by simp, hM0, hbA⟩
        case round =>
          obtain ⟨q, hq, rfl, hallf, hM, hb⟩ := hrel
          obtain ⟨wo, rfl⟩ : ∃ wo, wo = wr := ⟨_, rfl⟩
          clear hM0
          have x1 := block_cell hM
          by_cases hlq : q < fs.length
          · have hcq := hs.code fs[q] (List.getElem_mem hlq)
            obtain ⟨b, off, ca, cc, rfl, -, d1, d2, d3, d4⟩ := hf q hlq
            have d1' := cell_later hb d1
            have d2' := cell_later hb d2
            have d3' := cell_later hb d3
            have hsz := lt_block hM
            clear d1 d2 d3
            by_cases hq6 : 0 ≤ fs[q].params ∧ fs[q].params ≤ 6 ∧ fs[q].params ≤ fs[q].locals ∧ fs[q].locals ≤ 12 ∧ 1 ≤ fs[q].code.length ∧ fs[q].code.length ≤ 120
            · have HQ : Hid (fnB ts.length fs.length fs[q] = fs[q].code.all fun x => insB ts.length fs.length fs[q].locals fs[q].code.length x.1 x.2) := fnB_all hq6
              obtain ⟨p1, p2, p3, p4, p5, p6⟩ := hq6
              have p5' : (1 : Int) ≤ (fs[q].code.length : Int) := by omega
              have p6' : (fs[q].code.length : Int) ≤ 120 := by omega
              go_wp2_with (go_at_call 57; refine (between_any _ _ _ _).mono ?_; rintro e w1 ⟨rfl, rfl⟩)
              have hX0 := block_new wo #[.int .i64 fs[q].params, .int .i64 fs[q].locals, .slice ca fs[q].code.length cc] 116
              have hM1 := block_old hM (.cells #[.int .i64 fs[q].params, .int .i64 fs[q].locals, .slice ca fs[q].code.length cc] 116)
              have hb1 : Below w.heap.size w (wo.alloc (.cells #[.int .i64 fs[q].params, .int .i64 fs[q].locals, .slice ca fs[q].code.length cc] 116)) := hb.alloc (by omega) _
              clear d1' d2' d3' x1 hM
              go_loopw [6] (fun i ws => ∃ (j : Nat), j ≤ fs[q].code.length ∧ i = .int .i64 j ∧ (fs[q].code.take j).all (fun x => insB ts.length fs.length fs[q].locals fs[q].code.length x.1 x.2) = true ∧ ws.heap[w.heap.size]? = some (.cells #[.slice a1 ts.length c1, .slice (some ⟨b, off, none⟩) fs.length c2] 40 (0, 0)) ∧ ws.heap[wo.heap.size]? = some (.cells #[.int .i64 fs[q].params, .int .i64 fs[q].locals, .slice ca fs[q].code.length cc] 116 (0, 0)) ∧ Below w.heap.size w ws) (fun i _ => fs[q].code.length - (intOf i).toNat)
              case atStart => exact ⟨0, by omega, rfl, by simp, hM1, hX0, hb1⟩
              case round =>
                obtain ⟨j, hj, rfl, hallc, hM2, hX, hb2⟩ := hrel
                clear hX0 hM1 hb1
                have y1 := block_cell hM2
                have y2 := block_cell hX
                by_cases hlj : j < fs[q].code.length
                · obtain ⟨cb, co, rfl, -, e1, e2⟩ := d4 j hlj
                  have e1' := cell_later hb2 e1
                  have e2' := cell_later hb2 e2
                  clear e1 e2
                  by_cases hi : insB ts.length fs.length fs[q].locals fs[q].code.length fs[q].code[j].1 fs[q].code[j].2 = true
                  · have hi2 : (!insB ts.length fs.length fs[q].locals fs[q].code.length fs[q].code[j].1 fs[q].code[j].2) = false := by rw [hi]; rfl
                    go_wp2
                    go_region_held3 (fun w' => w'.heap[w.heap.size]? = some (.cells #[.slice a1 ts.length c1, .slice (some ⟨b, off, none⟩) fs.length c2] 40 (0, 0)) ∧ w'.heap[wo.heap.size]? = some (.cells #[.int .i64 fs[q].params, .int .i64 fs[q].locals, .slice (some ⟨cb, co, none⟩) fs[q].code.length cc] 116 (0, 0)) ∧ w'.cell? ⟨w.heap.size, 0, none⟩ = some (.slice a1 ts.length c1) ∧ w'.cell? ⟨w.heap.size, 1, none⟩ = some (.slice (some ⟨b, off, none⟩) fs.length c2) ∧ w'.cell? ⟨wo.heap.size, 2, none⟩ = some (.slice (some ⟨cb, co, none⟩) fs[q].code.length cc) ∧ w'.cell? ⟨cb, co + j * 2, none⟩ = some (.int .i64 fs[q].code[j].1) ∧ w'.cell? ⟨cb, co + j * 2 + 1, none⟩ = some (.int .i64 fs[q].code[j].2))
                      (first | exact ⟨hM2, hX, (y1 0).trans rfl, (y1 1).trans rfl, (y2 2).trans rfl, e1', e2'⟩ | exact ⟨block_kept hM2 hb4, block_kept hX hb4, by rw [block_cell (block_kept hM2 hb4)]; rfl, by rw [block_cell (block_kept hM2 hb4)]; rfl, by rw [block_cell (block_kept hX hb4)]; rfl, cell_later hb4 e1', cell_later hb4 e2'⟩)
                      (first | (go_at_call 139; refine (sInsOk_any _ _ _ _ _ fs q _ _ _ (by exact s1) (by exact s2) hlq (by exact hf.mono hb2.drew) (by omega) (by omega) (by omega)).mono ?_; rintro e w4 ⟨rfl, hb4d⟩; have hb4 := below_undraw hb4d))
                    have hM3 := block_kept hM2 hb4
                    have hX3 := block_kept hX hb4
                    have hb5 : Below w.heap.size w w4 := hb2.trans (hb4.mono hb2.size)
                    clear y1 y2 e1' e2' hb4 hb4d
                    go_wp2
                    go_roundw
                    case rel => exact ⟨j + 1, by omega, by go_num, all_take hlj hallc hi, hM3, hX3, hb5⟩
                    case measure => simp [intOf]; omega
                  · have hi' : insB ts.length fs.length fs[q].locals fs[q].code.length fs[q].code[j].1 fs[q].code[j].2 = false := by simpa using hi
                    have HN : Hid (modB ts fs = false) := by
                      rw [HF2.out]
                      refine all_no (p := fun f => fnB ts.length fs.length f) hlq ?_
                      show fnB ts.length fs.length fs[q] = false
                      rw [HQ.out]
                      exact all_no (p := fun x => insB ts.length fs.length fs[q].locals fs[q].code.length x.1 x.2) hlj hi'
                    have hi2 : (!insB ts.length fs.length fs[q].locals fs[q].code.length fs[q].code[j].1 fs[q].code[j].2) = true := by rw [hi']; rfl
                    clear hi
                    go_wp2
                    go_region_held3 (fun w' => w'.heap[w.heap.size]? = some (.cells #[.slice a1 ts.length c1, .slice (some ⟨b, off, none⟩) fs.length c2] 40 (0, 0)) ∧ w'.heap[wo.heap.size]? = some (.cells #[.int .i64 fs[q].params, .int .i64 fs[q].locals, .slice (some ⟨cb, co, none⟩) fs[q].code.length cc] 116 (0, 0)) ∧ w'.cell? ⟨w.heap.size, 0, none⟩ = some (.slice a1 ts.length c1) ∧ w'.cell? ⟨w.heap.size, 1, none⟩ = some (.slice (some ⟨b, off, none⟩) fs.length c2) ∧ w'.cell? ⟨wo.heap.size, 2, none⟩ = some (.slice (some ⟨cb, co, none⟩) fs[q].code.length cc) ∧ w'.cell? ⟨cb, co + j * 2, none⟩ = some (.int .i64 fs[q].code[j].1) ∧ w'.cell? ⟨cb, co + j * 2 + 1, none⟩ = some (.int .i64 fs[q].code[j].2))
                      (first | exact ⟨hM2, hX, (y1 0).trans rfl, (y1 1).trans rfl, (y2 2).trans rfl, e1', e2'⟩ | exact ⟨block_kept hM2 hb4, block_kept hX hb4, by rw [block_cell (block_kept hM2 hb4)]; rfl, by rw [block_cell (block_kept hM2 hb4)]; rfl, by rw [block_cell (block_kept hX hb4)]; rfl, cell_later hb4 e1', cell_later hb4 e2'⟩)
                      (first | (go_at_call 139; refine (sInsOk_any _ _ _ _ _ fs q _ _ _ (by exact s1) (by exact s2) hlq (by exact hf.mono hb2.drew) (by omega) (by omega) (by omega)).mono ?_; rintro e w4 ⟨rfl, hb4d⟩; have hb4 := below_undraw hb4d))
                    have hb5 : Below w.heap.size w w4 := hb2.trans (hb4.mono hb2.size)
                    clear y1 y2 e1' e2' hb4 hb4d
                    go_wp2
                    go_ret
                    exact ⟨ret_bool HN.out.symm, hb5⟩
                · have hallc2 := all_end (by omega) hallc
                  have HA : Hid (fnB ts.length fs.length fs[q] = true) := by rw [HQ.out]; exact hallc2
                  clear hallc hallc2
                  go_wp2
                  go_roundw
                  case rel => exact ⟨q + 1, by omega, by go_num, all_take (p := fun f => fnB ts.length fs.length f) hlq hallf HA.out, hM2, hb2⟩
                  case measure => simp [intOf]; omega
            · have HQ : Hid (fnB ts.length fs.length fs[q] = false) := fnB_no hq6
              have HN : Hid (modB ts fs = false) := by rw [HF2.out]; exact all_no (p := fun f => fnB ts.length fs.length f) hlq HQ.out
              rcases (show fs[q].params < 0 ∨ (0 ≤ fs[q].params ∧ 6 < fs[q].params) ∨ (0 ≤ fs[q].params ∧ fs[q].params ≤ 6 ∧ fs[q].locals < fs[q].params) ∨ (0 ≤ fs[q].params ∧ fs[q].params ≤ 6 ∧ fs[q].params ≤ fs[q].locals ∧ 12 < fs[q].locals) ∨
                (0 ≤ fs[q].params ∧ fs[q].params ≤ 6 ∧ fs[q].params ≤ fs[q].locals ∧ fs[q].locals ≤ 12 ∧ decide ((1 : Int) ≤ (fs[q].code.length : Int)) = false) ∨ (0 ≤ fs[q].params ∧ fs[q].params ≤ 6 ∧ fs[q].params ≤ fs[q].locals ∧ fs[q].locals ≤ 12 ∧ 1 ≤ (fs[q].code.length : Int) ∧ decide ((fs[q].code.length : Int) ≤ 120) = false) by simp only [decide_eq_false_iff_not]; omega) with h | ⟨h, h2⟩ | ⟨h, h2, h3⟩ | ⟨h, h2, h3, h4⟩ | ⟨h, h2, h3, h4, h5⟩ | ⟨h, h2, h3, h4, h5, h6⟩
              all_goals
                clear hq6
                go_wp2_with (go_at_call 57; refine (between_any _ _ _ _).mono ?_; rintro e w1 ⟨rfl, rfl⟩)
                go_ret
                exact ⟨ret_bool HN.out.symm, hb.alloc (by omega) _⟩
          · go_wp2
            go_ret
            exact ⟨ret_bool (by rw [HF2.out]; exact (all_end (by omega) hallf).symm), hb⟩
  · have HF : Hid (modB ts fs = false) := modB_no hh
    rcases (show (fs.length : Int) < 1 ∨ (1 ≤ (fs.length : Int) ∧ 12 < (fs.length : Int)) ∨ (1 ≤ (fs.length : Int) ∧ (fs.length : Int) ≤ 12 ∧ 20 < (ts.length : Int)) by omega) with h | ⟨h, h2⟩ | ⟨h, h2, h3⟩
    all_goals
      clear hh
      go_enter Tryz.func118, Tryz.ntmps118
      go_wp2_with (go_at_call 57; refine (between_any _ _ _ _).mono ?_; rintro e w1 ⟨rfl, rfl⟩)
      go_ret
      exact ⟨ret_bool HF.out.symm, (Below.refl _ _).alloc (Nat.le_refl _) _⟩
end Go.Proofs.YtmmcockkbhnopaaGreat
