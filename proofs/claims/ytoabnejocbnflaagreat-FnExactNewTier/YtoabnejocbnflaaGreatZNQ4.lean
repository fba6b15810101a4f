/-
  More that is known of the functions of the text Plain.
  What impl.funcOk returns at a function of the module.
  What impl.ModuleOk returns, for every module within the stated sizes.
-/
import Derived.Test.YtoabnejocbnflaaGreatZNQ2
import Derived.Test.YtoabnejocbnflaaGreatZNQ3
namespace Go.Proofs.YtoabnejocbnflaaGreat

theorem lt_block {w : World} {g : Nat} {o : Obj} (h : w.heap[g]? = some o) : g < w.heap.size := by
  rcases Nat.lt_or_ge g w.heap.size with h' | h'
  · exact h'
  · rw [Array.getElem?_eq_none h'] at h; cases h

theorem fnB_no {nt nf : Int} {f : Fn} (h : ¬ (0 ≤ f.params ∧ f.params ≤ 6 ∧ f.params ≤ f.locals ∧ f.locals ≤ 12 ∧ 1 ≤ f.code.length ∧ f.code.length ≤ 120)) : fnB nt nf f = false := by
  rw [Bool.eq_false_iff]
  intro hc
  apply h
  unfold fnB at hc
  simp only [Bool.and_eq_true, decide_eq_true_eq] at hc
  omega
theorem fnB_all {nt nf : Int} {f : Fn} (h : 0 ≤ f.params ∧ f.params ≤ 6 ∧ f.params ≤ f.locals ∧ f.locals ≤ 12 ∧ 1 ≤ f.code.length ∧ f.code.length ≤ 120) : fnB nt nf f = f.code.all fun x => insB nt nf f.locals f.code.length x.1 x.2 := by
  obtain ⟨h1, h2, h3, h4, h5, h6⟩ := h
  unfold fnB
  rw [decide_eq_true h1, decide_eq_true h2, decide_eq_true h3, decide_eq_true h4, decide_eq_true h5, decide_eq_true h6]
  rfl
theorem modB_no {ts : List ByteArray} {fs : List Fn} (h : ¬ (1 ≤ fs.length ∧ fs.length ≤ 12 ∧ ts.length ≤ 20)) : modB ts fs = false := by
  rw [Bool.eq_false_iff]
  intro hc
  apply h
  unfold modB at hc
  simp only [Bool.and_eq_true, decide_eq_true_eq] at hc
  omega
theorem modB_all {ts : List ByteArray} {fs : List Fn} (h : 1 ≤ fs.length ∧ fs.length ≤ 12 ∧ ts.length ≤ 20) : modB ts fs = (ts.all textB && fs.all fun f => fnB ts.length fs.length f) := by
  obtain ⟨h1, h2, h3⟩ := h
  unfold modB
  rw [decide_eq_true h1, decide_eq_true h2, decide_eq_true h3]
  rfl
end Go.Proofs.YtoabnejocbnflaaGreat

namespace Go.Proofs.YtoabnejocbnflaaGreat
open Go.RowKit

set_option maxHeartbeats 800000 in
theorem funcOk_any (a1 a2 : Option Addr) (nt c1 c2 : Nat) (fs : List Fn) (f : Nat) (w : World) (hf : f < fs.length) (hm : FnsAt w 0 a2 fs) (hck : fs[f].code.length ≤ 1048576) :
    Calls Tryz.prog 107 #[.agg #[.slice a1 nt c1, .slice a2 fs.length c2], .int .i64 f] w fun e w' => e = .returned (.bool (fnB nt fs.length fs[f])) ∧ Below w.heap.size w w' := by
  obtain ⟨b, off, ca, cc, rfl, -, d1, d2, d3, d4⟩ := hm f hf
  have n1 := World.block_lt_of_cell? _ _ d1
  simp only at n1
  by_cases hh : 0 ≤ fs[f].params ∧ fs[f].params ≤ 6 ∧ fs[f].params ≤ fs[f].locals ∧ fs[f].locals ≤ 12 ∧ 1 ≤ fs[f].code.length ∧ fs[f].code.length ≤ 120
  · have HF : Hid (fnB nt fs.length fs[f] = fs[f].code.all fun x => insB nt fs.length fs[f].locals fs[f].code.length x.1 x.2) := fnB_all hh
    obtain ⟨g1, g2, g3, g4, g5, g6⟩ := hh
    go_enter Tryz.func107, Tryz.ntmps107
    go_wp2
    have hM0 := block_old (block_new w #[.slice a1 nt c1, .slice (some ⟨b, off, none⟩) fs.length c2] 44) (.cells #[.int .i64 fs[f].params, .int .i64 fs[f].locals, .slice ca fs[f].code.length cc] 84)
    have hbA : Below w.heap.size w ((w.alloc (.cells #[.slice a1 nt c1, .slice (some ⟨b, off, none⟩) fs.length c2] 44)).alloc (.cells #[.int .i64 fs[f].params, .int .i64 fs[f].locals, .slice ca fs[f].code.length cc] 84)) := ((Below.refl _ _).alloc (Nat.le_refl _) _).alloc (by simp) _
    clear d1 d2 d3
    go_loopw [46] (fun i wr => ∃ (k : Nat), k ≤ fs[f].code.length ∧ i = .int .i64 k ∧ (fs[f].code.take k).all (fun x => insB nt fs.length fs[f].locals fs[f].code.length x.1 x.2) = true ∧ wr.heap[w.heap.size]? = some (.cells #[.slice a1 nt c1, .slice (some ⟨b, off, none⟩) fs.length c2] 44 (0, 0)) ∧ Below w.heap.size w wr) (fun i _ => fs[f].code.length - (intOf i).toNat)
    case atStart => exact ⟨0, by omega, rfl, by simp, hM0, hbA⟩
    case round =>
      obtain ⟨k, hk, rfl, hall, hM, hb⟩ := hrel
      clear hM0 hbA
      by_cases hlt : k < fs[f].code.length
      · obtain ⟨cb, co, rfl, -, e1, e2⟩ := d4 k hlt
        have e1' := cell_later hb e1
        have e2' := cell_later hb e2
        have x1 := block_cell hM
        have hsz := lt_block hM
        clear e1 e2
        go_wp2_with fail
        have hbx : Below w.heap.size w (wr.alloc (.cells #[.int .i64 fs[f].code[k].1, .int .i64 fs[f].code[k].2] 135)) := hb.alloc (by omega) _
        refine (iInsOk_any a1 _ nt c1 c2 fs f _ _ _ hf (hm.mono hbx)).mono ?_
        rintro e w2 ⟨rfl, hb2⟩
        have hM2 := block_kept (block_old hM (.cells #[.int .i64 fs[f].code[k].1, .int .i64 fs[f].code[k].2] 135)) hb2
        have hb3 : Below w.heap.size w w2 := hbx.trans (hb2.mono (by simp; omega))
        clear x1 e1' e2' hbx hb2
        by_cases hi : insB nt fs.length fs[f].locals fs[f].code.length fs[f].code[k].1 fs[f].code[k].2 = true
        · go_wp2
          go_roundw
          case rel => exact ⟨k + 1, by omega, by go_num, all_take hlt hall hi, hM2, hb3⟩
          case measure => simp [intOf]; omega
        · have hi' : insB nt fs.length fs[f].locals fs[f].code.length fs[f].code[k].1 fs[f].code[k].2 = false := by simpa using hi
          have hno : fnB nt fs.length fs[f] = false := by rw [HF.out]; exact all_no (p := fun x => insB nt fs.length fs[f].locals fs[f].code.length x.1 x.2) hlt hi'
          have HN : Hid (fnB nt fs.length fs[f] = false) := hno
          clear hno hi
          go_wp2
          go_ret
          exact ⟨ret_bool HN.out.symm, hb3⟩
      · go_wp2
        go_ret
        exact ⟨ret_bool (by rw [HF.out]; exact (all_end (by omega) hall).symm), hb⟩
  · have HF : Hid (fnB nt fs.length fs[f] = false) := fnB_no hh
    rcases (show fs[f].params < 0 ∨ (0 ≤ fs[f].params ∧ 6 < fs[f].params) ∨ (0 ≤ fs[f].params ∧ fs[f].params ≤ 6 ∧ fs[f].locals < fs[f].params) ∨ (0 ≤ fs[f].params ∧ fs[f].params ≤ 6 ∧ fs[f].params ≤ fs[f].locals ∧ 12 < fs[f].locals) ∨
      (0 ≤ fs[f].params ∧ fs[f].params ≤ 6 ∧ fs[f].params ≤ fs[f].locals ∧ fs[f].locals ≤ 12 ∧ (fs[f].code.length : Int) < 1) ∨ (0 ≤ fs[f].params ∧ fs[f].params ≤ 6 ∧ fs[f].params ≤ fs[f].locals ∧ fs[f].locals ≤ 12 ∧ 1 ≤ (fs[f].code.length : Int) ∧ 120 < (fs[f].code.length : Int)) by omega) with h | ⟨h, h2⟩ | ⟨h, h2, h3⟩ | ⟨h, h2, h3, h4⟩ | ⟨h, h2, h3, h4, h5⟩ | ⟨h, h2, h3, h4, h5, h6⟩
    all_goals
      clear hh
      go_enter Tryz.func107, Tryz.ntmps107
      go_wp2
      go_ret
      exact ⟨ret_bool HF.out.symm, ((Below.refl _ _).alloc (Nat.le_refl _) _).alloc (by simp) _⟩
end Go.Proofs.YtoabnejocbnflaaGreat

namespace Go.Proofs.YtoabnejocbnflaaGreat
open Go.RowKit

set_option maxHeartbeats 1000000 in
theorem iModuleOk_any (a1 a2 : Option Addr) (ts : List ByteArray) (fs : List Fn) (c1 c2 : Nat) (w : World) (hs : Small ts fs) (hm : StrsAt w 0 a1 ts) (hf : FnsAt w 0 a2 fs) :
    Calls Tryz.prog 94 #[.agg #[.slice a1 ts.length c1, .slice a2 fs.length c2]] w fun e w' => e = .returned (.bool (modB ts fs)) ∧ Below w.heap.size w w' := by
  have s1 := hs.texts
  have s2 := hs.funcs
  by_cases hh : 1 ≤ fs.length ∧ fs.length ≤ 12 ∧ ts.length ≤ 20
  · have HF : Hid (modB ts fs = (ts.all textB && fs.all fun f => fnB ts.length fs.length f)) := modB_all hh
    obtain ⟨g1, g2, g3⟩ := hh
    have hbA : Below w.heap.size w (w.alloc (.cells #[.slice a1 ts.length c1, .slice a2 fs.length c2] 44)) := (Below.refl _ _).alloc (Nat.le_refl _) _
    have hM0 := block_new w #[.slice a1 ts.length c1, .slice a2 fs.length c2] 44
    go_enter Tryz.func94, Tryz.ntmps94
    go_wp2
    go_loop [25] (fun i => ∃ (k : Nat), k ≤ ts.length ∧ i = .int .i64 k ∧ (ts.take k).all textB = true) (fun i => ts.length - (intOf i).toNat)
    case atStart => exact ⟨0, by omega, rfl, by simp⟩
    case round =>
      obtain ⟨k, hk, rfl, hall⟩ := hrel
      by_cases hlt : k < ts.length
      · obtain ⟨b, off, rfl, -, e1⟩ := hm k hlt
        have e1' := cell_later hbA e1
        have hts := hs.text ts[k] (List.getElem_mem hlt)
        clear e1 hM0
        by_cases hi : textB ts[k] = true
        · go_wp2_with (go_at_call 106; refine (textOk_any _ _ hts).mono ?_; rintro e w' ⟨rfl, rfl⟩)
          go_round
          case rel => exact ⟨k + 1, by omega, by go_num, all_take hlt hall hi⟩
          case measure => simp [intOf]; omega
        · have hi' : textB ts[k] = false := by simpa using hi
          have HN : Hid (modB ts fs = false) := by rw [HF.out, all_no hlt hi']; rfl
          clear hi
          go_wp2_with (go_at_call 106; refine (textOk_any _ _ hts).mono ?_; rintro e w' ⟨rfl, rfl⟩)
          go_ret
          exact ⟨ret_bool HN.out.symm, hbA⟩
      · have hall2 : ts.all textB = true := all_end (by omega) hall
        have HF2 : Hid (modB ts fs = fs.all fun f => fnB ts.length fs.length f) := by rw [HF.out, hall2]; rfl
        clear hall hall2
        go_wp2
        go_loopw [36] (fun i wr => ∃ (k : Nat), k ≤ fs.length ∧ i = .int .i64 k ∧ (fs.take k).all (fun f => fnB ts.length fs.length f) = true ∧ wr.heap[w.heap.size]? = some (.cells #[.slice a1 ts.length c1, .slice a2 fs.length c2] 44 (0, 0)) ∧ Below w.heap.size w wr) (fun i _ => fs.length - (intOf i).toNat)
        case atStart => exact ⟨0, by omega, rfl, by simp, hM0, hbA⟩
        case round =>
          obtain ⟨q, hq, rfl, hallf, hM, hb⟩ := hrel
          clear hM0
          by_cases hlq : q < fs.length
          · have x1 := block_cell hM
            have hcq := hs.code fs[q] (List.getElem_mem hlq)
            go_wp2_with fail
            refine (funcOk_any a1 a2 ts.length c1 c2 fs q _ hlq (hf.mono hb) hcq).mono ?_
            rintro e w2 ⟨rfl, hb2⟩
            have hM2 := block_kept hM hb2
            have hb3 : Below w.heap.size w w2 := hb.trans (hb2.mono hb.size)
            clear x1 hb2
            by_cases hi : fnB ts.length fs.length fs[q] = true
            · go_wp2
              go_roundw
              case rel => exact ⟨q + 1, by omega, by go_num, all_take (p := fun f => fnB ts.length fs.length f) hlq hallf hi, hM2, hb3⟩
              case measure => simp [intOf]; omega
            · have hi' : fnB ts.length fs.length fs[q] = false := by simpa using hi
              have HN : Hid (modB ts fs = false) := by rw [HF2.out]; exact all_no (p := fun f => fnB ts.length fs.length f) hlq hi'
              clear hi
              go_wp2
              go_ret
              exact ⟨ret_bool HN.out.symm, hb3⟩
          · go_wp2
            go_ret
            exact ⟨ret_bool (by rw [HF2.out]; exact (all_end (by omega) hallf).symm), hb⟩
  · have HF : Hid (modB ts fs = false) := modB_no hh
    rcases (show 20 < (ts.length : Int) ∨ ((ts.length : Int) ≤ 20 ∧ (fs.length : Int) < 1) ∨ ((ts.length : Int) ≤ 20 ∧ 1 ≤ (fs.length : Int) ∧ 12 < (fs.length : Int)) by omega) with h | ⟨h, h2⟩ | ⟨h, h2, h3⟩
    all_goals
      clear hh
      go_enter Tryz.func94, Tryz.ntmps94
      go_wp2
      go_ret
      exact ⟨ret_bool HF.out.symm, (Below.refl _ _).alloc (Nat.le_refl _) _⟩
end Go.Proofs.YtoabnejocbnflaaGreat
