/-
  What impl.funcOk returns at a function of the module.
-/
import Derived.Test.YtmmcockkbhnopaaGreatOV7
import Derived.Test.YtmmcockkbhnopaaGreatOV3
namespace Go.Proofs.YtmmcockkbhnopaaGreat
open Go.RowKit

set_option maxHeartbeats 800000 in
theorem funcOk_any (a1 a2 : Option Addr) (nt c1 c2 : Nat) (fs : List Fn) (f : Nat) (w : World) (hf : f < fs.length) (hm : FnsAt w 0 a2 fs) (hck : fs[f].code.length ≤ 1048576) :
    Calls Tryz.prog 123 #[.agg #[.slice a1 nt c1, .slice a2 fs.length c2], .int .i64 f] w fun e w' => e = .returned (.bool (fnB nt fs.length fs[f])) ∧ Below w.heap.size w w' := by
  obtain ⟨b, off, ca, cc, rfl, -, d1, d2, d3, d4⟩ := hm f hf
  have n1 := World.block_lt_of_cell? _ _ d1
  simp only at n1
  by_cases hh : 0 ≤ fs[f].params ∧ fs[f].params ≤ 6 ∧ fs[f].params ≤ fs[f].locals ∧ fs[f].locals ≤ 12 ∧ 1 ≤ fs[f].code.length ∧ fs[f].code.length ≤ 120
  · have HF : Hid (fnB nt fs.length fs[f] = fs[f].code.all fun x => insB nt fs.length fs[f].locals fs[f].code.length x.1 x.2) := fnB_all hh
    obtain ⟨g1, g2, g3, g4, g5, g6⟩ := hh
    go_enter Tryz.func123, Tryz.ntmps123
    go_wp2
    have hM0 := block_old (block_new w #[.slice a1 nt c1, .slice (some ⟨b, off, none⟩) fs.length c2] 40) (.cells #[.int .i64 fs[f].params, .int .i64 fs[f].locals, .slice ca fs[f].code.length cc] 116)
    have hbA : Below w.heap.size w ((w.alloc (.cells #[.slice a1 nt c1, .slice (some ⟨b, off, none⟩) fs.length c2] 40)).alloc (.cells #[.int .i64 fs[f].params, .int .i64 fs[f].locals, .slice ca fs[f].code.length cc] 116)) := ((Below.refl _ _).alloc (Nat.le_refl _) _).alloc (by simp) _
    clear d1 d2 d3
    go_loopw [46] (fun i wr => ∃ (k : Nat), k ≤ fs[f].code.length ∧ i = .int .i64 k ∧ (fs[f].code.take k).all (fun x => insB nt fs.length fs[f].locals fs[f].code.length x.1 x.2) = true ∧ wr.heap[w.heap.size]? = some (.cells #[.slice a1 nt c1, .slice (some ⟨b, off, none⟩) fs.length c2] 40 (0, 0)) ∧ Below w.heap.size w wr) (fun i _ => fs[f].code.length - (intOf i).toNat)
    case atStart => exact ⟨0, by omega, rfl, by simp, hM0, hbA⟩
    case round =>
      obtain ⟨k, hk, rfl, hall, hM, hb⟩ := hrel
      clear hM0 hbA
      by_cases hlt : k < fs[f].code.length
      · obtain ⟨cb, co, rfl, -, e1, e2⟩ := d4 k hlt
        have e1' := cell_later hb e1
        have e2' := cell_later hb e2
        have x1 := block_cell hM
        have hsz := lt_block hM
        clear e1 e2
        go_wp2_with fail
        have hbx : Below w.heap.size w (wr.alloc (.cells #[.int .i64 fs[f].code[k].1, .int .i64 fs[f].code[k].2] 152)) := hb.alloc (by omega) _
        refine (iInsOk_any a1 _ nt c1 c2 fs f _ _ _ hf (hm.mono hbx)).mono ?_
        rintro e w2 ⟨rfl, hb2⟩
        have hM2 := block_kept (block_old hM (.cells #[.int .i64 fs[f].code[k].1, .int .i64 fs[f].code[k].2] 152)) hb2
        have hb3 : Below w.heap.size w w2 := hbx.trans (hb2.mono (by simp; omega))
        clear x1 e1' e2' hbx hb2
        by_cases hi : insB nt fs.length fs[f].locals fs[f].code.length fs[f].code[k].1 fs[f].code[k].2 = true
        · go_wp2
          go_roundw
          case rel => exact ⟨k + 1, by omega, by go_num, all_take hlt hall hi, hM2, hb3⟩
          case measure => simp [intOf]; omega
        · have hi' : insB nt fs.length fs[f].locals fs[f].code.length fs[f].code[k].1 fs[f].code[k].2 = false := by simpa using hi
          have hno : fnB nt fs.length fs[f] = false := by rw [HF.out]; exact all_no (p := fun x => insB nt fs.length fs[f].locals fs[f].code.length x.1 x.2) hlt hi'
          have HN : Hid (fnB nt fs.length fs[f] = false) := hno
          clear hno hi
          go_wp2
          go_ret
          exact ⟨ret_bool HN.out.symm, hb3⟩
      · go_wp2
        go_ret
        exact ⟨ret_bool (by rw [HF.out]; exact (all_end (by omega) hall).symm), hb⟩
  · have HF : Hid (fnB nt fs.length fs[f] = false) := fnB_no hh
    rcases (show fs[f].params < 0 ∨ (0 ≤ fs[f].params ∧ 6 < fs[f].params) ∨ (0 ≤ fs[f].params ∧ fs[f].params ≤ 6 ∧ fs[f].locals < fs[f].params) ∨ (0 ≤ fs[f].params ∧ fs[f].params ≤ 6 ∧ fs[f].params ≤ fs[f].locals ∧ 12 < fs[f].locals) ∨
      (0 ≤ fs[f].params ∧ fs[f].params ≤ 6 ∧ fs[f].params ≤ fs[f].locals ∧ fs[f].locals ≤ 12 ∧ (fs[f].code.length : Int) < 1) ∨ (0 ≤ fs[f].params ∧ fs[f].params ≤ 6 ∧ fs[f].params ≤ fs[f].locals ∧ fs[f].locals ≤ 12 ∧ 1 ≤ (fs[f].code.length : Int) ∧ 120 < (fs[f].code.length : Int)) by omega) with h | ⟨h, h2⟩ | ⟨h, h2, h3⟩ | ⟨h, h2, h3, h4⟩ | ⟨h, h2, h3, h4, h5⟩ | ⟨h, h2, h3, h4, h5, h6⟩
    all_goals
      clear hh
      go_enter Tryz.func123, Tryz.ntmps123
      go_wp2
      go_ret
      exact ⟨ret_bool HF.out.symm, ((Below.refl _ _).alloc (Nat.le_refl _) _).alloc (by simp) _⟩
end Go.Proofs.YtmmcockkbhnopaaGreat
