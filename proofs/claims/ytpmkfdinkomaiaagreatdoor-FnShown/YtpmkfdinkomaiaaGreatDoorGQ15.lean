/-
  Marked functions and modules are found again.
  What strings.Builder's WriteString does: the text grows by what is written.
  What impl.funcOk returns at a function of the module.
-/
import Derived.Test.YtpmkfdinkomaiaaGreatDoorGQ14
import Derived.Test.YtpmkfdinkomaiaaGreatDoorGQ5
import Derived.Lib.Builder
import Derived.Lib.UnsafeStr
import Derived.Laws.Externs
import Derived.Test.YtpmkfdinkomaiaaGreatDoorGQ6
import Derived.Test.YtpmkfdinkomaiaaGreatDoorGQ2
namespace Go.Proofs.YtpmkfdinkomaiaaGreatDoor
open Go.RowKit

end Go.Proofs.YtpmkfdinkomaiaaGreatDoor

namespace Go.Proofs.YtpmkfdinkomaiaaGreatDoor
open Go.RowKit

/-- A Builder of the call's own that holds this text. -/
def Bld (w : World) (B b : Nat) (s : ByteArray) : Prop := B ≤ b ∧ ∃ p v, w.heap[b]? = some (Obj.cells #[p, v] 41 (0, 0)) ∧ (p = .pointer none ∨ p = .pointer (some ⟨b, 0, none⟩)) ∧ TBuf w B v s
theorem sizeB : (Tryz.prog.info? 41).map (·.size) = some 2 := by kernel_rfl
theorem liesB : liesAt Tryz.prog Tryz.prog.depth 41 (2 / Tryz.prog.cellsOf 41) 0 41 1 = true := by kernel_rfl
theorem Bld.keeps {w w' : World} {B b lo : Nat} {l : List Nat} {s : ByteArray} (h : Bld w B b s) (hk : Keeps lo l w w') (h5 : 5 ∉ l) (h60 : 41 ∉ l) : Bld w' B b s := by
  obtain ⟨h1, p, v, hb, hp, ht⟩ := h
  exact ⟨h1, p, v, hk.cell hb h60, hp, ht.keeps hk h5⟩
theorem Bld.below {w w' : World} {B b : Nat} {s : ByteArray} (h : Bld w B b s) (hb : Below w.heap.size w w') : Bld w' B b s := h.keeps (lo := 0) (l := []) (Keeps.below hb) (by simp) (by simp)

set_option maxHeartbeats 1000000 in
set_option maxRecDepth 100000 in
theorem copyCheck_used (b : Nat) (w : World) (h0 : w.cell? ⟨b, 0, none⟩ = some (.pointer (some ⟨b, 0, none⟩))) :
    Calls Tryz.prog 38 #[.pointer (some ⟨b, 0, none⟩)] w fun e w' => e = .returned (.tuple #[]) ∧ w' = w := by
  obtain ⟨j, hj, _⟩ := Option.map_eq_some_iff.1 sizeB
  go_enter Tryz.func38, Tryz.ntmps38
  go_wp2
  rw [Lib.run_neq_ptr_same w _ Tryz.underlying39 hj]
  go_wp2
  go_end0
  exact ⟨rfl, rfl⟩
set_option maxHeartbeats 1000000 in
set_option maxRecDepth 100000 in
theorem copyCheck_fresh (b : Nat) (w : World) (h0 : w.cell? ⟨b, 0, none⟩ = some (.pointer none)) (hsh : w.shape? b = some (41, 2)) (hfz : w.frozen? ⟨b, 0, none⟩ = false) :
    Calls Tryz.prog 38 #[.pointer (some ⟨b, 0, none⟩)] w fun e w' => e = .returned (.tuple #[]) ∧ w' = w.setCell ⟨b, 0, none⟩ (.pointer (some ⟨b, 0, none⟩)) := by
  obtain ⟨j, hj, hjs⟩ := Option.map_eq_some_iff.1 sizeB
  go_enter Tryz.func38, Tryz.ntmps38
  go_wp2
  rw [Lib.run_to_unsafe w ⟨b, 0, none⟩ Tryz.underlying39 Tryz.underlying88 hj (by rw [hjs]; decide) hsh (Nat.zero_lt_succ 1)]
  simp only [Result.andThen]
  rw [Oper.upon_value]
  go_wp2
  rw [run_callFunc_extern Tryz.func55 (by kernel_rfl) (by kernel_rfl) (by kernel_rfl) (e := Extern.AbiNoEscape.same) (by kernel_rfl)]
  rw [Lib.run_noEscape]
  simp only [Result.andThen]
  rw [Oper.upon_value]
  go_wp2
  rw [Lib.run_from_unsafe w ⟨b, 0, none⟩ Tryz.underlying88 Tryz.underlying39 hj hsh liesB]
  simp only [Result.andThen]
  rw [Oper.upon_value]
  go_wp2
  go_end0
  exact ⟨rfl, rfl⟩
theorem copyCheck_is (B b : Nat) (s : ByteArray) (w : World) (h : Bld w B b s) :
    Calls Tryz.prog 38 #[.pointer (some ⟨b, 0, none⟩)] w fun e w' => e = .returned (.tuple #[]) ∧ (∃ v, w'.heap[b]? = some (Obj.cells #[.pointer (some ⟨b, 0, none⟩), v] 41 (0, 0)) ∧ TBuf w' B v s) ∧ Keeps B [5, 41] w w' := by
  obtain ⟨hB, p, v, hb, hp, ht⟩ := h
  rcases hp with rfl | rfl
  · refine (copyCheck_fresh b w (by rw [block_cell hb]; rfl) (by simp [World.shape?, hb]) (block_free hb 0)).mono ?_
    rintro e w' ⟨rfl, rfl⟩
    have hk : Keeps B [41] w (w.setCell ⟨b, 0, none⟩ (.pointer (some ⟨b, 0, none⟩))) := (Keeps.refl B [41] w).set hb (by simp) hB 0 _
    refine ⟨rfl, ⟨v, ?_, ht.keeps hk (by simp)⟩, hk.mono (Nat.le_refl _) (by simp)⟩
    have := block_set (i := 0) hb (.pointer (some ⟨b, 0, none⟩))
    simpa using this
  · refine (copyCheck_used b w (by rw [block_cell hb]; rfl)).mono ?_
    rintro e w' ⟨rfl, rfl⟩
    exact ⟨rfl, ⟨v, hb, ht⟩, Keeps.refl _ _ _⟩

theorem own_slice {w : World} {B e size n : Nat} {v : Value} {xs : List Value} (h : w.ownsRow B e size v n xs) : ∃ ao n' cap, v = .slice ao n' cap := by
  rcases h.2 with ⟨hv, _⟩ | ⟨g, cap, cur, hv, _⟩
  · exact ⟨_, _, _, hv⟩
  · exact ⟨_, _, _, hv⟩
set_option maxHeartbeats 2000000 in
set_option maxRecDepth 100000 in
theorem write_is (B b : Nat) (s t : ByteArray) (w : World) (h : Bld w B b s) (hlen : s.size + t.size ≤ 1000000) (hBw : B ≤ w.heap.size) :
    Calls Tryz.prog 16 #[.pointer (some ⟨b, 0, none⟩), .string t] w fun e w' => e = .returned (.tuple #[.int .i64 t.size, .nilIface]) ∧ Bld w' B b (s ++ t) ∧ Keeps B [5, 41] w w' := by
  obtain ⟨i0, hi, hz0, hz1, hz2⟩ := info_parts info5
  have hB := h.1
  go_enter Tryz.func16, Tryz.ntmps16
  go_wp2_with fail
  refine (copyCheck_is B b s _ h).mono ?_
  rintro e w1 ⟨rfl, ⟨v, hbk, hown⟩, hk1⟩
  have c0 := block_cell hbk
  have hB1 : B ≤ w1.heap.size := Nat.le_trans hBw hk1.size
  go_wp2_with (first | (at_builtin; refine Lib.wpList_append_own_string _ rfl _ _ 22 9 rfl B 5 i0 Tryz.underlying22 Tryz.underlying9 hi hz0 hz1 hz2 _ _ _ rfl hown t rfl (by unfold maxLen; omega) (by omega) hB1 ?_; intro v4 w4 hown4 hgrow4 hnil4; obtain ⟨ao, n4, cp4, rfl⟩ := own_slice hown4; have hk4 : Keeps B [5] w1 w4 := Keeps.grown hown hgrow4 (by simp); have hb4 := hk4.cell hbk (by simp); have d0 := block_cell hb4; have f0 := block_free hb4))
  have hblk := block_set (i := 1) hb4 (.slice ao n4 cp4)
  have hkk : Keeps B [41] w4 (w4.setCell ⟨b, 1, none⟩ (.slice ao n4 cp4)) := (Keeps.refl B [41] w4).set hb4 (by simp) hB 1 _
  have ht := (TBuf.add hown4).keeps hkk (by simp)
  have hkz : Keeps B [5, 41] w (w4.setCell ⟨b, 1, none⟩ (.slice ao n4 cp4)) := (hk1.trans (hk4.mono (Nat.le_refl _) (by simp))).trans (hkk.mono (Nat.le_refl _) (by simp))
  clear hown4 hgrow4 hnil4
  go_wp2
  go_ret2
  exact ⟨rfl, ⟨hB, _, _, by simpa using hblk, Or.inr rfl, ht⟩, hkz⟩
end Go.Proofs.YtpmkfdinkomaiaaGreatDoor

namespace Go.Proofs.YtpmkfdinkomaiaaGreatDoor
open Go.RowKit

set_option maxHeartbeats 800000 in
theorem funcOk_any (a1 a2 : Option Addr) (nt c1 c2 : Nat) (fs : List Fn) (f : Nat) (w : World) (hf : f < fs.length) (hm : FnsAt w 0 a2 fs) (hck : fs[f].code.length ≤ 1048576) :
    Calls Tryz.prog 37 #[.agg #[.slice a1 nt c1, .slice a2 fs.length c2], .int .i64 f] w fun e w' => e = .returned (.bool (fnB nt fs.length fs[f])) ∧ Below w.heap.size w w' := by
  obtain ⟨b, off, ca, cc, rfl, -, d1, d2, d3, d4⟩ := hm f hf
  have n1 := World.block_lt_of_cell? _ _ d1
  simp only at n1
  by_cases hh : 0 ≤ fs[f].params ∧ fs[f].params ≤ 6 ∧ fs[f].params ≤ fs[f].locals ∧ fs[f].locals ≤ 12 ∧ 1 ≤ fs[f].code.length ∧ fs[f].code.length ≤ 120
  · have HF : Hid (fnB nt fs.length fs[f] = fs[f].code.all fun x => insB nt fs.length fs[f].locals fs[f].code.length x.1 x.2) := fnB_all hh
    obtain ⟨g1, g2, g3, g4, g5, g6⟩ := hh
    go_enter Tryz.func37, Tryz.ntmps37
    go_wp2
    have hM0 := block_old (block_new w #[.slice a1 nt c1, .slice (some ⟨b, off, none⟩) fs.length c2] 27) (.cells #[.int .i64 fs[f].params, .int .i64 fs[f].locals, .slice ca fs[f].code.length cc] 48)
    have hbA : Below w.heap.size w ((w.alloc (.cells #[.slice a1 nt c1, .slice (some ⟨b, off, none⟩) fs.length c2] 27)).alloc (.cells #[.int .i64 fs[f].params, .int .i64 fs[f].locals, .slice ca fs[f].code.length cc] 48)) := ((Below.refl _ _).alloc (Nat.le_refl _) _).alloc (by simp) _
    clear d1 d2 d3
    go_loopw [46] (fun i wr => ∃ (k : Nat), k ≤ fs[f].code.length ∧ i = .int .i64 k ∧ (fs[f].code.take k).all (fun x => insB nt fs.length fs[f].locals fs[f].code.length x.1 x.2) = true ∧ wr.heap[w.heap.size]? = some (.cells #[.slice a1 nt c1, .slice (some ⟨b, off, none⟩) fs.length c2] 27 (0, 0)) ∧ Below w.heap.size w wr) (fun i _ => fs[f].code.length - (intOf i).toNat)
    case atStart => exact ⟨0, by omega, rfl, by simp, hM0, hbA⟩
    case round =>
      obtain ⟨k, hk, rfl, hall, hM, hb⟩ := hrel
      clear hM0 hbA
      by_cases hlt : k < fs[f].code.length
      · obtain ⟨cb, co, rfl, -, e1, e2⟩ := d4 k hlt
        have e1' := cell_later hb e1
        have e2' := cell_later hb e2
        have x1 := block_cell hM
        have hsz := lt_block hM
        clear e1 e2
        go_wp2_with fail
        have hbx : Below w.heap.size w (wr.alloc (.cells #[.int .i64 fs[f].code[k].1, .int .i64 fs[f].code[k].2] 51)) := hb.alloc (by omega) _
        refine (iInsOk_any a1 _ nt c1 c2 fs f _ _ _ hf (hm.mono hbx)).mono ?_
        rintro e w2 ⟨rfl, hb2⟩
        have hM2 := block_kept (block_old hM (.cells #[.int .i64 fs[f].code[k].1, .int .i64 fs[f].code[k].2] 51)) hb2
        have hb3 : Below w.heap.size w w2 := hbx.trans (hb2.mono (by simp; omega))
        clear x1 e1' e2' hbx hb2
        by_cases hi : insB nt fs.length fs[f].locals fs[f].code.length fs[f].code[k].1 fs[f].code[k].2 = true
        · go_wp2
          go_roundw
          case rel => exact ⟨k + 1, by omega, by go_num, all_take hlt hall hi, hM2, hb3⟩
          case measure => simp [intOf]; omega
        · have hi' : insB nt fs.length fs[f].locals fs[f].code.length fs[f].code[k].1 fs[f].code[k].2 = false := by simpa using hi
          have hno : fnB nt fs.length fs[f] = false := by rw [HF.out]; exact all_no (p := fun x => insB nt fs.length fs[f].locals fs[f].code.length x.1 x.2) hlt hi'
          have HN : Hid (fnB nt fs.length fs[f] = false) := hno
          clear hno hi
          go_wp2
          go_ret
          exact ⟨ret_bool HN.out.symm, hb3⟩
      · go_wp2
        go_ret
        exact ⟨ret_bool (by rw [HF.out]; exact (all_end (by omega) hall).symm), hb⟩
  · have HF : Hid (fnB nt fs.length fs[f] = false) := fnB_no hh
    rcases (show fs[f].params < 0 ∨ (0 ≤ fs[f].params ∧ 6 < fs[f].params) ∨ (0 ≤ fs[f].params ∧ fs[f].params ≤ 6 ∧ fs[f].locals < fs[f].params) ∨ (0 ≤ fs[f].params ∧ fs[f].params ≤ 6 ∧ fs[f].params ≤ fs[f].locals ∧ 12 < fs[f].locals) ∨
      (0 ≤ fs[f].params ∧ fs[f].params ≤ 6 ∧ fs[f].params ≤ fs[f].locals ∧ fs[f].locals ≤ 12 ∧ (fs[f].code.length : Int) < 1) ∨ (0 ≤ fs[f].params ∧ fs[f].params ≤ 6 ∧ fs[f].params ≤ fs[f].locals ∧ fs[f].locals ≤ 12 ∧ 1 ≤ (fs[f].code.length : Int) ∧ 120 < (fs[f].code.length : Int)) by omega) with h | ⟨h, h2⟩ | ⟨h, h2, h3⟩ | ⟨h, h2, h3, h4⟩ | ⟨h, h2, h3, h4, h5⟩ | ⟨h, h2, h3, h4, h5, h6⟩
    all_goals
      clear hh
      go_enter Tryz.func37, Tryz.ntmps37
      go_wp2
      go_ret
      exact ⟨ret_bool HF.out.symm, ((Below.refl _ _).alloc (Nat.le_refl _) _).alloc (by simp) _⟩
end Go.Proofs.YtpmkfdinkomaiaaGreatDoor
