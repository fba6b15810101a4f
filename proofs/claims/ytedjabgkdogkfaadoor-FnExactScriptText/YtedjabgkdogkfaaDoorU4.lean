/-
  What strings.Builder's WriteString does: the text grows by what is written.
-/
import Derived.Test.YtedjabgkdogkfaaDoorU2
import Derived.Lib.Builder
import Derived.Lib.UnsafeStr
import Derived.Laws.Externs
namespace Go.Proofs.YtedjabgkdogkfaaDoor
open Go.RowKit

/-- A Builder of the call's own that holds this text. -/
def Bld (w : World) (B b : Nat) (s : ByteArray) : Prop := B ≤ b ∧ ∃ p v, w.heap[b]? = some (Obj.cells #[p, v] 59 (0, 0)) ∧ (p = .pointer none ∨ p = .pointer (some ⟨b, 0, none⟩)) ∧ TBuf w B v s
theorem sizeB : (Tryd.prog.info? 59).map (·.size) = some 2 := by kernel_rfl
theorem liesB : liesAt Tryd.prog Tryd.prog.depth 59 (2 / Tryd.prog.cellsOf 59) 0 59 1 = true := by kernel_rfl
theorem Bld.keeps {w w' : World} {B b lo : Nat} {l : List Nat} {s : ByteArray} (h : Bld w B b s) (hk : Keeps lo l w w') (h5 : 5 ∉ l) (h60 : 59 ∉ l) : Bld w' B b s := by
  obtain ⟨h1, p, v, hb, hp, ht⟩ := h
  exact ⟨h1, p, v, hk.cell hb h60, hp, ht.keeps hk h5⟩
theorem Bld.below {w w' : World} {B b : Nat} {s : ByteArray} (h : Bld w B b s) (hb : Below w.heap.size w w') : Bld w' B b s := h.keeps (lo := 0) (l := []) (Keeps.below hb) (by simp) (by simp)

set_option maxHeartbeats 1000000 in
set_option maxRecDepth 100000 in
theorem copyCheck_used (b : Nat) (w : World) (h0 : w.cell? ⟨b, 0, none⟩ = some (.pointer (some ⟨b, 0, none⟩))) :
    Calls Tryd.prog 33 #[.pointer (some ⟨b, 0, none⟩)] w fun e w' => e = .returned (.tuple #[]) ∧ w' = w := by
  obtain ⟨j, hj, _⟩ := Option.map_eq_some_iff.1 sizeB
  go_enter Tryd.func33, Tryd.ntmps33
  go_wp2
  rw [Lib.run_neq_ptr_same w _ Tryd.underlying57 hj]
  go_wp2
  go_end0
  exact ⟨rfl, rfl⟩
set_option maxHeartbeats 1000000 in
set_option maxRecDepth 100000 in
theorem copyCheck_fresh (b : Nat) (w : World) (h0 : w.cell? ⟨b, 0, none⟩ = some (.pointer none)) (hsh : w.shape? b = some (59, 2)) (hfz : w.frozen? ⟨b, 0, none⟩ = false) :
    Calls Tryd.prog 33 #[.pointer (some ⟨b, 0, none⟩)] w fun e w' => e = .returned (.tuple #[]) ∧ w' = w.setCell ⟨b, 0, none⟩ (.pointer (some ⟨b, 0, none⟩)) := by
  obtain ⟨j, hj, hjs⟩ := Option.map_eq_some_iff.1 sizeB
  go_enter Tryd.func33, Tryd.ntmps33
  go_wp2
  rw [Lib.run_to_unsafe w ⟨b, 0, none⟩ Tryd.underlying57 Tryd.underlying76 hj (by rw [hjs]; decide) hsh (Nat.zero_lt_succ 1)]
  simp only [Result.andThen]
  rw [Oper.upon_value]
  go_wp2
  rw [run_callFunc_extern Tryd.func38 (by kernel_rfl) (by kernel_rfl) (by kernel_rfl) (e := Extern.AbiNoEscape.same) (by kernel_rfl)]
  rw [Lib.run_noEscape]
  simp only [Result.andThen]
  rw [Oper.upon_value]
  go_wp2
  rw [Lib.run_from_unsafe w ⟨b, 0, none⟩ Tryd.underlying76 Tryd.underlying57 hj hsh liesB]
  simp only [Result.andThen]
  rw [Oper.upon_value]
  go_wp2
  go_end0
  exact ⟨rfl, rfl⟩
theorem copyCheck_is (B b : Nat) (s : ByteArray) (w : World) (h : Bld w B b s) :
    Calls Tryd.prog 33 #[.pointer (some ⟨b, 0, none⟩)] w fun e w' => e = .returned (.tuple #[]) ∧ (∃ v, w'.heap[b]? = some (Obj.cells #[.pointer (some ⟨b, 0, none⟩), v] 59 (0, 0)) ∧ TBuf w' B v s) ∧ Keeps B [5, 59] w w' := by
  obtain ⟨hB, p, v, hb, hp, ht⟩ := h
  rcases hp with rfl | rfl
  · refine (copyCheck_fresh b w (by rw [block_cell hb]; rfl) (by simp [World.shape?, hb]) (block_free hb 0)).mono ?_
    rintro e w' ⟨rfl, rfl⟩
    have hk : Keeps B [59] w (w.setCell ⟨b, 0, none⟩ (.pointer (some ⟨b, 0, none⟩))) := (Keeps.refl B [59] w).set hb (by simp) hB 0 _
    refine ⟨rfl, ⟨v, ?_, ht.keeps hk (by simp)⟩, hk.mono (Nat.le_refl _) (by simp)⟩
    have := block_set (i := 0) hb (.pointer (some ⟨b, 0, none⟩))
    simpa using this
  · refine (copyCheck_used b w (by rw [block_cell hb]; rfl)).mono ?_
    rintro e w' ⟨rfl, rfl⟩
    exact ⟨rfl, ⟨v, hb, ht⟩, Keeps.refl _ _ _⟩

theorem own_slice {w : World} {B e size n : Nat} {v : Value} {xs : List Value} (h : w.ownsRow B e size v n xs) : ∃ ao n' cap, v = .slice ao n' cap := by
  rcases h.2 with ⟨hv, _⟩ | ⟨g, cap, cur, hv, _⟩
  · exact ⟨_, _, _, hv⟩
  · exact ⟨_, _, _, hv⟩
set_option maxHeartbeats 2000000 in
set_option maxRecDepth 100000 in
theorem write_is (B b : Nat) (s t : ByteArray) (w : World) (h : Bld w B b s) (hlen : s.size + t.size ≤ 1000000000000) (hBw : B ≤ w.heap.size) :
    Calls Tryd.prog 26 #[.pointer (some ⟨b, 0, none⟩), .string t] w fun e w' => e = .returned (.tuple #[.int .i64 t.size, .nilIface]) ∧ Bld w' B b (s ++ t) ∧ Keeps B [5, 59] w w' := by
  obtain ⟨i0, hi, hz0, hz1, hz2⟩ := info_parts info5
  have hB := h.1
  go_enter Tryd.func26, Tryd.ntmps26
  go_wp2_with fail
  refine (copyCheck_is B b s _ h).mono ?_
  rintro e w1 ⟨rfl, ⟨v, hbk, hown⟩, hk1⟩
  have c0 := block_cell hbk
  have hB1 : B ≤ w1.heap.size := Nat.le_trans hBw hk1.size
  go_wp2_with (first | (at_builtin; refine Lib.wpList_append_own_string _ rfl _ _ 33 9 rfl B 5 i0 Tryd.underlying33 Tryd.underlying9 hi hz0 hz1 hz2 _ _ _ rfl hown t rfl (by unfold maxLen; omega) (by omega) hB1 ?_; intro v4 w4 hown4 hgrow4 hnil4; obtain ⟨ao, n4, cp4, rfl⟩ := own_slice hown4; have hk4 : Keeps B [5] w1 w4 := Keeps.grown hown hgrow4 (by simp); have hb4 := hk4.cell hbk (by simp); have d0 := block_cell hb4; have f0 := block_free hb4))
  have hblk := block_set (i := 1) hb4 (.slice ao n4 cp4)
  have hkk : Keeps B [59] w4 (w4.setCell ⟨b, 1, none⟩ (.slice ao n4 cp4)) := (Keeps.refl B [59] w4).set hb4 (by simp) hB 1 _
  have ht := (TBuf.add hown4).keeps hkk (by simp)
  have hkz : Keeps B [5, 59] w (w4.setCell ⟨b, 1, none⟩ (.slice ao n4 cp4)) := (hk1.trans (hk4.mono (Nat.le_refl _) (by simp))).trans (hkk.mono (Nat.le_refl _) (by simp))
  clear hown4 hgrow4 hnil4
  go_wp2
  go_ret2
  exact ⟨rfl, ⟨hB, _, _, by simpa using hblk, Or.inr rfl, ht⟩, hkz⟩
end Go.Proofs.YtedjabgkdogkfaaDoor
