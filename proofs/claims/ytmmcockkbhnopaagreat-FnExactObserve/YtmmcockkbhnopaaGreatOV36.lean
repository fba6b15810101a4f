/-
  ProfileOk of both sides, and the law.
-/
import Derived.Test.YtmmcockkbhnopaaGreatOV34
import Derived.Test.YtmmcockkbhnopaaGreatOV21
import Derived.Test.YtmmcockkbhnopaaGreatOV35
import Derived.Test.YtmmcockkbhnopaaGreatOV29
namespace Go.Proofs.YtmmcockkbhnopaaGreat
open Go.RowKit

/-- The module is good. -/
def Good (ts : List ByteArray) (fs : List Fn) : Prop := ∃ f a, VPost ts fs 0 f a
theorem VPost.good {ts : List ByteArray} {fs : List Fn} {c f a : Int} (h : VPost ts fs c f a) : c = 0 ↔ Good ts fs :=
  ⟨fun e => by subst e; exact ⟨f, a, h⟩, fun ⟨f', a', h'⟩ => (h.one h').1⟩

set_option maxHeartbeats 400000 in
theorem szModule_le (a a2 : Option Addr) (ts : List ByteArray) (fs : List Fn) (cap cap2 : Nat) (w : World) (hn : ts.length ≤ maxLen) (hc : ∀ s ∈ ts, s.size ≤ maxLen) (hm : StrsAt w 0 a ts)
    (hn2 : fs.length ≤ maxLen) (hc2 : ∀ f ∈ fs, f.code.length ≤ maxLen) (hm2 : FnsAt w 0 a2 fs) :
    Calls Tryz.prog 5 #[.agg #[.slice a ts.length cap, .slice a2 fs.length cap2], .int .i64 1048576] w fun e w' => ∃ r : Int, e = .returned (.int .i64 r) ∧ r ≤ 1048576 ∧ (0 ≤ r → Small ts fs) ∧ Below w.heap.size w w' := by
  go_enter Tryz.func5, Tryz.ntmps5
  go_wp2_with fail
  refine (szStringS_any a ts cap 1048576 _ (by omega) (by omega) hn hc (hm.mono ((Below.refl _ _).alloc (Nat.le_refl _) _))).mono ?_
  rintro e w1 ⟨r, rfl, hr, hs, hb⟩
  have hb1 : Below w.heap.size w w1 := ((Below.refl _ _).alloc (Nat.le_refl _) _).trans (hb.mono (by simp))
  obtain ⟨hx, hf⟩ : w1.cell? ⟨w.heap.size, 0, none⟩ = some (.slice a ts.length cap) ∧ w1.cell? ⟨w.heap.size, 1, none⟩ = some (.slice a2 fs.length cap2) := by
    constructor
    · exact cell_later hb (cell_new _ _ _ 0)
    · exact cell_later hb (cell_new _ _ _ 1)
  by_cases h0 : r < 0
  · go_wp2_with fail
    go_ret
    exact ⟨_, rfl, by omega, by omega, hb1⟩
  · go_wp2_with fail
    refine (szFuncS_any a2 fs cap2 r _ (by omega) (by omega) hn2 hc2 (hm2.mono hb1)).mono ?_
    rintro e w2 ⟨r2, rfl, hr2, hs2, hb2⟩
    have hb3 : Below w.heap.size w w2 := hb1.trans (hb2.mono hb1.size)
    by_cases h2 : r2 < 0
    · go_wp2_with fail
      go_ret
      exact ⟨_, rfl, by omega, by omega, hb3⟩
    · go_wp2_with fail
      go_ret
      exact ⟨_, rfl, by omega, fun _ => ⟨(hs (by omega)).1, (hs (by omega)).2, (hs2 (by omega)).1, (hs2 (by omega)).2⟩, hb3⟩


set_option maxRecDepth 100000 in
set_option maxHeartbeats 1000000 in
theorem sGood_any (a1 a2 : Option Addr) (c1 c2 : Nat) (ts : List ByteArray) (fs : List Fn) (w : World) (hs : Small ts fs) (hst : StrsAt w 0 a1 ts) (hfn : FnsAt w 0 a2 fs) :
    Calls Tryz.prog 55 #[.agg #[.slice a1 ts.length c1, .slice a2 fs.length c2]] w fun e w' => e = .returned (.bool (pB (Good ts fs))) ∧ Below w.heap.size w w' := by
  have hbA : Below w.heap.size w (w.alloc (.cells #[.slice a1 ts.length c1, .slice a2 fs.length c2] 40)) := (Below.refl _ _).alloc (Nat.le_refl _) _
  go_enter Tryz.func55, Tryz.ntmps55
  go_wp2_with fail
  refine (sVerify_any _ _ _ _ ts fs _ hs (hst.mono hbA) (hfn.mono hbA)).mono ?_
  rintro e w1 ⟨c, f, a, rfl, hV, hb⟩
  have HG : Hid (c = 0 ↔ Good ts fs) := hV.good
  clear hV
  have hfld : (Instr.field 121 (.agg #[.int .i64 c, .int .i64 f, .int .i64 a]) 0).run Tryz.prog w1 = .ok (.int .i64 c) w1 := by kernel_rfl
  go_wp2
  go_ret
  refine ⟨ret_bool ?_, hbA.trans (hb.mono hbA.size)⟩
  by_cases h : Good ts fs
  · rw [pB_yes h, HG.out.2 h]; rfl
  · rw [pB_no h]; simpa using fun e => h (HG.out.1 e)

set_option maxRecDepth 100000 in
set_option maxHeartbeats 1000000 in
theorem sProfileOk_any (a1 a2 : Option Addr) (c1 c2 : Nat) (ts : List ByteArray) (fs : List Fn) (a : Option Addr) (cap : Nat) (ss : List Si) (w : World) (hs : Small ts fs) (hn : ss.length ≤ 1048576) (hst : StrsAt w 0 a1 ts) (hfn : FnsAt w 0 a2 fs) (hss : SitesAt w 0 a ss) :
    Calls Tryz.prog 27 #[.agg #[.slice a1 ts.length c1, .slice a2 fs.length c2], .slice a ss.length cap] w fun e w' => e = .returned (.bool (pB (Good ts fs ∧ ProfP fs ss))) ∧ Below w.heap.size w w' := by
  have hbA : Below w.heap.size w (w.alloc (.cells #[.slice a1 ts.length c1, .slice a2 fs.length c2] 40)) := (Below.refl _ _).alloc (Nat.le_refl _) _
  have hM0 := block_new w #[.slice a1 ts.length c1, .slice a2 fs.length c2] 40
  go_enter Tryz.func27, Tryz.ntmps27
  go_wp2_with fail
  refine (sGood_any _ _ _ _ ts fs _ hs (hst.mono hbA) (hfn.mono hbA)).mono ?_
  rintro e w1 ⟨he, hb1⟩
  have hM1 := block_kept hM0 hb1
  have hB1 := hbA.trans (hb1.mono hbA.size)
  clear hM0 hbA hb1
  by_cases hG : Good ts fs
  case neg =>
    rw [pB_no hG] at he
    subst he
    go_wp2
    go_ret
    exact ⟨ret_bool (pB_no (fun h => hG h.1)).symm, hB1⟩
  rw [pB_yes hG] at he
  subst he
  have m1 := block_cell hM1
  go_wp2_with fail
  refine (l07Ok_any a1 a2 _ _ _ fs a cap ss w1 hn hs.funcs hs.code (hfn.mono hB1) (hss.mono hB1)).mono ?_
  rintro e w2 ⟨he, hb2⟩
  have HB2 : Hid (Below w.heap.size w w2) := hB1.trans (hb2.mono hB1.size)
  clear hM1 m1 hb2 hB1
  by_cases hP : ProfP fs ss
  · rw [pB_yes hP] at he
    subst he
    go_wp2
    go_ret
    exact ⟨ret_bool (pB_yes ⟨hG, hP⟩).symm, HB2.out⟩
  · rw [pB_no hP] at he
    subst he
    go_wp2
    go_ret
    exact ⟨ret_bool (pB_no (fun h => hP h.2)).symm, HB2.out⟩

set_option maxRecDepth 100000 in
set_option maxHeartbeats 1000000 in
theorem iProfileOk_any (a1 a2 : Option Addr) (c1 c2 : Nat) (ts : List ByteArray) (fs : List Fn) (a : Option Addr) (cap : Nat) (ss : List Si) (w : World) (hs : Small ts fs) (hst : StrsAt w 0 a1 ts) (hfn : FnsAt w 0 a2 fs) (hss : SitesAt w 0 a ss) :
    Calls Tryz.prog 36 #[.agg #[.slice a1 ts.length c1, .slice a2 fs.length c2], .slice a ss.length cap] w fun e w' => e = .returned (.bool (pB (Good ts fs ∧ ProfP fs ss))) ∧ Below w.heap.size w w' := by
  have hbA : Below w.heap.size w (w.alloc (.cells #[.slice a1 ts.length c1, .slice a2 fs.length c2] 40)) := (Below.refl _ _).alloc (Nat.le_refl _) _
  have hM0 := block_new w #[.slice a1 ts.length c1, .slice a2 fs.length c2] 40
  by_cases h150 : ss.length ≤ 150
  case neg =>
    have h150' : ¬ (ss.length : Int) ≤ 150 := by omega
    rw [pB_no (fun h => h150 h.2.1)]
    go_enter Tryz.func36, Tryz.ntmps36
    go_wp2
    go_ret
    exact ⟨rfl, hbA⟩
  have h150' : (ss.length : Int) ≤ 150 := by omega
  go_enter Tryz.func36, Tryz.ntmps36
  go_wp2_with fail
  refine (iVerify_any _ _ _ _ ts fs _ hs (hst.mono hbA) (hfn.mono hbA)).mono ?_
  rintro e w1 ⟨c, f, g, rfl, hV, hb1⟩
  have hG := hV.good
  have hM1 := block_kept hM0 hb1
  have hB1 := hbA.trans (hb1.mono hbA.size)
  clear hV hM0 hbA hb1 h150'
  have hfld : (Instr.field 121 (.agg #[.int .i64 c, .int .i64 f, .int .i64 g]) 0).run Tryz.prog w1 = .ok (.int .i64 c) w1 := by kernel_rfl
  by_cases hc0 : c = 0
  case neg =>
    have HG : Hid (¬ Good ts fs) := fun h => hc0 (hG.2 h)
    clear hG
    go_wp2
    go_ret
    exact ⟨ret_bool (pB_no (fun h => HG.out h.1)).symm, hB1⟩
  subst hc0
  have HG : Hid (Good ts fs) := hG.1 rfl
  clear hG
  have m1 := block_cell hM1
  go_wp2_with fail
  refine (sitesOk_any a1 a2 _ _ _ fs a cap ss w1 h150 hs.code (hfn.mono hB1) (hss.mono hB1)).mono ?_
  rintro e w2 ⟨he, hb2⟩
  have HB2 : Hid (Below w.heap.size w w2) := hB1.trans (hb2.mono hB1.size)
  clear hM1 m1 hb2 hB1 hfld
  by_cases hP : Prof fs ss
  · rw [pB_yes hP] at he
    subst he
    go_wp2
    go_ret
    exact ⟨ret_bool (pB_yes ⟨HG.out, h150, hP⟩).symm, HB2.out⟩
  · rw [pB_no hP] at he
    subst he
    go_wp2
    go_ret
    exact ⟨ret_bool (pB_no (fun h => hP h.2.2)).symm, HB2.out⟩
end Go.Proofs.YtmmcockkbhnopaaGreat
