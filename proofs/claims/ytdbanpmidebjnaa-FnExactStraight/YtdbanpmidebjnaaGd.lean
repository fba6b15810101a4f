/-
  The module is good: the document's word.
-/
import Derived.Test.YtdbanpmidebjnaaV14
import Derived.Test.YtdbanpmidebjnaaV15
import Derived.Test.YtdbanpmidebjnaaW2
namespace Go.Proofs.Ytdbanpmidebjnaa
open Go.RowKit

open Classical in
noncomputable def pB (P : Prop) : Bool := decide P
theorem pB_yes {P : Prop} (h : P) : pB P = true := by simpa [pB] using h
theorem pB_no {P : Prop} (h : ¬ P) : pB P = false := by simpa [pB] using h

/-- The module is good. -/
def Good (ts : List ByteArray) (fs : List Fn) : Prop := ∃ f a, VPost ts fs 0 f a
theorem VPost.good {ts : List ByteArray} {fs : List Fn} {c f a : Int} (h : VPost ts fs c f a) : c = 0 ↔ Good ts fs :=
  ⟨fun e => by subst e; exact ⟨f, a, h⟩, fun ⟨f', a', h'⟩ => (h.one h').1⟩

set_option maxHeartbeats 400000 in
theorem szModule_le (a a2 : Option Addr) (ts : List ByteArray) (fs : List Fn) (cap cap2 : Nat) (w : World) (hn : ts.length ≤ maxLen) (hc : ∀ s ∈ ts, s.size ≤ maxLen) (hm : StrsAt w 0 a ts)
    (hn2 : fs.length ≤ maxLen) (hc2 : ∀ f ∈ fs, f.code.length ≤ maxLen) (hm2 : FnsAt w 0 a2 fs) :
    Calls Try.prog 4 #[.agg #[.slice a ts.length cap, .slice a2 fs.length cap2], .int .i64 1048576] w fun e w' => ∃ r : Int, e = .returned (.int .i64 r) ∧ r ≤ 1048576 ∧ (0 ≤ r → Small ts fs) ∧ Below w.heap.size w w' := by
  go_enter Try.func4, Try.ntmps4
  go_wp2_with fail
  refine (szStringS_any a ts cap 1048576 _ (by omega) (by omega) hn hc (hm.mono ((Below.refl _ _).alloc (Nat.le_refl _) _))).mono ?_
  rintro e w1 ⟨r, rfl, hr, hs, hb⟩
  have hb1 : Below w.heap.size w w1 := ((Below.refl _ _).alloc (Nat.le_refl _) _).trans (hb.mono (by simp))
  obtain ⟨hx, hf⟩ : w1.cell? ⟨w.heap.size, 0, none⟩ = some (.slice a ts.length cap) ∧ w1.cell? ⟨w.heap.size, 1, none⟩ = some (.slice a2 fs.length cap2) := by
    constructor
    · exact cell_later hb (cell_new _ _ _ 0)
    · exact cell_later hb (cell_new _ _ _ 1)
  by_cases h0 : r < 0
  · go_wp2_with fail
    go_ret
    exact ⟨_, rfl, by omega, by omega, hb1⟩
  · go_wp2_with fail
    refine (szFuncS_any a2 fs cap2 r _ (by omega) (by omega) hn2 hc2 (hm2.mono hb1)).mono ?_
    rintro e w2 ⟨r2, rfl, hr2, hs2, hb2⟩
    have hb3 : Below w.heap.size w w2 := hb1.trans (hb2.mono hb1.size)
    by_cases h2 : r2 < 0
    · go_wp2_with fail
      go_ret
      exact ⟨_, rfl, by omega, by omega, hb3⟩
    · go_wp2_with fail
      go_ret
      exact ⟨_, rfl, by omega, fun _ => ⟨(hs (by omega)).1, (hs (by omega)).2, (hs2 (by omega)).1, (hs2 (by omega)).2⟩, hb3⟩


set_option maxRecDepth 100000 in
set_option maxHeartbeats 1000000 in
theorem sGood_any (a1 a2 : Option Addr) (c1 c2 : Nat) (ts : List ByteArray) (fs : List Fn) (w : World) (hs : Small ts fs) (hst : StrsAt w 0 a1 ts) (hfn : FnsAt w 0 a2 fs) :
    Calls Try.prog 20 #[.agg #[.slice a1 ts.length c1, .slice a2 fs.length c2]] w fun e w' => e = .returned (.bool (pB (Good ts fs))) ∧ Below w.heap.size w w' := by
  have hbA : Below w.heap.size w (w.alloc (.cells #[.slice a1 ts.length c1, .slice a2 fs.length c2] 30)) := (Below.refl _ _).alloc (Nat.le_refl _) _
  go_enter Try.func20, Try.ntmps20
  go_wp2_with fail
  refine (sVerify_any _ _ _ _ ts fs _ hs (hst.mono hbA) (hfn.mono hbA)).mono ?_
  rintro e w1 ⟨c, f, a, rfl, hV, hb⟩
  have HG : Hid (c = 0 ↔ Good ts fs) := hV.good
  clear hV
  have hfld : (Instr.field 62 (.agg #[.int .i64 c, .int .i64 f, .int .i64 a]) 0).run Try.prog w1 = .ok (.int .i64 c) w1 := by kernel_rfl
  go_wp2
  go_ret
  refine ⟨ret_bool ?_, hbA.trans (hb.mono hbA.size)⟩
  by_cases h : Good ts fs
  · rw [pB_yes h, HG.out.2 h]; rfl
  · rw [pB_no h]; simpa using fun e => h (HG.out.1 e)

end Go.Proofs.Ytdbanpmidebjnaa
