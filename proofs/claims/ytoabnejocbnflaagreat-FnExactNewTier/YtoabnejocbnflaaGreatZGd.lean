/-
  Whether a module is good: how it is said, and what spec.l03Good returns.
-/
import Derived.Test.YtoabnejocbnflaaGreatZNQ8
import Derived.Test.YtoabnejocbnflaaGreatZV14
import Derived.Test.YtoabnejocbnflaaGreatZV15
namespace Go.Proofs.YtoabnejocbnflaaGreat
open Go.RowKit

/-- The module is good. -/
def Good (ts : List ByteArray) (fs : List Fn) : Prop := ∃ f a, VPost ts fs 0 f a
theorem VPost.good {ts : List ByteArray} {fs : List Fn} {c f a : Int} (h : VPost ts fs c f a) : c = 0 ↔ Good ts fs := by
  constructor
  · rintro rfl
    exact ⟨f, a, h⟩
  · rintro ⟨f', a', h'⟩
    exact (h.one h').1
theorem Good.ok {ts : List ByteArray} {fs : List Fn} (h : Good ts fs) : modB ts fs = true := by
  obtain ⟨f, a, ⟨-, h, -⟩ | ⟨h, -⟩⟩ := h
  · exact absurd h (by decide)
  · exact h

open Classical in
noncomputable def pB (P : Prop) : Bool := decide P
theorem Says.eq {P : Prop} {e : Ending} (h : Says P e) : e = .returned (.bool (pB P)) := by
  obtain ⟨b, rfl, hb⟩ := h
  rw [show b = pB P by rw [Bool.eq_iff_iff, hb]; simp [pB]]
theorem pB_yes {P : Prop} (h : P) : pB P = true := by simpa [pB] using h
theorem pB_no {P : Prop} (h : ¬ P) : pB P = false := by simpa [pB] using h


set_option maxRecDepth 100000 in
set_option maxHeartbeats 1000000 in
theorem sGood_any (a1 a2 : Option Addr) (c1 c2 : Nat) (ts : List ByteArray) (fs : List Fn) (w : World) (hs : Small ts fs) (hst : StrsAt w 0 a1 ts) (hfn : FnsAt w 0 a2 fs) :
    Calls Tryz.prog 44 #[.agg #[.slice a1 ts.length c1, .slice a2 fs.length c2]] w fun e w' => Says (Good ts fs) e ∧ Below w.heap.size w w' := by
  have hbA : Below w.heap.size w (w.alloc (.cells #[.slice a1 ts.length c1, .slice a2 fs.length c2] 44)) := (Below.refl _ _).alloc (Nat.le_refl _) _
  go_enter Tryz.func44, Tryz.ntmps44
  go_wp2_with fail
  refine (sVerify_any _ _ _ _ ts fs _ hs (hst.mono hbA) (hfn.mono hbA)).mono ?_
  rintro e w1 ⟨c, f, a, rfl, hV, hb⟩
  have HG : Hid (c = 0 ↔ Good ts fs) := hV.good
  clear hV
  have hfld : (Instr.field 90 (.agg #[.int .i64 c, .int .i64 f, .int .i64 a]) 0).run Tryz.prog w1 = .ok (.int .i64 c) w1 := by kernel_rfl
  go_wp2
  go_ret
  refine ⟨⟨_, rfl, ?_⟩, hbA.trans (hb.mono hbA.size)⟩
  rw [← HG.out]
  simp

end Go.Proofs.YtoabnejocbnflaaGreat
