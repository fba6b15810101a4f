/-
  The module is good: the document's word.
-/
import Derived.Test.YtffeejkghmpkkaaRV14
import Derived.Test.YtffeejkghmpkkaaRV15
import Derived.Test.YtffeejkghmpkkaaRW2
namespace Go.Proofs.Ytffeejkghmpkkaa
open Go.RowKit

open Classical in
noncomputable def pB (P : Prop) : Bool := decide P
theorem pB_yes {P : Prop} (h : P) : pB P = true := by simpa [pB] using h
theorem pB_no {P : Prop} (h : ¬ P) : pB P = false := by simpa [pB] using h

/-- The module is good. -/
def Good (ts : List ByteArray) (fs : List Fn) : Prop := ∃ f a, VPost ts fs 0 f a
theorem VPost.good {ts : List ByteArray} {fs : List Fn} {c f a : Int} (h : VPost ts fs c f a) : c = 0 ↔ Good ts fs :=
  ⟨fun e => by subst e; exact ⟨f, a, h⟩, fun ⟨f', a', h'⟩ => (h.one h').1⟩

set_option maxRecDepth 100000 in
set_option maxHeartbeats 1000000 in
theorem sGood_any (a1 a2 : Option Addr) (c1 c2 : Nat) (ts : List ByteArray) (fs : List Fn) (w : World) (hs : Small ts fs) (hst : StrsAt w 0 a1 ts) (hfn : FnsAt w 0 a2 fs) :
    Calls Try.prog 16 #[.agg #[.slice a1 ts.length c1, .slice a2 fs.length c2]] w fun e w' => e = .returned (.bool (pB (Good ts fs))) ∧ Below w.heap.size w w' := by
  have hbA : Below w.heap.size w (w.alloc (.cells #[.slice a1 ts.length c1, .slice a2 fs.length c2] 29)) := (Below.refl _ _).alloc (Nat.le_refl _) _
  go_enter Try.func16, Try.ntmps16
  go_wp2_with fail
  refine (sVerify_any _ _ _ _ ts fs _ hs (hst.mono hbA) (hfn.mono hbA)).mono ?_
  rintro e w1 ⟨c, f, a, rfl, hV, hb⟩
  have HG : Hid (c = 0 ↔ Good ts fs) := hV.good
  clear hV
  have hfld : (Instr.field 61 (.agg #[.int .i64 c, .int .i64 f, .int .i64 a]) 0).run Try.prog w1 = .ok (.int .i64 c) w1 := by kernel_rfl
  go_wp2
  go_ret
  refine ⟨ret_bool ?_, hbA.trans (hb.mono hbA.size)⟩
  by_cases h : Good ts fs
  · rw [pB_yes h, HG.out.2 h]; rfl
  · rw [pB_no h]; simpa using fun e => h (HG.out.1 e)

end Go.Proofs.Ytffeejkghmpkkaa
