/-
  The drawing functions of the document's model: a copy that is being spoilt.
-/
import Derived.Test.YtfodkgjoilaajaaDoorD10
import Derived.Test.YtfodkgjoilaajaaDoorD12
namespace Go.Proofs.YtfodkgjoilaajaaDoor
open Go.RowKit

/-- A number written into a row of instructions: every row of instructions is one still. -/
theorem RowI.write {w : World} {B n g i : Nat} {v : Value} {cur : Array Value} (h : RowI w B v n) (hg : w.heap[g]? = some (.cells cur 39 (0, 0))) (z : Int) : RowI (w.setCell ⟨g, i, none⟩ (.int .i64 z)) B v n := by
  obtain ⟨vs, ho, hv⟩ := h
  rcases ho.2 with ⟨e, hz⟩ | ⟨b, cap, cu, e, hb, hh, h2, h3, h4, h5⟩
  · exact ⟨vs, ⟨ho.1, .inl ⟨e, hz⟩⟩, hv⟩
  · by_cases hbg : b = g
    · subst hbg
      rw [hg] at hh
      cases hh
      refine ⟨vs.set i (.int .i64 z), ⟨by rw [List.length_set]; exact ho.1, .inr ⟨b, cap, _, e, hb, block_set hg _, h2, h3, by simpa using h4, ?_⟩⟩, ?_⟩
      · rw [Array.toList_setIfInBounds, ← h5, List.take_set]
      · intro u hu
        rcases List.mem_or_eq_of_mem_set hu with hu | rfl
        · exact hv u hu
        · exact ⟨z, rfl⟩
    · exact ⟨vs, ⟨ho.1, .inr ⟨b, cap, cu, e, hb, by rw [Below.heap_setCell _ _ _ _ hbg]; exact hh, h2, h3, h4, h5⟩⟩, hv⟩

/-- A row of functions; one of them may have no instructions. -/
structure RowG (w : World) (B : Nat) (v : Value) (hs : List HF) : Prop where
  own : w.ownsRow B 36 3 v hs.length (flatF hs)
  code : ∀ h ∈ hs, RowI w B (.slice h.ca h.n h.cc) h.n ∧ h.n ≤ 60000
theorem RowF.g {w : World} {B : Nat} {v : Value} {hs : List HF} (h : RowF w B v hs) : RowG w B v hs := ⟨h.own, fun x hx => ⟨(h.code x hx).1, (h.code x hx).2.2⟩⟩
theorem RowG.same {w w' : World} {B : Nat} {v : Value} {hs : List HF} (h : RowG w B v hs) (hx : Same w w') : RowG w' B v hs :=
  ⟨own_same h.own fun k cs fr _ hb => hx k cs 36 fr (by omega) hb, fun y hy => ⟨(h.code y hy).1.same hx, (h.code y hy).2⟩⟩
theorem RowG.low {w : World} {B B' : Nat} {v : Value} {hs : List HF} (h : RowG w B v hs) (hB : B' ≤ B) : RowG w B' v hs :=
  ⟨own_low h.own hB, fun y hy => ⟨(h.code y hy).1.low hB, (h.code y hy).2⟩⟩
theorem RowG.write {w : World} {B g i : Nat} {v : Value} {hs : List HF} {cur : Array Value} (h : RowG w B v hs) (hg : w.heap[g]? = some (.cells cur 39 (0, 0))) (z : Int) : RowG (w.setCell ⟨g, i, none⟩ (.int .i64 z)) B v hs := by
  refine ⟨own_same h.own fun k cs fr _ hb => ?_, fun y hy => ⟨(h.code y hy).1.write hg z, (h.code y hy).2⟩⟩
  rw [Below.heap_setCell _ _ _ _ (fun e => by rw [e, hg] at hb; cases hb)]
  exact hb

theorem flatF_set (hs : List HF) (f : Nat) (h' : HF) (hf : f < hs.length) : flatF (hs.set f h') = (((flatF hs).set (f * 3) (.int .i64 h'.p)).set (f * 3 + 1) (.int .i64 h'.l)).set (f * 3 + 2) (.slice h'.ca h'.n h'.cc) := by
  induction hs generalizing f with
  | nil => simp at hf
  | cons x xs ih =>
    cases f with
    | zero => simp [flatF]
    | succ f =>
      have := ih f (by simpa using hf)
      have e : ∀ (h : HF) (l : List HF), flatF (h :: l) = .int .i64 h.p :: .int .i64 h.l :: .slice h.ca h.n h.cc :: flatF l := fun h l => by simp [flatF]
      rw [List.set_cons_succ, e, e, this, show (f + 1) * 3 = f * 3 + 1 + 1 + 1 by omega]
      simp only [List.set_cons_succ, show f * 3 + 1 + 1 + 1 + 1 = f * 3 + 1 + 1 + 1 + 1 from rfl, show f * 3 + 1 + 1 + 1 + 2 = f * 3 + 2 + 1 + 1 + 1 by omega]
end Go.Proofs.YtfodkgjoilaajaaDoor
