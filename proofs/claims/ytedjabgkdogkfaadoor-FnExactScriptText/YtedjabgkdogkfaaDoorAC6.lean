/-
  An act that came in, opened.
-/
import Derived.Test.YtedjabgkdogkfaaDoorAC5
import Derived.ProofKit
import Derived.OpenShut
namespace Go.Proofs.YtedjabgkdogkfaaDoor
open Go.ChangeShapes Go.WideShapes Go.ChangeAt Go.WideMaps Go.WideElems Go.RowKit Go.Joins

theorem arr6 {xs : Array Value} (h : xs.size = 6) : ∃ a b c d e f, xs = #[a, b, c, d, e, f] := by
  rcases xs with ⟨l⟩
  match l, h with
  | [a, b, c, d, e, f], _ => exact ⟨a, b, c, d, e, f, rfl⟩
theorem kc24 : Tryd.prog.cellsOf 32 = 6 := by kernel_rfl
theorem kc22 : Tryd.prog.cellsOf 30 = 1 := by kernel_rfl
theorem open_act {H : Type} {enc : TypeId × Value → H} {w : World} {base : Nat} {sp : Nat → Bool} {held : Bool} {r : Reach} {b0 : Nat} {v : Value} {d : DataW H} {p : List MemPlace}
    (hv : Value.okWide Tryd.prog w r b0 32 v) (h : DataW.Trod enc Tryd.prog w base sp held 32 v d p) :
    ∃ (k a b l : Int) (s : Bool) (sa : Option Addr) (ss : List Si) (cap : Nat), v = .agg #[.int .i64 k, .int .i64 a, .int .i64 b, .int .i64 l, .bool s, .slice sa ss.length cap] ∧ ss.length ≤ maxLen ∧ SitesAt w 0 sa ss := by
  obtain ⟨cs, rfl, hsz⟩ := okWide_struct Tryd.underlying32 hv
  obtain ⟨c0, c1, c2, c3, c4, c5, rfl⟩ := arr6 (hsz.trans kc24)
  obtain ⟨fuel, hf⟩ := h
  obtain ⟨xs, n, -, -, -, hlen, hf⟩ := DataW.trod_struct Tryd.underlying32 hf
  have hlen6 : xs.length = 6 := hlen
  have get : ∀ i (hi : i < 6), xs[i]? = some (xs[i]'(by omega)) := fun i hi => List.getElem?_eq_getElem (by omega)
  have t0 : DataW.trod enc Tryd.prog w base sp held n 3 [c0] = some (xs[0]'(by omega)) := by rw [← get 0 (by omega)]; simpa [Value.cells, cs3] using hf 0 _ rfl
  have t1 : DataW.trod enc Tryd.prog w base sp held n 3 [c1] = some (xs[1]'(by omega)) := by rw [← get 1 (by omega)]; simpa [Value.cells, cs3] using hf 1 _ rfl
  have t2 : DataW.trod enc Tryd.prog w base sp held n 3 [c2] = some (xs[2]'(by omega)) := by rw [← get 2 (by omega)]; simpa [Value.cells, cs3] using hf 2 _ rfl
  have t3 : DataW.trod enc Tryd.prog w base sp held n 3 [c3] = some (xs[3]'(by omega)) := by rw [← get 3 (by omega)]; simpa [Value.cells, cs3] using hf 3 _ rfl
  have t4 : DataW.trod enc Tryd.prog w base sp held n 4 [c4] = some (xs[4]'(by omega)) := by rw [← get 4 (by omega)]; simpa [Value.cells, cs4] using hf 4 _ rfl
  have t5 : DataW.trod enc Tryd.prog w base sp held n 30 [c5] = some (xs[5]'(by omega)) := by rw [← get 5 (by omega)]; simpa [Value.cells, kc22] using hf 5 _ rfl
  obtain ⟨z0, x0, -⟩ := DataW.trod_int Tryd.underlying3 t0
  obtain ⟨z1, x1, -⟩ := DataW.trod_int Tryd.underlying3 t1
  obtain ⟨z2, x2, -⟩ := DataW.trod_int Tryd.underlying3 t2
  obtain ⟨z3, x3, -⟩ := DataW.trod_int Tryd.underlying3 t3
  obtain ⟨z4, x4, -⟩ := DataW.trod_bool Tryd.underlying4 t4
  obtain ⟨sa, cap, ss, x5, m5, h5⟩ := read_sites Tryd.underlying30 Tryd.underlying70 (by kernel_rfl) rfl rfl rfl rfl (by kernel_rfl) (by kernel_rfl) (by kernel_rfl) (by kernel_rfl) Tryd.underlying3 Tryd.underlying3 Tryd.underlying3 Tryd.underlying3 t5
  simp only [List.cons.injEq, and_true] at x0 x1 x2 x3 x4
  subst x0 x1 x2 x3 x4 x5
  exact ⟨z0, z1, z2, z3, z4, sa, ss, cap, rfl, m5, h5⟩
end Go.Proofs.YtedjabgkdogkfaaDoor
