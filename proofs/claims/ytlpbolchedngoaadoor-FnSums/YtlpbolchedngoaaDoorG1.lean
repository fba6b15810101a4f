/-
  What the program's three errors hold when a law begins, and a value that came in, opened.
-/
import Derived.Test.YtlpbolchedngoaaDoorRows
import Derived.Test.YtlpbolchedngoaaDoorE4
import Derived.ProofKit
import Derived.OpenShut
import Derived.MakeChecks
import Derived.Stop.LaidTwo
import Derived.Lib.SmallJoins
namespace Go.Proofs.YtlpbolchedngoaaDoor
open Go.ChangeShapes Go.WideShapes Go.ChangeAt Go.RowKit Go.Joins

theorem gType : Tryd.prog.globalNamed "loop.example/g00094/impl.errType" = some 0 := by kernel_rfl
theorem gOver : Tryd.prog.globalNamed "loop.example/g00094/impl.errOver" = some 1 := by kernel_rfl
theorem gText : Tryd.prog.globalNamed "loop.example/g00094/impl.errText" = some 2 := by kernel_rfl
theorem gTypeT : (Tryd.prog.globals[0]?).map (·.type) = some 43 := by kernel_rfl
theorem gOverT : (Tryd.prog.globals[1]?).map (·.type) = some 43 := by kernel_rfl
theorem gTextT : (Tryd.prog.globals[2]?).map (·.type) = some 43 := by kernel_rfl
theorem cells129 : Tryd.prog.cellsOf 129 = 1 := by kernel_rfl
theorem cells9 : Tryd.prog.cellsOf 9 = 1 := by kernel_rfl
theorem star : "*" ++ "errors.errorString" = "*errors.errorString" := by decide
theorem row104 (u : TypeId) (h : Tryd.prog.typeName? 3 u = some "*errors.errorString") : u = 104 :=
  typeName_ptr_named (nm := "errors.errorString") (by rw [star]; kernel_rfl) (by kernel_rfl) (by decide) u (by rw [star]; exact h)

/-- Two cells that hold other texts are other cells. -/
theorem ne_of_texts {w : World} {a b : Addr} {s t : ByteArray} (ha : w.cell? a = some (.string s)) (hb : w.cell? b = some (.string t)) (h : s.data.toList ≠ t.data.toList) : a ≠ b := by
  rintro rfl
  rw [ha] at hb
  injection hb with hb
  injection hb with hb
  exact h (by rw [hb])

theorem errs_of_laid {W : World} (h : laidMetH Tryd.prog [("loop.example/g00094/impl.errType", Rows.laid_loop_example_g00094_impl_errType), ("loop.example/g00094/impl.errOver", Rows.laid_loop_example_g00094_impl_errOver), ("loop.example/g00094/impl.errText", Rows.laid_loop_example_g00094_impl_errText)] W) : ∃ a0 a1 a2, Errs W a0 a1 a2 := by
  rw [MakeChecks.laidMetH_plain _ _ _ (by kernel_rfl)] at h
  obtain ⟨a0, a1, s0, s1, c0, c1, t0, t1, hv0, hv1, hc0, hs0, hz0, hc1, hs1, hz1, hne, hb0, hb1⟩ := laid_sentinels2 h gType gTypeT gOver gOverT Tryd.underlying43 row104 Tryd.underlying104 Tryd.underlying129 rfl rfl Tryd.underlying9 cells129 cells9
  obtain ⟨a1', a2, s1', s2, c1', c2, t1', t2, hv1', hv2, hc1', hs1', hz1', hc2, hs2, hz2, hne', hb1', hb2⟩ := laid_sentinels2 h.tail gOver gOverT gText gTextT Tryd.underlying43 row104 Tryd.underlying104 Tryd.underlying129 rfl rfl Tryd.underlying9 cells129 cells9
  obtain rfl : a1' = a1 := by
    rw [hv1] at hv1'
    simpa using hv1'.symm
  refine ⟨a0, a1', a2, ?_, ?_, ?_, ⟨_, _, hb0⟩, ⟨_, _, hb1⟩, ⟨_, _, hb2⟩, hne, ne_of_texts hc0 hc2 (by rw [hs0, hs2]; decide), hne'⟩
  · simpa using World.var?_cell gType hv0 0
  · simpa using World.var?_cell gOver hv1 0
  · simpa using World.var?_cell gText hv2 0

set_option maxRecDepth 100000 in
theorem open_value {H : Type} {enc : TypeId × Value → H} {w : World} {base : Nat} {sp : Nat → Bool} {held : Bool} {r : Reach} {b0 : Nat} {v : Value} {d : DataW H} {p : List MemPlace}
    (hv : Value.okWide Tryd.prog w r b0 31 v) (h : DataW.Trod enc Tryd.prog w base sp held 31 v d p) :
    ∃ (k n : Int) (s : ByteArray), v = .agg #[.int .i64 k, .int .i64 n, .string s] ∧ s.size ≤ maxLen := by
  obtain ⟨v0, v1, v2, y0, y1, y2, m, rfl, -, -, h0, h1, h2⟩ := open_agg3 Tryd.underlying31 (by kernel_rfl) (by kernel_rfl) hv h
  obtain ⟨k, e0, -⟩ := DataW.trod_int Tryd.underlying3 h0
  obtain ⟨n, e1, -⟩ := DataW.trod_int Tryd.underlying3 h1
  obtain ⟨s, e2, -, hs⟩ := DataW.trod_string Tryd.underlying9 h2
  simp only [List.cons.injEq, and_true] at e0 e1 e2
  subst e0 e1 e2
  exact ⟨k, n, s, rfl, hs⟩
theorem laidOut : laidOutB Tryd.prog = true := by kernel_rfl
theorem own : ownKnob Tryd.prog.godebug = none := by kernel_rfl
end Go.Proofs.YtlpbolchedngoaaDoor
