/-
  A tier that came in.
-/
import Derived.Test.YtopbdjplpnojmaaT1
import Derived.Test.YtopbdjplpnojmaaK6
import Derived.Test.YtopbdjplpnojmaaMV6
namespace Go.Proofs.Ytopbdjplpnojmaa
open Go.RowKit Go.Deep Go.ChangeShapes Go.WideShapes Go.Joins

set_option maxRecDepth 100000 in
set_option maxHeartbeats 1000000 in
/-- A state that came in as a part. -/
theorem read_vm {H : Type} {enc : TypeId × Value → H} {w : World} {base : Nat} {sp : Nat → Bool} {held : Bool} {fuel : Nat} {c0 c1 c2 c3 c4 c5 c6 c7 c8 c9 : Value} {y : DataW H × List MemPlace}
    (hf : DataW.trod enc Try.prog w base sp held fuel 28 [c0, c1, c2, c3, c4, c5, c6, c7, c8, c9] = some y) :
    ∃ fa ha oa fc hcp oc, ∃ D : VmD, Value.agg #[c0, c1, c2, c3, c4, c5, c6, c7, c8, c9] = .agg (vmCells fa ha oa fc hcp oc D) ∧ VmMax D ∧ VmAt w 0 fa ha oa D := by
  obtain ⟨xs, n, -, -, -, hlen, hf⟩ := DataW.trod_struct Try.underlying28 hf
  have hlen8 : xs.length = 8 := hlen
  have get : ∀ i (hi : i < 8), xs[i]? = some (xs[i]'(by omega)) := fun i hi => List.getElem?_eq_getElem (by omega)
  have t0 : DataW.trod enc Try.prog w base sp held n 22 [c0] = some (xs[0]'(by omega)) := by rw [← get 0 (by omega)]; simpa [Value.cells, cells22] using hf 0 _ rfl
  have t1 : DataW.trod enc Try.prog w base sp held n 23 [c1] = some (xs[1]'(by omega)) := by rw [← get 1 (by omega)]; simpa [Value.cells, cells23] using hf 1 _ rfl
  have t2 : DataW.trod enc Try.prog w base sp held n 3 [c2] = some (xs[2]'(by omega)) := by rw [← get 2 (by omega)]; simpa [Value.cells, cells3] using hf 2 _ rfl
  have t3 : DataW.trod enc Try.prog w base sp held n 24 [c3] = some (xs[3]'(by omega)) := by rw [← get 3 (by omega)]; simpa [Value.cells, cells24] using hf 3 _ rfl
  have t4 : DataW.trod enc Try.prog w base sp held n 3 [c4] = some (xs[4]'(by omega)) := by rw [← get 4 (by omega)]; simpa [Value.cells, cells3] using hf 4 _ rfl
  have t5 : DataW.trod enc Try.prog w base sp held n 3 [c5] = some (xs[5]'(by omega)) := by rw [← get 5 (by omega)]; simpa [Value.cells, cells3] using hf 5 _ rfl
  have t6 : DataW.trod enc Try.prog w base sp held n 26 [c6, c7, c8] = some (xs[6]'(by omega)) := by rw [← get 6 (by omega)]; simpa [Value.cells, cells26] using hf 6 _ rfl
  have t7 : DataW.trod enc Try.prog w base sp held n 3 [c9] = some (xs[7]'(by omega)) := by rw [← get 7 (by omega)]; simpa [Value.cells, cells3] using hf 7 _ rfl
  obtain ⟨fa, fc, fr, rfl, f1, f2, f3, f4⟩ := read_frs (tv := 112) Try.underlying22 Try.underlying114 (by kernel_rfl) rfl rfl rfl rfl cells3 cells3 cells112 cells112 Try.underlying3 Try.underlying3 rfl rfl read_values t0
  obtain ⟨ha, hcp, rs, rfl, r1, r2, r3⟩ := read_recs (tv := 112) Try.underlying23 Try.underlying117 (by kernel_rfl) rfl cells112 rfl read_values t1
  obtain ⟨oa, oc, ss, rfl, s1, s2, s3⟩ := read_strs Try.underlying24 Try.underlying9 cells9 t3
  obtain ⟨z2, x2, -⟩ := DataW.trod_int Try.underlying3 t2
  obtain ⟨z4, x4, -⟩ := DataW.trod_int Try.underlying3 t4
  obtain ⟨z5, x5, -⟩ := DataW.trod_int Try.underlying3 t5
  obtain ⟨z9, x9, -⟩ := DataW.trod_int Try.underlying3 t7
  obtain ⟨y0, y1, y2, n', -, -, u0, u1, u2⟩ := trod_struct3 Try.underlying26 t6
  simp [cells3, cells9] at u0 u1 u2
  obtain ⟨z6, x6, -⟩ := DataW.trod_int Try.underlying3 u0
  obtain ⟨z7, x7, -⟩ := DataW.trod_int Try.underlying3 u1
  obtain ⟨z8, x8, -, hz8⟩ := DataW.trod_string Try.underlying9 u2
  simp only [List.cons.injEq, and_true] at x2 x4 x5 x9 x6 x7 x8
  subst x2 x4 x5 x9 x6 x7 x8
  exact ⟨fa, ha, oa, fc, hcp, oc, ⟨fr, rs, z2, ss, z4, z5, ⟨z6, z7, z8⟩, z9⟩, rfl, ⟨f1, f2, f3, r1, r2, s1, s2, hz8⟩, ⟨f4, r3, s3⟩⟩

theorem array15 {α : Type} {cs : Array α} (h : cs.size = 15) : ∃ c0 c1 c2 c3 c4 c5 c6 c7 c8 c9 c10 c11 c12 c13 c14, cs = #[c0, c1, c2, c3, c4, c5, c6, c7, c8, c9, c10, c11, c12, c13, c14] := by
  obtain ⟨l⟩ := cs
  match l, h with
  | [c0, c1, c2, c3, c4, c5, c6, c7, c8, c9, c10, c11, c12, c13, c14], _ => exact ⟨c0, c1, c2, c3, c4, c5, c6, c7, c8, c9, c10, c11, c12, c13, c14, rfl⟩
theorem kt33 : Try.prog.cellsOf 33 = 15 := by kernel_rfl
theorem kt29 : Try.prog.cellsOf 29 = 1 := by kernel_rfl
theorem kt30 : Try.prog.cellsOf 30 = 1 := by kernel_rfl
theorem kt31 : Try.prog.cellsOf 31 = 1 := by kernel_rfl
set_option maxRecDepth 100000 in
set_option maxHeartbeats 2000000 in
theorem open_tier {H : Type} {enc : TypeId × Value → H} {w : World} {base : Nat} {sp : Nat → Bool} {held : Bool} {r : Reach} {b0 : Nat} {v : Value} {d : DataW H} {p : List MemPlace}
    (hv : Value.okWide Try.prog w r b0 33 v) (h : DataW.Trod enc Try.prog w base sp held 33 v d p) :
    ∃ fa ha oa fc hc oc sa sc ca cc la lc, ∃ D : TrD, v = .agg (trCells fa ha oa fc hc oc sa sc ca cc la lc D) ∧ TrMax D ∧ TrAt w 0 fa ha oa sa ca la D := by
  obtain ⟨cs, rfl, hsz⟩ := okWide_struct Try.underlying33 hv
  obtain ⟨c0, c1, c2, c3, c4, c5, c6, c7, c8, c9, c10, c11, c12, c13, c14, rfl⟩ := array15 (hsz.trans kt33)
  obtain ⟨fuel, hf⟩ := h
  obtain ⟨xs, n, -, -, -, hlen, hf⟩ := DataW.trod_struct Try.underlying33 hf
  have hlen6 : xs.length = 6 := hlen
  have get : ∀ i (hi : i < 6), xs[i]? = some (xs[i]'(by omega)) := fun i hi => List.getElem?_eq_getElem (by omega)
  have t0 : DataW.trod enc Try.prog w base sp held n 28 [c0, c1, c2, c3, c4, c5, c6, c7, c8, c9] = some (xs[0]'(by omega)) := by rw [← get 0 (by omega)]; simpa [Value.cells, cells28] using hf 0 _ rfl
  have t1 : DataW.trod enc Try.prog w base sp held n 29 [c10] = some (xs[1]'(by omega)) := by rw [← get 1 (by omega)]; simpa [Value.cells, kt29] using hf 1 _ rfl
  have t2 : DataW.trod enc Try.prog w base sp held n 30 [c11] = some (xs[2]'(by omega)) := by rw [← get 2 (by omega)]; simpa [Value.cells, kt30] using hf 2 _ rfl
  have t3 : DataW.trod enc Try.prog w base sp held n 31 [c12] = some (xs[3]'(by omega)) := by rw [← get 3 (by omega)]; simpa [Value.cells, kt31] using hf 3 _ rfl
  have t4 : DataW.trod enc Try.prog w base sp held n 3 [c13] = some (xs[4]'(by omega)) := by rw [← get 4 (by omega)]; simpa [Value.cells, cells3] using hf 4 _ rfl
  have t5 : DataW.trod enc Try.prog w base sp held n 3 [c14] = some (xs[5]'(by omega)) := by rw [← get 5 (by omega)]; simpa [Value.cells, cells3] using hf 5 _ rfl
  obtain ⟨fa, ha, oa, fc, hc, oc, V, hV, mV, aV⟩ := read_vm t0
  obtain ⟨sa, sc, ss, x1, m1, h1⟩ := read_sites Try.underlying29 Try.underlying91 (by kernel_rfl) rfl rfl rfl rfl (by kernel_rfl) (by kernel_rfl) (by kernel_rfl) (by kernel_rfl) Try.underlying3 Try.underlying3 Try.underlying3 Try.underlying3 t1
  obtain ⟨ca, cc, fs, x2, m2, h2⟩ := read_fas t2
  obtain ⟨la, lc, ls, x3, m3, h3⟩ := read_sites Try.underlying31 Try.underlying98 (by kernel_rfl) rfl rfl rfl rfl (by kernel_rfl) (by kernel_rfl) (by kernel_rfl) (by kernel_rfl) Try.underlying3 Try.underlying3 Try.underlying3 Try.underlying3 t3
  obtain ⟨z4, x4, -⟩ := DataW.trod_int Try.underlying3 t4
  obtain ⟨z5, x5, -⟩ := DataW.trod_int Try.underlying3 t5
  simp only [List.cons.injEq, and_true] at x4 x5
  subst x1 x2 x3 x4 x5
  unfold vmCells at hV
  simp only [Value.agg.injEq, Array.mk.injEq, List.cons.injEq, and_true] at hV
  obtain ⟨rfl, rfl, rfl, rfl, rfl, rfl, rfl, rfl, rfl, rfl⟩ := hV
  exact ⟨fa, ha, oa, fc, hc, oc, sa, sc, ca, cc, la, lc, ⟨V, ss, fs, ls, z4, z5⟩, rfl, ⟨mV, m1, m2, m3⟩, ⟨aV, h1, h2, h3⟩⟩
end Go.Proofs.Ytopbdjplpnojmaa
