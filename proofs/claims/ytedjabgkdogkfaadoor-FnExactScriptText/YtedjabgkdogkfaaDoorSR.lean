/-
  A row of acts that came in, opened.
-/
import Derived.Test.YtedjabgkdogkfaaDoorAC6
import Derived.Test.YtedjabgkdogkfaaDoorST0
import Derived.Test.YtedjabgkdogkfaaDoorOpen
import Derived.ProofKit
import Derived.OpenShut
import Derived.Lib.SmallJoins
namespace Go.Proofs.YtedjabgkdogkfaaDoor
open Go.RowKit Go.Deep Go.ChangeShapes Go.WideShapes Go.Joins

theorem of_wf {a : Int} (h : (Lit.int .i64 a).wf = true) : inR a := by
  simp [Lit.wf, IntKind.min, IntKind.max, IntKind.signed, IntKind.bits] at h
  unfold inR
  omega
theorem list6 {α : Type} {l : List α} (h : l.length = 6) : ∃ v0 v1 v2 v3 v4 v5, l = [v0, v1, v2, v3, v4, v5] := by
  match l, h with
  | [v0, v1, v2, v3, v4, v5], _ => exact ⟨v0, v1, v2, v3, v4, v5, rfl⟩
section
variable {H : Type} {enc : TypeId × Value → H} {P : Program} {w : World} {base : Nat} {spare : Nat → Bool} {held : Bool}

/-- A list of sites that came in. -/
theorem read_sitesR {t e : TypeId} {f0 f1 f2 f3 : Field} (ht : P.underlying t = some (.slice e)) (he : P.underlying e = some (.struct #[f0, f1, f2, f3]))
    (ce : P.cellsOf e = 4) (o0 : f0.offset = 0) (o1 : f1.offset = 1) (o2 : f2.offset = 2) (o3 : f3.offset = 3) (c0 : P.cellsOf f0.type = 1) (c1 : P.cellsOf f1.type = 1) (c2 : P.cellsOf f2.type = 1) (c3 : P.cellsOf f3.type = 1)
    (k0 : P.underlying f0.type = some (.int .i64)) (k1 : P.underlying f1.type = some (.int .i64)) (k2 : P.underlying f2.type = some (.int .i64)) (k3 : P.underlying f3.type = some (.int .i64))
    {fuel : Nat} {v : Value} {y : DataW H × List MemPlace} (h : DataW.trod enc P w base spare held fuel t [v] = some y) :
    ∃ a cap ss, v = .slice a ss.length cap ∧ ss.length ≤ maxLen ∧ SitesAt w 0 a ss ∧ ∀ s ∈ ss, siR s := by
  rcases open_slice ht h with ⟨hcs, -⟩ | ⟨a, len, cap, m, n, D, Pl, hcs, -, hl, hm, hmm, -, hx⟩
  · simp at hcs
    exact ⟨none, 0, [], by simpa using hcs, by simp, fun i hi => by simp at hi, by simp⟩
  · simp at hcs
    have hlm : len ≤ m := by rw [hmm]; split <;> omega
    have inh : Inhabited Si := ⟨⟨0, 0, 0, 0⟩⟩
    have hplain : ∀ i, i < m → ∃ b off, a = ⟨b, off, none⟩ := fun i hi => by
      obtain ⟨cs', h1, -⟩ := hx 0 (by omega)
      rw [ce] at h1
      obtain ⟨_, hlen, hcell⟩ := World.cells?_some h1
      have e0 := hcell 0 (by omega)
      rw [add_add] at e0
      match cs', hlen with
      | [v0, v1, v2, v3], _ => exact plain_of (by simpa using e0)
    obtain ⟨q, hq⟩ := choose_lt (α := Si) (n := m) (p := fun i z => siR z ∧ ∃ b off, a = ⟨b, off, none⟩ ∧ w.cell? ⟨b, off + i * 4, none⟩ = some (.int .i64 z.f) ∧
        w.cell? ⟨b, off + i * 4 + 1, none⟩ = some (.int .i64 z.pc) ∧ w.cell? ⟨b, off + i * 4 + 2, none⟩ = some (.int .i64 z.seen) ∧ w.cell? ⟨b, off + i * 4 + 3, none⟩ = some (.int .i64 z.target)) (fun i hi => by
      obtain ⟨cs', h1, h2⟩ := hx i hi
      rw [ce] at h1
      obtain ⟨_, hlen, hcell⟩ := World.cells?_some h1
      obtain ⟨y0, y1, y2, y3, n', -, -, t0, t1, t2, t3⟩ := trod_struct4 he h2
      match cs', hlen with
      | [v0, v1, v2, v3], _ =>
        simp [o0, o1, o2, o3, c0, c1, c2, c3] at t0 t1 t2 t3
        have e0 := hcell 0 (by omega)
        have e1 := hcell 1 (by omega)
        have e2 := hcell 2 (by omega)
        have e3 := hcell 3 (by omega)
        rw [add_add] at e0 e1 e2 e3
        simp at e0 e1 e2 e3
        obtain ⟨z0, x0, -, wf0⟩ := DataW.trod_int k0 t0
        obtain ⟨z1, x1, -, wf1⟩ := DataW.trod_int k1 t1
        obtain ⟨z2, x2, -, wf2⟩ := DataW.trod_int k2 t2
        obtain ⟨z3, x3, -, wf3⟩ := DataW.trod_int k3 t3
        simp at x0 x1 x2 x3
        rw [x0] at e0
        rw [x1] at e1
        rw [x2] at e2
        rw [x3] at e3
        obtain ⟨b, off, rfl⟩ := hplain i hi
        rw [Go.WideShapes.add_plain] at e0
        rw [Go.WideShapes.add_plain, ← Nat.add_assoc] at e1 e2 e3
        exact ⟨⟨z0, z1, z2, z3⟩, ⟨of_wf wf0, of_wf wf1, of_wf wf2, of_wf wf3⟩, b, off, rfl, e0, e1, e2, e3⟩)
    refine ⟨some a, cap, (List.range len).map q, by simpa using hcs, by simp; omega, ?_, fun s hs => ?_⟩
    rotate_left
    · obtain ⟨i, hi, rfl⟩ := List.mem_map.1 hs
      exact (hq i (by have := List.mem_range.1 hi; omega)).1
    intro i hi
    have hi' : i < len := by simpa using hi
    obtain ⟨-, b, off, rfl, r0, r1, r2, r3⟩ := hq i (by omega)
    exact ⟨b, off, rfl, Nat.zero_le _, by simpa using r0, by simpa using r1, by simpa using r2, by simpa using r3⟩
end
section
variable {H : Type} {enc : TypeId × Value → H} {w : World} {base : Nat} {spare : Nat → Bool} {held : Bool}
theorem kc4 : Tryd.prog.cellsOf 4 = 1 := by kernel_rfl
theorem kc3 : Tryd.prog.cellsOf 3 = 1 := by kernel_rfl
set_option maxRecDepth 100000 in
/-- A row of acts that came in. -/
theorem read_acts {fuel : Nat} {v : Value} {y : DataW H × List MemPlace} (h : DataW.trod enc Tryd.prog w base spare held fuel 22 [v] = some y) :
    ∃ a cap xs, v = .slice a xs.length cap ∧ xs.length ≤ maxLen ∧ ActsMax xs ∧ (∀ x ∈ xs, ∀ y ∈ x.ss, siR y) ∧ ActsAt w a xs := by
  rcases open_slice Tryd.underlying22 h with ⟨hcs, -⟩ | ⟨a, len, cap, m, n, D, Pl, hcs, -, hl, hm, hmm, -, hx⟩
  · simp at hcs
    exact ⟨none, 0, [], by simpa using hcs, by simp, (fun x hx => by simp at hx), by simp, fun i hi => by simp at hi⟩
  · simp at hcs
    have hlm : len ≤ m := by rw [hmm]; split <;> omega
    have inh : Inhabited Ac := ⟨⟨0, 0, 0, 0, false, []⟩⟩
    have hplain : ∀ i, i < m → ∃ b off, a = ⟨b, off, none⟩ := fun i hi => by
      obtain ⟨cs', h1, -⟩ := hx 0 (by omega)
      rw [kc24] at h1
      obtain ⟨_, hlen, hcell⟩ := World.cells?_some h1
      have e0 := hcell 0 (by omega)
      rw [add_add] at e0
      obtain ⟨v0, v1, v2, v3, v4, v5, rfl⟩ := list6 hlen
      exact plain_of (by simpa using e0)
    obtain ⟨q, hq⟩ := choose_lt (α := Ac) (n := m) (p := fun i z => (z.ss.length ≤ maxLen ∧ ∀ y ∈ z.ss, siR y) ∧ ∃ b off sa cp, a = ⟨b, off, none⟩ ∧ w.cell? ⟨b, off + i * 6, none⟩ = some (.int .i64 z.k) ∧ w.cell? ⟨b, off + i * 6 + 1, none⟩ = some (.int .i64 z.a) ∧ w.cell? ⟨b, off + i * 6 + 2, none⟩ = some (.int .i64 z.b) ∧ w.cell? ⟨b, off + i * 6 + 3, none⟩ = some (.int .i64 z.l) ∧ w.cell? ⟨b, off + i * 6 + 4, none⟩ = some (.bool z.s) ∧ w.cell? ⟨b, off + i * 6 + 5, none⟩ = some (.slice sa z.ss.length cp) ∧ SitesAt w 0 sa z.ss) (fun i hi => by
      obtain ⟨cs', h1, h2⟩ := hx i hi
      rw [kc24] at h1
      obtain ⟨_, hlen, hcell⟩ := World.cells?_some h1
      obtain ⟨v0, v1, v2, v3, v4, v5, rfl⟩ := list6 hlen
      obtain ⟨xs, n', -, -, -, hxl0, hf⟩ := DataW.trod_struct Tryd.underlying32 h2
      have hxl : xs.length = 6 := hxl0
      have get : ∀ i (hi : i < 6), xs[i]? = some (xs[i]'(by omega)) := fun i hi => List.getElem?_eq_getElem (by omega)
      have t0 : DataW.trod enc Tryd.prog w base spare held n' 3 [v0] = some (xs[0]'(by omega)) := by rw [← get 0 (by omega)]; simpa [kc3] using hf 0 _ rfl
      have t1 : DataW.trod enc Tryd.prog w base spare held n' 3 [v1] = some (xs[1]'(by omega)) := by rw [← get 1 (by omega)]; simpa [kc3] using hf 1 _ rfl
      have t2 : DataW.trod enc Tryd.prog w base spare held n' 3 [v2] = some (xs[2]'(by omega)) := by rw [← get 2 (by omega)]; simpa [kc3] using hf 2 _ rfl
      have t3 : DataW.trod enc Tryd.prog w base spare held n' 3 [v3] = some (xs[3]'(by omega)) := by rw [← get 3 (by omega)]; simpa [kc3] using hf 3 _ rfl
      have t4 : DataW.trod enc Tryd.prog w base spare held n' 4 [v4] = some (xs[4]'(by omega)) := by rw [← get 4 (by omega)]; simpa [kc4] using hf 4 _ rfl
      have t5 : DataW.trod enc Tryd.prog w base spare held n' 30 [v5] = some (xs[5]'(by omega)) := by rw [← get 5 (by omega)]; simpa [kc22] using hf 5 _ rfl
      obtain ⟨z0, x0, -⟩ := DataW.trod_int Tryd.underlying3 t0
      obtain ⟨z1, x1, -⟩ := DataW.trod_int Tryd.underlying3 t1
      obtain ⟨z2, x2, -⟩ := DataW.trod_int Tryd.underlying3 t2
      obtain ⟨z3, x3, -⟩ := DataW.trod_int Tryd.underlying3 t3
      obtain ⟨z4, x4, -⟩ := DataW.trod_bool Tryd.underlying4 t4
      obtain ⟨sa, cp, ss, x5, m5, h5, r5⟩ := read_sitesR Tryd.underlying30 Tryd.underlying70 (by kernel_rfl) rfl rfl rfl rfl (by kernel_rfl) (by kernel_rfl) (by kernel_rfl) (by kernel_rfl) Tryd.underlying3 Tryd.underlying3 Tryd.underlying3 Tryd.underlying3 t5
      simp only [List.cons.injEq, and_true] at x0 x1 x2 x3 x4
      subst x0 x1 x2 x3 x4 x5
      have e0 := hcell 0 (by omega)
      have e1 := hcell 1 (by omega)
      have e2 := hcell 2 (by omega)
      have e3 := hcell 3 (by omega)
      have e4 := hcell 4 (by omega)
      have e5 := hcell 5 (by omega)
      rw [add_add] at e0 e1 e2 e3 e4 e5
      simp at e0 e1 e2 e3 e4 e5
      obtain ⟨b, off, rfl⟩ := hplain i hi
      rw [Go.WideShapes.add_plain] at e0
      rw [Go.WideShapes.add_plain, ← Nat.add_assoc] at e1 e2 e3 e4 e5
      exact ⟨⟨z0, z1, z2, z3, z4, ss⟩, ⟨m5, r5⟩, b, off, sa, cp, rfl, e0, e1, e2, e3, e4, e5, h5⟩)
    refine ⟨some a, cap, (List.range len).map q, by simpa using hcs, by simp; omega, ?_, ?_, ?_⟩
    · intro f hf
      obtain ⟨i, hi, rfl⟩ := List.mem_map.1 hf
      exact (hq i (by have := List.mem_range.1 hi; omega)).1.1
    · intro f hf
      obtain ⟨i, hi, rfl⟩ := List.mem_map.1 hf
      exact (hq i (by have := List.mem_range.1 hi; omega)).1.2
    · intro i hi
      have hi' : i < len := by simpa using hi
      obtain ⟨-, b, off, sa, cp, rfl, r0, r1, r2, r3, r4, r5, r6⟩ := hq i (by omega)
      exact ⟨b, off, sa, cp, rfl, by simpa using r0, by simpa using r1, by simpa using r2, by simpa using r3, by simpa using r4, by simpa using r5, by simpa using r6⟩
end
end Go.Proofs.YtedjabgkdogkfaaDoor
