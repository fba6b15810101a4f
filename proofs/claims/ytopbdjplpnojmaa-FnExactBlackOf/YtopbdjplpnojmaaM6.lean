/-
  From the form in which an argument is read to the predicates on lists of values, of records, of frames, and on states.
-/
import Derived.Test.YtopbdjplpnojmaaOpen
import Derived.Test.YtopbdjplpnojmaaM3
import Derived.Lib.SmallJoins
namespace Go.Proofs.Ytopbdjplpnojmaa
open Go.RowKit Go.Deep Go.ChangeShapes Go.WideShapes Go.Joins

section
variable {H : Type} {enc : TypeId × Value → H} {P : Program} {w : World} {base : Nat} {spare : Nat → Bool} {held : Bool}

/-- A list of values that came in. -/
theorem read_vals {t e : TypeId} {f0 f1 f2 : Field} (ht : P.underlying t = some (.slice e)) (he : P.underlying e = some (.struct #[f0, f1, f2]))
    (ce : P.cellsOf e = 3) (o0 : f0.offset = 0) (o1 : f1.offset = 1) (o2 : f2.offset = 2) (c0 : P.cellsOf f0.type = 1) (c1 : P.cellsOf f1.type = 1) (c2 : P.cellsOf f2.type = 1)
    (k0 : P.underlying f0.type = some (.int .i64)) (k1 : P.underlying f1.type = some (.int .i64)) (k2 : P.underlying f2.type = some .string)
    {fuel : Nat} {v : Value} {y : DataW H × List MemPlace} (h : DataW.trod enc P w base spare held fuel t [v] = some y) :
    ∃ a cap vs, v = .slice a vs.length cap ∧ ValsMax vs ∧ ValsAt w 0 a vs := by
  rcases open_slice ht h with ⟨hcs, -⟩ | ⟨a, len, cap, m, n, D, Pl, hcs, -, hl, hm, hmm, -, hx⟩
  · simp at hcs
    exact ⟨none, 0, [], by simpa using hcs, ⟨by simp, by simp⟩, fun i hi => by simp at hi⟩
  · simp at hcs
    have hlm : len ≤ m := by rw [hmm]; split <;> omega
    have inh : Inhabited Vl := ⟨⟨0, 0, ⟨#[]⟩⟩⟩
    have hplain : ∀ i, i < m → ∃ b off, a = ⟨b, off, none⟩ := fun i hi => by
      obtain ⟨cs', h1, -⟩ := hx 0 (by omega)
      rw [ce] at h1
      obtain ⟨_, hlen, hcell⟩ := World.cells?_some h1
      have e0 := hcell 0 (by omega)
      rw [add_add] at e0
      match cs', hlen with
      | [v0, v1, v2], _ => exact plain_of (by simpa using e0)
    obtain ⟨q, hq⟩ := choose_lt (α := Vl) (n := m) (p := fun i z => z.s.size ≤ maxLen ∧ ∃ b off, a = ⟨b, off, none⟩ ∧ w.cell? ⟨b, off + i * 3, none⟩ = some (.int .i64 z.k) ∧
        w.cell? ⟨b, off + i * 3 + 1, none⟩ = some (.int .i64 z.n) ∧ w.cell? ⟨b, off + i * 3 + 2, none⟩ = some (.string z.s)) (fun i hi => by
      obtain ⟨cs', h1, h2⟩ := hx i hi
      rw [ce] at h1
      obtain ⟨_, hlen, hcell⟩ := World.cells?_some h1
      obtain ⟨y0, y1, y2, n', -, -, t0, t1, t2⟩ := trod_struct3 he h2
      match cs', hlen with
      | [v0, v1, v2], _ =>
        simp [o0, o1, o2, c0, c1, c2] at t0 t1 t2
        have e0 := hcell 0 (by omega)
        have e1 := hcell 1 (by omega)
        have e2 := hcell 2 (by omega)
        rw [add_add] at e0 e1 e2
        simp at e0 e1 e2
        obtain ⟨z0, x0, -, -⟩ := DataW.trod_int k0 t0
        obtain ⟨z1, x1, -, -⟩ := DataW.trod_int k1 t1
        obtain ⟨z2, x2, -, hz2⟩ := DataW.trod_string k2 t2
        simp at x0 x1 x2
        rw [x0] at e0
        rw [x1] at e1
        rw [x2] at e2
        obtain ⟨b, off, rfl⟩ := hplain i hi
        rw [Go.WideShapes.add_plain] at e0
        rw [Go.WideShapes.add_plain, ← Nat.add_assoc] at e1 e2
        exact ⟨⟨z0, z1, z2⟩, hz2, b, off, rfl, e0, e1, e2⟩)
    refine ⟨some a, cap, (List.range len).map q, by simpa using hcs, ⟨by simp; omega, ?_⟩, ?_⟩
    · intro f hf
      obtain ⟨i, hi, rfl⟩ := List.mem_map.1 hf
      exact (hq i (by have := List.mem_range.1 hi; omega)).1
    · intro i hi
      have hi' : i < len := by simpa using hi
      obtain ⟨-, b, off, rfl, r0, r1, r2⟩ := hq i (by omega)
      exact ⟨b, off, rfl, Nat.zero_le _, by simpa using r0, by simpa using r1, by simpa using r2⟩

/-- A list of records that came in. -/
theorem read_recs {t e tv : TypeId} {f0 : Field} (ht : P.underlying t = some (.slice e)) (he : P.underlying e = some (.struct #[f0])) (ce : P.cellsOf e = 1) (o0 : f0.offset = 0) (c0 : P.cellsOf f0.type = 1) (k0 : f0.type = tv)
    (HV : ∀ (fuel : Nat) (v : Value) (y : DataW H × List MemPlace), DataW.trod enc P w base spare held fuel tv [v] = some y → ∃ a cap vs, v = .slice a vs.length cap ∧ ValsMax vs ∧ ValsAt w 0 a vs)
    {fuel : Nat} {v : Value} {y : DataW H × List MemPlace} (h : DataW.trod enc P w base spare held fuel t [v] = some y) :
    ∃ a cap rs, v = .slice a rs.length cap ∧ rs.length ≤ maxLen ∧ (∀ r ∈ rs, ValsMax r) ∧ RecsAt w 0 a rs := by
  rcases open_slice ht h with ⟨hcs, -⟩ | ⟨a, len, cap, m, n, D, Pl, hcs, -, hl, hm, hmm, -, hx⟩
  · simp at hcs
    exact ⟨none, 0, [], by simpa using hcs, by simp, by simp, fun i hi => by simp at hi⟩
  · simp at hcs
    have hlm : len ≤ m := by rw [hmm]; split <;> omega
    have hplain : ∀ i, i < m → ∃ b off, a = ⟨b, off, none⟩ := fun i hi => by
      obtain ⟨cs', h1, -⟩ := hx 0 (by omega)
      rw [ce] at h1
      obtain ⟨_, hlen, hcell⟩ := World.cells?_some h1
      have e0 := hcell 0 (by omega)
      rw [add_add] at e0
      match cs', hlen with
      | [v0], _ => exact plain_of (by simpa using e0)
    obtain ⟨q, hq⟩ := choose_lt (α := List Vl) (n := m) (p := fun i z => ValsMax z ∧ ∃ b off ca cc, a = ⟨b, off, none⟩ ∧ w.cell? ⟨b, off + i, none⟩ = some (.slice ca z.length cc) ∧ ValsAt w 0 ca z) (fun i hi => by
      obtain ⟨cs', h1, h2⟩ := hx i hi
      rw [ce] at h1
      obtain ⟨_, hlen, hcell⟩ := World.cells?_some h1
      obtain ⟨y0, n', -, -, t0⟩ := trod_struct1 he h2
      match cs', hlen with
      | [v0], _ =>
        simp [o0, c0] at t0
        have e0 := hcell 0 (by omega)
        rw [add_add] at e0
        simp at e0
        rw [k0] at t0
        obtain ⟨ca, cc, xs, x0, hxs, hvs⟩ := HV _ _ _ t0
        rw [x0] at e0
        obtain ⟨b, off, rfl⟩ := hplain i hi
        rw [Go.WideShapes.add_plain] at e0
        exact ⟨xs, hxs, b, off, ca, cc, rfl, e0, hvs⟩)
    refine ⟨some a, cap, (List.range len).map q, by simpa using hcs, by simp; omega, ?_, ?_⟩
    · intro f hf
      obtain ⟨i, hi, rfl⟩ := List.mem_map.1 hf
      exact (hq i (by have := List.mem_range.1 hi; omega)).1
    · intro i hi
      have hi' : i < len := by simpa using hi
      obtain ⟨-, b, off, ca, cc, rfl, r0, r1⟩ := hq i (by omega)
      exact ⟨b, off, ca, cc, rfl, Nat.zero_le _, by simpa using r0, by simpa using r1⟩

/-- A list of frames that came in. -/
theorem read_frs {t e tv : TypeId} {f0 f1 f2 f3 : Field} (ht : P.underlying t = some (.slice e)) (he : P.underlying e = some (.struct #[f0, f1, f2, f3])) (ce : P.cellsOf e = 4) (o0 : f0.offset = 0) (o1 : f1.offset = 1) (o2 : f2.offset = 2) (o3 : f3.offset = 3)
    (c0 : P.cellsOf f0.type = 1) (c1 : P.cellsOf f1.type = 1) (c2 : P.cellsOf f2.type = 1) (c3 : P.cellsOf f3.type = 1) (k0 : P.underlying f0.type = some (.int .i64)) (k1 : P.underlying f1.type = some (.int .i64)) (k2 : f2.type = tv) (k3 : f3.type = tv)
    (HV : ∀ (fuel : Nat) (v : Value) (y : DataW H × List MemPlace), DataW.trod enc P w base spare held fuel tv [v] = some y → ∃ a cap vs, v = .slice a vs.length cap ∧ ValsMax vs ∧ ValsAt w 0 a vs)
    {fuel : Nat} {v : Value} {y : DataW H × List MemPlace} (h : DataW.trod enc P w base spare held fuel t [v] = some y) :
    ∃ a cap fr, v = .slice a fr.length cap ∧ fr.length ≤ maxLen ∧ (∀ f ∈ fr, ValsMax f.locals) ∧ (∀ f ∈ fr, ValsMax f.stack) ∧ FrsAt w 0 a fr := by
  rcases open_slice ht h with ⟨hcs, -⟩ | ⟨a, len, cap, m, n, D, Pl, hcs, -, hl, hm, hmm, -, hx⟩
  · simp at hcs
    exact ⟨none, 0, [], by simpa using hcs, by simp, by simp, by simp, fun i hi => by simp at hi⟩
  · simp at hcs
    have hlm : len ≤ m := by rw [hmm]; split <;> omega
    have inh : Inhabited Fr := ⟨⟨0, 0, [], []⟩⟩
    have hplain : ∀ i, i < m → ∃ b off, a = ⟨b, off, none⟩ := fun i hi => by
      obtain ⟨cs', h1, -⟩ := hx 0 (by omega)
      rw [ce] at h1
      obtain ⟨_, hlen, hcell⟩ := World.cells?_some h1
      have e0 := hcell 0 (by omega)
      rw [add_add] at e0
      match cs', hlen with
      | [v0, v1, v2, v3], _ => exact plain_of (by simpa using e0)
    obtain ⟨q, hq⟩ := choose_lt (α := Fr) (n := m) (p := fun i z => (ValsMax z.locals ∧ ValsMax z.stack) ∧ ∃ b off la lc sa sc, a = ⟨b, off, none⟩ ∧ w.cell? ⟨b, off + i * 4, none⟩ = some (.int .i64 z.fn) ∧
        w.cell? ⟨b, off + i * 4 + 1, none⟩ = some (.int .i64 z.pc) ∧ w.cell? ⟨b, off + i * 4 + 2, none⟩ = some (.slice la z.locals.length lc) ∧ w.cell? ⟨b, off + i * 4 + 3, none⟩ = some (.slice sa z.stack.length sc) ∧ ValsAt w 0 la z.locals ∧ ValsAt w 0 sa z.stack) (fun i hi => by
      obtain ⟨cs', h1, h2⟩ := hx i hi
      rw [ce] at h1
      obtain ⟨_, hlen, hcell⟩ := World.cells?_some h1
      obtain ⟨y0, y1, y2, y3, n', -, -, t0, t1, t2, t3⟩ := trod_struct4 he h2
      match cs', hlen with
      | [v0, v1, v2, v3], _ =>
        simp [o0, o1, o2, o3, c0, c1, c2, c3] at t0 t1 t2 t3
        have e0 := hcell 0 (by omega)
        have e1 := hcell 1 (by omega)
        have e2 := hcell 2 (by omega)
        have e3 := hcell 3 (by omega)
        rw [add_add] at e0 e1 e2 e3
        simp at e0 e1 e2 e3
        obtain ⟨z0, x0, -, -⟩ := DataW.trod_int k0 t0
        obtain ⟨z1, x1, -, -⟩ := DataW.trod_int k1 t1
        rw [k2] at t2
        rw [k3] at t3
        obtain ⟨la, lc, ls, x2, hls, hla⟩ := HV _ _ _ t2
        obtain ⟨sa, sc, ss, x3, hss, hsa⟩ := HV _ _ _ t3
        simp at x0 x1
        rw [x0] at e0
        rw [x1] at e1
        rw [x2] at e2
        rw [x3] at e3
        obtain ⟨b, off, rfl⟩ := hplain i hi
        rw [Go.WideShapes.add_plain] at e0
        rw [Go.WideShapes.add_plain, ← Nat.add_assoc] at e1 e2 e3
        exact ⟨⟨z0, z1, ls, ss⟩, ⟨hls, hss⟩, b, off, la, lc, sa, sc, rfl, e0, e1, e2, e3, hla, hsa⟩)
    refine ⟨some a, cap, (List.range len).map q, by simpa using hcs, by simp; omega, ?_, ?_, ?_⟩
    · intro f hf
      obtain ⟨i, hi, rfl⟩ := List.mem_map.1 hf
      exact (hq i (by have := List.mem_range.1 hi; omega)).1.1
    · intro f hf
      obtain ⟨i, hi, rfl⟩ := List.mem_map.1 hf
      exact (hq i (by have := List.mem_range.1 hi; omega)).1.2
    · intro i hi
      have hi' : i < len := by simpa using hi
      obtain ⟨-, b, off, la, lc, sa, sc, rfl, r0, r1, r2, r3, r4, r5⟩ := hq i (by omega)
      exact ⟨b, off, la, lc, sa, sc, rfl, Nat.zero_le _, by simpa using r0, by simpa using r1, by simpa using r2, by simpa using r3, by simpa using r4, by simpa using r5⟩
end

theorem array10 {α : Type} {cs : Array α} (h : cs.size = 10) : ∃ c0 c1 c2 c3 c4 c5 c6 c7 c8 c9, cs = #[c0, c1, c2, c3, c4, c5, c6, c7, c8, c9] := by
  obtain ⟨l⟩ := cs
  match l, h with
  | [c0, c1, c2, c3, c4, c5, c6, c7, c8, c9], _ => exact ⟨c0, c1, c2, c3, c4, c5, c6, c7, c8, c9, rfl⟩

theorem cells3 : Try.prog.cellsOf 3 = 1 := by kernel_rfl
theorem cells9 : Try.prog.cellsOf 9 = 1 := by kernel_rfl
theorem cells24 : Try.prog.cellsOf 24 = 1 := by kernel_rfl
theorem cells26 : Try.prog.cellsOf 26 = 3 := by kernel_rfl
end Go.Proofs.Ytopbdjplpnojmaa
