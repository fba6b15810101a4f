/-
  From the form in which an argument is read to the predicates on code.
-/
import Derived.Test.YtopbdjplpnojmaaKF
import Derived.Test.YtopbdjplpnojmaaOpen
import Derived.Lib.SmallJoins
namespace Go.Proofs.Ytopbdjplpnojmaa
open Go.RowKit Go.Deep Go.ChangeShapes Go.WideShapes Go.Joins

theorem kc3 : Try.prog.cellsOf 3 = 1 := by kernel_rfl
theorem kc9 : Try.prog.cellsOf 9 = 1 := by kernel_rfl
theorem kc26 : Try.prog.cellsOf 26 = 3 := by kernel_rfl
theorem kc30 : Try.prog.cellsOf 30 = 1 := by kernel_rfl
theorem kc80 : Try.prog.cellsOf 80 = 1 := by kernel_rfl
theorem kc81 : Try.prog.cellsOf 81 = 1 := by kernel_rfl
theorem kc83 : Try.prog.cellsOf 83 = 6 := by kernel_rfl
theorem kc146 : Try.prog.cellsOf 146 = 10 := by kernel_rfl
theorem kc148 : Try.prog.cellsOf 148 = 4 := by kernel_rfl
theorem kc149 : Try.prog.cellsOf 149 = 1 := by kernel_rfl
theorem kc150 : Try.prog.cellsOf 150 = 1 := by kernel_rfl
theorem kc152 : Try.prog.cellsOf 152 = 7 := by kernel_rfl
theorem kc176 : Try.prog.cellsOf 176 = 1 := by kernel_rfl
theorem kc178 : Try.prog.cellsOf 178 = 4 := by kernel_rfl
theorem kc181 : Try.prog.cellsOf 181 = 1 := by kernel_rfl
theorem kc191 : Try.prog.cellsOf 191 = 5 := by kernel_rfl
theorem list1 {α : Type} {l : List α} (h : l.length = 1) : ∃ v0, l = [v0] := by
  match l, h with
  | [v0], _ => exact ⟨v0, rfl⟩
theorem list4 {α : Type} {l : List α} (h : l.length = 4) : ∃ v0 v1 v2 v3, l = [v0, v1, v2, v3] := by
  match l, h with
  | [v0, v1, v2, v3], _ => exact ⟨v0, v1, v2, v3, rfl⟩
theorem list5 {α : Type} {l : List α} (h : l.length = 5) : ∃ v0 v1 v2 v3 v4, l = [v0, v1, v2, v3, v4] := by
  match l, h with
  | [v0, v1, v2, v3, v4], _ => exact ⟨v0, v1, v2, v3, v4, rfl⟩
theorem list6 {α : Type} {l : List α} (h : l.length = 6) : ∃ v0 v1 v2 v3 v4 v5, l = [v0, v1, v2, v3, v4, v5] := by
  match l, h with
  | [v0, v1, v2, v3, v4, v5], _ => exact ⟨v0, v1, v2, v3, v4, v5, rfl⟩
theorem list7 {α : Type} {l : List α} (h : l.length = 7) : ∃ v0 v1 v2 v3 v4 v5 v6, l = [v0, v1, v2, v3, v4, v5, v6] := by
  match l, h with
  | [v0, v1, v2, v3, v4, v5, v6], _ => exact ⟨v0, v1, v2, v3, v4, v5, v6, rfl⟩
theorem list10 {α : Type} {l : List α} (h : l.length = 10) : ∃ v0 v1 v2 v3 v4 v5 v6 v7 v8 v9, l = [v0, v1, v2, v3, v4, v5, v6, v7, v8, v9] := by
  match l, h with
  | [v0, v1, v2, v3, v4, v5, v6, v7, v8, v9], _ => exact ⟨v0, v1, v2, v3, v4, v5, v6, v7, v8, v9, rfl⟩
section
variable {H : Type} {enc : TypeId × Value → H} {w : World} {base : Nat} {spare : Nat → Bool} {held : Bool}
set_option maxRecDepth 100000 in
/-- A list of these that came in. -/
theorem read_srs {fuel : Nat} {v : Value} {y : DataW H × List MemPlace} (h : DataW.trod enc Try.prog w base spare held fuel 176 [v] = some y) :
    ∃ a cap xs, v = .slice a xs.length cap ∧ LMax SrMax xs ∧ SrsAt w 0 a xs := by
  rcases open_slice Try.underlying176 h with ⟨hcs, -⟩ | ⟨a, len, cap, m, n, D, Pl, hcs, -, hl, hm, hmm, -, hx⟩
  · simp at hcs
    exact ⟨none, 0, [], by simpa using hcs, ⟨by simp, by simp⟩, fun i hi => by simp at hi⟩
  · simp at hcs
    have hlm : len ≤ m := by rw [hmm]; split <;> omega
    have inh : Inhabited Sr := ⟨⟨0, 0, ⟨0, 0, ⟨#[]⟩⟩⟩⟩
    have hplain : ∀ i, i < m → ∃ b off, a = ⟨b, off, none⟩ := fun i hi => by
      obtain ⟨cs', h1, -⟩ := hx 0 (by omega)
      rw [kc191] at h1
      obtain ⟨_, hlen, hcell⟩ := World.cells?_some h1
      have e0 := hcell 0 (by omega)
      rw [add_add] at e0
      obtain ⟨v0, v1, v2, v3, v4, rfl⟩ := list5 hlen
      exact plain_of (by simpa using e0)
    obtain ⟨q, hq⟩ := choose_lt (α := Sr) (n := m) (p := fun i z => SrMax z ∧ ∃ b off, a = ⟨b, off, none⟩ ∧ w.cell? ⟨b, off + i * 5, none⟩ = some (.int .i64 z.k) ∧ w.cell? ⟨b, off + i * 5 + 1, none⟩ = some (.int .i64 z.n) ∧ w.cell? ⟨b, off + i * 5 + 2, none⟩ = some (.int .i64 z.v.k) ∧ w.cell? ⟨b, off + i * 5 + 3, none⟩ = some (.int .i64 z.v.n) ∧ w.cell? ⟨b, off + i * 5 + 4, none⟩ = some (.string z.v.s)) (fun i hi => by
      obtain ⟨cs', h1, h2⟩ := hx i hi
      rw [kc191] at h1
      obtain ⟨_, hlen, hcell⟩ := World.cells?_some h1
      obtain ⟨v0, v1, v2, v3, v4, rfl⟩ := list5 hlen
      obtain ⟨xs, n', -, -, -, hxl0, hf⟩ := DataW.trod_struct Try.underlying191 h2
      have hxl : xs.length = 3 := hxl0
      have get : ∀ i (hi : i < 3), xs[i]? = some (xs[i]'(by omega)) := fun i hi => List.getElem?_eq_getElem (by omega)
      have t0 : DataW.trod enc Try.prog w base spare held n' 3 [v0] = some (xs[0]'(by omega)) := by rw [← get 0 (by omega)]; simpa [kc3] using hf 0 _ rfl
      have t1 : DataW.trod enc Try.prog w base spare held n' 3 [v1] = some (xs[1]'(by omega)) := by rw [← get 1 (by omega)]; simpa [kc3] using hf 1 _ rfl
      have t2 : DataW.trod enc Try.prog w base spare held n' 26 [v2, v3, v4] = some (xs[2]'(by omega)) := by rw [← get 2 (by omega)]; simpa [kc26] using hf 2 _ rfl
      obtain ⟨z0, x0, -⟩ := DataW.trod_int Try.underlying3 t0
      obtain ⟨z1, x1, -⟩ := DataW.trod_int Try.underlying3 t1
      obtain ⟨_, _, _, _, -, -, u0, u1, u2⟩ := trod_struct3 Try.underlying26 t2
      simp [kc3, kc9] at u0 u1 u2
      obtain ⟨z2, x2, -⟩ := DataW.trod_int Try.underlying3 u0
      obtain ⟨z3, x3, -⟩ := DataW.trod_int Try.underlying3 u1
      obtain ⟨z4, x4, -, hz4⟩ := DataW.trod_string Try.underlying9 u2
      simp only [List.cons.injEq, and_true] at x0 x1 x2 x3 x4
      subst x0 x1 x2 x3 x4
      have e0 := hcell 0 (by omega)
      have e1 := hcell 1 (by omega)
      have e2 := hcell 2 (by omega)
      have e3 := hcell 3 (by omega)
      have e4 := hcell 4 (by omega)
      rw [add_add] at e0 e1 e2 e3 e4
      simp at e0 e1 e2 e3 e4
      obtain ⟨b, off, rfl⟩ := hplain i hi
      rw [Go.WideShapes.add_plain] at e0
      rw [Go.WideShapes.add_plain, ← Nat.add_assoc] at e1 e2 e3 e4
      exact ⟨⟨z0, z1, ⟨z2, z3, z4⟩⟩, hz4, b, off, rfl, e0, e1, e2, e3, e4⟩)
    refine ⟨some a, cap, (List.range len).map q, by simpa using hcs, ⟨by simp; omega, ?_⟩, ?_⟩
    · intro f hf
      obtain ⟨i, hi, rfl⟩ := List.mem_map.1 hf
      exact (hq i (by have := List.mem_range.1 hi; omega)).1
    · intro i hi
      have hi' : i < len := by simpa using hi
      obtain ⟨-, b, off, rfl, r0, r1, r2, r3, r4⟩ := hq i (by omega)
      exact ⟨b, off, rfl, Nat.zero_le _, by simpa using r0, by simpa using r1, by simpa using r2, by simpa using r3, by simpa using r4⟩
set_option maxRecDepth 100000 in
/-- A list of these that came in. -/
theorem read_efs {fuel : Nat} {v : Value} {y : DataW H × List MemPlace} (h : DataW.trod enc Try.prog w base spare held fuel 149 [v] = some y) :
    ∃ a cap xs, v = .slice a xs.length cap ∧ LMax EFMax xs ∧ EFsAt w 0 a xs := by
  rcases open_slice Try.underlying149 h with ⟨hcs, -⟩ | ⟨a, len, cap, m, n, D, Pl, hcs, -, hl, hm, hmm, -, hx⟩
  · simp at hcs
    exact ⟨none, 0, [], by simpa using hcs, ⟨by simp, by simp⟩, fun i hi => by simp at hi⟩
  · simp at hcs
    have hlm : len ≤ m := by rw [hmm]; split <;> omega
    have inh : Inhabited EF := ⟨⟨0, 0, [], []⟩⟩
    have hplain : ∀ i, i < m → ∃ b off, a = ⟨b, off, none⟩ := fun i hi => by
      obtain ⟨cs', h1, -⟩ := hx 0 (by omega)
      rw [kc178] at h1
      obtain ⟨_, hlen, hcell⟩ := World.cells?_some h1
      have e0 := hcell 0 (by omega)
      rw [add_add] at e0
      obtain ⟨v0, v1, v2, v3, rfl⟩ := list4 hlen
      exact plain_of (by simpa using e0)
    obtain ⟨q, hq⟩ := choose_lt (α := EF) (n := m) (p := fun i z => EFMax z ∧ ∃ b off a0 c0 a1 c1, a = ⟨b, off, none⟩ ∧ w.cell? ⟨b, off + i * 4, none⟩ = some (.int .i64 z.fn) ∧ w.cell? ⟨b, off + i * 4 + 1, none⟩ = some (.int .i64 z.pc) ∧ w.cell? ⟨b, off + i * 4 + 2, none⟩ = some (.slice a0 z.locals.length c0) ∧ w.cell? ⟨b, off + i * 4 + 3, none⟩ = some (.slice a1 z.stack.length c1) ∧ SrsAt w 0 a0 z.locals ∧ SrsAt w 0 a1 z.stack) (fun i hi => by
      obtain ⟨cs', h1, h2⟩ := hx i hi
      rw [kc178] at h1
      obtain ⟨_, hlen, hcell⟩ := World.cells?_some h1
      obtain ⟨v0, v1, v2, v3, rfl⟩ := list4 hlen
      obtain ⟨xs, n', -, -, -, hxl0, hf⟩ := DataW.trod_struct Try.underlying178 h2
      have hxl : xs.length = 4 := hxl0
      have get : ∀ i (hi : i < 4), xs[i]? = some (xs[i]'(by omega)) := fun i hi => List.getElem?_eq_getElem (by omega)
      have t0 : DataW.trod enc Try.prog w base spare held n' 3 [v0] = some (xs[0]'(by omega)) := by rw [← get 0 (by omega)]; simpa [kc3] using hf 0 _ rfl
      have t1 : DataW.trod enc Try.prog w base spare held n' 3 [v1] = some (xs[1]'(by omega)) := by rw [← get 1 (by omega)]; simpa [kc3] using hf 1 _ rfl
      have t2 : DataW.trod enc Try.prog w base spare held n' 176 [v2] = some (xs[2]'(by omega)) := by rw [← get 2 (by omega)]; simpa [kc176] using hf 2 _ rfl
      have t3 : DataW.trod enc Try.prog w base spare held n' 176 [v3] = some (xs[3]'(by omega)) := by rw [← get 3 (by omega)]; simpa [kc176] using hf 3 _ rfl
      obtain ⟨z0, x0, -⟩ := DataW.trod_int Try.underlying3 t0
      obtain ⟨z1, x1, -⟩ := DataW.trod_int Try.underlying3 t1
      obtain ⟨a0, c0, l0, x2, hl0, hat0⟩ := read_srs t2
      obtain ⟨a1, c1, l1, x3, hl1, hat1⟩ := read_srs t3
      simp only [List.cons.injEq, and_true] at x0 x1
      subst x0 x1 x2 x3
      have e0 := hcell 0 (by omega)
      have e1 := hcell 1 (by omega)
      have e2 := hcell 2 (by omega)
      have e3 := hcell 3 (by omega)
      rw [add_add] at e0 e1 e2 e3
      simp at e0 e1 e2 e3
      obtain ⟨b, off, rfl⟩ := hplain i hi
      rw [Go.WideShapes.add_plain] at e0
      rw [Go.WideShapes.add_plain, ← Nat.add_assoc] at e1 e2 e3
      exact ⟨⟨z0, z1, l0, l1⟩, ⟨hl0, hl1⟩, b, off, a0, c0, a1, c1, rfl, e0, e1, e2, e3, hat0, hat1⟩)
    refine ⟨some a, cap, (List.range len).map q, by simpa using hcs, ⟨by simp; omega, ?_⟩, ?_⟩
    · intro f hf
      obtain ⟨i, hi, rfl⟩ := List.mem_map.1 hf
      exact (hq i (by have := List.mem_range.1 hi; omega)).1
    · intro i hi
      have hi' : i < len := by simpa using hi
      obtain ⟨-, b, off, a0, c0, a1, c1, rfl, r0, r1, r2, r3, r4, r5⟩ := hq i (by omega)
      exact ⟨b, off, a0, c0, a1, c1, rfl, Nat.zero_le _, by simpa using r0, by simpa using r1, by simpa using r2, by simpa using r3, by simpa using r4, by simpa using r5⟩
set_option maxRecDepth 100000 in
/-- A list of these that came in. -/
theorem read_ers {fuel : Nat} {v : Value} {y : DataW H × List MemPlace} (h : DataW.trod enc Try.prog w base spare held fuel 150 [v] = some y) :
    ∃ a cap xs, v = .slice a xs.length cap ∧ LMax ERMax xs ∧ ERsAt w 0 a xs := by
  rcases open_slice Try.underlying150 h with ⟨hcs, -⟩ | ⟨a, len, cap, m, n, D, Pl, hcs, -, hl, hm, hmm, -, hx⟩
  · simp at hcs
    exact ⟨none, 0, [], by simpa using hcs, ⟨by simp, by simp⟩, fun i hi => by simp at hi⟩
  · simp at hcs
    have hlm : len ≤ m := by rw [hmm]; split <;> omega
    have inh : Inhabited ER := ⟨⟨[]⟩⟩
    have hplain : ∀ i, i < m → ∃ b off, a = ⟨b, off, none⟩ := fun i hi => by
      obtain ⟨cs', h1, -⟩ := hx 0 (by omega)
      rw [kc181] at h1
      obtain ⟨_, hlen, hcell⟩ := World.cells?_some h1
      have e0 := hcell 0 (by omega)
      rw [add_add] at e0
      obtain ⟨v0, rfl⟩ := list1 hlen
      exact plain_of (by simpa using e0)
    obtain ⟨q, hq⟩ := choose_lt (α := ER) (n := m) (p := fun i z => ERMax z ∧ ∃ b off a0 c0, a = ⟨b, off, none⟩ ∧ w.cell? ⟨b, off + i, none⟩ = some (.slice a0 z.fields.length c0) ∧ SrsAt w 0 a0 z.fields) (fun i hi => by
      obtain ⟨cs', h1, h2⟩ := hx i hi
      rw [kc181] at h1
      obtain ⟨_, hlen, hcell⟩ := World.cells?_some h1
      obtain ⟨v0, rfl⟩ := list1 hlen
      obtain ⟨xs, n', -, -, -, hxl0, hf⟩ := DataW.trod_struct Try.underlying181 h2
      have hxl : xs.length = 1 := hxl0
      have get : ∀ i (hi : i < 1), xs[i]? = some (xs[i]'(by omega)) := fun i hi => List.getElem?_eq_getElem (by omega)
      have t0 : DataW.trod enc Try.prog w base spare held n' 176 [v0] = some (xs[0]'(by omega)) := by rw [← get 0 (by omega)]; simpa [kc176] using hf 0 _ rfl
      obtain ⟨a0, c0, l0, x0, hl0, hat0⟩ := read_srs t0
      subst x0
      have e0 := hcell 0 (by omega)
      rw [add_add] at e0
      simp at e0
      obtain ⟨b, off, rfl⟩ := hplain i hi
      rw [Go.WideShapes.add_plain] at e0
      exact ⟨⟨l0⟩, hl0, b, off, a0, c0, rfl, e0, hat0⟩)
    refine ⟨some a, cap, (List.range len).map q, by simpa using hcs, ⟨by simp; omega, ?_⟩, ?_⟩
    · intro f hf
      obtain ⟨i, hi, rfl⟩ := List.mem_map.1 hf
      exact (hq i (by have := List.mem_range.1 hi; omega)).1
    · intro i hi
      have hi' : i < len := by simpa using hi
      obtain ⟨-, b, off, a0, c0, rfl, r0, r1⟩ := hq i (by omega)
      exact ⟨b, off, a0, c0, rfl, Nat.zero_le _, by simpa using r0, by simpa using r1⟩
set_option maxRecDepth 100000 in
/-- A list of these that came in. -/
theorem read_exs {fuel : Nat} {v : Value} {y : DataW H × List MemPlace} (h : DataW.trod enc Try.prog w base spare held fuel 81 [v] = some y) :
    ∃ a cap xs, v = .slice a xs.length cap ∧ LMax ExMax xs ∧ ExsAt w 0 a xs := by
  rcases open_slice Try.underlying81 h with ⟨hcs, -⟩ | ⟨a, len, cap, m, n, D, Pl, hcs, -, hl, hm, hmm, -, hx⟩
  · simp at hcs
    exact ⟨none, 0, [], by simpa using hcs, ⟨by simp, by simp⟩, fun i hi => by simp at hi⟩
  · simp at hcs
    have hlm : len ≤ m := by rw [hmm]; split <;> omega
    have inh : Inhabited Ex := ⟨⟨0, ⟨0, 0, 0, 0⟩, [], []⟩⟩
    have hplain : ∀ i, i < m → ∃ b off, a = ⟨b, off, none⟩ := fun i hi => by
      obtain ⟨cs', h1, -⟩ := hx 0 (by omega)
      rw [kc152] at h1
      obtain ⟨_, hlen, hcell⟩ := World.cells?_some h1
      have e0 := hcell 0 (by omega)
      rw [add_add] at e0
      obtain ⟨v0, v1, v2, v3, v4, v5, v6, rfl⟩ := list7 hlen
      exact plain_of (by simpa using e0)
    obtain ⟨q, hq⟩ := choose_lt (α := Ex) (n := m) (p := fun i z => ExMax z ∧ ∃ b off a0 c0 a1 c1, a = ⟨b, off, none⟩ ∧ w.cell? ⟨b, off + i * 7, none⟩ = some (.int .i64 z.kind) ∧ w.cell? ⟨b, off + i * 7 + 1, none⟩ = some (.int .i64 z.spec.f) ∧ w.cell? ⟨b, off + i * 7 + 2, none⟩ = some (.int .i64 z.spec.pc) ∧ w.cell? ⟨b, off + i * 7 + 3, none⟩ = some (.int .i64 z.spec.seen) ∧ w.cell? ⟨b, off + i * 7 + 4, none⟩ = some (.int .i64 z.spec.target) ∧ w.cell? ⟨b, off + i * 7 + 5, none⟩ = some (.slice a0 z.frames.length c0) ∧ w.cell? ⟨b, off + i * 7 + 6, none⟩ = some (.slice a1 z.recs.length c1) ∧ EFsAt w 0 a0 z.frames ∧ ERsAt w 0 a1 z.recs) (fun i hi => by
      obtain ⟨cs', h1, h2⟩ := hx i hi
      rw [kc152] at h1
      obtain ⟨_, hlen, hcell⟩ := World.cells?_some h1
      obtain ⟨v0, v1, v2, v3, v4, v5, v6, rfl⟩ := list7 hlen
      obtain ⟨xs, n', -, -, -, hxl0, hf⟩ := DataW.trod_struct Try.underlying152 h2
      have hxl : xs.length = 4 := hxl0
      have get : ∀ i (hi : i < 4), xs[i]? = some (xs[i]'(by omega)) := fun i hi => List.getElem?_eq_getElem (by omega)
      have t0 : DataW.trod enc Try.prog w base spare held n' 3 [v0] = some (xs[0]'(by omega)) := by rw [← get 0 (by omega)]; simpa [kc3] using hf 0 _ rfl
      have t1 : DataW.trod enc Try.prog w base spare held n' 148 [v1, v2, v3, v4] = some (xs[1]'(by omega)) := by rw [← get 1 (by omega)]; simpa [kc148] using hf 1 _ rfl
      have t2 : DataW.trod enc Try.prog w base spare held n' 149 [v5] = some (xs[2]'(by omega)) := by rw [← get 2 (by omega)]; simpa [kc149] using hf 2 _ rfl
      have t3 : DataW.trod enc Try.prog w base spare held n' 150 [v6] = some (xs[3]'(by omega)) := by rw [← get 3 (by omega)]; simpa [kc150] using hf 3 _ rfl
      obtain ⟨z0, x0, -⟩ := DataW.trod_int Try.underlying3 t0
      obtain ⟨_, _, _, _, _, -, -, u0, u1, u2, u3⟩ := trod_struct4 Try.underlying148 t1
      simp [kc3] at u0 u1 u2 u3
      obtain ⟨z1, x1, -⟩ := DataW.trod_int Try.underlying3 u0
      obtain ⟨z2, x2, -⟩ := DataW.trod_int Try.underlying3 u1
      obtain ⟨z3, x3, -⟩ := DataW.trod_int Try.underlying3 u2
      obtain ⟨z4, x4, -⟩ := DataW.trod_int Try.underlying3 u3
      obtain ⟨a0, c0, l0, x5, hl0, hat0⟩ := read_efs t2
      obtain ⟨a1, c1, l1, x6, hl1, hat1⟩ := read_ers t3
      simp only [List.cons.injEq, and_true] at x0 x1 x2 x3 x4
      subst x0 x1 x2 x3 x4 x5 x6
      have e0 := hcell 0 (by omega)
      have e1 := hcell 1 (by omega)
      have e2 := hcell 2 (by omega)
      have e3 := hcell 3 (by omega)
      have e4 := hcell 4 (by omega)
      have e5 := hcell 5 (by omega)
      have e6 := hcell 6 (by omega)
      rw [add_add] at e0 e1 e2 e3 e4 e5 e6
      simp at e0 e1 e2 e3 e4 e5 e6
      obtain ⟨b, off, rfl⟩ := hplain i hi
      rw [Go.WideShapes.add_plain] at e0
      rw [Go.WideShapes.add_plain, ← Nat.add_assoc] at e1 e2 e3 e4 e5 e6
      exact ⟨⟨z0, ⟨z1, z2, z3, z4⟩, l0, l1⟩, ⟨hl0, hl1⟩, b, off, a0, c0, a1, c1, rfl, e0, e1, e2, e3, e4, e5, e6, hat0, hat1⟩)
    refine ⟨some a, cap, (List.range len).map q, by simpa using hcs, ⟨by simp; omega, ?_⟩, ?_⟩
    · intro f hf
      obtain ⟨i, hi, rfl⟩ := List.mem_map.1 hf
      exact (hq i (by have := List.mem_range.1 hi; omega)).1
    · intro i hi
      have hi' : i < len := by simpa using hi
      obtain ⟨-, b, off, a0, c0, a1, c1, rfl, r0, r1, r2, r3, r4, r5, r6, r7, r8⟩ := hq i (by omega)
      exact ⟨b, off, a0, c0, a1, c1, rfl, Nat.zero_le _, by simpa using r0, by simpa using r1, by simpa using r2, by simpa using r3, by simpa using r4, by simpa using r5, by simpa using r6, by simpa using r7, by simpa using r8⟩
set_option maxRecDepth 100000 in
/-- A list of these that came in. -/
theorem read_fos {fuel : Nat} {v : Value} {y : DataW H × List MemPlace} (h : DataW.trod enc Try.prog w base spare held fuel 80 [v] = some y) :
    ∃ a cap xs, v = .slice a xs.length cap ∧ LMax FoMax xs ∧ FosAt w 0 a xs := by
  rcases open_slice Try.underlying80 h with ⟨hcs, -⟩ | ⟨a, len, cap, m, n, D, Pl, hcs, -, hl, hm, hmm, -, hx⟩
  · simp at hcs
    exact ⟨none, 0, [], by simpa using hcs, ⟨by simp, by simp⟩, fun i hi => by simp at hi⟩
  · simp at hcs
    have hlm : len ≤ m := by rw [hmm]; split <;> omega
    have inh : Inhabited Fo := ⟨⟨0, 0, 0, 0, 0, 0, 0, ⟨0, 0, ⟨#[]⟩⟩⟩⟩
    have hplain : ∀ i, i < m → ∃ b off, a = ⟨b, off, none⟩ := fun i hi => by
      obtain ⟨cs', h1, -⟩ := hx 0 (by omega)
      rw [kc146] at h1
      obtain ⟨_, hlen, hcell⟩ := World.cells?_some h1
      have e0 := hcell 0 (by omega)
      rw [add_add] at e0
      obtain ⟨v0, v1, v2, v3, v4, v5, v6, v7, v8, v9, rfl⟩ := list10 hlen
      exact plain_of (by simpa using e0)
    obtain ⟨q, hq⟩ := choose_lt (α := Fo) (n := m) (p := fun i z => FoMax z ∧ ∃ b off, a = ⟨b, off, none⟩ ∧ w.cell? ⟨b, off + i * 10, none⟩ = some (.int .i64 z.op) ∧ w.cell? ⟨b, off + i * 10 + 1, none⟩ = some (.int .i64 z.d) ∧ w.cell? ⟨b, off + i * 10 + 2, none⟩ = some (.int .i64 z.a) ∧ w.cell? ⟨b, off + i * 10 + 3, none⟩ = some (.int .i64 z.b) ∧ w.cell? ⟨b, off + i * 10 + 4, none⟩ = some (.int .i64 z.x) ∧ w.cell? ⟨b, off + i * 10 + 5, none⟩ = some (.int .i64 z.f) ∧ w.cell? ⟨b, off + i * 10 + 6, none⟩ = some (.int .i64 z.p) ∧ w.cell? ⟨b, off + i * 10 + 7, none⟩ = some (.int .i64 z.v.k) ∧ w.cell? ⟨b, off + i * 10 + 8, none⟩ = some (.int .i64 z.v.n) ∧ w.cell? ⟨b, off + i * 10 + 9, none⟩ = some (.string z.v.s)) (fun i hi => by
      obtain ⟨cs', h1, h2⟩ := hx i hi
      rw [kc146] at h1
      obtain ⟨_, hlen, hcell⟩ := World.cells?_some h1
      obtain ⟨v0, v1, v2, v3, v4, v5, v6, v7, v8, v9, rfl⟩ := list10 hlen
      obtain ⟨xs, n', -, -, -, hxl0, hf⟩ := DataW.trod_struct Try.underlying146 h2
      have hxl : xs.length = 8 := hxl0
      have get : ∀ i (hi : i < 8), xs[i]? = some (xs[i]'(by omega)) := fun i hi => List.getElem?_eq_getElem (by omega)
      have t0 : DataW.trod enc Try.prog w base spare held n' 3 [v0] = some (xs[0]'(by omega)) := by rw [← get 0 (by omega)]; simpa [kc3] using hf 0 _ rfl
      have t1 : DataW.trod enc Try.prog w base spare held n' 3 [v1] = some (xs[1]'(by omega)) := by rw [← get 1 (by omega)]; simpa [kc3] using hf 1 _ rfl
      have t2 : DataW.trod enc Try.prog w base spare held n' 3 [v2] = some (xs[2]'(by omega)) := by rw [← get 2 (by omega)]; simpa [kc3] using hf 2 _ rfl
      have t3 : DataW.trod enc Try.prog w base spare held n' 3 [v3] = some (xs[3]'(by omega)) := by rw [← get 3 (by omega)]; simpa [kc3] using hf 3 _ rfl
      have t4 : DataW.trod enc Try.prog w base spare held n' 3 [v4] = some (xs[4]'(by omega)) := by rw [← get 4 (by omega)]; simpa [kc3] using hf 4 _ rfl
      have t5 : DataW.trod enc Try.prog w base spare held n' 3 [v5] = some (xs[5]'(by omega)) := by rw [← get 5 (by omega)]; simpa [kc3] using hf 5 _ rfl
      have t6 : DataW.trod enc Try.prog w base spare held n' 3 [v6] = some (xs[6]'(by omega)) := by rw [← get 6 (by omega)]; simpa [kc3] using hf 6 _ rfl
      have t7 : DataW.trod enc Try.prog w base spare held n' 26 [v7, v8, v9] = some (xs[7]'(by omega)) := by rw [← get 7 (by omega)]; simpa [kc26] using hf 7 _ rfl
      obtain ⟨z0, x0, -⟩ := DataW.trod_int Try.underlying3 t0
      obtain ⟨z1, x1, -⟩ := DataW.trod_int Try.underlying3 t1
      obtain ⟨z2, x2, -⟩ := DataW.trod_int Try.underlying3 t2
      obtain ⟨z3, x3, -⟩ := DataW.trod_int Try.underlying3 t3
      obtain ⟨z4, x4, -⟩ := DataW.trod_int Try.underlying3 t4
      obtain ⟨z5, x5, -⟩ := DataW.trod_int Try.underlying3 t5
      obtain ⟨z6, x6, -⟩ := DataW.trod_int Try.underlying3 t6
      obtain ⟨_, _, _, _, -, -, u0, u1, u2⟩ := trod_struct3 Try.underlying26 t7
      simp [kc3, kc9] at u0 u1 u2
      obtain ⟨z7, x7, -⟩ := DataW.trod_int Try.underlying3 u0
      obtain ⟨z8, x8, -⟩ := DataW.trod_int Try.underlying3 u1
      obtain ⟨z9, x9, -, hz9⟩ := DataW.trod_string Try.underlying9 u2
      simp only [List.cons.injEq, and_true] at x0 x1 x2 x3 x4 x5 x6 x7 x8 x9
      subst x0 x1 x2 x3 x4 x5 x6 x7 x8 x9
      have e0 := hcell 0 (by omega)
      have e1 := hcell 1 (by omega)
      have e2 := hcell 2 (by omega)
      have e3 := hcell 3 (by omega)
      have e4 := hcell 4 (by omega)
      have e5 := hcell 5 (by omega)
      have e6 := hcell 6 (by omega)
      have e7 := hcell 7 (by omega)
      have e8 := hcell 8 (by omega)
      have e9 := hcell 9 (by omega)
      rw [add_add] at e0 e1 e2 e3 e4 e5 e6 e7 e8 e9
      simp at e0 e1 e2 e3 e4 e5 e6 e7 e8 e9
      obtain ⟨b, off, rfl⟩ := hplain i hi
      rw [Go.WideShapes.add_plain] at e0
      rw [Go.WideShapes.add_plain, ← Nat.add_assoc] at e1 e2 e3 e4 e5 e6 e7 e8 e9
      exact ⟨⟨z0, z1, z2, z3, z4, z5, z6, ⟨z7, z8, z9⟩⟩, hz9, b, off, rfl, e0, e1, e2, e3, e4, e5, e6, e7, e8, e9⟩)
    refine ⟨some a, cap, (List.range len).map q, by simpa using hcs, ⟨by simp; omega, ?_⟩, ?_⟩
    · intro f hf
      obtain ⟨i, hi, rfl⟩ := List.mem_map.1 hf
      exact (hq i (by have := List.mem_range.1 hi; omega)).1
    · intro i hi
      have hi' : i < len := by simpa using hi
      obtain ⟨-, b, off, rfl, r0, r1, r2, r3, r4, r5, r6, r7, r8, r9⟩ := hq i (by omega)
      exact ⟨b, off, rfl, Nat.zero_le _, by simpa using r0, by simpa using r1, by simpa using r2, by simpa using r3, by simpa using r4, by simpa using r5, by simpa using r6, by simpa using r7, by simpa using r8, by simpa using r9⟩
set_option maxRecDepth 100000 in
/-- A list of these that came in. -/
theorem read_fas {fuel : Nat} {v : Value} {y : DataW H × List MemPlace} (h : DataW.trod enc Try.prog w base spare held fuel 30 [v] = some y) :
    ∃ a cap xs, v = .slice a xs.length cap ∧ LMax FastDMax xs ∧ FasAt w 0 a xs := by
  rcases open_slice Try.underlying30 h with ⟨hcs, -⟩ | ⟨a, len, cap, m, n, D, Pl, hcs, -, hl, hm, hmm, -, hx⟩
  · simp at hcs
    exact ⟨none, 0, [], by simpa using hcs, ⟨by simp, by simp⟩, fun i hi => by simp at hi⟩
  · simp at hcs
    have hlm : len ≤ m := by rw [hmm]; split <;> omega
    have inh : Inhabited FastD := ⟨⟨0, 0, 0, 0, [], []⟩⟩
    have hplain : ∀ i, i < m → ∃ b off, a = ⟨b, off, none⟩ := fun i hi => by
      obtain ⟨cs', h1, -⟩ := hx 0 (by omega)
      rw [kc83] at h1
      obtain ⟨_, hlen, hcell⟩ := World.cells?_some h1
      have e0 := hcell 0 (by omega)
      rw [add_add] at e0
      obtain ⟨v0, v1, v2, v3, v4, v5, rfl⟩ := list6 hlen
      exact plain_of (by simpa using e0)
    obtain ⟨q, hq⟩ := choose_lt (α := FastD) (n := m) (p := fun i z => FastDMax z ∧ ∃ b off a0 c0 a1 c1, a = ⟨b, off, none⟩ ∧ w.cell? ⟨b, off + i * 6, none⟩ = some (.int .i64 z.fn) ∧ w.cell? ⟨b, off + i * 6 + 1, none⟩ = some (.int .i64 z.entry) ∧ w.cell? ⟨b, off + i * 6 + 2, none⟩ = some (.int .i64 z.vals) ∧ w.cell? ⟨b, off + i * 6 + 3, none⟩ = some (.int .i64 z.nums) ∧ w.cell? ⟨b, off + i * 6 + 4, none⟩ = some (.slice a0 z.ops.length c0) ∧ w.cell? ⟨b, off + i * 6 + 5, none⟩ = some (.slice a1 z.exits.length c1) ∧ FosAt w 0 a0 z.ops ∧ ExsAt w 0 a1 z.exits) (fun i hi => by
      obtain ⟨cs', h1, h2⟩ := hx i hi
      rw [kc83] at h1
      obtain ⟨_, hlen, hcell⟩ := World.cells?_some h1
      obtain ⟨v0, v1, v2, v3, v4, v5, rfl⟩ := list6 hlen
      obtain ⟨xs, n', -, -, -, hxl0, hf⟩ := DataW.trod_struct Try.underlying83 h2
      have hxl : xs.length = 6 := hxl0
      have get : ∀ i (hi : i < 6), xs[i]? = some (xs[i]'(by omega)) := fun i hi => List.getElem?_eq_getElem (by omega)
      have t0 : DataW.trod enc Try.prog w base spare held n' 3 [v0] = some (xs[0]'(by omega)) := by rw [← get 0 (by omega)]; simpa [kc3] using hf 0 _ rfl
      have t1 : DataW.trod enc Try.prog w base spare held n' 3 [v1] = some (xs[1]'(by omega)) := by rw [← get 1 (by omega)]; simpa [kc3] using hf 1 _ rfl
      have t2 : DataW.trod enc Try.prog w base spare held n' 3 [v2] = some (xs[2]'(by omega)) := by rw [← get 2 (by omega)]; simpa [kc3] using hf 2 _ rfl
      have t3 : DataW.trod enc Try.prog w base spare held n' 3 [v3] = some (xs[3]'(by omega)) := by rw [← get 3 (by omega)]; simpa [kc3] using hf 3 _ rfl
      have t4 : DataW.trod enc Try.prog w base spare held n' 80 [v4] = some (xs[4]'(by omega)) := by rw [← get 4 (by omega)]; simpa [kc80] using hf 4 _ rfl
      have t5 : DataW.trod enc Try.prog w base spare held n' 81 [v5] = some (xs[5]'(by omega)) := by rw [← get 5 (by omega)]; simpa [kc81] using hf 5 _ rfl
      obtain ⟨z0, x0, -⟩ := DataW.trod_int Try.underlying3 t0
      obtain ⟨z1, x1, -⟩ := DataW.trod_int Try.underlying3 t1
      obtain ⟨z2, x2, -⟩ := DataW.trod_int Try.underlying3 t2
      obtain ⟨z3, x3, -⟩ := DataW.trod_int Try.underlying3 t3
      obtain ⟨a0, c0, l0, x4, hl0, hat0⟩ := read_fos t4
      obtain ⟨a1, c1, l1, x5, hl1, hat1⟩ := read_exs t5
      simp only [List.cons.injEq, and_true] at x0 x1 x2 x3
      subst x0 x1 x2 x3 x4 x5
      have e0 := hcell 0 (by omega)
      have e1 := hcell 1 (by omega)
      have e2 := hcell 2 (by omega)
      have e3 := hcell 3 (by omega)
      have e4 := hcell 4 (by omega)
      have e5 := hcell 5 (by omega)
      rw [add_add] at e0 e1 e2 e3 e4 e5
      simp at e0 e1 e2 e3 e4 e5
      obtain ⟨b, off, rfl⟩ := hplain i hi
      rw [Go.WideShapes.add_plain] at e0
      rw [Go.WideShapes.add_plain, ← Nat.add_assoc] at e1 e2 e3 e4 e5
      exact ⟨⟨z0, z1, z2, z3, l0, l1⟩, ⟨hl0, hl1⟩, b, off, a0, c0, a1, c1, rfl, e0, e1, e2, e3, e4, e5, hat0, hat1⟩)
    refine ⟨some a, cap, (List.range len).map q, by simpa using hcs, ⟨by simp; omega, ?_⟩, ?_⟩
    · intro f hf
      obtain ⟨i, hi, rfl⟩ := List.mem_map.1 hf
      exact (hq i (by have := List.mem_range.1 hi; omega)).1
    · intro i hi
      have hi' : i < len := by simpa using hi
      obtain ⟨-, b, off, a0, c0, a1, c1, rfl, r0, r1, r2, r3, r4, r5, r6, r7⟩ := hq i (by omega)
      exact ⟨b, off, a0, c0, a1, c1, rfl, Nat.zero_le _, by simpa using r0, by simpa using r1, by simpa using r2, by simpa using r3, by simpa using r4, by simpa using r5, by simpa using r6, by simpa using r7⟩
end
theorem array6 {α : Type} {cs : Array α} (h : cs.size = 6) : ∃ c0 c1 c2 c3 c4 c5, cs = #[c0, c1, c2, c3, c4, c5] := by
  obtain ⟨l⟩ := cs
  match l, h with
  | [c0, c1, c2, c3, c4, c5], _ => exact ⟨c0, c1, c2, c3, c4, c5, rfl⟩
set_option maxRecDepth 100000 in
set_option maxHeartbeats 1000000 in
/-- Code that came in. -/
theorem open_fast {H : Type} {enc : TypeId × Value → H} {w : World} {base : Nat} {sp : Nat → Bool} {held : Bool} {r : Reach} {b0 : Nat} {v : Value} {d : DataW H} {p : List MemPlace}
    (hv : Value.okWide Try.prog w r b0 83 v) (h : DataW.Trod enc Try.prog w base sp held 83 v d p) :
    ∃ oa ea oc ec, ∃ D : FastD, v = .agg (fastCells oa ea oc ec D) ∧ FastMax D ∧ FastAt w 0 oa ea D := by
  obtain ⟨cs, rfl, hsz⟩ := okWide_struct Try.underlying83 hv
  obtain ⟨c0, c1, c2, c3, c4, c5, rfl⟩ := array6 (hsz.trans kc83)
  obtain ⟨fuel, hf⟩ := h
  obtain ⟨xs, n, -, -, -, hlen, hf⟩ := DataW.trod_struct Try.underlying83 hf
  have hlen6 : xs.length = 6 := hlen
  have get : ∀ i (hi : i < 6), xs[i]? = some (xs[i]'(by omega)) := fun i hi => List.getElem?_eq_getElem (by omega)
  have t0 : DataW.trod enc Try.prog w base sp held n 3 [c0] = some (xs[0]'(by omega)) := by rw [← get 0 (by omega)]; simpa [Value.cells, kc3] using hf 0 _ rfl
  have t1 : DataW.trod enc Try.prog w base sp held n 3 [c1] = some (xs[1]'(by omega)) := by rw [← get 1 (by omega)]; simpa [Value.cells, kc3] using hf 1 _ rfl
  have t2 : DataW.trod enc Try.prog w base sp held n 3 [c2] = some (xs[2]'(by omega)) := by rw [← get 2 (by omega)]; simpa [Value.cells, kc3] using hf 2 _ rfl
  have t3 : DataW.trod enc Try.prog w base sp held n 3 [c3] = some (xs[3]'(by omega)) := by rw [← get 3 (by omega)]; simpa [Value.cells, kc3] using hf 3 _ rfl
  have t4 : DataW.trod enc Try.prog w base sp held n 80 [c4] = some (xs[4]'(by omega)) := by rw [← get 4 (by omega)]; simpa [Value.cells, kc80] using hf 4 _ rfl
  have t5 : DataW.trod enc Try.prog w base sp held n 81 [c5] = some (xs[5]'(by omega)) := by rw [← get 5 (by omega)]; simpa [Value.cells, kc81] using hf 5 _ rfl
  obtain ⟨z0, x0, -⟩ := DataW.trod_int Try.underlying3 t0
  obtain ⟨z1, x1, -⟩ := DataW.trod_int Try.underlying3 t1
  obtain ⟨z2, x2, -⟩ := DataW.trod_int Try.underlying3 t2
  obtain ⟨z3, x3, -⟩ := DataW.trod_int Try.underlying3 t3
  obtain ⟨oa, oc, os, x4, m4, h4⟩ := read_fos t4
  obtain ⟨ea, ec, es, x5, m5, h5⟩ := read_exs t5
  simp only [List.cons.injEq, and_true] at x0 x1 x2 x3
  subst x0 x1 x2 x3 x4 x5
  exact ⟨oa, ea, oc, ec, ⟨z0, z1, z2, z3, os, es⟩, rfl, ⟨m4, m5⟩, ⟨h4, h5⟩⟩
end Go.Proofs.Ytopbdjplpnojmaa
