/-
  From the form in which an argument is read to the predicates of the text Mem.
  Sites as plain data: which cells of memory hold them; what the laws' sizing, copying and comparing functions return of them; how an argument is read.
  Code as plain data, and which cells of memory hold it.
-/
import Derived.Test.YtcbknjjnphknbaaGreatDoorZOQ1
import Derived.Deep.Slices
import Derived.Deep.SlicePairs
import Derived.Deep.Strs
import Derived.OpenShut
import Derived.Test.YtcbknjjnphknbaaGreatDoorZOQ2
import Derived.Lib.SmallJoins
namespace Go.Proofs.YtcbknjjnphknbaaGreatDoor
open Go.RowKit Go.Deep Go.ChangeShapes Go.WideShapes

section
variable {H : Type} {enc : TypeId × Value → H} {P : Program} {w : World} {base : Nat} {spare : Nat → Bool} {held : Bool}

theorem plain_of {a : Addr} {v : Value} (h : w.cell? (a.add 0) = some v) : ∃ b off, a = ⟨b, off, none⟩ := by
  obtain ⟨b, off, spot⟩ := a
  have hspot : spot = none := by simpa [Addr.add] using World.cell?_spot h
  subst hspot
  exact ⟨b, off, rfl⟩

/-- A []string that came in. -/
theorem read_strs {t e : TypeId} {fuel : Nat} {v : Value} {y : DataW H × List MemPlace} (ht : P.underlying t = some (.slice e)) (he : P.underlying e = some .string) (hc : P.cellsOf e = 1)
    (h : DataW.trod enc P w base spare held fuel t [v] = some y) :
    ∃ a cap ss, v = .slice a ss.length cap ∧ ss.length ≤ maxLen ∧ (∀ s ∈ ss, s.size ≤ maxLen) ∧ StrsAt w 0 a ss := by
  rcases open_strs ht he hc h with ⟨hcs, -⟩ | ⟨a, len, cap, m, Sx, hcs, -, hl, hm, hmm, -, hx⟩
  · simp at hcs
    exact ⟨none, 0, [], by simpa using hcs, by simp, by simp, fun i hi => by simp at hi⟩
  · simp at hcs
    have hlm : len ≤ m := by rw [hmm]; split <;> omega
    refine ⟨some a, cap, (List.range len).map Sx, by simpa using hcs, by simp; omega, ?_, ?_⟩
    · intro s hs
      obtain ⟨i, hi, rfl⟩ := List.mem_map.1 hs
      exact (hx i (by have := List.mem_range.1 hi; omega)).2
    · intro i hi
      have hi' : i < len := by simpa using hi
      obtain ⟨b, off, rfl⟩ := plain_of (hx 0 (by omega)).1
      have hcell := (hx i (by omega)).1
      rw [Go.WideShapes.add_plain] at hcell
      exact ⟨b, off, rfl, Nat.zero_le _, by simpa using hcell⟩

/-- A list of instructions that came in. -/
theorem read_code {t e : TypeId} {f0 f1 : Field} {fuel : Nat} {v : Value} {y : DataW H × List MemPlace} (ht : P.underlying t = some (.slice e)) (he : P.underlying e = some (.struct #[f0, f1]))
    (ce : P.cellsOf e = 2) (o0 : f0.offset = 0) (o1 : f1.offset = 1) (c0 : P.cellsOf f0.type = 1) (c1 : P.cellsOf f1.type = 1) (k0 : P.underlying f0.type = some (.int .i64)) (k1 : P.underlying f1.type = some (.int .i64))
    (h : DataW.trod enc P w base spare held fuel t [v] = some y) :
    ∃ a cap xs, v = .slice a xs.length cap ∧ xs.length ≤ maxLen ∧ CodeAt w 0 a xs := by
  rcases open_slice_pairs ht he ce o0 o1 c0 c1 h with ⟨hcs, -⟩ | ⟨a, len, cap, m, n, V0, V1, D0, D1, P0, P1, hcs, -, hl, hm, hmm, -, hx⟩
  · simp at hcs
    exact ⟨none, 0, [], by simpa using hcs, by simp, fun i hi => by simp at hi⟩
  · simp at hcs
    have hlm : len ≤ m := by rw [hmm]; split <;> omega
    obtain ⟨q, hq⟩ := choose_lt (α := Int × Int) (n := m) (p := fun i z => V0 i = .int .i64 z.1 ∧ V1 i = .int .i64 z.2) (fun i hi => by
      obtain ⟨-, -, g0, g1⟩ := hx i hi
      obtain ⟨z0, e0, -, -⟩ := DataW.trod_int k0 g0
      obtain ⟨z1, e1, -, -⟩ := DataW.trod_int k1 g1
      exact ⟨(z0, z1), by simpa using e0, by simpa using e1⟩)
    refine ⟨some a, cap, (List.range len).map q, by simpa using hcs, by simp; omega, ?_⟩
    intro i hi
    have hi' : i < len := by simpa using hi
    obtain ⟨h0, h1, -, -⟩ := hx i (by omega)
    rw [(hq i (by omega)).1] at h0
    rw [(hq i (by omega)).2] at h1
    obtain ⟨b, off, rfl⟩ := plain_of (by simpa using (hx 0 (by omega)).1)
    rw [Go.WideShapes.add_plain] at h0
    rw [Go.WideShapes.add_plain, ← Nat.add_assoc] at h1
    exact ⟨b, off, rfl, Nat.zero_le _, by simpa using h0, by simpa using h1⟩

/-- A list of functions that came in. -/
theorem read_fns {t e tc ec : TypeId} {f0 f1 f2 g0 g1 : Field} {fuel : Nat} {v : Value} {y : DataW H × List MemPlace} (ht : P.underlying t = some (.slice e)) (he : P.underlying e = some (.struct #[f0, f1, f2]))
    (ce : P.cellsOf e = 3) (o0 : f0.offset = 0) (o1 : f1.offset = 1) (o2 : f2.offset = 2) (c0 : P.cellsOf f0.type = 1) (c1 : P.cellsOf f1.type = 1) (c2 : P.cellsOf f2.type = 1)
    (k0 : P.underlying f0.type = some (.int .i64)) (k1 : P.underlying f1.type = some (.int .i64)) (k2 : f2.type = tc)
    (htc : P.underlying tc = some (.slice ec)) (hec : P.underlying ec = some (.struct #[g0, g1]))
    (cec : P.cellsOf ec = 2) (p0 : g0.offset = 0) (p1 : g1.offset = 1) (d0 : P.cellsOf g0.type = 1) (d1 : P.cellsOf g1.type = 1) (l0 : P.underlying g0.type = some (.int .i64)) (l1 : P.underlying g1.type = some (.int .i64))
    (h : DataW.trod enc P w base spare held fuel t [v] = some y) :
    ∃ a cap fs, v = .slice a fs.length cap ∧ fs.length ≤ maxLen ∧ (∀ f ∈ fs, f.code.length ≤ maxLen) ∧ FnsAt w 0 a fs := by
  rcases open_slice ht h with ⟨hcs, -⟩ | ⟨a, len, cap, m, n, D, Pl, hcs, -, hl, hm, hmm, -, hx⟩
  · simp at hcs
    exact ⟨none, 0, [], by simpa using hcs, by simp, by simp, fun i hi => by simp at hi⟩
  · simp at hcs
    have hlm : len ≤ m := by rw [hmm]; split <;> omega
    have inh : Inhabited Fn := ⟨⟨0, 0, []⟩⟩
    have hplain : ∀ i, i < m → ∃ b off, a = ⟨b, off, none⟩ := fun i hi => by
      obtain ⟨cs', h1, -⟩ := hx 0 (by omega)
      rw [ce] at h1
      obtain ⟨_, hlen, hcell⟩ := World.cells?_some h1
      have e0 := hcell 0 (by omega)
      rw [add_add] at e0
      match cs', hlen with
      | [v0, v1, v2], _ => exact plain_of (by simpa using e0)
    obtain ⟨q, hq⟩ := choose_lt (α := Fn) (n := m) (p := fun i z => z.code.length ≤ maxLen ∧ ∃ b off ca cc, a = ⟨b, off, none⟩ ∧ w.cell? ⟨b, off + i * 3, none⟩ = some (.int .i64 z.params) ∧
        w.cell? ⟨b, off + i * 3 + 1, none⟩ = some (.int .i64 z.locals) ∧ w.cell? ⟨b, off + i * 3 + 2, none⟩ = some (.slice ca z.code.length cc) ∧ CodeAt w 0 ca z.code) (fun i hi => by
      obtain ⟨cs', h1, h2⟩ := hx i hi
      rw [ce] at h1
      obtain ⟨_, hlen, hcell⟩ := World.cells?_some h1
      obtain ⟨y0, y1, y2, n', -, -, t0, t1, t2⟩ := trod_struct3 he h2
      match cs', hlen with
      | [v0, v1, v2], _ =>
        simp [o0, o1, o2, c0, c1, c2] at t0 t1 t2
        have e0 := hcell 0 (by omega)
        have e1 := hcell 1 (by omega)
        have e2 := hcell 2 (by omega)
        rw [add_add] at e0 e1 e2
        simp at e0 e1 e2
        obtain ⟨z0, x0, -, -⟩ := DataW.trod_int k0 t0
        obtain ⟨z1, x1, -, -⟩ := DataW.trod_int k1 t1
        rw [k2] at t2
        obtain ⟨ca, cc, xs, x2, hxs, hcode⟩ := read_code htc hec cec p0 p1 d0 d1 l0 l1 t2
        simp at x0 x1
        rw [x0] at e0
        rw [x1] at e1
        rw [x2] at e2
        obtain ⟨b, off, rfl⟩ := hplain i hi
        rw [Go.WideShapes.add_plain] at e0
        rw [Go.WideShapes.add_plain, ← Nat.add_assoc] at e1 e2
        exact ⟨⟨z0, z1, xs⟩, hxs, b, off, ca, cc, rfl, e0, e1, e2, hcode⟩)
    refine ⟨some a, cap, (List.range len).map q, by simpa using hcs, by simp; omega, ?_, ?_⟩
    · intro f hf
      obtain ⟨i, hi, rfl⟩ := List.mem_map.1 hf
      exact (hq i (by have := List.mem_range.1 hi; omega)).1
    · intro i hi
      have hi' : i < len := by simpa using hi
      obtain ⟨-, b, off, ca, cc, rfl, r0, r1, r2, r3⟩ := hq i (by omega)
      exact ⟨b, off, ca, cc, rfl, Nat.zero_le _, by simpa using r0, by simpa using r1, by simpa using r2, by simpa using r3⟩
end
end Go.Proofs.YtcbknjjnphknbaaGreatDoor

namespace Go.Proofs.YtcbknjjnphknbaaGreatDoor
open Go.RowKit

structure Si where
  f : Int
  pc : Int
  seen : Int
  target : Int

/-- A site as a value. -/
def Si.cells (s : Si) : Array Value := #[.int .i64 s.f, .int .i64 s.pc, .int .i64 s.seen, .int .i64 s.target]

/-- The cells of a list of sites. -/
def SitesAt (w : World) (lo : Nat) (a : Option Addr) (ss : List Si) : Prop :=
  ∀ i (h : i < ss.length), ∃ b off, a = some ⟨b, off, none⟩ ∧ lo ≤ b ∧ w.cell? ⟨b, off + i * 4, none⟩ = some (.int .i64 ss[i].f) ∧ w.cell? ⟨b, off + i * 4 + 1, none⟩ = some (.int .i64 ss[i].pc) ∧ w.cell? ⟨b, off + i * 4 + 2, none⟩ = some (.int .i64 ss[i].seen) ∧ w.cell? ⟨b, off + i * 4 + 3, none⟩ = some (.int .i64 ss[i].target)

theorem SitesAt.mono {w w' : World} {lo : Nat} {a : Option Addr} {ss : List Si} (h : SitesAt w lo a ss) (hb : Below w.heap.size w w') : SitesAt w' lo a ss := by
  intro i hi
  obtain ⟨b, off, h1, h2, h3, h4, h5, h6⟩ := h i hi
  exact ⟨b, off, h1, h2, cell_later hb h3, cell_later hb h4, cell_later hb h5, cell_later hb h6⟩
theorem SitesAt.low {w : World} {lo lo' : Nat} {a : Option Addr} {ss : List Si} (h : SitesAt w lo a ss) (hl : lo' ≤ lo) : SitesAt w lo' a ss := by
  intro i hi
  obtain ⟨b, off, h1, h2, h3⟩ := h i hi
  exact ⟨b, off, h1, Nat.le_trans hl h2, h3⟩

open Go.Deep Go.ChangeShapes Go.WideShapes Go.Joins

section
variable {H : Type} {enc : TypeId × Value → H} {P : Program} {w : World} {base : Nat} {spare : Nat → Bool} {held : Bool}

/-- A list of sites that came in. -/
theorem read_sites {t e : TypeId} {f0 f1 f2 f3 : Field} (ht : P.underlying t = some (.slice e)) (he : P.underlying e = some (.struct #[f0, f1, f2, f3]))
    (ce : P.cellsOf e = 4) (o0 : f0.offset = 0) (o1 : f1.offset = 1) (o2 : f2.offset = 2) (o3 : f3.offset = 3) (c0 : P.cellsOf f0.type = 1) (c1 : P.cellsOf f1.type = 1) (c2 : P.cellsOf f2.type = 1) (c3 : P.cellsOf f3.type = 1)
    (k0 : P.underlying f0.type = some (.int .i64)) (k1 : P.underlying f1.type = some (.int .i64)) (k2 : P.underlying f2.type = some (.int .i64)) (k3 : P.underlying f3.type = some (.int .i64))
    {fuel : Nat} {v : Value} {y : DataW H × List MemPlace} (h : DataW.trod enc P w base spare held fuel t [v] = some y) :
    ∃ a cap ss, v = .slice a ss.length cap ∧ ss.length ≤ maxLen ∧ SitesAt w 0 a ss := by
  rcases open_slice ht h with ⟨hcs, -⟩ | ⟨a, len, cap, m, n, D, Pl, hcs, -, hl, hm, hmm, -, hx⟩
  · simp at hcs
    exact ⟨none, 0, [], by simpa using hcs, by simp, fun i hi => by simp at hi⟩
  · simp at hcs
    have hlm : len ≤ m := by rw [hmm]; split <;> omega
    have inh : Inhabited Si := ⟨⟨0, 0, 0, 0⟩⟩
    have hplain : ∀ i, i < m → ∃ b off, a = ⟨b, off, none⟩ := fun i hi => by
      obtain ⟨cs', h1, -⟩ := hx 0 (by omega)
      rw [ce] at h1
      obtain ⟨_, hlen, hcell⟩ := World.cells?_some h1
      have e0 := hcell 0 (by omega)
      rw [add_add] at e0
      match cs', hlen with
      | [v0, v1, v2, v3], _ => exact plain_of (by simpa using e0)
    obtain ⟨q, hq⟩ := choose_lt (α := Si) (n := m) (p := fun i z => ∃ b off, a = ⟨b, off, none⟩ ∧ w.cell? ⟨b, off + i * 4, none⟩ = some (.int .i64 z.f) ∧
        w.cell? ⟨b, off + i * 4 + 1, none⟩ = some (.int .i64 z.pc) ∧ w.cell? ⟨b, off + i * 4 + 2, none⟩ = some (.int .i64 z.seen) ∧ w.cell? ⟨b, off + i * 4 + 3, none⟩ = some (.int .i64 z.target)) (fun i hi => by
      obtain ⟨cs', h1, h2⟩ := hx i hi
      rw [ce] at h1
      obtain ⟨_, hlen, hcell⟩ := World.cells?_some h1
      obtain ⟨y0, y1, y2, y3, n', -, -, t0, t1, t2, t3⟩ := trod_struct4 he h2
      match cs', hlen with
      | [v0, v1, v2, v3], _ =>
        simp [o0, o1, o2, o3, c0, c1, c2, c3] at t0 t1 t2 t3
        have e0 := hcell 0 (by omega)
        have e1 := hcell 1 (by omega)
        have e2 := hcell 2 (by omega)
        have e3 := hcell 3 (by omega)
        rw [add_add] at e0 e1 e2 e3
        simp at e0 e1 e2 e3
        obtain ⟨z0, x0, -, -⟩ := DataW.trod_int k0 t0
        obtain ⟨z1, x1, -, -⟩ := DataW.trod_int k1 t1
        obtain ⟨z2, x2, -, -⟩ := DataW.trod_int k2 t2
        obtain ⟨z3, x3, -, -⟩ := DataW.trod_int k3 t3
        simp at x0 x1 x2 x3
        rw [x0] at e0
        rw [x1] at e1
        rw [x2] at e2
        rw [x3] at e3
        obtain ⟨b, off, rfl⟩ := hplain i hi
        rw [Go.WideShapes.add_plain] at e0
        rw [Go.WideShapes.add_plain, ← Nat.add_assoc] at e1 e2 e3
        exact ⟨⟨z0, z1, z2, z3⟩, b, off, rfl, e0, e1, e2, e3⟩)
    refine ⟨some a, cap, (List.range len).map q, by simpa using hcs, by simp; omega, ?_⟩
    intro i hi
    have hi' : i < len := by simpa using hi
    obtain ⟨b, off, rfl, r0, r1, r2, r3⟩ := hq i (by omega)
    exact ⟨b, off, rfl, Nat.zero_le _, by simpa using r0, by simpa using r1, by simpa using r2, by simpa using r3⟩
end
end Go.Proofs.YtcbknjjnphknbaaGreatDoor

namespace Go.Proofs.YtcbknjjnphknbaaGreatDoor
open Go.RowKit

/-- A source. -/
structure Sr where
  k : Int
  n : Int
  v : Vl
/-- A frame of an exit. -/
structure EF where
  fn : Int
  pc : Int
  locals : List Sr
  stack : List Sr
/-- An unmade record of an exit. -/
structure ER where
  fields : List Sr
/-- An exit. -/
structure Ex where
  kind : Int
  spec : Si
  frames : List EF
  recs : List ER
/-- An op. -/
structure Fo where
  op : Int
  d : Int
  a : Int
  b : Int
  x : Int
  f : Int
  p : Int
  v : Vl
/-- Code. -/
structure FastD where
  fn : Int
  entry : Int
  vals : Int
  nums : Int
  ops : List Fo
  exits : List Ex

def LMax {α : Type} (p : α → Prop) (l : List α) : Prop := l.length ≤ maxLen ∧ ∀ x ∈ l, p x
def LSmall {α : Type} (p : α → Prop) (l : List α) : Prop := l.length ≤ 1048576 ∧ ∀ x ∈ l, p x
def SrMax (x : Sr) : Prop := x.v.s.size ≤ maxLen
def SrSmall (x : Sr) : Prop := x.v.s.size ≤ 1048576
def EFMax (x : EF) : Prop := LMax SrMax x.locals ∧ LMax SrMax x.stack
def EFSmall (x : EF) : Prop := LSmall SrSmall x.locals ∧ LSmall SrSmall x.stack
def ERMax (x : ER) : Prop := LMax SrMax x.fields
def ERSmall (x : ER) : Prop := LSmall SrSmall x.fields
def ExMax (x : Ex) : Prop := LMax EFMax x.frames ∧ LMax ERMax x.recs
def ExSmall (x : Ex) : Prop := LSmall EFSmall x.frames ∧ LSmall ERSmall x.recs
def FoMax (x : Fo) : Prop := x.v.s.size ≤ maxLen
def FoSmall (x : Fo) : Prop := x.v.s.size ≤ 1048576
def FastMax (x : FastD) : Prop := LMax FoMax x.ops ∧ LMax ExMax x.exits
def FastSmall (x : FastD) : Prop := LSmall FoSmall x.ops ∧ LSmall ExSmall x.exits

/-- The cells of a list of these. -/
def SrsAt (w : World) (lo : Nat) (a : Option Addr) (xs : List Sr) : Prop :=
  ∀ i (h : i < xs.length), ∃ b off, a = some ⟨b, off, none⟩ ∧ lo ≤ b ∧ w.cell? ⟨b, off + i * 5, none⟩ = some (.int .i64 xs[i].k) ∧ w.cell? ⟨b, off + i * 5 + 1, none⟩ = some (.int .i64 xs[i].n) ∧ w.cell? ⟨b, off + i * 5 + 2, none⟩ = some (.int .i64 xs[i].v.k) ∧ w.cell? ⟨b, off + i * 5 + 3, none⟩ = some (.int .i64 xs[i].v.n) ∧ w.cell? ⟨b, off + i * 5 + 4, none⟩ = some (.string xs[i].v.s)
theorem SrsAt.mono {w w' : World} {lo : Nat} {a : Option Addr} {xs : List Sr} (h : SrsAt w lo a xs) (hb : Below w.heap.size w w') : SrsAt w' lo a xs := by
  intro i hi
  obtain ⟨b, off, e1, e2, h0, h1, h2, h3, h4⟩ := h i hi
  exact ⟨b, off, e1, e2, cell_later hb h0, cell_later hb h1, cell_later hb h2, cell_later hb h3, cell_later hb h4⟩
theorem SrsAt.above {w w' : World} {lo : Nat} {a : Option Addr} {xs : List Sr} (h : SrsAt w lo a xs) (hb : Above lo w w') : SrsAt w' lo a xs := by
  intro i hi
  obtain ⟨b, off, e1, e2, h0, h1, h2, h3, h4⟩ := h i hi
  exact ⟨b, off, e1, e2, hb.cell e2 h0, hb.cell e2 h1, hb.cell e2 h2, hb.cell e2 h3, hb.cell e2 h4⟩
theorem SrsAt.low {w : World} {lo lo' : Nat} {a : Option Addr} {xs : List Sr} (h : SrsAt w lo a xs) (hl : lo' ≤ lo) : SrsAt w lo' a xs := by
  intro i hi
  obtain ⟨b, off, e1, e2, h0, h1, h2, h3, h4⟩ := h i hi
  exact ⟨b, off, e1, by omega, h0, h1, h2, h3, h4⟩

/-- The cells of a list of these. -/
def EFsAt (w : World) (lo : Nat) (a : Option Addr) (xs : List EF) : Prop :=
  ∀ i (h : i < xs.length), ∃ b off a0 c0 a1 c1, a = some ⟨b, off, none⟩ ∧ lo ≤ b ∧ w.cell? ⟨b, off + i * 4, none⟩ = some (.int .i64 xs[i].fn) ∧ w.cell? ⟨b, off + i * 4 + 1, none⟩ = some (.int .i64 xs[i].pc) ∧ w.cell? ⟨b, off + i * 4 + 2, none⟩ = some (.slice a0 xs[i].locals.length c0) ∧ w.cell? ⟨b, off + i * 4 + 3, none⟩ = some (.slice a1 xs[i].stack.length c1) ∧ SrsAt w lo a0 xs[i].locals ∧ SrsAt w lo a1 xs[i].stack
theorem EFsAt.mono {w w' : World} {lo : Nat} {a : Option Addr} {xs : List EF} (h : EFsAt w lo a xs) (hb : Below w.heap.size w w') : EFsAt w' lo a xs := by
  intro i hi
  obtain ⟨b, off, a0, c0, a1, c1, e1, e2, h0, h1, h2, h3, p0, p1⟩ := h i hi
  exact ⟨b, off, a0, c0, a1, c1, e1, e2, cell_later hb h0, cell_later hb h1, cell_later hb h2, cell_later hb h3, p0.mono hb, p1.mono hb⟩
theorem EFsAt.above {w w' : World} {lo : Nat} {a : Option Addr} {xs : List EF} (h : EFsAt w lo a xs) (hb : Above lo w w') : EFsAt w' lo a xs := by
  intro i hi
  obtain ⟨b, off, a0, c0, a1, c1, e1, e2, h0, h1, h2, h3, p0, p1⟩ := h i hi
  exact ⟨b, off, a0, c0, a1, c1, e1, e2, hb.cell e2 h0, hb.cell e2 h1, hb.cell e2 h2, hb.cell e2 h3, p0.above hb, p1.above hb⟩
theorem EFsAt.low {w : World} {lo lo' : Nat} {a : Option Addr} {xs : List EF} (h : EFsAt w lo a xs) (hl : lo' ≤ lo) : EFsAt w lo' a xs := by
  intro i hi
  obtain ⟨b, off, a0, c0, a1, c1, e1, e2, h0, h1, h2, h3, p0, p1⟩ := h i hi
  exact ⟨b, off, a0, c0, a1, c1, e1, by omega, h0, h1, h2, h3, p0.low hl, p1.low hl⟩

/-- The cells of a list of these. -/
def ERsAt (w : World) (lo : Nat) (a : Option Addr) (xs : List ER) : Prop :=
  ∀ i (h : i < xs.length), ∃ b off a0 c0, a = some ⟨b, off, none⟩ ∧ lo ≤ b ∧ w.cell? ⟨b, off + i, none⟩ = some (.slice a0 xs[i].fields.length c0) ∧ SrsAt w lo a0 xs[i].fields
theorem ERsAt.mono {w w' : World} {lo : Nat} {a : Option Addr} {xs : List ER} (h : ERsAt w lo a xs) (hb : Below w.heap.size w w') : ERsAt w' lo a xs := by
  intro i hi
  obtain ⟨b, off, a0, c0, e1, e2, h0, p0⟩ := h i hi
  exact ⟨b, off, a0, c0, e1, e2, cell_later hb h0, p0.mono hb⟩
theorem ERsAt.above {w w' : World} {lo : Nat} {a : Option Addr} {xs : List ER} (h : ERsAt w lo a xs) (hb : Above lo w w') : ERsAt w' lo a xs := by
  intro i hi
  obtain ⟨b, off, a0, c0, e1, e2, h0, p0⟩ := h i hi
  exact ⟨b, off, a0, c0, e1, e2, hb.cell e2 h0, p0.above hb⟩
theorem ERsAt.low {w : World} {lo lo' : Nat} {a : Option Addr} {xs : List ER} (h : ERsAt w lo a xs) (hl : lo' ≤ lo) : ERsAt w lo' a xs := by
  intro i hi
  obtain ⟨b, off, a0, c0, e1, e2, h0, p0⟩ := h i hi
  exact ⟨b, off, a0, c0, e1, by omega, h0, p0.low hl⟩

/-- The cells of a list of these. -/
def ExsAt (w : World) (lo : Nat) (a : Option Addr) (xs : List Ex) : Prop :=
  ∀ i (h : i < xs.length), ∃ b off a0 c0 a1 c1, a = some ⟨b, off, none⟩ ∧ lo ≤ b ∧ w.cell? ⟨b, off + i * 7, none⟩ = some (.int .i64 xs[i].kind) ∧ w.cell? ⟨b, off + i * 7 + 1, none⟩ = some (.int .i64 xs[i].spec.f) ∧ w.cell? ⟨b, off + i * 7 + 2, none⟩ = some (.int .i64 xs[i].spec.pc) ∧ w.cell? ⟨b, off + i * 7 + 3, none⟩ = some (.int .i64 xs[i].spec.seen) ∧ w.cell? ⟨b, off + i * 7 + 4, none⟩ = some (.int .i64 xs[i].spec.target) ∧ w.cell? ⟨b, off + i * 7 + 5, none⟩ = some (.slice a0 xs[i].frames.length c0) ∧ w.cell? ⟨b, off + i * 7 + 6, none⟩ = some (.slice a1 xs[i].recs.length c1) ∧ EFsAt w lo a0 xs[i].frames ∧ ERsAt w lo a1 xs[i].recs
theorem ExsAt.mono {w w' : World} {lo : Nat} {a : Option Addr} {xs : List Ex} (h : ExsAt w lo a xs) (hb : Below w.heap.size w w') : ExsAt w' lo a xs := by
  intro i hi
  obtain ⟨b, off, a0, c0, a1, c1, e1, e2, h0, h1, h2, h3, h4, h5, h6, p0, p1⟩ := h i hi
  exact ⟨b, off, a0, c0, a1, c1, e1, e2, cell_later hb h0, cell_later hb h1, cell_later hb h2, cell_later hb h3, cell_later hb h4, cell_later hb h5, cell_later hb h6, p0.mono hb, p1.mono hb⟩
theorem ExsAt.above {w w' : World} {lo : Nat} {a : Option Addr} {xs : List Ex} (h : ExsAt w lo a xs) (hb : Above lo w w') : ExsAt w' lo a xs := by
  intro i hi
  obtain ⟨b, off, a0, c0, a1, c1, e1, e2, h0, h1, h2, h3, h4, h5, h6, p0, p1⟩ := h i hi
  exact ⟨b, off, a0, c0, a1, c1, e1, e2, hb.cell e2 h0, hb.cell e2 h1, hb.cell e2 h2, hb.cell e2 h3, hb.cell e2 h4, hb.cell e2 h5, hb.cell e2 h6, p0.above hb, p1.above hb⟩
theorem ExsAt.low {w : World} {lo lo' : Nat} {a : Option Addr} {xs : List Ex} (h : ExsAt w lo a xs) (hl : lo' ≤ lo) : ExsAt w lo' a xs := by
  intro i hi
  obtain ⟨b, off, a0, c0, a1, c1, e1, e2, h0, h1, h2, h3, h4, h5, h6, p0, p1⟩ := h i hi
  exact ⟨b, off, a0, c0, a1, c1, e1, by omega, h0, h1, h2, h3, h4, h5, h6, p0.low hl, p1.low hl⟩

/-- The cells of a list of these. -/
def FosAt (w : World) (lo : Nat) (a : Option Addr) (xs : List Fo) : Prop :=
  ∀ i (h : i < xs.length), ∃ b off, a = some ⟨b, off, none⟩ ∧ lo ≤ b ∧ w.cell? ⟨b, off + i * 10, none⟩ = some (.int .i64 xs[i].op) ∧ w.cell? ⟨b, off + i * 10 + 1, none⟩ = some (.int .i64 xs[i].d) ∧ w.cell? ⟨b, off + i * 10 + 2, none⟩ = some (.int .i64 xs[i].a) ∧ w.cell? ⟨b, off + i * 10 + 3, none⟩ = some (.int .i64 xs[i].b) ∧ w.cell? ⟨b, off + i * 10 + 4, none⟩ = some (.int .i64 xs[i].x) ∧ w.cell? ⟨b, off + i * 10 + 5, none⟩ = some (.int .i64 xs[i].f) ∧ w.cell? ⟨b, off + i * 10 + 6, none⟩ = some (.int .i64 xs[i].p) ∧ w.cell? ⟨b, off + i * 10 + 7, none⟩ = some (.int .i64 xs[i].v.k) ∧ w.cell? ⟨b, off + i * 10 + 8, none⟩ = some (.int .i64 xs[i].v.n) ∧ w.cell? ⟨b, off + i * 10 + 9, none⟩ = some (.string xs[i].v.s)
theorem FosAt.mono {w w' : World} {lo : Nat} {a : Option Addr} {xs : List Fo} (h : FosAt w lo a xs) (hb : Below w.heap.size w w') : FosAt w' lo a xs := by
  intro i hi
  obtain ⟨b, off, e1, e2, h0, h1, h2, h3, h4, h5, h6, h7, h8, h9⟩ := h i hi
  exact ⟨b, off, e1, e2, cell_later hb h0, cell_later hb h1, cell_later hb h2, cell_later hb h3, cell_later hb h4, cell_later hb h5, cell_later hb h6, cell_later hb h7, cell_later hb h8, cell_later hb h9⟩
theorem FosAt.above {w w' : World} {lo : Nat} {a : Option Addr} {xs : List Fo} (h : FosAt w lo a xs) (hb : Above lo w w') : FosAt w' lo a xs := by
  intro i hi
  obtain ⟨b, off, e1, e2, h0, h1, h2, h3, h4, h5, h6, h7, h8, h9⟩ := h i hi
  exact ⟨b, off, e1, e2, hb.cell e2 h0, hb.cell e2 h1, hb.cell e2 h2, hb.cell e2 h3, hb.cell e2 h4, hb.cell e2 h5, hb.cell e2 h6, hb.cell e2 h7, hb.cell e2 h8, hb.cell e2 h9⟩
theorem FosAt.low {w : World} {lo lo' : Nat} {a : Option Addr} {xs : List Fo} (h : FosAt w lo a xs) (hl : lo' ≤ lo) : FosAt w lo' a xs := by
  intro i hi
  obtain ⟨b, off, e1, e2, h0, h1, h2, h3, h4, h5, h6, h7, h8, h9⟩ := h i hi
  exact ⟨b, off, e1, by omega, h0, h1, h2, h3, h4, h5, h6, h7, h8, h9⟩

/-- The cells of code. -/
def fastCells (oa ea : Option Addr) (oc ec : Nat) (d : FastD) : Array Value := #[.int .i64 d.fn, .int .i64 d.entry, .int .i64 d.vals, .int .i64 d.nums, .slice oa d.ops.length oc, .slice ea d.exits.length ec]
structure FastAt (w : World) (lo : Nat) (oa ea : Option Addr) (d : FastD) : Prop where
  ops : FosAt w lo oa d.ops
  exits : ExsAt w lo ea d.exits
theorem FastAt.mono {w w' : World} {lo : Nat} {oa ea : Option Addr} {d : FastD} (h : FastAt w lo oa ea d) (hb : Below w.heap.size w w') : FastAt w' lo oa ea d := ⟨h.ops.mono hb, h.exits.mono hb⟩
theorem FastAt.low {w : World} {lo lo' : Nat} {oa ea : Option Addr} {d : FastD} (h : FastAt w lo oa ea d) (hl : lo' ≤ lo) : FastAt w lo' oa ea d := ⟨h.ops.low hl, h.exits.low hl⟩
theorem FastAt.above {w w' : World} {lo : Nat} {oa ea : Option Addr} {d : FastD} (h : FastAt w lo oa ea d) (hb : Above lo w w') : FastAt w' lo oa ea d := ⟨h.ops.above hb, h.exits.above hb⟩
end Go.Proofs.YtcbknjjnphknbaaGreatDoor
