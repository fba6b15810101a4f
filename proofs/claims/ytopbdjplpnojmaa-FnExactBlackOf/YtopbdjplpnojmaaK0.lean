/-
  Code as plain data, and which cells of memory hold it.
-/
import Derived.Test.YtopbdjplpnojmaaM0
import Derived.Test.YtopbdjplpnojmaaY1
namespace Go.Proofs.Ytopbdjplpnojmaa
open Go.RowKit

/-- A source. -/
structure Sr where
  k : Int
  n : Int
  v : Vl
/-- A frame of an exit. -/
structure EF where
  fn : Int
  pc : Int
  locals : List Sr
  stack : List Sr
/-- An unmade record of an exit. -/
structure ER where
  fields : List Sr
/-- An exit. -/
structure Ex where
  kind : Int
  spec : Si
  frames : List EF
  recs : List ER
/-- An op. -/
structure Fo where
  op : Int
  d : Int
  a : Int
  b : Int
  x : Int
  f : Int
  p : Int
  v : Vl
/-- Code. -/
structure FastD where
  fn : Int
  entry : Int
  vals : Int
  nums : Int
  ops : List Fo
  exits : List Ex

def LMax {α : Type} (p : α → Prop) (l : List α) : Prop := l.length ≤ maxLen ∧ ∀ x ∈ l, p x
def LSmall {α : Type} (p : α → Prop) (l : List α) : Prop := l.length ≤ 1048576 ∧ ∀ x ∈ l, p x
def SrMax (x : Sr) : Prop := x.v.s.size ≤ maxLen
def SrSmall (x : Sr) : Prop := x.v.s.size ≤ 1048576
def EFMax (x : EF) : Prop := LMax SrMax x.locals ∧ LMax SrMax x.stack
def EFSmall (x : EF) : Prop := LSmall SrSmall x.locals ∧ LSmall SrSmall x.stack
def ERMax (x : ER) : Prop := LMax SrMax x.fields
def ERSmall (x : ER) : Prop := LSmall SrSmall x.fields
def ExMax (x : Ex) : Prop := LMax EFMax x.frames ∧ LMax ERMax x.recs
def ExSmall (x : Ex) : Prop := LSmall EFSmall x.frames ∧ LSmall ERSmall x.recs
def FoMax (x : Fo) : Prop := x.v.s.size ≤ maxLen
def FoSmall (x : Fo) : Prop := x.v.s.size ≤ 1048576
def FastMax (x : FastD) : Prop := LMax FoMax x.ops ∧ LMax ExMax x.exits
def FastSmall (x : FastD) : Prop := LSmall FoSmall x.ops ∧ LSmall ExSmall x.exits

/-- The cells of a list of these. -/
def SrsAt (w : World) (lo : Nat) (a : Option Addr) (xs : List Sr) : Prop :=
  ∀ i (h : i < xs.length), ∃ b off, a = some ⟨b, off, none⟩ ∧ lo ≤ b ∧ w.cell? ⟨b, off + i * 5, none⟩ = some (.int .i64 xs[i].k) ∧ w.cell? ⟨b, off + i * 5 + 1, none⟩ = some (.int .i64 xs[i].n) ∧ w.cell? ⟨b, off + i * 5 + 2, none⟩ = some (.int .i64 xs[i].v.k) ∧ w.cell? ⟨b, off + i * 5 + 3, none⟩ = some (.int .i64 xs[i].v.n) ∧ w.cell? ⟨b, off + i * 5 + 4, none⟩ = some (.string xs[i].v.s)
theorem SrsAt.mono {w w' : World} {lo : Nat} {a : Option Addr} {xs : List Sr} (h : SrsAt w lo a xs) (hb : Below w.heap.size w w') : SrsAt w' lo a xs := by
  intro i hi
  obtain ⟨b, off, e1, e2, h0, h1, h2, h3, h4⟩ := h i hi
  exact ⟨b, off, e1, e2, cell_later hb h0, cell_later hb h1, cell_later hb h2, cell_later hb h3, cell_later hb h4⟩
theorem SrsAt.above {w w' : World} {lo : Nat} {a : Option Addr} {xs : List Sr} (h : SrsAt w lo a xs) (hb : Above lo w w') : SrsAt w' lo a xs := by
  intro i hi
  obtain ⟨b, off, e1, e2, h0, h1, h2, h3, h4⟩ := h i hi
  exact ⟨b, off, e1, e2, hb.cell e2 h0, hb.cell e2 h1, hb.cell e2 h2, hb.cell e2 h3, hb.cell e2 h4⟩
theorem SrsAt.low {w : World} {lo lo' : Nat} {a : Option Addr} {xs : List Sr} (h : SrsAt w lo a xs) (hl : lo' ≤ lo) : SrsAt w lo' a xs := by
  intro i hi
  obtain ⟨b, off, e1, e2, h0, h1, h2, h3, h4⟩ := h i hi
  exact ⟨b, off, e1, by omega, h0, h1, h2, h3, h4⟩

/-- The cells of a list of these. -/
def EFsAt (w : World) (lo : Nat) (a : Option Addr) (xs : List EF) : Prop :=
  ∀ i (h : i < xs.length), ∃ b off a0 c0 a1 c1, a = some ⟨b, off, none⟩ ∧ lo ≤ b ∧ w.cell? ⟨b, off + i * 4, none⟩ = some (.int .i64 xs[i].fn) ∧ w.cell? ⟨b, off + i * 4 + 1, none⟩ = some (.int .i64 xs[i].pc) ∧ w.cell? ⟨b, off + i * 4 + 2, none⟩ = some (.slice a0 xs[i].locals.length c0) ∧ w.cell? ⟨b, off + i * 4 + 3, none⟩ = some (.slice a1 xs[i].stack.length c1) ∧ SrsAt w lo a0 xs[i].locals ∧ SrsAt w lo a1 xs[i].stack
theorem EFsAt.mono {w w' : World} {lo : Nat} {a : Option Addr} {xs : List EF} (h : EFsAt w lo a xs) (hb : Below w.heap.size w w') : EFsAt w' lo a xs := by
  intro i hi
  obtain ⟨b, off, a0, c0, a1, c1, e1, e2, h0, h1, h2, h3, p0, p1⟩ := h i hi
  exact ⟨b, off, a0, c0, a1, c1, e1, e2, cell_later hb h0, cell_later hb h1, cell_later hb h2, cell_later hb h3, p0.mono hb, p1.mono hb⟩
theorem EFsAt.above {w w' : World} {lo : Nat} {a : Option Addr} {xs : List EF} (h : EFsAt w lo a xs) (hb : Above lo w w') : EFsAt w' lo a xs := by
  intro i hi
  obtain ⟨b, off, a0, c0, a1, c1, e1, e2, h0, h1, h2, h3, p0, p1⟩ := h i hi
  exact ⟨b, off, a0, c0, a1, c1, e1, e2, hb.cell e2 h0, hb.cell e2 h1, hb.cell e2 h2, hb.cell e2 h3, p0.above hb, p1.above hb⟩
theorem EFsAt.low {w : World} {lo lo' : Nat} {a : Option Addr} {xs : List EF} (h : EFsAt w lo a xs) (hl : lo' ≤ lo) : EFsAt w lo' a xs := by
  intro i hi
  obtain ⟨b, off, a0, c0, a1, c1, e1, e2, h0, h1, h2, h3, p0, p1⟩ := h i hi
  exact ⟨b, off, a0, c0, a1, c1, e1, by omega, h0, h1, h2, h3, p0.low hl, p1.low hl⟩

/-- The cells of a list of these. -/
def ERsAt (w : World) (lo : Nat) (a : Option Addr) (xs : List ER) : Prop :=
  ∀ i (h : i < xs.length), ∃ b off a0 c0, a = some ⟨b, off, none⟩ ∧ lo ≤ b ∧ w.cell? ⟨b, off + i, none⟩ = some (.slice a0 xs[i].fields.length c0) ∧ SrsAt w lo a0 xs[i].fields
theorem ERsAt.mono {w w' : World} {lo : Nat} {a : Option Addr} {xs : List ER} (h : ERsAt w lo a xs) (hb : Below w.heap.size w w') : ERsAt w' lo a xs := by
  intro i hi
  obtain ⟨b, off, a0, c0, e1, e2, h0, p0⟩ := h i hi
  exact ⟨b, off, a0, c0, e1, e2, cell_later hb h0, p0.mono hb⟩
theorem ERsAt.above {w w' : World} {lo : Nat} {a : Option Addr} {xs : List ER} (h : ERsAt w lo a xs) (hb : Above lo w w') : ERsAt w' lo a xs := by
  intro i hi
  obtain ⟨b, off, a0, c0, e1, e2, h0, p0⟩ := h i hi
  exact ⟨b, off, a0, c0, e1, e2, hb.cell e2 h0, p0.above hb⟩
theorem ERsAt.low {w : World} {lo lo' : Nat} {a : Option Addr} {xs : List ER} (h : ERsAt w lo a xs) (hl : lo' ≤ lo) : ERsAt w lo' a xs := by
  intro i hi
  obtain ⟨b, off, a0, c0, e1, e2, h0, p0⟩ := h i hi
  exact ⟨b, off, a0, c0, e1, by omega, h0, p0.low hl⟩

/-- The cells of a list of these. -/
def ExsAt (w : World) (lo : Nat) (a : Option Addr) (xs : List Ex) : Prop :=
  ∀ i (h : i < xs.length), ∃ b off a0 c0 a1 c1, a = some ⟨b, off, none⟩ ∧ lo ≤ b ∧ w.cell? ⟨b, off + i * 7, none⟩ = some (.int .i64 xs[i].kind) ∧ w.cell? ⟨b, off + i * 7 + 1, none⟩ = some (.int .i64 xs[i].spec.f) ∧ w.cell? ⟨b, off + i * 7 + 2, none⟩ = some (.int .i64 xs[i].spec.pc) ∧ w.cell? ⟨b, off + i * 7 + 3, none⟩ = some (.int .i64 xs[i].spec.seen) ∧ w.cell? ⟨b, off + i * 7 + 4, none⟩ = some (.int .i64 xs[i].spec.target) ∧ w.cell? ⟨b, off + i * 7 + 5, none⟩ = some (.slice a0 xs[i].frames.length c0) ∧ w.cell? ⟨b, off + i * 7 + 6, none⟩ = some (.slice a1 xs[i].recs.length c1) ∧ EFsAt w lo a0 xs[i].frames ∧ ERsAt w lo a1 xs[i].recs
theorem ExsAt.mono {w w' : World} {lo : Nat} {a : Option Addr} {xs : List Ex} (h : ExsAt w lo a xs) (hb : Below w.heap.size w w') : ExsAt w' lo a xs := by
  intro i hi
  obtain ⟨b, off, a0, c0, a1, c1, e1, e2, h0, h1, h2, h3, h4, h5, h6, p0, p1⟩ := h i hi
  exact ⟨b, off, a0, c0, a1, c1, e1, e2, cell_later hb h0, cell_later hb h1, cell_later hb h2, cell_later hb h3, cell_later hb h4, cell_later hb h5, cell_later hb h6, p0.mono hb, p1.mono hb⟩
theorem ExsAt.above {w w' : World} {lo : Nat} {a : Option Addr} {xs : List Ex} (h : ExsAt w lo a xs) (hb : Above lo w w') : ExsAt w' lo a xs := by
  intro i hi
  obtain ⟨b, off, a0, c0, a1, c1, e1, e2, h0, h1, h2, h3, h4, h5, h6, p0, p1⟩ := h i hi
  exact ⟨b, off, a0, c0, a1, c1, e1, e2, hb.cell e2 h0, hb.cell e2 h1, hb.cell e2 h2, hb.cell e2 h3, hb.cell e2 h4, hb.cell e2 h5, hb.cell e2 h6, p0.above hb, p1.above hb⟩
theorem ExsAt.low {w : World} {lo lo' : Nat} {a : Option Addr} {xs : List Ex} (h : ExsAt w lo a xs) (hl : lo' ≤ lo) : ExsAt w lo' a xs := by
  intro i hi
  obtain ⟨b, off, a0, c0, a1, c1, e1, e2, h0, h1, h2, h3, h4, h5, h6, p0, p1⟩ := h i hi
  exact ⟨b, off, a0, c0, a1, c1, e1, by omega, h0, h1, h2, h3, h4, h5, h6, p0.low hl, p1.low hl⟩

/-- The cells of a list of these. -/
def FosAt (w : World) (lo : Nat) (a : Option Addr) (xs : List Fo) : Prop :=
  ∀ i (h : i < xs.length), ∃ b off, a = some ⟨b, off, none⟩ ∧ lo ≤ b ∧ w.cell? ⟨b, off + i * 10, none⟩ = some (.int .i64 xs[i].op) ∧ w.cell? ⟨b, off + i * 10 + 1, none⟩ = some (.int .i64 xs[i].d) ∧ w.cell? ⟨b, off + i * 10 + 2, none⟩ = some (.int .i64 xs[i].a) ∧ w.cell? ⟨b, off + i * 10 + 3, none⟩ = some (.int .i64 xs[i].b) ∧ w.cell? ⟨b, off + i * 10 + 4, none⟩ = some (.int .i64 xs[i].x) ∧ w.cell? ⟨b, off + i * 10 + 5, none⟩ = some (.int .i64 xs[i].f) ∧ w.cell? ⟨b, off + i * 10 + 6, none⟩ = some (.int .i64 xs[i].p) ∧ w.cell? ⟨b, off + i * 10 + 7, none⟩ = some (.int .i64 xs[i].v.k) ∧ w.cell? ⟨b, off + i * 10 + 8, none⟩ = some (.int .i64 xs[i].v.n) ∧ w.cell? ⟨b, off + i * 10 + 9, none⟩ = some (.string xs[i].v.s)
theorem FosAt.mono {w w' : World} {lo : Nat} {a : Option Addr} {xs : List Fo} (h : FosAt w lo a xs) (hb : Below w.heap.size w w') : FosAt w' lo a xs := by
  intro i hi
  obtain ⟨b, off, e1, e2, h0, h1, h2, h3, h4, h5, h6, h7, h8, h9⟩ := h i hi
  exact ⟨b, off, e1, e2, cell_later hb h0, cell_later hb h1, cell_later hb h2, cell_later hb h3, cell_later hb h4, cell_later hb h5, cell_later hb h6, cell_later hb h7, cell_later hb h8, cell_later hb h9⟩
theorem FosAt.above {w w' : World} {lo : Nat} {a : Option Addr} {xs : List Fo} (h : FosAt w lo a xs) (hb : Above lo w w') : FosAt w' lo a xs := by
  intro i hi
  obtain ⟨b, off, e1, e2, h0, h1, h2, h3, h4, h5, h6, h7, h8, h9⟩ := h i hi
  exact ⟨b, off, e1, e2, hb.cell e2 h0, hb.cell e2 h1, hb.cell e2 h2, hb.cell e2 h3, hb.cell e2 h4, hb.cell e2 h5, hb.cell e2 h6, hb.cell e2 h7, hb.cell e2 h8, hb.cell e2 h9⟩
theorem FosAt.low {w : World} {lo lo' : Nat} {a : Option Addr} {xs : List Fo} (h : FosAt w lo a xs) (hl : lo' ≤ lo) : FosAt w lo' a xs := by
  intro i hi
  obtain ⟨b, off, e1, e2, h0, h1, h2, h3, h4, h5, h6, h7, h8, h9⟩ := h i hi
  exact ⟨b, off, e1, by omega, h0, h1, h2, h3, h4, h5, h6, h7, h8, h9⟩

/-- The cells of code. -/
def fastCells (oa ea : Option Addr) (oc ec : Nat) (d : FastD) : Array Value := #[.int .i64 d.fn, .int .i64 d.entry, .int .i64 d.vals, .int .i64 d.nums, .slice oa d.ops.length oc, .slice ea d.exits.length ec]
structure FastAt (w : World) (lo : Nat) (oa ea : Option Addr) (d : FastD) : Prop where
  ops : FosAt w lo oa d.ops
  exits : ExsAt w lo ea d.exits
theorem FastAt.mono {w w' : World} {lo : Nat} {oa ea : Option Addr} {d : FastD} (h : FastAt w lo oa ea d) (hb : Below w.heap.size w w') : FastAt w' lo oa ea d := ⟨h.ops.mono hb, h.exits.mono hb⟩
theorem FastAt.low {w : World} {lo lo' : Nat} {oa ea : Option Addr} {d : FastD} (h : FastAt w lo oa ea d) (hl : lo' ≤ lo) : FastAt w lo' oa ea d := ⟨h.ops.low hl, h.exits.low hl⟩
theorem FastAt.above {w w' : World} {lo : Nat} {oa ea : Option Addr} {d : FastD} (h : FastAt w lo oa ea d) (hb : Above lo w w') : FastAt w' lo oa ea d := ⟨h.ops.above hb, h.exits.above hb⟩
end Go.Proofs.Ytopbdjplpnojmaa
