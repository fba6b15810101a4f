/-
  States of the machine as plain data, and which cells of memory hold them.
-/
import Derived.Test.YtopbdjplpnojmaaW1
namespace Go.Proofs.Ytopbdjplpnojmaa
open Go.RowKit

/-- A value as plain data: kind, number, text. -/
structure Vl where
  k : Int
  n : Int
  s : ByteArray

structure Fr where
  fn : Int
  pc : Int
  locals : List Vl
  stack : List Vl

structure VmD where
  frames : List Fr
  heap : List (List Vl)
  made : Int
  out : List ByteArray
  status : Int
  trap : Int
  value : Vl
  steps : Int

/-- The cells of a list of values. -/
def ValsAt (w : World) (lo : Nat) (a : Option Addr) (vs : List Vl) : Prop :=
  ∀ i (h : i < vs.length), ∃ b off, a = some ⟨b, off, none⟩ ∧ lo ≤ b ∧ w.cell? ⟨b, off + i * 3, none⟩ = some (.int .i64 vs[i].k) ∧ w.cell? ⟨b, off + i * 3 + 1, none⟩ = some (.int .i64 vs[i].n) ∧ w.cell? ⟨b, off + i * 3 + 2, none⟩ = some (.string vs[i].s)

/-- The cells of a list of frames. -/
def FrsAt (w : World) (lo : Nat) (a : Option Addr) (fr : List Fr) : Prop :=
  ∀ i (h : i < fr.length), ∃ b off la lc sa sc, a = some ⟨b, off, none⟩ ∧ lo ≤ b ∧ w.cell? ⟨b, off + i * 4, none⟩ = some (.int .i64 fr[i].fn) ∧ w.cell? ⟨b, off + i * 4 + 1, none⟩ = some (.int .i64 fr[i].pc) ∧
    w.cell? ⟨b, off + i * 4 + 2, none⟩ = some (.slice la fr[i].locals.length lc) ∧ w.cell? ⟨b, off + i * 4 + 3, none⟩ = some (.slice sa fr[i].stack.length sc) ∧ ValsAt w lo la fr[i].locals ∧ ValsAt w lo sa fr[i].stack

/-- The cells of a list of records. -/
def RecsAt (w : World) (lo : Nat) (a : Option Addr) (rs : List (List Vl)) : Prop :=
  ∀ i (h : i < rs.length), ∃ b off fa fc, a = some ⟨b, off, none⟩ ∧ lo ≤ b ∧ w.cell? ⟨b, off + i, none⟩ = some (.slice fa rs[i].length fc) ∧ ValsAt w lo fa rs[i]

theorem ValsAt.mono {w w' : World} {lo : Nat} {a : Option Addr} {vs : List Vl} (h : ValsAt w lo a vs) (hb : Below w.heap.size w w') : ValsAt w' lo a vs := by
  intro i hi
  obtain ⟨b, off, h1, h2, h3, h4, h5⟩ := h i hi
  exact ⟨b, off, h1, h2, cell_later hb h3, cell_later hb h4, cell_later hb h5⟩
theorem FrsAt.mono {w w' : World} {lo : Nat} {a : Option Addr} {fr : List Fr} (h : FrsAt w lo a fr) (hb : Below w.heap.size w w') : FrsAt w' lo a fr := by
  intro i hi
  obtain ⟨b, off, la, lc, sa, sc, h1, h2, h3, h4, h5, h6, h7, h8⟩ := h i hi
  exact ⟨b, off, la, lc, sa, sc, h1, h2, cell_later hb h3, cell_later hb h4, cell_later hb h5, cell_later hb h6, h7.mono hb, h8.mono hb⟩
theorem RecsAt.mono {w w' : World} {lo : Nat} {a : Option Addr} {rs : List (List Vl)} (h : RecsAt w lo a rs) (hb : Below w.heap.size w w') : RecsAt w' lo a rs := by
  intro i hi
  obtain ⟨b, off, fa, fc, h1, h2, h3, h4⟩ := h i hi
  exact ⟨b, off, fa, fc, h1, h2, cell_later hb h3, h4.mono hb⟩
theorem ValsAt.above {w w' : World} {lo : Nat} {a : Option Addr} {vs : List Vl} (h : ValsAt w lo a vs) (hb : Above lo w w') : ValsAt w' lo a vs := by
  intro i hi
  obtain ⟨b, off, h1, h2, h3, h4, h5⟩ := h i hi
  exact ⟨b, off, h1, h2, hb.cell h2 h3, hb.cell h2 h4, hb.cell h2 h5⟩
theorem FrsAt.above {w w' : World} {lo : Nat} {a : Option Addr} {fr : List Fr} (h : FrsAt w lo a fr) (hb : Above lo w w') : FrsAt w' lo a fr := by
  intro i hi
  obtain ⟨b, off, la, lc, sa, sc, h1, h2, h3, h4, h5, h6, h7, h8⟩ := h i hi
  exact ⟨b, off, la, lc, sa, sc, h1, h2, hb.cell h2 h3, hb.cell h2 h4, hb.cell h2 h5, hb.cell h2 h6, h7.above hb, h8.above hb⟩
theorem RecsAt.above {w w' : World} {lo : Nat} {a : Option Addr} {rs : List (List Vl)} (h : RecsAt w lo a rs) (hb : Above lo w w') : RecsAt w' lo a rs := by
  intro i hi
  obtain ⟨b, off, fa, fc, h1, h2, h3, h4⟩ := h i hi
  exact ⟨b, off, fa, fc, h1, h2, hb.cell h2 h3, h4.above hb⟩
theorem ValsAt.low {w : World} {lo lo' : Nat} {a : Option Addr} {vs : List Vl} (h : ValsAt w lo a vs) (hl : lo' ≤ lo) : ValsAt w lo' a vs := fun i hi => by
  obtain ⟨b, off, h1, h2, h3⟩ := h i hi
  exact ⟨b, off, h1, by omega, h3⟩
theorem FrsAt.low {w : World} {lo lo' : Nat} {a : Option Addr} {fr : List Fr} (h : FrsAt w lo a fr) (hl : lo' ≤ lo) : FrsAt w lo' a fr := fun i hi => by
  obtain ⟨b, off, la, lc, sa, sc, h1, h2, h3, h4, h5, h6, h7, h8⟩ := h i hi
  exact ⟨b, off, la, lc, sa, sc, h1, by omega, h3, h4, h5, h6, h7.low hl, h8.low hl⟩
theorem RecsAt.low {w : World} {lo lo' : Nat} {a : Option Addr} {rs : List (List Vl)} (h : RecsAt w lo a rs) (hl : lo' ≤ lo) : RecsAt w lo' a rs := fun i hi => by
  obtain ⟨b, off, fa, fc, h1, h2, h3, h4⟩ := h i hi
  exact ⟨b, off, fa, fc, h1, by omega, h3, h4.low hl⟩

/-- What can be read out of an argument at all. -/
def ValsMax (vs : List Vl) : Prop := vs.length ≤ maxLen ∧ ∀ v ∈ vs, v.s.size ≤ maxLen
def ValsSmall (vs : List Vl) : Prop := vs.length ≤ 1048576 ∧ ∀ v ∈ vs, v.s.size ≤ 1048576
structure VmMax (d : VmD) : Prop where
  frames : d.frames.length ≤ maxLen
  locals : ∀ f ∈ d.frames, ValsMax f.locals
  stack : ∀ f ∈ d.frames, ValsMax f.stack
  heap : d.heap.length ≤ maxLen
  fields : ∀ r ∈ d.heap, ValsMax r
  out : d.out.length ≤ maxLen
  text : ∀ s ∈ d.out, s.size ≤ maxLen
  value : d.value.s.size ≤ maxLen
structure VmSmall (d : VmD) : Prop where
  frames : d.frames.length ≤ 1048576
  locals : ∀ f ∈ d.frames, ValsSmall f.locals
  stack : ∀ f ∈ d.frames, ValsSmall f.stack
  heap : d.heap.length ≤ 1048576
  fields : ∀ r ∈ d.heap, ValsSmall r
  out : d.out.length ≤ 1048576
  text : ∀ s ∈ d.out, s.size ≤ 1048576
  value : d.value.s.size ≤ 1048576

end Go.Proofs.Ytopbdjplpnojmaa
