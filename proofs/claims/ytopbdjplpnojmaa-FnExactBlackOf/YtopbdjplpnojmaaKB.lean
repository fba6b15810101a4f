/-
  The blocks of a copy of code: their shapes.
-/
import Derived.Test.YtopbdjplpnojmaaK0
import Derived.Test.YtopbdjplpnojmaaMem3
namespace Go.Proofs.Ytopbdjplpnojmaa
open Go.RowKit

/-- No slice. -/
def noSl (o : Option Value) : Prop := ∀ a n k, o ≠ some (.slice a n k)
theorem noSl_int (k : IntKind) (i : Int) : noSl (some (.int k i)) := fun _ _ _ h => by cases h
theorem noSl_str (s : ByteArray) : noSl (some (.string s)) := fun _ _ _ h => by cases h
theorem noSl_set {c : Array Value} {i j : Nat} {v : Value} (h : noSl c[j]?) (hv : noSl (some v)) : noSl (c.setIfInBounds i v)[j]? := by
  by_cases e : j = i
  · subst e
    by_cases hj : j < c.size
    · rw [set_self v hj]; exact hv
    · rw [Array.getElem?_eq_none (by simp; omega)]; intro _ _ _ q; cases q
  · rw [set_else v e]; exact h
/-- Every block has its size, and every slice in it is where it was. -/
structure Mild (w w' : World) : Prop where
  blk : ∀ (b : Nat) (c : Array Value) (t : TypeId), w.heap[b]? = some (Obj.cells c t (0, 0)) → ∃ c' : Array Value, w'.heap[b]? = some (Obj.cells c' t (0, 0)) ∧ c'.size = c.size ∧ ∀ (i : Nat) a n k, c[i]? = some (Value.slice a n k) ↔ c'[i]? = some (Value.slice a n k)
theorem Mild.refl (w : World) : Mild w w := ⟨fun _ c _ h => ⟨c, h, rfl, fun _ _ _ _ => Iff.rfl⟩⟩
theorem Mild.trans {a b c : World} (h : Mild a b) (k : Mild b c) : Mild a c := ⟨fun i x t hi => by
  obtain ⟨y, hy, e1, f1⟩ := h.blk i x t hi
  obtain ⟨z, hz, e2, f2⟩ := k.blk i y t hy
  exact ⟨z, hz, e2.trans e1, fun i a n k => (f1 i a n k).trans (f2 i a n k)⟩⟩
theorem Mild.below {w w' : World} (h : Below w.heap.size w w') : Mild w w' := ⟨fun _ c _ hb => ⟨c, block_kept hb h, rfl, fun _ _ _ _ => Iff.rfl⟩⟩
theorem Mild.one {w : World} {g i : Nat} {cur : Array Value} {t : TypeId} {v : Value} (hb : w.heap[g]? = some (.cells cur t (0, 0))) (hn : noSl cur[i]?) (hv : noSl (some v)) : Mild w (w.setCell ⟨g, i, none⟩ v) := ⟨fun b c u hc => by
  by_cases e : b = g
  · subst e
    rw [hb] at hc
    cases hc
    refine ⟨_, block_set hb v, by simp, fun j a n k => ?_⟩
    by_cases ej : j = i
    · subst ej
      exact ⟨fun q => absurd q (hn a n k), fun q => absurd q (noSl_set hn hv a n k)⟩
    · rw [set_else v ej]
  · exact ⟨c, by rw [Below.heap_setCell _ _ _ _ e]; exact hc, rfl, fun _ _ _ _ => Iff.rfl⟩⟩
theorem Mild.set {a w : World} (h : Mild a w) {g i : Nat} {cur : Array Value} {t : TypeId} {v : Value} (hb : w.heap[g]? = some (.cells cur t (0, 0))) (hn : noSl cur[i]?) (hv : noSl (some v)) : Mild a (w.setCell ⟨g, i, none⟩ v) := h.trans (Mild.one hb hn hv)
theorem Mild.slice {w w' : World} (h : Mild w w') {b i : Nat} {c : Array Value} {t : TypeId} (hb : w.heap[b]? = some (.cells c t (0, 0))) {a : Option Addr} {n k : Nat} (hc : c[i]? = some (.slice a n k)) : w'.cell? ⟨b, i, none⟩ = some (.slice a n k) := by
  obtain ⟨c', h1, -, h3⟩ := h.blk b c t hb
  rw [block_cell h1]
  exact (h3 i a n k).1 hc
/-- Blocks from lo on are as they were. -/
def RestAs (lo : Nat) (w w' : World) : Prop := ∀ (k : Nat) o, lo ≤ k → w.heap[k]? = some o → w'.heap[k]? = some o
theorem RestAs.below {lo : Nat} {w w' : World} (h : Below w.heap.size w w') : RestAs lo w w' := fun _ _ _ hk => block_kept hk h
theorem RestAs.above {lo : Nat} {w w' : World} (h : Above lo w w') : RestAs lo w w' := fun k _ hl hk => by rw [h k hl (Array.getElem?_eq_some_iff.1 hk).1]; exact hk

/-- The block of a list of these. -/
def SrB (w : World) (lo g : Nat) (xs : List Sr) : Prop := lo ≤ g ∧ ∃ cur : Array Value, w.heap[g]? = some (.cells cur 174 (0, 0)) ∧ cur.size = xs.length * 5 ∧ ∀ j (_ : j < xs.length), noSl cur[j * 5]? ∧ noSl cur[j * 5 + 1]? ∧ noSl cur[j * 5 + 2]? ∧ noSl cur[j * 5 + 3]? ∧ noSl cur[j * 5 + 4]?
theorem SrB.keep {w w' : World} {lo g : Nat} {xs : List Sr} (h : SrB w lo g xs) (hk : RestAs lo w w') : SrB w' lo g xs := by
  obtain ⟨hl, cur, h1, h2, h3⟩ := h
  refine ⟨hl, cur, hk _ _ hl h1, h2, fun j hj => ?_⟩
  obtain ⟨n0, n1, n2, n3, n4⟩ := h3 j hj
  exact ⟨n0, n1, n2, n3, n4⟩
theorem SrB.low {w : World} {lo lo' g : Nat} {xs : List Sr} (h : SrB w lo g xs) (hl : lo' ≤ lo) : SrB w lo' g xs := by
  obtain ⟨hl1, cur, h1, h2, h3⟩ := h
  refine ⟨by omega, cur, h1, h2, fun j hj => ?_⟩
  obtain ⟨n0, n1, n2, n3, n4⟩ := h3 j hj
  exact ⟨n0, n1, n2, n3, n4⟩
theorem SrB.mild {w w' : World} {lo g : Nat} {xs : List Sr} (h : SrB w lo g xs) (hk : Mild w w') : SrB w' lo g xs := by
  obtain ⟨hl, cur, h1, h2, h3⟩ := h
  obtain ⟨c2, k1, k2, k3⟩ := hk.blk _ _ _ h1
  refine ⟨hl, c2, k1, k2.trans h2, fun j hj => ?_⟩
  obtain ⟨n0, n1, n2, n3, n4⟩ := h3 j hj
  exact ⟨fun a n k q => n0 a n k ((k3 _ _ _ _).2 q), fun a n k q => n1 a n k ((k3 _ _ _ _).2 q), fun a n k q => n2 a n k ((k3 _ _ _ _).2 q), fun a n k q => n3 a n k ((k3 _ _ _ _).2 q), fun a n k q => n4 a n k ((k3 _ _ _ _).2 q)⟩
structure SrY (w : World) (lo : Nat) (a : Option Addr) (xs : List Sr) : Prop where
  at_ : SrsAt w lo a xs
  sh : ∃ g, a = some ⟨g, 0, none⟩ ∧ SrB w lo g xs
theorem SrY.mono {w w' : World} {lo : Nat} {a : Option Addr} {xs : List Sr} (h : SrY w lo a xs) (hb : Below w.heap.size w w') : SrY w' lo a xs := ⟨h.at_.mono hb, by obtain ⟨g, h1, h2⟩ := h.sh; exact ⟨g, h1, h2.keep (RestAs.below hb)⟩⟩
theorem SrY.above {w w' : World} {lo : Nat} {a : Option Addr} {xs : List Sr} (h : SrY w lo a xs) (hb : Above lo w w') : SrY w' lo a xs := ⟨h.at_.above hb, by obtain ⟨g, h1, h2⟩ := h.sh; exact ⟨g, h1, h2.keep (RestAs.above hb)⟩⟩
theorem SrY.low {w : World} {lo lo' : Nat} {a : Option Addr} {xs : List Sr} (h : SrY w lo a xs) (hl : lo' ≤ lo) : SrY w lo' a xs := ⟨h.at_.low hl, by obtain ⟨g, h1, h2⟩ := h.sh; exact ⟨g, h1, h2.low hl⟩⟩
theorem SrY.of {w : World} {lo g : Nat} {xs : List Sr} (h : SrY w lo (some ⟨g, 0, none⟩) xs) : SrB w lo g xs := by obtain ⟨g2, h1, h2⟩ := h.sh; cases h1; exact h2

/-- The block of a list of these. -/
def EFB (w : World) (lo g : Nat) (xs : List EF) : Prop := lo ≤ g ∧ ∃ cur : Array Value, w.heap[g]? = some (.cells cur 162 (0, 0)) ∧ cur.size = xs.length * 4 ∧ ∀ j (_ : j < xs.length), noSl cur[j * 4]? ∧ noSl cur[j * 4 + 1]? ∧ ∃ g0 g1, cur[j * 4 + 2]? = some (.slice (some ⟨g0, 0, none⟩) xs[j].locals.length xs[j].locals.length) ∧ cur[j * 4 + 3]? = some (.slice (some ⟨g1, 0, none⟩) xs[j].stack.length xs[j].stack.length) ∧ SrB w lo g0 xs[j].locals ∧ SrB w lo g1 xs[j].stack
theorem EFB.keep {w w' : World} {lo g : Nat} {xs : List EF} (h : EFB w lo g xs) (hk : RestAs lo w w') : EFB w' lo g xs := by
  obtain ⟨hl, cur, h1, h2, h3⟩ := h
  refine ⟨hl, cur, hk _ _ hl h1, h2, fun j hj => ?_⟩
  obtain ⟨n0, n1, g0, g1, d0, d1, s0, s1⟩ := h3 j hj
  exact ⟨n0, n1, g0, g1, d0, d1, s0.keep hk, s1.keep hk⟩
theorem EFB.low {w : World} {lo lo' g : Nat} {xs : List EF} (h : EFB w lo g xs) (hl : lo' ≤ lo) : EFB w lo' g xs := by
  obtain ⟨hl1, cur, h1, h2, h3⟩ := h
  refine ⟨by omega, cur, h1, h2, fun j hj => ?_⟩
  obtain ⟨n0, n1, g0, g1, d0, d1, s0, s1⟩ := h3 j hj
  exact ⟨n0, n1, g0, g1, d0, d1, s0.low hl, s1.low hl⟩
theorem EFB.mild {w w' : World} {lo g : Nat} {xs : List EF} (h : EFB w lo g xs) (hk : Mild w w') : EFB w' lo g xs := by
  obtain ⟨hl, cur, h1, h2, h3⟩ := h
  obtain ⟨c2, k1, k2, k3⟩ := hk.blk _ _ _ h1
  refine ⟨hl, c2, k1, k2.trans h2, fun j hj => ?_⟩
  obtain ⟨n0, n1, g0, g1, d0, d1, s0, s1⟩ := h3 j hj
  exact ⟨fun a n k q => n0 a n k ((k3 _ _ _ _).2 q), fun a n k q => n1 a n k ((k3 _ _ _ _).2 q), g0, g1, (k3 _ _ _ _).1 d0, (k3 _ _ _ _).1 d1, s0.mild hk, s1.mild hk⟩
structure EFY (w : World) (lo : Nat) (a : Option Addr) (xs : List EF) : Prop where
  at_ : EFsAt w lo a xs
  sh : ∃ g, a = some ⟨g, 0, none⟩ ∧ EFB w lo g xs
theorem EFY.mono {w w' : World} {lo : Nat} {a : Option Addr} {xs : List EF} (h : EFY w lo a xs) (hb : Below w.heap.size w w') : EFY w' lo a xs := ⟨h.at_.mono hb, by obtain ⟨g, h1, h2⟩ := h.sh; exact ⟨g, h1, h2.keep (RestAs.below hb)⟩⟩
theorem EFY.above {w w' : World} {lo : Nat} {a : Option Addr} {xs : List EF} (h : EFY w lo a xs) (hb : Above lo w w') : EFY w' lo a xs := ⟨h.at_.above hb, by obtain ⟨g, h1, h2⟩ := h.sh; exact ⟨g, h1, h2.keep (RestAs.above hb)⟩⟩
theorem EFY.low {w : World} {lo lo' : Nat} {a : Option Addr} {xs : List EF} (h : EFY w lo a xs) (hl : lo' ≤ lo) : EFY w lo' a xs := ⟨h.at_.low hl, by obtain ⟨g, h1, h2⟩ := h.sh; exact ⟨g, h1, h2.low hl⟩⟩
theorem EFY.of {w : World} {lo g : Nat} {xs : List EF} (h : EFY w lo (some ⟨g, 0, none⟩) xs) : EFB w lo g xs := by obtain ⟨g2, h1, h2⟩ := h.sh; cases h1; exact h2

/-- The block of a list of these. -/
def ERB (w : World) (lo g : Nat) (xs : List ER) : Prop := lo ≤ g ∧ ∃ cur : Array Value, w.heap[g]? = some (.cells cur 165 (0, 0)) ∧ cur.size = xs.length * 1 ∧ ∀ j (_ : j < xs.length), ∃ g0, cur[j]? = some (.slice (some ⟨g0, 0, none⟩) xs[j].fields.length xs[j].fields.length) ∧ SrB w lo g0 xs[j].fields
theorem ERB.keep {w w' : World} {lo g : Nat} {xs : List ER} (h : ERB w lo g xs) (hk : RestAs lo w w') : ERB w' lo g xs := by
  obtain ⟨hl, cur, h1, h2, h3⟩ := h
  refine ⟨hl, cur, hk _ _ hl h1, h2, fun j hj => ?_⟩
  obtain ⟨g0, d0, s0⟩ := h3 j hj
  exact ⟨g0, d0, s0.keep hk⟩
theorem ERB.low {w : World} {lo lo' g : Nat} {xs : List ER} (h : ERB w lo g xs) (hl : lo' ≤ lo) : ERB w lo' g xs := by
  obtain ⟨hl1, cur, h1, h2, h3⟩ := h
  refine ⟨by omega, cur, h1, h2, fun j hj => ?_⟩
  obtain ⟨g0, d0, s0⟩ := h3 j hj
  exact ⟨g0, d0, s0.low hl⟩
theorem ERB.mild {w w' : World} {lo g : Nat} {xs : List ER} (h : ERB w lo g xs) (hk : Mild w w') : ERB w' lo g xs := by
  obtain ⟨hl, cur, h1, h2, h3⟩ := h
  obtain ⟨c2, k1, k2, k3⟩ := hk.blk _ _ _ h1
  refine ⟨hl, c2, k1, k2.trans h2, fun j hj => ?_⟩
  obtain ⟨g0, d0, s0⟩ := h3 j hj
  exact ⟨g0, (k3 _ _ _ _).1 d0, s0.mild hk⟩
structure ERY (w : World) (lo : Nat) (a : Option Addr) (xs : List ER) : Prop where
  at_ : ERsAt w lo a xs
  sh : ∃ g, a = some ⟨g, 0, none⟩ ∧ ERB w lo g xs
theorem ERY.mono {w w' : World} {lo : Nat} {a : Option Addr} {xs : List ER} (h : ERY w lo a xs) (hb : Below w.heap.size w w') : ERY w' lo a xs := ⟨h.at_.mono hb, by obtain ⟨g, h1, h2⟩ := h.sh; exact ⟨g, h1, h2.keep (RestAs.below hb)⟩⟩
theorem ERY.above {w w' : World} {lo : Nat} {a : Option Addr} {xs : List ER} (h : ERY w lo a xs) (hb : Above lo w w') : ERY w' lo a xs := ⟨h.at_.above hb, by obtain ⟨g, h1, h2⟩ := h.sh; exact ⟨g, h1, h2.keep (RestAs.above hb)⟩⟩
theorem ERY.low {w : World} {lo lo' : Nat} {a : Option Addr} {xs : List ER} (h : ERY w lo a xs) (hl : lo' ≤ lo) : ERY w lo' a xs := ⟨h.at_.low hl, by obtain ⟨g, h1, h2⟩ := h.sh; exact ⟨g, h1, h2.low hl⟩⟩
theorem ERY.of {w : World} {lo g : Nat} {xs : List ER} (h : ERY w lo (some ⟨g, 0, none⟩) xs) : ERB w lo g xs := by obtain ⟨g2, h1, h2⟩ := h.sh; cases h1; exact h2

/-- The block of a list of these. -/
def ExB (w : World) (lo g : Nat) (xs : List Ex) : Prop := lo ≤ g ∧ ∃ cur : Array Value, w.heap[g]? = some (.cells cur 140 (0, 0)) ∧ cur.size = xs.length * 7 ∧ ∀ j (_ : j < xs.length), noSl cur[j * 7]? ∧ noSl cur[j * 7 + 1]? ∧ noSl cur[j * 7 + 2]? ∧ noSl cur[j * 7 + 3]? ∧ noSl cur[j * 7 + 4]? ∧ ∃ g0 g1, cur[j * 7 + 5]? = some (.slice (some ⟨g0, 0, none⟩) xs[j].frames.length xs[j].frames.length) ∧ cur[j * 7 + 6]? = some (.slice (some ⟨g1, 0, none⟩) xs[j].recs.length xs[j].recs.length) ∧ EFB w lo g0 xs[j].frames ∧ ERB w lo g1 xs[j].recs
theorem ExB.keep {w w' : World} {lo g : Nat} {xs : List Ex} (h : ExB w lo g xs) (hk : RestAs lo w w') : ExB w' lo g xs := by
  obtain ⟨hl, cur, h1, h2, h3⟩ := h
  refine ⟨hl, cur, hk _ _ hl h1, h2, fun j hj => ?_⟩
  obtain ⟨n0, n1, n2, n3, n4, g0, g1, d0, d1, s0, s1⟩ := h3 j hj
  exact ⟨n0, n1, n2, n3, n4, g0, g1, d0, d1, s0.keep hk, s1.keep hk⟩
theorem ExB.low {w : World} {lo lo' g : Nat} {xs : List Ex} (h : ExB w lo g xs) (hl : lo' ≤ lo) : ExB w lo' g xs := by
  obtain ⟨hl1, cur, h1, h2, h3⟩ := h
  refine ⟨by omega, cur, h1, h2, fun j hj => ?_⟩
  obtain ⟨n0, n1, n2, n3, n4, g0, g1, d0, d1, s0, s1⟩ := h3 j hj
  exact ⟨n0, n1, n2, n3, n4, g0, g1, d0, d1, s0.low hl, s1.low hl⟩
theorem ExB.mild {w w' : World} {lo g : Nat} {xs : List Ex} (h : ExB w lo g xs) (hk : Mild w w') : ExB w' lo g xs := by
  obtain ⟨hl, cur, h1, h2, h3⟩ := h
  obtain ⟨c2, k1, k2, k3⟩ := hk.blk _ _ _ h1
  refine ⟨hl, c2, k1, k2.trans h2, fun j hj => ?_⟩
  obtain ⟨n0, n1, n2, n3, n4, g0, g1, d0, d1, s0, s1⟩ := h3 j hj
  exact ⟨fun a n k q => n0 a n k ((k3 _ _ _ _).2 q), fun a n k q => n1 a n k ((k3 _ _ _ _).2 q), fun a n k q => n2 a n k ((k3 _ _ _ _).2 q), fun a n k q => n3 a n k ((k3 _ _ _ _).2 q), fun a n k q => n4 a n k ((k3 _ _ _ _).2 q), g0, g1, (k3 _ _ _ _).1 d0, (k3 _ _ _ _).1 d1, s0.mild hk, s1.mild hk⟩
structure ExY (w : World) (lo : Nat) (a : Option Addr) (xs : List Ex) : Prop where
  at_ : ExsAt w lo a xs
  sh : ∃ g, a = some ⟨g, 0, none⟩ ∧ ExB w lo g xs
theorem ExY.mono {w w' : World} {lo : Nat} {a : Option Addr} {xs : List Ex} (h : ExY w lo a xs) (hb : Below w.heap.size w w') : ExY w' lo a xs := ⟨h.at_.mono hb, by obtain ⟨g, h1, h2⟩ := h.sh; exact ⟨g, h1, h2.keep (RestAs.below hb)⟩⟩
theorem ExY.above {w w' : World} {lo : Nat} {a : Option Addr} {xs : List Ex} (h : ExY w lo a xs) (hb : Above lo w w') : ExY w' lo a xs := ⟨h.at_.above hb, by obtain ⟨g, h1, h2⟩ := h.sh; exact ⟨g, h1, h2.keep (RestAs.above hb)⟩⟩
theorem ExY.low {w : World} {lo lo' : Nat} {a : Option Addr} {xs : List Ex} (h : ExY w lo a xs) (hl : lo' ≤ lo) : ExY w lo' a xs := ⟨h.at_.low hl, by obtain ⟨g, h1, h2⟩ := h.sh; exact ⟨g, h1, h2.low hl⟩⟩
theorem ExY.of {w : World} {lo g : Nat} {xs : List Ex} (h : ExY w lo (some ⟨g, 0, none⟩) xs) : ExB w lo g xs := by obtain ⟨g2, h1, h2⟩ := h.sh; cases h1; exact h2

/-- The block of a list of these. -/
def FoB (w : World) (lo g : Nat) (xs : List Fo) : Prop := lo ≤ g ∧ ∃ cur : Array Value, w.heap[g]? = some (.cells cur 136 (0, 0)) ∧ cur.size = xs.length * 10 ∧ ∀ j (_ : j < xs.length), noSl cur[j * 10]? ∧ noSl cur[j * 10 + 1]? ∧ noSl cur[j * 10 + 2]? ∧ noSl cur[j * 10 + 3]? ∧ noSl cur[j * 10 + 4]? ∧ noSl cur[j * 10 + 5]? ∧ noSl cur[j * 10 + 6]? ∧ noSl cur[j * 10 + 7]? ∧ noSl cur[j * 10 + 8]? ∧ noSl cur[j * 10 + 9]?
theorem FoB.keep {w w' : World} {lo g : Nat} {xs : List Fo} (h : FoB w lo g xs) (hk : RestAs lo w w') : FoB w' lo g xs := by
  obtain ⟨hl, cur, h1, h2, h3⟩ := h
  refine ⟨hl, cur, hk _ _ hl h1, h2, fun j hj => ?_⟩
  obtain ⟨n0, n1, n2, n3, n4, n5, n6, n7, n8, n9⟩ := h3 j hj
  exact ⟨n0, n1, n2, n3, n4, n5, n6, n7, n8, n9⟩
theorem FoB.low {w : World} {lo lo' g : Nat} {xs : List Fo} (h : FoB w lo g xs) (hl : lo' ≤ lo) : FoB w lo' g xs := by
  obtain ⟨hl1, cur, h1, h2, h3⟩ := h
  refine ⟨by omega, cur, h1, h2, fun j hj => ?_⟩
  obtain ⟨n0, n1, n2, n3, n4, n5, n6, n7, n8, n9⟩ := h3 j hj
  exact ⟨n0, n1, n2, n3, n4, n5, n6, n7, n8, n9⟩
theorem FoB.mild {w w' : World} {lo g : Nat} {xs : List Fo} (h : FoB w lo g xs) (hk : Mild w w') : FoB w' lo g xs := by
  obtain ⟨hl, cur, h1, h2, h3⟩ := h
  obtain ⟨c2, k1, k2, k3⟩ := hk.blk _ _ _ h1
  refine ⟨hl, c2, k1, k2.trans h2, fun j hj => ?_⟩
  obtain ⟨n0, n1, n2, n3, n4, n5, n6, n7, n8, n9⟩ := h3 j hj
  exact ⟨fun a n k q => n0 a n k ((k3 _ _ _ _).2 q), fun a n k q => n1 a n k ((k3 _ _ _ _).2 q), fun a n k q => n2 a n k ((k3 _ _ _ _).2 q), fun a n k q => n3 a n k ((k3 _ _ _ _).2 q), fun a n k q => n4 a n k ((k3 _ _ _ _).2 q), fun a n k q => n5 a n k ((k3 _ _ _ _).2 q), fun a n k q => n6 a n k ((k3 _ _ _ _).2 q), fun a n k q => n7 a n k ((k3 _ _ _ _).2 q), fun a n k q => n8 a n k ((k3 _ _ _ _).2 q), fun a n k q => n9 a n k ((k3 _ _ _ _).2 q)⟩
structure FoY (w : World) (lo : Nat) (a : Option Addr) (xs : List Fo) : Prop where
  at_ : FosAt w lo a xs
  sh : ∃ g, a = some ⟨g, 0, none⟩ ∧ FoB w lo g xs
theorem FoY.mono {w w' : World} {lo : Nat} {a : Option Addr} {xs : List Fo} (h : FoY w lo a xs) (hb : Below w.heap.size w w') : FoY w' lo a xs := ⟨h.at_.mono hb, by obtain ⟨g, h1, h2⟩ := h.sh; exact ⟨g, h1, h2.keep (RestAs.below hb)⟩⟩
theorem FoY.above {w w' : World} {lo : Nat} {a : Option Addr} {xs : List Fo} (h : FoY w lo a xs) (hb : Above lo w w') : FoY w' lo a xs := ⟨h.at_.above hb, by obtain ⟨g, h1, h2⟩ := h.sh; exact ⟨g, h1, h2.keep (RestAs.above hb)⟩⟩
theorem FoY.low {w : World} {lo lo' : Nat} {a : Option Addr} {xs : List Fo} (h : FoY w lo a xs) (hl : lo' ≤ lo) : FoY w lo' a xs := ⟨h.at_.low hl, by obtain ⟨g, h1, h2⟩ := h.sh; exact ⟨g, h1, h2.low hl⟩⟩
theorem FoY.of {w : World} {lo g : Nat} {xs : List Fo} (h : FoY w lo (some ⟨g, 0, none⟩) xs) : FoB w lo g xs := by obtain ⟨g2, h1, h2⟩ := h.sh; cases h1; exact h2
theorem SrB.keeps {w w' : World} {lo lo' g : Nat} {xs : List Sr} {ts : List Nat} (h : SrB w lo g xs) (hk : Keeps lo' ts w w') (hT : 174 ∉ ts ∧ 162 ∉ ts ∧ 165 ∉ ts ∧ 140 ∉ ts ∧ 136 ∉ ts) : SrB w' lo g xs := by
  obtain ⟨hl, cur, h1, h2, h3⟩ := h
  refine ⟨hl, cur, hk.cell h1 (hT.1), h2, fun j hj => ?_⟩
  obtain ⟨n0, n1, n2, n3, n4⟩ := h3 j hj
  exact ⟨n0, n1, n2, n3, n4⟩
theorem EFB.keeps {w w' : World} {lo lo' g : Nat} {xs : List EF} {ts : List Nat} (h : EFB w lo g xs) (hk : Keeps lo' ts w w') (hT : 174 ∉ ts ∧ 162 ∉ ts ∧ 165 ∉ ts ∧ 140 ∉ ts ∧ 136 ∉ ts) : EFB w' lo g xs := by
  obtain ⟨hl, cur, h1, h2, h3⟩ := h
  refine ⟨hl, cur, hk.cell h1 (hT.2.1), h2, fun j hj => ?_⟩
  obtain ⟨n0, n1, g0, g1, d0, d1, s0, s1⟩ := h3 j hj
  exact ⟨n0, n1, g0, g1, d0, d1, s0.keeps hk hT, s1.keeps hk hT⟩
theorem ERB.keeps {w w' : World} {lo lo' g : Nat} {xs : List ER} {ts : List Nat} (h : ERB w lo g xs) (hk : Keeps lo' ts w w') (hT : 174 ∉ ts ∧ 162 ∉ ts ∧ 165 ∉ ts ∧ 140 ∉ ts ∧ 136 ∉ ts) : ERB w' lo g xs := by
  obtain ⟨hl, cur, h1, h2, h3⟩ := h
  refine ⟨hl, cur, hk.cell h1 (hT.2.2.1), h2, fun j hj => ?_⟩
  obtain ⟨g0, d0, s0⟩ := h3 j hj
  exact ⟨g0, d0, s0.keeps hk hT⟩
theorem ExB.keeps {w w' : World} {lo lo' g : Nat} {xs : List Ex} {ts : List Nat} (h : ExB w lo g xs) (hk : Keeps lo' ts w w') (hT : 174 ∉ ts ∧ 162 ∉ ts ∧ 165 ∉ ts ∧ 140 ∉ ts ∧ 136 ∉ ts) : ExB w' lo g xs := by
  obtain ⟨hl, cur, h1, h2, h3⟩ := h
  refine ⟨hl, cur, hk.cell h1 (hT.2.2.2.1), h2, fun j hj => ?_⟩
  obtain ⟨n0, n1, n2, n3, n4, g0, g1, d0, d1, s0, s1⟩ := h3 j hj
  exact ⟨n0, n1, n2, n3, n4, g0, g1, d0, d1, s0.keeps hk hT, s1.keeps hk hT⟩
theorem FoB.keeps {w w' : World} {lo lo' g : Nat} {xs : List Fo} {ts : List Nat} (h : FoB w lo g xs) (hk : Keeps lo' ts w w') (hT : 174 ∉ ts ∧ 162 ∉ ts ∧ 165 ∉ ts ∧ 140 ∉ ts ∧ 136 ∉ ts) : FoB w' lo g xs := by
  obtain ⟨hl, cur, h1, h2, h3⟩ := h
  refine ⟨hl, cur, hk.cell h1 (hT.2.2.2.2), h2, fun j hj => ?_⟩
  obtain ⟨n0, n1, n2, n3, n4, n5, n6, n7, n8, n9⟩ := h3 j hj
  exact ⟨n0, n1, n2, n3, n4, n5, n6, n7, n8, n9⟩
end Go.Proofs.Ytopbdjplpnojmaa
