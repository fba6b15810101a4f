/-
  Lists of code: which cells hold them, the blocks of a copy.
-/
import Derived.Test.YtopbdjplpnojmaaKB
import Derived.Test.YtopbdjplpnojmaaKS
namespace Go.Proofs.Ytopbdjplpnojmaa
open Go.RowKit

abbrev FastDMax (x : FastD) : Prop := FastMax x
abbrev FastDSmall (x : FastD) : Prop := FastSmall x

/-- The cells of a list of these. -/
def FasAt (w : World) (lo : Nat) (a : Option Addr) (xs : List FastD) : Prop :=
  ∀ i (h : i < xs.length), ∃ b off a0 c0 a1 c1, a = some ⟨b, off, none⟩ ∧ lo ≤ b ∧ w.cell? ⟨b, off + i * 6, none⟩ = some (.int .i64 xs[i].fn) ∧ w.cell? ⟨b, off + i * 6 + 1, none⟩ = some (.int .i64 xs[i].entry) ∧ w.cell? ⟨b, off + i * 6 + 2, none⟩ = some (.int .i64 xs[i].vals) ∧ w.cell? ⟨b, off + i * 6 + 3, none⟩ = some (.int .i64 xs[i].nums) ∧ w.cell? ⟨b, off + i * 6 + 4, none⟩ = some (.slice a0 xs[i].ops.length c0) ∧ w.cell? ⟨b, off + i * 6 + 5, none⟩ = some (.slice a1 xs[i].exits.length c1) ∧ FosAt w lo a0 xs[i].ops ∧ ExsAt w lo a1 xs[i].exits
theorem FasAt.mono {w w' : World} {lo : Nat} {a : Option Addr} {xs : List FastD} (h : FasAt w lo a xs) (hb : Below w.heap.size w w') : FasAt w' lo a xs := by
  intro i hi
  obtain ⟨b, off, a0, c0, a1, c1, e1, e2, h0, h1, h2, h3, h4, h5, p0, p1⟩ := h i hi
  exact ⟨b, off, a0, c0, a1, c1, e1, e2, cell_later hb h0, cell_later hb h1, cell_later hb h2, cell_later hb h3, cell_later hb h4, cell_later hb h5, p0.mono hb, p1.mono hb⟩
theorem FasAt.above {w w' : World} {lo : Nat} {a : Option Addr} {xs : List FastD} (h : FasAt w lo a xs) (hb : Above lo w w') : FasAt w' lo a xs := by
  intro i hi
  obtain ⟨b, off, a0, c0, a1, c1, e1, e2, h0, h1, h2, h3, h4, h5, p0, p1⟩ := h i hi
  exact ⟨b, off, a0, c0, a1, c1, e1, e2, hb.cell e2 h0, hb.cell e2 h1, hb.cell e2 h2, hb.cell e2 h3, hb.cell e2 h4, hb.cell e2 h5, p0.above hb, p1.above hb⟩
theorem FasAt.low {w : World} {lo lo' : Nat} {a : Option Addr} {xs : List FastD} (h : FasAt w lo a xs) (hl : lo' ≤ lo) : FasAt w lo' a xs := by
  intro i hi
  obtain ⟨b, off, a0, c0, a1, c1, e1, e2, h0, h1, h2, h3, h4, h5, p0, p1⟩ := h i hi
  exact ⟨b, off, a0, c0, a1, c1, e1, by omega, h0, h1, h2, h3, h4, h5, p0.low hl, p1.low hl⟩

/-- The block of a list of these. -/
def FaB (w : World) (lo g : Nat) (xs : List FastD) : Prop := lo ≤ g ∧ ∃ cur : Array Value, w.heap[g]? = some (.cells cur 95 (0, 0)) ∧ cur.size = xs.length * 6 ∧ ∀ j (_ : j < xs.length), noSl cur[j * 6]? ∧ noSl cur[j * 6 + 1]? ∧ noSl cur[j * 6 + 2]? ∧ noSl cur[j * 6 + 3]? ∧ ∃ g0 g1, cur[j * 6 + 4]? = some (.slice (some ⟨g0, 0, none⟩) xs[j].ops.length xs[j].ops.length) ∧ cur[j * 6 + 5]? = some (.slice (some ⟨g1, 0, none⟩) xs[j].exits.length xs[j].exits.length) ∧ FoB w lo g0 xs[j].ops ∧ ExB w lo g1 xs[j].exits
theorem FaB.keep {w w' : World} {lo g : Nat} {xs : List FastD} (h : FaB w lo g xs) (hk : RestAs lo w w') : FaB w' lo g xs := by
  obtain ⟨hl, cur, h1, h2, h3⟩ := h
  refine ⟨hl, cur, hk _ _ hl h1, h2, fun j hj => ?_⟩
  obtain ⟨n0, n1, n2, n3, g0, g1, d0, d1, s0, s1⟩ := h3 j hj
  exact ⟨n0, n1, n2, n3, g0, g1, d0, d1, s0.keep hk, s1.keep hk⟩
theorem FaB.low {w : World} {lo lo' g : Nat} {xs : List FastD} (h : FaB w lo g xs) (hl : lo' ≤ lo) : FaB w lo' g xs := by
  obtain ⟨hl1, cur, h1, h2, h3⟩ := h
  refine ⟨by omega, cur, h1, h2, fun j hj => ?_⟩
  obtain ⟨n0, n1, n2, n3, g0, g1, d0, d1, s0, s1⟩ := h3 j hj
  exact ⟨n0, n1, n2, n3, g0, g1, d0, d1, s0.low hl, s1.low hl⟩
theorem FaB.mild {w w' : World} {lo g : Nat} {xs : List FastD} (h : FaB w lo g xs) (hk : Mild w w') : FaB w' lo g xs := by
  obtain ⟨hl, cur, h1, h2, h3⟩ := h
  obtain ⟨c2, k1, k2, k3⟩ := hk.blk _ _ _ h1
  refine ⟨hl, c2, k1, k2.trans h2, fun j hj => ?_⟩
  obtain ⟨n0, n1, n2, n3, g0, g1, d0, d1, s0, s1⟩ := h3 j hj
  exact ⟨fun a n k q => n0 a n k ((k3 _ _ _ _).2 q), fun a n k q => n1 a n k ((k3 _ _ _ _).2 q), fun a n k q => n2 a n k ((k3 _ _ _ _).2 q), fun a n k q => n3 a n k ((k3 _ _ _ _).2 q), g0, g1, (k3 _ _ _ _).1 d0, (k3 _ _ _ _).1 d1, s0.mild hk, s1.mild hk⟩
structure FaY (w : World) (lo : Nat) (a : Option Addr) (xs : List FastD) : Prop where
  at_ : FasAt w lo a xs
  sh : ∃ g, a = some ⟨g, 0, none⟩ ∧ FaB w lo g xs
theorem FaY.mono {w w' : World} {lo : Nat} {a : Option Addr} {xs : List FastD} (h : FaY w lo a xs) (hb : Below w.heap.size w w') : FaY w' lo a xs := ⟨h.at_.mono hb, by obtain ⟨g, h1, h2⟩ := h.sh; exact ⟨g, h1, h2.keep (RestAs.below hb)⟩⟩
theorem FaY.above {w w' : World} {lo : Nat} {a : Option Addr} {xs : List FastD} (h : FaY w lo a xs) (hb : Above lo w w') : FaY w' lo a xs := ⟨h.at_.above hb, by obtain ⟨g, h1, h2⟩ := h.sh; exact ⟨g, h1, h2.keep (RestAs.above hb)⟩⟩
theorem FaY.low {w : World} {lo lo' : Nat} {a : Option Addr} {xs : List FastD} (h : FaY w lo a xs) (hl : lo' ≤ lo) : FaY w lo' a xs := ⟨h.at_.low hl, by obtain ⟨g, h1, h2⟩ := h.sh; exact ⟨g, h1, h2.low hl⟩⟩
theorem FaY.of {w : World} {lo g : Nat} {xs : List FastD} (h : FaY w lo (some ⟨g, 0, none⟩) xs) : FaB w lo g xs := by obtain ⟨g2, h1, h2⟩ := h.sh; cases h1; exact h2
theorem FaB.keeps {w w' : World} {lo lo' g : Nat} {xs : List FastD} {ts : List Nat} (h : FaB w lo g xs) (hk : Keeps lo' ts w w') (hF : 95 ∉ ts) (hT : 174 ∉ ts ∧ 162 ∉ ts ∧ 165 ∉ ts ∧ 140 ∉ ts ∧ 136 ∉ ts) : FaB w' lo g xs := by
  obtain ⟨hl, cur, h1, h2, h3⟩ := h
  refine ⟨hl, cur, hk.cell h1 hF, h2, fun j hj => ?_⟩
  obtain ⟨n0, n1, n2, n3, g0, g1, d0, d1, s0, s1⟩ := h3 j hj
  exact ⟨n0, n1, n2, n3, g0, g1, d0, d1, s0.keeps hk hT, s1.keeps hk hT⟩
end Go.Proofs.Ytopbdjplpnojmaa
