/-
  The document's canon as it grows: its frames, its records, its texts.
-/
import Derived.Test.YtcebgbcgkkfedaaGreatG2
namespace Go.Proofs.YtcebgbcgkkfedaaGreat
open Go.RowKit

/-- Values in a row of the call's own. -/
def ValsRow (w : World) (lo : Nat) (xa : Option Addr) (xc : Nat) (vs : List Vl) : Prop := w.ownsRow lo 36 3 (.slice xa vs.length xc) vs.length (flat vs)
theorem ValsRow.at {w : World} {lo xc : Nat} {xa : Option Addr} {vs : List Vl} (h : ValsRow w lo xa xc vs) : ValsAt w lo xa vs := fun i hi => by
  obtain ⟨g, cap, e, hb, -⟩ := World.ownsRow.form h (by omega)
  cases e
  obtain ⟨f1, f2, f3⟩ := flat_at vs i hi
  refine ⟨g, 0, rfl, hb, ?_, ?_, ?_⟩
  · rw [Nat.zero_add, World.ownsRow.cellAt h _ (by omega)]; exact f1
  · rw [Nat.zero_add, World.ownsRow.cellAt h _ (by omega)]; exact f2
  · rw [Nat.zero_add, World.ownsRow.cellAt h _ (by omega)]; exact f3

structure FrsOwn (w : World) (lo : Nat) (fv : Value) (fr : List Fr) (L : List Value) : Prop where
  own : w.ownsRow lo 90 4 fv fr.length L
  cell : ∀ i (h : i < fr.length), L[i * 4]? = some (.int .i64 fr[i].fn) ∧ L[i * 4 + 1]? = some (.int .i64 fr[i].pc) ∧ ∃ xa xc ya yc, L[i * 4 + 2]? = some (.slice xa fr[i].locals.length xc) ∧ L[i * 4 + 3]? = some (.slice ya fr[i].stack.length yc) ∧ ValsRow w lo xa xc fr[i].locals ∧ ValsRow w lo ya yc fr[i].stack
structure RecsOwn (w : World) (lo : Nat) (rv : Value) (rs : List (List Vl)) (L : List Value) : Prop where
  own : w.ownsRow lo 94 1 rv rs.length L
  cell : ∀ i (h : i < rs.length), ∃ xa xc, L[i]? = some (.slice xa rs[i].length xc) ∧ ValsRow w lo xa xc rs[i]

theorem FrsOwn.keep {w w' : World} {lo B0 : Nat} {ts : List Nat} {fv : Value} {fr : List Fr} {L : List Value} (h : FrsOwn w lo fv fr L) (hk : Keeps B0 ts w w') (h90 : 90 ∉ ts) (h36 : 36 ∉ ts) : FrsOwn w' lo fv fr L :=
  ⟨own_keep h.own hk h90, fun i hi => by
    obtain ⟨c1, c2, xa, xc, ya, yc, c3, c4, v1, v2⟩ := h.cell i hi
    exact ⟨c1, c2, xa, xc, ya, yc, c3, c4, own_keep v1 hk h36, own_keep v2 hk h36⟩⟩
theorem RecsOwn.keep {w w' : World} {lo B0 : Nat} {ts : List Nat} {rv : Value} {rs : List (List Vl)} {L : List Value} (h : RecsOwn w lo rv rs L) (hk : Keeps B0 ts w w') (h94 : 94 ∉ ts) (h36 : 36 ∉ ts) : RecsOwn w' lo rv rs L :=
  ⟨own_keep h.own hk h94, fun i hi => by
    obtain ⟨xa, xc, c1, v1⟩ := h.cell i hi
    exact ⟨xa, xc, c1, own_keep v1 hk h36⟩⟩
theorem FrsOwn.at {w : World} {lo fc : Nat} {fa : Option Addr} {fr : List Fr} {L : List Value} (h : FrsOwn w lo (.slice fa fr.length fc) fr L) : FrsAt w lo fa fr := fun i hi => by
  obtain ⟨g, cap, e, hb, -⟩ := h.own.form (by omega)
  cases e
  obtain ⟨c1, c2, xa, xc, ya, yc, c3, c4, v1, v2⟩ := h.cell i hi
  refine ⟨g, 0, xa, xc, ya, yc, rfl, hb, ?_, ?_, ?_, ?_, v1.at, v2.at⟩
  · rw [Nat.zero_add, h.own.cellAt _ (by omega)]; exact c1
  · rw [Nat.zero_add, h.own.cellAt _ (by omega)]; exact c2
  · rw [Nat.zero_add, h.own.cellAt _ (by omega)]; exact c3
  · rw [Nat.zero_add, h.own.cellAt _ (by omega)]; exact c4
theorem RecsOwn.at {w : World} {lo hc : Nat} {ha : Option Addr} {rs : List (List Vl)} {L : List Value} (h : RecsOwn w lo (.slice ha rs.length hc) rs L) : RecsAt w lo ha rs := fun i hi => by
  obtain ⟨g, cap, e, hb, -⟩ := h.own.form (by omega)
  cases e
  obtain ⟨xa, xc, c1, v1⟩ := h.cell i hi
  refine ⟨g, 0, xa, xc, rfl, hb, ?_, v1.at⟩
  rw [Nat.zero_add, h.own.cellAt _ (by omega)]; exact c1
theorem FrsOwn.more {w w' : World} {lo xc yc : Nat} {fv fv' : Value} {fr : List Fr} {f : Fr} {L : List Value} {xa ya : Option Addr} (h : FrsOwn w lo fv fr L) (hk : Keeps lo [90] w w') (hown : w'.ownsRow lo 90 4 fv' (fr.length + 1) (L ++ [.int .i64 f.fn, .int .i64 f.pc, .slice xa f.locals.length xc, .slice ya f.stack.length yc]))
    (h1 : ValsRow w lo xa xc f.locals) (h2 : ValsRow w lo ya yc f.stack) : FrsOwn w' lo fv' (fr ++ [f]) (L ++ [.int .i64 f.fn, .int .i64 f.pc, .slice xa f.locals.length xc, .slice ya f.stack.length yc]) := by
  have hl := h.own.1
  have kv : ∀ {a c vs}, ValsRow w lo a c vs → ValsRow w' lo a c vs := fun hv => own_keep hv hk (by decide)
  refine ⟨by rw [List.length_append, List.length_singleton]; exact hown, fun i hi => ?_⟩
  rw [List.length_append, List.length_singleton] at hi
  by_cases e : i = fr.length
  · subst e
    rw [List.getElem_append_right (Nat.le_refl _)]
    simp only [Nat.sub_self, List.getElem_cons_zero]
    refine ⟨?_, ?_, xa, xc, ya, yc, ?_, ?_, kv h1, kv h2⟩
    · rw [List.getElem?_append_right (by omega), hl, Nat.sub_self]; rfl
    · rw [List.getElem?_append_right (by omega), hl, show fr.length * 4 + 1 - fr.length * 4 = 1 by omega]; rfl
    · rw [List.getElem?_append_right (by omega), hl, show fr.length * 4 + 2 - fr.length * 4 = 2 by omega]; rfl
    · rw [List.getElem?_append_right (by omega), hl, show fr.length * 4 + 3 - fr.length * 4 = 3 by omega]; rfl
  · have hi' : i < fr.length := by omega
    obtain ⟨c1, c2, xa', xc', ya', yc', c3, c4, v1, v2⟩ := h.cell i hi'
    rw [List.getElem_append_left hi']
    refine ⟨?_, ?_, xa', xc', ya', yc', ?_, ?_, kv v1, kv v2⟩
    · rw [List.getElem?_append_left (by omega)]; exact c1
    · rw [List.getElem?_append_left (by omega)]; exact c2
    · rw [List.getElem?_append_left (by omega)]; exact c3
    · rw [List.getElem?_append_left (by omega)]; exact c4
theorem RecsOwn.more {w w' : World} {lo xc : Nat} {rv rv' : Value} {rs : List (List Vl)} {r : List Vl} {L : List Value} {xa : Option Addr} (h : RecsOwn w lo rv rs L) (hk : Keeps lo [94] w w') (hown : w'.ownsRow lo 94 1 rv' (rs.length + 1) (L ++ [.slice xa r.length xc]))
    (h1 : ValsRow w lo xa xc r) : RecsOwn w' lo rv' (rs ++ [r]) (L ++ [.slice xa r.length xc]) := by
  have hl := h.own.1
  have kv : ∀ {a c vs}, ValsRow w lo a c vs → ValsRow w' lo a c vs := fun hv => own_keep hv hk (by decide)
  refine ⟨by rw [List.length_append, List.length_singleton]; exact hown, fun i hi => ?_⟩
  rw [List.length_append, List.length_singleton] at hi
  by_cases e : i = rs.length
  · subst e
    rw [List.getElem_append_right (Nat.le_refl _)]
    simp only [Nat.sub_self, List.getElem_cons_zero]
    refine ⟨xa, xc, ?_, kv h1⟩
    rw [List.getElem?_append_right (by omega), hl, show rs.length - rs.length * 1 = 0 by omega]; rfl
  · have hi' : i < rs.length := by omega
    obtain ⟨xa', xc', c1, v1⟩ := h.cell i hi'
    rw [List.getElem_append_left hi']
    refine ⟨xa', xc', ?_, kv v1⟩
    rw [List.getElem?_append_left (by omega)]; exact c1

/-- What the document's canon holds in memory while it is made: the walk, the state that is made (block V), its parts. -/
structure SInv (w wr : World) (B V : Nat) (d : VmD) (hv fv rv ov : Value) (fr : List Fr) (LF : List Value) (rs : List (List Vl)) (LR : List Value) (vl : Vl) (ms : List Nat) (IA RA : Array Value) : Prop where
  walk : ∃ nv lv, WalkAt wr (w.heap.size + 1 + 1) w.heap.size B hv d.heap.length nv lv ms
  out : wr.heap[V]? = some (.cells #[fv, rv, .int .i64 d.made, ov, .int .i64 d.status, .int .i64 d.trap, .int .i64 vl.k, .int .i64 vl.n, .string vl.s, .int .i64 0] 38 (0, 0))
  frs : FrsOwn wr w.heap.size fv fr LF
  recs : RecsOwn wr w.heap.size rv rs LR
  strs : wr.ownsRow w.heap.size 9 1 ov d.out.length (d.out.map Value.string)
  inb : wr.heap[w.heap.size]? = some (.cells IA 38 (0, 0))
  res : wr.heap[w.heap.size + 1]? = some (.cells RA 38 (0, 0))
  below : Below w.heap.size w wr
  bs : B ≤ wr.heap.size
  vb : w.heap.size + 1 < V
  met : Met d.heap.length ms

section
variable {w wr w' : World} {B V : Nat} {d : VmD} {hv fv rv ov : Value} {fr : List Fr} {LF : List Value} {rs : List (List Vl)} {LR : List Value} {vl : Vl} {ms ms' : List Nat} {IA RA : Array Value}
theorem SInv.mono (h : SInv w wr B V d hv fv rv ov fr LF rs LR vl ms IA RA) (hb : Below wr.heap.size wr w') : SInv w w' B V d hv fv rv ov fr LF rs LR vl ms IA RA := by
  obtain ⟨nv, lv, hw⟩ := h.walk
  exact ⟨⟨nv, lv, hw.mono hb⟩, block_kept h.out hb, h.frs.keep (Keeps.below (B := 0) (ts := []) hb) (by simp) (by simp), h.recs.keep (Keeps.below (B := 0) (ts := []) hb) (by simp) (by simp), own_mono h.strs hb, block_kept h.inb hb, block_kept h.res hb, h.below.trans (hb.mono h.below.size), Nat.le_trans h.bs hb.size, h.vb, h.met⟩
/-- Behind the numbering of values. -/
theorem SInv.keep (h : SInv w wr B V d hv fv rv ov fr LF rs LR vl ms IA RA) (hk : Keeps w.heap.size [87, 3] wr w') (hw : ∃ nv lv, WalkAt w' (w.heap.size + 1 + 1) w.heap.size B hv d.heap.length nv lv ms') (hM : Met d.heap.length ms') : SInv w w' B V d hv fv rv ov fr LF rs LR vl ms' IA RA :=
  ⟨hw, hk.cell h.out (by decide), h.frs.keep hk (by decide) (by decide), h.recs.keep hk (by decide) (by decide), own_keep h.strs hk (by decide), hk.cell h.inb (by decide), hk.cell h.res (by decide), h.below.trans (hk.toBelow h.below.size), Nat.le_trans h.bs hk.size, h.vb, hM⟩
end
end Go.Proofs.YtcebgbcgkkfedaaGreat
