/-
  A module in memory of the call's own whose functions' instructions lie apart; one function's instructions changed.
-/
import Derived.Test.YtffeejkghmpkkaaRCO
namespace Go.Proofs.Ytffeejkghmpkkaa
open Go.RowKit

structure CodesAp (w : World) (base : Nat) (fs : List Fn) (cs : List (Option Addr × Nat)) : Prop where
  len : fs.length = cs.length
  own : ∀ i (h : i < fs.length) (h' : i < cs.length), w.ownsRow base 54 2 (.slice cs[i].1 fs[i].code.length cs[i].2) fs[i].code.length (codeVals fs[i].code)
  apart : ∀ i j (hi : i < cs.length) (hj : j < cs.length), i ≠ j → ∀ g g', cs[i].1 = some ⟨g, 0, none⟩ → cs[j].1 = some ⟨g', 0, none⟩ → g ≠ g'
theorem CodesOwn.ap {w : World} {base : Nat} {fs : List Fn} {cs : List (Option Addr × Nat)} (h : CodesOwn w base fs cs) : CodesAp w base fs cs :=
  ⟨h.len, h.own, fun i j hi hj hne g g' hg hg' => by
    rcases Nat.lt_or_gt_of_ne hne with a | a
    · have := h.order i j a hj g g' hg hg'; omega
    · have := h.order j i a hi g' g hg' hg; omega⟩
theorem CodesAp.keeps {w w' : World} {base B : Nat} {ts : List Nat} {fs : List Fn} {cs : List (Option Addr × Nat)} (h : CodesAp w base fs cs) (hk : Keeps B ts w w') (he : 54 ∉ ts) : CodesAp w' base fs cs :=
  ⟨h.len, fun i hi hi' => own_keeps (h.own i hi hi') hk he, h.apart⟩
structure ModAp (w : World) (base : Nat) (a1 : Option Addr) (c1 : Nat) (a2 : Option Addr) (c2 : Nat) (ts : List ByteArray) (fs : List Fn) (cs : List (Option Addr × Nat)) : Prop where
  texts : w.ownsRow base 9 1 (.slice a1 ts.length c1) ts.length (ts.map .string)
  funcs : w.ownsRow base 44 3 (.slice a2 fs.length c2) fs.length (fnVals fs cs)
  codes : CodesAp w base fs cs
section
variable {w w' : World} {base c1 c2 : Nat} {a1 a2 : Option Addr} {ts : List ByteArray} {fs : List Fn} {cs : List (Option Addr × Nat)}
theorem ModOwn.ap (h : ModOwn w base a1 c1 a2 c2 ts fs cs) : ModAp w base a1 c1 a2 c2 ts fs cs := ⟨h.texts, h.funcs, h.codes.ap⟩
theorem ModAp.keeps {B : Nat} {l : List Nat} (h : ModAp w base a1 c1 a2 c2 ts fs cs) (hk : Keeps B l w w') (h9 : 9 ∉ l) (h44 : 44 ∉ l) (h54 : 54 ∉ l) : ModAp w' base a1 c1 a2 c2 ts fs cs :=
  ⟨own_keeps h.texts hk h9, own_keeps h.funcs hk h44, h.codes.keeps hk h54⟩
theorem ModAp.below (h : ModAp w base a1 c1 a2 c2 ts fs cs) (hb : Below w.heap.size w w') : ModAp w' base a1 c1 a2 c2 ts fs cs :=
  h.keeps (B := 0) (l := []) (Keeps.below hb) (by simp) (by simp) (by simp)
theorem CodesAp.low {base' : Nat} (h : CodesAp w base fs cs) (hb : base' ≤ base) : CodesAp w base' fs cs := ⟨h.len, fun i hi hi' => own_low (h.own i hi hi') hb, h.apart⟩
theorem ModAp.low {base' : Nat} (h : ModAp w base a1 c1 a2 c2 ts fs cs) (hb : base' ≤ base) : ModAp w base' a1 c1 a2 c2 ts fs cs :=
  ⟨own_low h.texts hb, own_low h.funcs hb, h.codes.low hb⟩
theorem ModAp.set (h : ModAp w base a1 c1 a2 c2 ts fs cs) {p : Addr} (hp : p.block < base) (v : Value) : ModAp (w.setCell p v) base a1 c1 a2 c2 ts fs cs :=
  ⟨ownsRow_setCell_below h.texts hp v, ownsRow_setCell_below h.funcs hp v, ⟨h.codes.len, fun i hi hi' => ownsRow_setCell_below (h.codes.own i hi hi') hp v, h.codes.apart⟩⟩
theorem ModAp.strs (h : ModAp w base a1 c1 a2 c2 ts fs cs) : StrsAt w base a1 ts := texts_at h.texts
theorem ModAp.fns (h : ModAp w base a1 c1 a2 c2 ts fs cs) : FnsAt w base a2 fs := by
  intro i hi
  have hi' : i < cs.length := by rw [← h.codes.len]; exact hi
  have hv := fnVals_at fs cs h.codes.len i hi hi'
  obtain ⟨g, hg, hb, h1⟩ := own_cell h.funcs (i * 3) (by omega)
  obtain ⟨g', hg', -, h2⟩ := own_cell h.funcs (i * 3 + 1) (by omega)
  obtain ⟨g'', hg'', -, h3⟩ := own_cell h.funcs (i * 3 + 2) (by omega)
  rw [hg] at hg' hg''
  cases hg'
  cases hg''
  exact ⟨g, 0, cs[i].1, cs[i].2, hg, hb, by rw [Nat.zero_add, h1, hv.1], by rw [show 0 + i * 3 + 1 = i * 3 + 1 by omega, h2, hv.2.1], by rw [show 0 + i * 3 + 2 = i * 3 + 2 by omega, h3, hv.2.2], code_at (h.codes.own i hi hi')⟩
end
theorem fnVals_row (gs : List Fn) (cs : List (Option Addr × Nat)) : ∀ (i : Nat) (h : i < gs.length) (_ : i < cs.length) (ys : List (Int × Int)) (a : Option Addr) (c : Nat), (fnVals gs cs).set (i * 3 + 2) (.slice a ys.length c) = fnVals (gs.set i ⟨gs[i].params, gs[i].locals, ys⟩) (cs.set i (a, c)) := by
  induction gs generalizing cs with
  | nil => intro i h; simp at h
  | cons f gs ih =>
    intro i h h' ys a c
    cases cs with
    | nil => simp at h'
    | cons c0 cs =>
      have e : ∀ y ys c cs, fnVals (y :: ys) (c :: cs) = .int .i64 y.params :: .int .i64 y.locals :: .slice c.1 y.code.length c.2 :: fnVals ys cs := fun y ys c cs => by simp [fnVals]
      cases i with
      | zero => simp [e]
      | succ i =>
        rw [e, show (i + 1) * 3 + 2 = i * 3 + 2 + 1 + 1 + 1 by omega]
        simp only [List.set_cons_succ, List.getElem_cons_succ]
        rw [ih cs i (by simpa using h) (by simpa using h') ys a c, e]
/-- One function's instructions are others: their block is the one that it was, or a new one. -/
theorem CodesAp.write {w w' : World} {base : Nat} {fs : List Fn} {cs : List (Option Addr × Nat)} {r : Option Nat} (h : CodesAp w base fs cs) (i : Nat) (hi : i < fs.length) (hi' : i < cs.length) (p l : Int) (ys : List (Int × Int)) (a : Option Addr) (c : Nat)
    (hrow : w'.ownsRow base 54 2 (.slice a ys.length c) ys.length (codeVals ys)) (hg : w.grownBy w' r) (hr : ∀ g, r = some g → cs[i].1 = some ⟨g, 0, none⟩) (ha : ∀ g, a = some ⟨g, 0, none⟩ → cs[i].1 = some ⟨g, 0, none⟩ ∨ w.heap.size ≤ g) :
    CodesAp w' base (fs.set i ⟨p, l, ys⟩) (cs.set i (a, c)) := by
  have old : ∀ j (hj : j < fs.length) (hj' : j < cs.length), j ≠ i → w'.ownsRow base 54 2 (.slice cs[j].1 fs[j].code.length cs[j].2) fs[j].code.length (codeVals fs[j].code) := fun j hj hj' hne =>
    own_other (h.own j hj hj') hg (fun g hg' e => h.apart j i hj' hi' hne g g hg' (hr g e) rfl)
  have lt : ∀ j (hj' : j < cs.length) g, cs[j].1 = some ⟨g, 0, none⟩ → g < w.heap.size := fun j hj' g hg' => (own_lt (h.own j (by rw [h.len]; exact hj') hj') hg').2
  refine ⟨by simpa using h.len, fun j hj hj' => ?_, fun j k hj hk hne g g' hg1 hg2 => ?_⟩
  · have hj0 : j < fs.length := by simpa using hj
    have hj1 : j < cs.length := by simpa using hj'
    by_cases e : j = i
    · subst e
      simpa using hrow
    · have := old j hj0 hj1 e
      simpa [List.getElem_set_ne (fun x => e x.symm)] using this
  · have hj0 : j < cs.length := by simpa using hj
    have hk0 : k < cs.length := by simpa using hk
    by_cases e : j = i
    · subst e
      have hk1 : cs[k].1 = some ⟨g', 0, none⟩ := by simpa [List.getElem_set_ne hne] using hg2
      have hj1 : a = some ⟨g, 0, none⟩ := by simpa using hg1
      rcases ha g hj1 with q | q
      · exact h.apart j k hj0 hk0 hne g g' q hk1
      · have := lt k hk0 g' hk1; omega
    · have hj1 : cs[j].1 = some ⟨g, 0, none⟩ := by simpa [List.getElem_set_ne (fun x => e x.symm)] using hg1
      by_cases e2 : k = i
      · subst e2
        have hk1 : a = some ⟨g', 0, none⟩ := by simpa using hg2
        rcases ha g' hk1 with q | q
        · exact h.apart j k hj0 hk0 hne g g' hj1 q
        · have := lt j hj0 g hj1; omega
      · have hk1 : cs[k].1 = some ⟨g', 0, none⟩ := by simpa [List.getElem_set_ne (fun x => e2 x.symm)] using hg2
        exact h.apart j k hj0 hk0 hne g g' hj1 hk1
/-- One function's instructions lie in a new row. -/
theorem ModAp.recode {w w1 : World} {base c1 c2 : Nat} {a1 a2 : Option Addr} {ts : List ByteArray} {fs : List Fn} {cs : List (Option Addr × Nat)} (h : ModAp w base a1 c1 a2 c2 ts fs cs) (i : Nat) (hi : i < fs.length) (ys : List (Int × Int)) (a : Option Addr) (c : Nat) (hb : Below w.heap.size w w1) (hB : base ≤ w.heap.size)
    (hrow : w1.ownsRow w.heap.size 54 2 (.slice a ys.length c) ys.length (codeVals ys)) :
    ∃ g2, a2 = some ⟨g2, 0, none⟩ ∧ base ≤ g2 ∧ w1.frozen? ⟨g2, i * 3 + 2, none⟩ = false ∧ (∃ u, w1.cell? ⟨g2, i * 3 + 2, none⟩ = some u) ∧ (∃ cur, w1.heap[g2]? = some (.cells cur 44 (0, 0))) ∧
      ModAp (w1.setCell ⟨g2, i * 3 + 2, none⟩ (.slice a ys.length c)) base a1 c1 a2 c2 ts (fs.set i ⟨fs[i].params, fs[i].locals, ys⟩) (cs.set i (a, c)) := by
  have hi' : i < cs.length := by rw [← h.codes.len]; exact hi
  have h1 := h.below hb
  obtain ⟨g2, hg2, hb2, hf, hc, ⟨u, hu⟩, hput, honly⟩ := own_put h1.funcs (i * 3 + 2) (by omega)
  obtain ⟨cur, hcur⟩ := own_blk h1.funcs hg2
  have hk : Keeps base [44] w1 (w1.setCell ⟨g2, i * 3 + 2, none⟩ (.slice a ys.length c)) := (honly _).keeps hcur (by simp) hb2
  refine ⟨g2, hg2, hb2, hf, ⟨u, hc.trans hu⟩, ⟨cur, hcur⟩, own_keeps h1.texts hk (by simp), ?_, ?_⟩
  · have := hput (.slice a ys.length c)
    rw [fnVals_row fs cs i hi hi'] at this
    simpa using this
  · exact (h.codes.write (w' := w1) (r := none) i hi hi' fs[i].params fs[i].locals ys a c (own_low hrow hB) ⟨hb.os, hb.tape, hb.output, hb.size, fun k hk _ => hb.block k hk⟩ (fun g e => by cases e) (fun g e => .inr (own_lt hrow e).1)).keeps hk (by simp)
end Go.Proofs.Ytffeejkghmpkkaa
