/-
  The document's l06: values numbered anew, in a new row.
  The document's canon as it grows: its frames, its records, its texts.
  How the document's canon grows by a frame, by a record, and gets its value.
-/
import Derived.Test.YtcfbahaokmhbkaaGreatG1
namespace Go.Proofs.YtcfbahaokmhbkaaGreat
open Go.RowKit

theorem Keeps.grownNew {B e size n : Nat} {ts : List Nat} {v : Value} {xs : List Value} {a w w' : World} (h : Keeps B ts a w) (hown : w.ownsRow a.heap.size e size v n xs) (hg : w.grownBy w' v.ownBlock) : Keeps B ts a w' := by
  refine ⟨hg.os.trans h.os, hg.tape.trans h.tape, hg.output.trans h.output, Nat.le_trans h.size hg.size, fun k o hk ho => ?_⟩
  exact grown_kept hown (lt_block hk) (h.block k o hk ho) hg
theorem WalkAt.grown {w w' : World} {Wb B0 B H base e size n : Nat} {hv nv lv v : Value} {ms : List Nat} {xs : List Value} (h : WalkAt w Wb B0 B hv H nv lv ms) (hown : w.ownsRow base e size v n xs) (hg : w.grownBy w' v.ownBlock) (h87 : 87 ≠ e) (h3 : 3 ≠ e) : WalkAt w' Wb B0 B hv H nv lv ms := by
  have ow : ∀ {B1 m : Nat} {u : Value} {ys : List Value}, w.ownsRow B1 3 1 u m ys → w'.ownsRow B1 3 1 u m ys := fun {B1 m u ys} ho => by
    refine ⟨ho.1, ?_⟩
    rcases ho.2 with ⟨e, hn⟩ | ⟨b, cap, cur, e, hb', hh, r⟩
    · exact .inl ⟨e, hn⟩
    · exact .inr ⟨b, cap, cur, e, hb', grown_other hown hh h3 hg, r⟩
  exact ⟨grown_other hown h.blk h87 hg, ow h.news, ow h.list, h.low, h.wb, h.bb⟩

theorem flat_snoc (vs : List Vl) (v : Vl) : flat (vs ++ [v]) = flat vs ++ [.int .i64 v.k, .int .i64 v.n, .string v.s] := by rw [flat_app]; rfl

set_option maxRecDepth 100000 in
set_option maxHeartbeats 2000000 in
theorem sValues_is (Wb B : Nat) (hv : Value) (H : Nat) (nv lv : Value) (ms : List Nat) (a : Option Addr) (vs : List Vl) (cap : Nat) (w00 w : World) (hW : WalkAt w Wb w00.heap.size B hv H nv lv ms) (hB : B ≤ w.heap.size) (h00 : Below w00.heap.size w00 w)
    (hm : ValsAt w00 0 a vs) (hl : vs.length ≤ 1048576) (hn : ∀ v ∈ vs, Named H v) (hM : Met H ms) (hH : H ≤ 1048576) :
    Calls Tryz.prog 51 #[.pointer (some ⟨Wb, 0, none⟩), .slice a vs.length cap] w fun e w' => ∃ xa xc, e = .returned (.slice xa vs.length xc) ∧ w'.ownsRow w.heap.size 36 3 (.slice xa vs.length xc) vs.length (flat (lV ms vs)) ∧ (∃ nv' lv', WalkAt w' Wb w00.heap.size B hv H nv' lv' (lS ms vs)) ∧ Keeps w00.heap.size [87, 3] w w' := by
  obtain ⟨i0, hi, hz0, hz1, hz2⟩ := info_parts info36
  have hbA : Below w.heap.size w (w.alloc (.cells #[] 36)) := (Below.refl _ _).alloc (Nat.le_refl _) _
  go_enter Tryz.func51, Tryz.ntmps51
  go_wp2
  go_loopw [5, 6] (fun o i wr => ∃ (k : Nat), k ≤ vs.length ∧ i = .int .i64 k ∧ wr.ownsRow w.heap.size 36 3 o k (flat (lV ms (vs.take k))) ∧ Hid (∃ nv' lv', WalkAt wr Wb w00.heap.size B hv H nv' lv' (lS ms (vs.take k))) ∧ Hid (Keeps w00.heap.size [87, 3] w wr)) (fun _ i _ => vs.length - (intOf i).toNat)
  case atStart =>
    refine ⟨0, by omega, rfl, ⟨rfl, .inr ⟨w.heap.size, 0, #[], rfl, Nat.le_refl _, block_new _ _ _, by omega, by unfold maxLen; omega, rfl, rfl⟩⟩, ⟨nv, lv, hW.mono hbA⟩, Keeps.below hbA⟩
  case round =>
    obtain ⟨k, hk, rfl, hown, HW, HK⟩ := hrel
    by_cases hlt : k < vs.length
    · have hbr : Below w00.heap.size w00 wr := h00.trans (HK.out.toBelow h00.size)
      obtain ⟨b, off, rfl, -, c1, c2, c3⟩ := hm k hlt
      have c1' := cell_later hbr c1
      have c2' := cell_later hbr c2
      have c3' := cell_later hbr c3
      clear c1 c2 c3
      obtain ⟨nv1, lv1, hW1⟩ := HW.out
      have hsv := sValue_any Wb w00.heap.size B hv H nv1 lv1 (lS ms (vs.take k)) vs[k] wr hW1 (Nat.le_trans hB HK.out.size) (hn _ (List.getElem_mem hlt)) (hM.lS fun v hx => hn v (List.mem_of_mem_take hx)) hH
      have HO := hid hown
      have HBr := hid hbr
      clear hW1 hbr
      obtain ⟨xa, xc, hxe⟩ : ∃ xa xc, u5 = Value.slice xa k xc := by
        rcases hown.2 with ⟨e, h0⟩ | ⟨b, cp, cu, e, -⟩
        · exact ⟨none, 0, by rw [e, h0]⟩
        · exact ⟨_, cp, e⟩
      subst hxe
      clear hown
      go_wp2_with fail
      refine hsv.mono ?_
      rintro e w2 ⟨rfl, ⟨nv2, lv2, hW2⟩, hK2⟩
      obtain ⟨u, hu⟩ : ∃ u, u = mV (lS ms (vs.take k)) vs[k] := ⟨_, rfl⟩
      have HU := hid hu
      rw [← hu]
      have hown2 := own_keep HO.out hK2 (by decide)
      have hsz2 : w.heap.size ≤ w2.heap.size := Nat.le_trans HK.out.size hK2.size
      obtain ⟨L0, hL0⟩ : ∃ L0, L0 = flat (lV ms (vs.take k)) := ⟨_, rfl⟩
      have HL0 := hid hL0
      rw [← hL0] at hown2
      have HW2 := hid hW2
      have HK2 := hid hK2
      clear hsv c1' c2' c3' hu hL0 hW2 hK2
      go_wp2_with (at_builtin; refine wpList_append_lies _ rfl _ _ 88 rfl w.heap.size 36 i0 (.agg #[.int .i64 0, .int .i64 0, .string ByteArray.empty]) 3 32 Tryz.underlying88 hi hz0 hz1 hz2 rfl (by decide) _ _ _ rfl (World.ownsRow.alloc hown2 _) ⟨w2.heap.size, 0, none⟩ 1 1 [.int .i64 u.k, .int .i64 u.n, .string u.s] rfl rfl (World.news_of_block (cs := #[.int .i64 u.k, .int .i64 u.n, .string u.s]) (t := 36) (fr := (0, 0)) (heap_alloc_new w2 _)) (by simp [Value.oneCell']) (by decide) (by unfold maxLen; omega) (by omega) (by simp; omega) _ rfl ?_; intro g3 cap3 w3 hown3 hgrow3 hat3 hlt3)
      go_roundw
      case rel =>
        have hownA := World.ownsRow.alloc hown2 (.cells #[.int .i64 u.k, .int .i64 u.n, .string u.s] 36)
        have hbA2 : Below w2.heap.size w2 (w2.alloc (.cells #[.int .i64 u.k, .int .i64 u.n, .string u.s] 36)) := (Below.refl _ _).alloc (Nat.le_refl _) _
        refine ⟨k + 1, by omega, by go_num, ?_, ⟨nv2, lv2, ?_⟩, ?_⟩
        · rw [lV_more hlt, flat_snoc, ← HL0.out, ← HU.out]
          exact hown3
        · rw [lS_more hlt]
          exact (HW2.out.mono hbA2).grown hownA hgrow3 (by decide) (by decide)
        · exact (HK.out.trans (HK2.out.trans (Keeps.below hbA2))).grownNew hownA hgrow3
      case measure => simp [intOf]; omega
    · have hkn : k = vs.length := by omega
      subst hkn
      obtain ⟨xa, xc, hxe⟩ : ∃ xa xc, u5 = Value.slice xa vs.length xc := by
        rcases hown.2 with ⟨e, h0⟩ | ⟨b, cp, cu, e, -⟩
        · exact ⟨none, 0, by rw [e, h0]⟩
        · exact ⟨_, cp, e⟩
      subst hxe
      have HO := hid hown
      clear hown
      go_wp2
      go_ret
      have h1 := HO.out
      have h2 := HW.out
      rw [List.take_length] at h1 h2
      exact ⟨xa, xc, rfl, h1, h2, HK.out⟩
end Go.Proofs.YtcfbahaokmhbkaaGreat

namespace Go.Proofs.YtcfbahaokmhbkaaGreat
open Go.RowKit

/-- Values in a row of the call's own. -/
def ValsRow (w : World) (lo : Nat) (xa : Option Addr) (xc : Nat) (vs : List Vl) : Prop := w.ownsRow lo 36 3 (.slice xa vs.length xc) vs.length (flat vs)
theorem ValsRow.at {w : World} {lo xc : Nat} {xa : Option Addr} {vs : List Vl} (h : ValsRow w lo xa xc vs) : ValsAt w lo xa vs := fun i hi => by
  obtain ⟨g, cap, e, hb, -⟩ := World.ownsRow.form h (by omega)
  cases e
  obtain ⟨f1, f2, f3⟩ := flat_at vs i hi
  refine ⟨g, 0, rfl, hb, ?_, ?_, ?_⟩
  · rw [Nat.zero_add, World.ownsRow.cellAt h _ (by omega)]; exact f1
  · rw [Nat.zero_add, World.ownsRow.cellAt h _ (by omega)]; exact f2
  · rw [Nat.zero_add, World.ownsRow.cellAt h _ (by omega)]; exact f3

structure FrsOwn (w : World) (lo : Nat) (fv : Value) (fr : List Fr) (L : List Value) : Prop where
  own : w.ownsRow lo 90 4 fv fr.length L
  cell : ∀ i (h : i < fr.length), L[i * 4]? = some (.int .i64 fr[i].fn) ∧ L[i * 4 + 1]? = some (.int .i64 fr[i].pc) ∧ ∃ xa xc ya yc, L[i * 4 + 2]? = some (.slice xa fr[i].locals.length xc) ∧ L[i * 4 + 3]? = some (.slice ya fr[i].stack.length yc) ∧ ValsRow w lo xa xc fr[i].locals ∧ ValsRow w lo ya yc fr[i].stack
structure RecsOwn (w : World) (lo : Nat) (rv : Value) (rs : List (List Vl)) (L : List Value) : Prop where
  own : w.ownsRow lo 94 1 rv rs.length L
  cell : ∀ i (h : i < rs.length), ∃ xa xc, L[i]? = some (.slice xa rs[i].length xc) ∧ ValsRow w lo xa xc rs[i]

theorem FrsOwn.keep {w w' : World} {lo B0 : Nat} {ts : List Nat} {fv : Value} {fr : List Fr} {L : List Value} (h : FrsOwn w lo fv fr L) (hk : Keeps B0 ts w w') (h90 : 90 ∉ ts) (h36 : 36 ∉ ts) : FrsOwn w' lo fv fr L :=
  ⟨own_keep h.own hk h90, fun i hi => by
    obtain ⟨c1, c2, xa, xc, ya, yc, c3, c4, v1, v2⟩ := h.cell i hi
    exact ⟨c1, c2, xa, xc, ya, yc, c3, c4, own_keep v1 hk h36, own_keep v2 hk h36⟩⟩
theorem RecsOwn.keep {w w' : World} {lo B0 : Nat} {ts : List Nat} {rv : Value} {rs : List (List Vl)} {L : List Value} (h : RecsOwn w lo rv rs L) (hk : Keeps B0 ts w w') (h94 : 94 ∉ ts) (h36 : 36 ∉ ts) : RecsOwn w' lo rv rs L :=
  ⟨own_keep h.own hk h94, fun i hi => by
    obtain ⟨xa, xc, c1, v1⟩ := h.cell i hi
    exact ⟨xa, xc, c1, own_keep v1 hk h36⟩⟩
theorem FrsOwn.at {w : World} {lo fc : Nat} {fa : Option Addr} {fr : List Fr} {L : List Value} (h : FrsOwn w lo (.slice fa fr.length fc) fr L) : FrsAt w lo fa fr := fun i hi => by
  obtain ⟨g, cap, e, hb, -⟩ := h.own.form (by omega)
  cases e
  obtain ⟨c1, c2, xa, xc, ya, yc, c3, c4, v1, v2⟩ := h.cell i hi
  refine ⟨g, 0, xa, xc, ya, yc, rfl, hb, ?_, ?_, ?_, ?_, v1.at, v2.at⟩
  · rw [Nat.zero_add, h.own.cellAt _ (by omega)]; exact c1
  · rw [Nat.zero_add, h.own.cellAt _ (by omega)]; exact c2
  · rw [Nat.zero_add, h.own.cellAt _ (by omega)]; exact c3
  · rw [Nat.zero_add, h.own.cellAt _ (by omega)]; exact c4
theorem RecsOwn.at {w : World} {lo hc : Nat} {ha : Option Addr} {rs : List (List Vl)} {L : List Value} (h : RecsOwn w lo (.slice ha rs.length hc) rs L) : RecsAt w lo ha rs := fun i hi => by
  obtain ⟨g, cap, e, hb, -⟩ := h.own.form (by omega)
  cases e
  obtain ⟨xa, xc, c1, v1⟩ := h.cell i hi
  refine ⟨g, 0, xa, xc, rfl, hb, ?_, v1.at⟩
  rw [Nat.zero_add, h.own.cellAt _ (by omega)]; exact c1
theorem FrsOwn.more {w w' : World} {lo xc yc : Nat} {fv fv' : Value} {fr : List Fr} {f : Fr} {L : List Value} {xa ya : Option Addr} (h : FrsOwn w lo fv fr L) (hk : Keeps lo [90] w w') (hown : w'.ownsRow lo 90 4 fv' (fr.length + 1) (L ++ [.int .i64 f.fn, .int .i64 f.pc, .slice xa f.locals.length xc, .slice ya f.stack.length yc]))
    (h1 : ValsRow w lo xa xc f.locals) (h2 : ValsRow w lo ya yc f.stack) : FrsOwn w' lo fv' (fr ++ [f]) (L ++ [.int .i64 f.fn, .int .i64 f.pc, .slice xa f.locals.length xc, .slice ya f.stack.length yc]) := by
  have hl := h.own.1
  have kv : ∀ {a c vs}, ValsRow w lo a c vs → ValsRow w' lo a c vs := fun hv => own_keep hv hk (by decide)
  refine ⟨by rw [List.length_append, List.length_singleton]; exact hown, fun i hi => ?_⟩
  rw [List.length_append, List.length_singleton] at hi
  by_cases e : i = fr.length
  · subst e
    rw [List.getElem_append_right (Nat.le_refl _)]
    simp only [Nat.sub_self, List.getElem_cons_zero]
    refine ⟨?_, ?_, xa, xc, ya, yc, ?_, ?_, kv h1, kv h2⟩
    · rw [List.getElem?_append_right (by omega), hl, Nat.sub_self]; rfl
    · rw [List.getElem?_append_right (by omega), hl, show fr.length * 4 + 1 - fr.length * 4 = 1 by omega]; rfl
    · rw [List.getElem?_append_right (by omega), hl, show fr.length * 4 + 2 - fr.length * 4 = 2 by omega]; rfl
    · rw [List.getElem?_append_right (by omega), hl, show fr.length * 4 + 3 - fr.length * 4 = 3 by omega]; rfl
  · have hi' : i < fr.length := by omega
    obtain ⟨c1, c2, xa', xc', ya', yc', c3, c4, v1, v2⟩ := h.cell i hi'
    rw [List.getElem_append_left hi']
    refine ⟨?_, ?_, xa', xc', ya', yc', ?_, ?_, kv v1, kv v2⟩
    · rw [List.getElem?_append_left (by omega)]; exact c1
    · rw [List.getElem?_append_left (by omega)]; exact c2
    · rw [List.getElem?_append_left (by omega)]; exact c3
    · rw [List.getElem?_append_left (by omega)]; exact c4
theorem RecsOwn.more {w w' : World} {lo xc : Nat} {rv rv' : Value} {rs : List (List Vl)} {r : List Vl} {L : List Value} {xa : Option Addr} (h : RecsOwn w lo rv rs L) (hk : Keeps lo [94] w w') (hown : w'.ownsRow lo 94 1 rv' (rs.length + 1) (L ++ [.slice xa r.length xc]))
    (h1 : ValsRow w lo xa xc r) : RecsOwn w' lo rv' (rs ++ [r]) (L ++ [.slice xa r.length xc]) := by
  have hl := h.own.1
  have kv : ∀ {a c vs}, ValsRow w lo a c vs → ValsRow w' lo a c vs := fun hv => own_keep hv hk (by decide)
  refine ⟨by rw [List.length_append, List.length_singleton]; exact hown, fun i hi => ?_⟩
  rw [List.length_append, List.length_singleton] at hi
  by_cases e : i = rs.length
  · subst e
    rw [List.getElem_append_right (Nat.le_refl _)]
    simp only [Nat.sub_self, List.getElem_cons_zero]
    refine ⟨xa, xc, ?_, kv h1⟩
    rw [List.getElem?_append_right (by omega), hl, show rs.length - rs.length * 1 = 0 by omega]; rfl
  · have hi' : i < rs.length := by omega
    obtain ⟨xa', xc', c1, v1⟩ := h.cell i hi'
    rw [List.getElem_append_left hi']
    refine ⟨xa', xc', ?_, kv v1⟩
    rw [List.getElem?_append_left (by omega)]; exact c1

/-- What the document's canon holds in memory while it is made: the walk, the state that is made (block V), its parts. -/
structure SInv (w wr : World) (B V : Nat) (d : VmD) (hv fv rv ov : Value) (fr : List Fr) (LF : List Value) (rs : List (List Vl)) (LR : List Value) (vl : Vl) (ms : List Nat) (IA RA : Array Value) : Prop where
  walk : ∃ nv lv, WalkAt wr (w.heap.size + 1 + 1) w.heap.size B hv d.heap.length nv lv ms
  out : wr.heap[V]? = some (.cells #[fv, rv, .int .i64 d.made, ov, .int .i64 d.status, .int .i64 d.trap, .int .i64 vl.k, .int .i64 vl.n, .string vl.s, .int .i64 0] 38 (0, 0))
  frs : FrsOwn wr w.heap.size fv fr LF
  recs : RecsOwn wr w.heap.size rv rs LR
  strs : wr.ownsRow w.heap.size 9 1 ov d.out.length (d.out.map Value.string)
  inb : wr.heap[w.heap.size]? = some (.cells IA 38 (0, 0))
  res : wr.heap[w.heap.size + 1]? = some (.cells RA 38 (0, 0))
  below : Below w.heap.size w wr
  bs : B ≤ wr.heap.size
  vb : w.heap.size + 1 < V
  met : Met d.heap.length ms

section
variable {w wr w' : World} {B V : Nat} {d : VmD} {hv fv rv ov : Value} {fr : List Fr} {LF : List Value} {rs : List (List Vl)} {LR : List Value} {vl : Vl} {ms ms' : List Nat} {IA RA : Array Value}
theorem SInv.mono (h : SInv w wr B V d hv fv rv ov fr LF rs LR vl ms IA RA) (hb : Below wr.heap.size wr w') : SInv w w' B V d hv fv rv ov fr LF rs LR vl ms IA RA := by
  obtain ⟨nv, lv, hw⟩ := h.walk
  exact ⟨⟨nv, lv, hw.mono hb⟩, block_kept h.out hb, h.frs.keep (Keeps.below (B := 0) (ts := []) hb) (by simp) (by simp), h.recs.keep (Keeps.below (B := 0) (ts := []) hb) (by simp) (by simp), own_mono h.strs hb, block_kept h.inb hb, block_kept h.res hb, h.below.trans (hb.mono h.below.size), Nat.le_trans h.bs hb.size, h.vb, h.met⟩
/-- Behind the numbering of values. -/
theorem SInv.keep (h : SInv w wr B V d hv fv rv ov fr LF rs LR vl ms IA RA) (hk : Keeps w.heap.size [87, 3] wr w') (hw : ∃ nv lv, WalkAt w' (w.heap.size + 1 + 1) w.heap.size B hv d.heap.length nv lv ms') (hM : Met d.heap.length ms') : SInv w w' B V d hv fv rv ov fr LF rs LR vl ms' IA RA :=
  ⟨hw, hk.cell h.out (by decide), h.frs.keep hk (by decide) (by decide), h.recs.keep hk (by decide) (by decide), own_keep h.strs hk (by decide), hk.cell h.inb (by decide), hk.cell h.res (by decide), h.below.trans (hk.toBelow h.below.size), Nat.le_trans h.bs hk.size, h.vb, hM⟩
end
end Go.Proofs.YtcfbahaokmhbkaaGreat

namespace Go.Proofs.YtcfbahaokmhbkaaGreat
open Go.RowKit

theorem own_down {w : World} {B B' e size n : Nat} {v : Value} {xs : List Value} (h : w.ownsRow B e size v n xs) (hB : B' ≤ B) : w.ownsRow B' e size v n xs := by
  refine ⟨h.1, ?_⟩
  rcases h.2 with ⟨e, hn⟩ | ⟨b, cap, cur, e, hb, r⟩
  · exact .inl ⟨e, hn⟩
  · exact .inr ⟨b, cap, cur, e, Nat.le_trans hB hb, r⟩

theorem WalkAt.keep {w w' : World} {Wb B0 B H B1 : Nat} {ts : List Nat} {hv nv lv : Value} {ms : List Nat} (h : WalkAt w Wb B0 B hv H nv lv ms) (hk : Keeps B1 ts w w') (h87 : 87 ∉ ts) (h3 : 3 ∉ ts) : WalkAt w' Wb B0 B hv H nv lv ms :=
  ⟨hk.cell h.blk h87, own_keep h.news hk h3, own_keep h.list hk h3, h.low, h.wb, h.bb⟩

section
variable {w wr w' : World} {B V : Nat} {d : VmD} {hv fv rv ov fv' rv' : Value} {fr : List Fr} {LF : List Value} {rs : List (List Vl)} {LR : List Value} {vl : Vl} {ms : List Nat} {IA RA : Array Value}

/-- A cell of the state that is made is written: all else is as it was. -/
theorem SInv.vset {i : Nat} {u : Value} (h : SInv w wr B V d hv fv rv ov fr LF rs LR vl ms IA RA) (hk : Keeps w.heap.size [38] wr (wr.setCell ⟨V, i, none⟩ u)) :
    (∃ nv lv, WalkAt (wr.setCell ⟨V, i, none⟩ u) (w.heap.size + 1 + 1) w.heap.size B hv d.heap.length nv lv ms) ∧ FrsOwn (wr.setCell ⟨V, i, none⟩ u) w.heap.size fv fr LF ∧ RecsOwn (wr.setCell ⟨V, i, none⟩ u) w.heap.size rv rs LR ∧ (wr.setCell ⟨V, i, none⟩ u).ownsRow w.heap.size 9 1 ov d.out.length (d.out.map Value.string) ∧ (wr.setCell ⟨V, i, none⟩ u).heap[w.heap.size]? = some (.cells IA 38 (0, 0)) ∧ (wr.setCell ⟨V, i, none⟩ u).heap[w.heap.size + 1]? = some (.cells RA 38 (0, 0)) ∧ Below w.heap.size w (wr.setCell ⟨V, i, none⟩ u) ∧ B ≤ (wr.setCell ⟨V, i, none⟩ u).heap.size := by
  obtain ⟨nv, lv, hw⟩ := h.walk
  have hvb := h.vb
  refine ⟨⟨nv, lv, hw.keep hk (by decide) (by decide)⟩, h.frs.keep hk (by decide) (by decide), h.recs.keep hk (by decide) (by decide), own_keep h.strs hk (by decide), ?_, ?_, h.below.setCell (by show w.heap.size ≤ V; omega) _, by have := h.bs; simpa using this⟩
  · rw [Below.heap_setCell _ _ _ _ (by show w.heap.size ≠ V; omega)]; exact h.inb
  · rw [Below.heap_setCell _ _ _ _ (by show w.heap.size + 1 ≠ V; omega)]; exact h.res
theorem SInv.kv (h : SInv w wr B V d hv fv rv ov fr LF rs LR vl ms IA RA) (i : Nat) (u : Value) : Keeps w.heap.size [38] wr (wr.setCell ⟨V, i, none⟩ u) :=
  (Keeps.refl _ _ _).set h.out (by simp) (by have := h.vb; omega) _ _

theorem SInv.addF (h : SInv w wr B V d hv fv rv ov fr LF rs LR vl ms IA RA) (hk : Keeps w.heap.size [90] wr w') {fr' : List Fr} {LF' : List Value} (hF : FrsOwn w' w.heap.size fv' fr' LF') : SInv w (w'.setCell ⟨V, 0, none⟩ fv') B V d hv fv' rv ov fr' LF' rs LR vl ms IA RA := by
  obtain ⟨nv, lv, hw⟩ := h.walk
  have hvb := h.vb
  have hV := hk.cell h.out (by decide)
  have hk2 : Keeps w.heap.size [38] w' (w'.setCell ⟨V, 0, none⟩ fv') := (Keeps.refl _ _ _).set hV (by simp) (by omega) _ _
  refine ⟨⟨nv, lv, (hw.keep hk (by decide) (by decide)).keep hk2 (by decide) (by decide)⟩, by simpa using block_set (i := 0) hV fv', hF.keep hk2 (by decide) (by decide), (h.recs.keep hk (by decide) (by decide)).keep hk2 (by decide) (by decide), own_keep (own_keep h.strs hk (by decide)) hk2 (by decide), ?_, ?_, (h.below.trans (hk.toBelow h.below.size)).setCell (by show w.heap.size ≤ V; omega) _, by have h1 := h.bs; have h2 := hk.size; have h3 := hk2.size; omega, hvb, h.met⟩
  · rw [Below.heap_setCell _ _ _ _ (by show w.heap.size ≠ V; omega)]; exact hk.cell h.inb (by decide)
  · rw [Below.heap_setCell _ _ _ _ (by show w.heap.size + 1 ≠ V; omega)]; exact hk.cell h.res (by decide)
theorem SInv.addR (h : SInv w wr B V d hv fv rv ov fr LF rs LR vl ms IA RA) (hk : Keeps w.heap.size [94] wr w') {rs' : List (List Vl)} {LR' : List Value} (hR : RecsOwn w' w.heap.size rv' rs' LR') : SInv w (w'.setCell ⟨V, 1, none⟩ rv') B V d hv fv rv' ov fr LF rs' LR' vl ms IA RA := by
  obtain ⟨nv, lv, hw⟩ := h.walk
  have hvb := h.vb
  have hV := hk.cell h.out (by decide)
  have hk2 : Keeps w.heap.size [38] w' (w'.setCell ⟨V, 1, none⟩ rv') := (Keeps.refl _ _ _).set hV (by simp) (by omega) _ _
  refine ⟨⟨nv, lv, (hw.keep hk (by decide) (by decide)).keep hk2 (by decide) (by decide)⟩, by simpa using block_set (i := 1) hV rv', (h.frs.keep hk (by decide) (by decide)).keep hk2 (by decide) (by decide), hR.keep hk2 (by decide) (by decide), own_keep (own_keep h.strs hk (by decide)) hk2 (by decide), ?_, ?_, (h.below.trans (hk.toBelow h.below.size)).setCell (by show w.heap.size ≤ V; omega) _, by have h1 := h.bs; have h2 := hk.size; have h3 := hk2.size; omega, hvb, h.met⟩
  · rw [Below.heap_setCell _ _ _ _ (by show w.heap.size ≠ V; omega)]; exact hk.cell h.inb (by decide)
  · rw [Below.heap_setCell _ _ _ _ (by show w.heap.size + 1 ≠ V; omega)]; exact hk.cell h.res (by decide)
theorem SInv.setVal (h : SInv w wr B V d hv fv rv ov fr LF rs LR vl ms IA RA) (u : Vl) : SInv w (((wr.setCell ⟨V, 6, none⟩ (.int .i64 u.k)).setCell ⟨V, 7, none⟩ (.int .i64 u.n)).setCell ⟨V, 8, none⟩ (.string u.s)) B V d hv fv rv ov fr LF rs LR u ms IA RA := by
  have a : SInv w (wr.setCell ⟨V, 6, none⟩ (.int .i64 u.k)) B V d hv fv rv ov fr LF rs LR ⟨u.k, vl.n, vl.s⟩ ms IA RA := by
    obtain ⟨h1, h2, h3, h4, h5, h6, h7, h8⟩ := h.vset (h.kv 6 (.int .i64 u.k))
    exact ⟨h1, by simpa using block_set (i := 6) h.out (.int .i64 u.k), h2, h3, h4, h5, h6, h7, h8, h.vb, h.met⟩
  have b : SInv w ((wr.setCell ⟨V, 6, none⟩ (.int .i64 u.k)).setCell ⟨V, 7, none⟩ (.int .i64 u.n)) B V d hv fv rv ov fr LF rs LR ⟨u.k, u.n, vl.s⟩ ms IA RA := by
    obtain ⟨h1, h2, h3, h4, h5, h6, h7, h8⟩ := a.vset (a.kv 7 (.int .i64 u.n))
    exact ⟨h1, by simpa using block_set (i := 7) a.out (.int .i64 u.n), h2, h3, h4, h5, h6, h7, h8, h.vb, h.met⟩
  obtain ⟨h1, h2, h3, h4, h5, h6, h7, h8⟩ := b.vset (b.kv 8 (.string u.s))
  exact ⟨h1, by simpa using block_set (i := 8) b.out (.string u.s), h2, h3, h4, h5, h6, h7, h8, h.vb, h.met⟩

end
end Go.Proofs.YtcfbahaokmhbkaaGreat
