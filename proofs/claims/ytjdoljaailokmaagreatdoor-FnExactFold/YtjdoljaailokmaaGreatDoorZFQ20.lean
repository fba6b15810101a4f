/-
  All functions of a module with the passes done: impl.eachOf over functions.
  A module in memory of the call's own whose functions' instructions lie apart; one function's instructions changed.
-/
import Derived.Test.YtjdoljaailokmaaGreatDoorZFQ19
import Derived.Test.YtjdoljaailokmaaGreatDoorZCO
namespace Go.Proofs.YtjdoljaailokmaaGreatDoor
open Go.RowKit

/-- The cells of a row of functions, so far. -/
def FRow (cur : Array Value) (ms : List Fn) (cs : List (Option Addr × Nat)) : Prop := ms.length = cs.length ∧ ∀ j (h : j < ms.length) (h' : j < cs.length), cur[j * 3]? = some (.int .i64 ms[j].params) ∧ cur[j * 3 + 1]? = some (.int .i64 ms[j].locals) ∧ cur[j * 3 + 2]? = some (.slice cs[j].1 ms[j].code.length cs[j].2)
theorem FRow.snoc {cur : Array Value} {ms : List Fn} {cs : List (Option Addr × Nat)} (h : FRow cur ms cs) (f : Fn) (a : Option Addr) (c : Nat) (hs : ms.length * 3 + 2 < cur.size) :
    FRow (((cur.setIfInBounds (ms.length * 3) (.int .i64 f.params)).setIfInBounds (ms.length * 3 + 1) (.int .i64 f.locals)).setIfInBounds (ms.length * 3 + 2) (.slice a f.code.length c)) (ms ++ [f]) (cs ++ [(a, c)]) := by
  refine ⟨by simp [h.1], fun j hj hj' => ?_⟩
  by_cases e : j < ms.length
  · have e' : j < cs.length := by rw [← h.1]; exact e
    obtain ⟨d1, d2, d3⟩ := h.2 j e e'
    rw [List.getElem_append_left e, List.getElem_append_left e']
    refine ⟨?_, ?_, ?_⟩
    · rw [set_else _ (by omega), set_else _ (by omega), set_else _ (by omega)]; exact d1
    · rw [set_else _ (by omega), set_else _ (by omega), set_else _ (by omega)]; exact d2
    · rw [set_else _ (by omega), set_else _ (by omega), set_else _ (by omega)]; exact d3
  · have e1 : j = ms.length := by simp at hj; omega
    subst e1
    have e2 : (ms ++ [f])[ms.length]'hj = f := by simp
    have e3 : (cs ++ [(a, c)])[ms.length]'hj' = (a, c) := by simp [h.1]
    rw [e2, e3]
    refine ⟨?_, ?_, ?_⟩
    · rw [set_else _ (by omega), set_else _ (by omega)]; exact set_self _ (by omega)
    · rw [set_else _ (by omega)]; exact set_self _ (by simp; omega)
    · exact set_self _ (by simp; omega)
theorem FRow.own {w : World} {g base : Nat} {cur : Array Value} {ms : List Fn} {cs : List (Option Addr × Nat)} (h : FRow cur ms cs) (hg : w.heap[g]? = some (.cells cur 40 (0, 0))) (hb : base ≤ g) (hsz : cur.size = ms.length * 3) (hn : ms.length ≤ 1048576) : w.ownsRow base 40 3 (.slice (some ⟨g, 0, none⟩) ms.length ms.length) ms.length (fnVals ms cs) := by
  have hl := fnVals_len h.1
  refine ⟨hl, .inr ⟨g, ms.length, cur, rfl, hb, hg, Nat.le_refl _, by unfold maxLen; omega, hsz, ?_⟩⟩
  apply List.ext_getElem?
  intro i
  by_cases hi : i < ms.length * 3
  · rw [List.getElem?_take_of_lt hi, Array.getElem?_toList]
    have hj : i / 3 < ms.length := by omega
    have hj' : i / 3 < cs.length := by rw [← h.1]; exact hj
    obtain ⟨d1, d2, d3⟩ := h.2 (i / 3) hj hj'
    obtain ⟨v1, v2, v3⟩ := fnVals_at ms cs h.1 (i / 3) hj hj'
    rcases (show i = i / 3 * 3 ∨ i = i / 3 * 3 + 1 ∨ i = i / 3 * 3 + 2 by omega) with e | e | e
    · rw [e, d1, v1]
    · rw [e, d2, v2]
    · rw [e, d3, v3]
  · rw [List.getElem?_eq_none (by simp; omega), List.getElem?_eq_none (by omega)]

set_option maxRecDepth 100000 in
set_option maxHeartbeats 8000000 in
theorem eachF_any (w0 w : World) (a1 a2 : Option Addr) (c1 c2 Mb Pb fc : Nat) (ts : List ByteArray) (fs : List Fn) (pv : Value) (f : List (Int × Int) → List (Int × Int)) (hset : SetC w0 a1 a2 c1 c2 ts fs pv f) (hb : Below w0.heap.size w0 w) (fa : Option Addr)
    (hn : fs.length ≤ 12) (hc : ∀ F ∈ fs, 1 ≤ F.code.length ∧ F.code.length ≤ 120) (hfn : FnsAt w 0 fa fs)
    (hM : w.heap[Mb]? = some (.cells #[.slice a1 ts.length c1, .slice a2 fs.length c2] 29 (0, 0))) (hP : w.heap[Pb]? = some (.cells #[pv] 51 (0, 0))) :
    Calls Tryz.prog 38 #[.slice fa fs.length fc, .func (.func 39) #[] #[.pointer (some ⟨Mb, 0, none⟩), .pointer (some ⟨Pb, 0, none⟩)]] w fun e w' => ∃ g cs, e = .returned (.slice (some ⟨g, 0, none⟩) fs.length fs.length) ∧ w'.ownsRow w.heap.size 40 3 (.slice (some ⟨g, 0, none⟩) fs.length fs.length) fs.length (fnVals (fs.map fun F => ⟨F.params, F.locals, f F.code⟩) cs) ∧ CodesOwn w' w.heap.size (fs.map fun F => ⟨F.params, F.locals, f F.code⟩) cs ∧ Below w.heap.size w w' := by
  obtain ⟨i0, hi, hz0, hz1, hz2⟩ := info_parts info40
  have HFN := hid hfn
  have HM := hid hM
  have HP := hid hP
  have HST := hid hset
  have HB0 := hid hb
  clear hfn hM hP hset hb
  go_enter Tryz.func38, Tryz.ntmps38
  go_wp2_with (first | (at_make; refine wpList_make_full _ rfl _ _ 27 rfl w.heap.size 40 i0 (.agg #[.int .i64 0, .int .i64 0, .slice none 0 0]) 3 Tryz.underlying27 hi hz0 hz1 _ _ _ _ fs.length rfl rfl rfl rfl (by rw [hz2]; omega) (by unfold maxLen; omega) (Nat.le_refl _) ?_; intro w1 hown hgrow))
  obtain ⟨cur0, hblk, hsz⟩ := made_block hown
  have hb0 : Below w.heap.size w w1 := (Below.refl _ _).grown hgrow (Nat.le_refl _) (by intro k hk; cases hk)
  have hlt0 : w.heap.size < w1.heap.size := lt_block hblk
  clear hown hgrow hi hz0 hz1 hz2
  go_loopw [13] (fun i wr => ∃ (k : Nat) (cur : Array Value) (ms : List Fn) (cs : List (Option Addr × Nat)), k ≤ fs.length ∧ i = .int .i64 k ∧ Hid (ms = (fs.take k).map fun F => ⟨F.params, F.locals, f F.code⟩) ∧ Hid (ms.length = k) ∧ wr.heap[w.heap.size]? = some (.cells cur 40 (0, 0)) ∧ cur.size = fs.length * 3 ∧ Hid (FRow cur ms cs) ∧ Hid (CodesOwn wr (w.heap.size + 1) ms cs) ∧ Below w.heap.size w wr) (fun i _ => fs.length - (intOf i).toNat)
  case atStart => exact ⟨0, cur0, [], [], by omega, rfl, by show _ = _; simp, rfl, hblk, hsz, ⟨rfl, fun j h => by simp at h⟩, CodesOwn.nil _ _, hb0⟩
  case round =>
    obtain ⟨k, cur, ms, cs, hk, rfl, HMS, HML, hblkr, hszr, HR, HCS, hbr⟩ := hrel
    clear hblk hsz hb0 hlt0
    by_cases hlt : k < fs.length
    · obtain ⟨b, off, ca, cc, rfl, -, d1, d2, d3, d4⟩ := (HFN.out.mono hbr) k hlt
      have hcl := hc fs[k] (List.getElem_mem hlt)
      have hin : ∃ F ∈ fs, F.code = fs[k].code := ⟨fs[k], List.getElem_mem hlt, rfl⟩
      have HTK : Hid ((fs.take (k + 1)).map (fun F : Fn => (⟨F.params, F.locals, f F.code⟩ : Fn)) = ((fs.take k).map fun F : Fn => (⟨F.params, F.locals, f F.code⟩ : Fn)) ++ [⟨fs[k].params, fs[k].locals, f fs[k].code⟩]) := by show _ = _; rw [List.take_succ_eq_append_getElem hlt, List.map_append]; rfl
      generalize fs[k] = F at d1 d2 d3 d4 hcl hin HTK
      obtain ⟨p, l, code⟩ := F
      simp only at d1 d2 d3 d4 hcl hin HTK
      obtain ⟨bc, oc, rfl, -, -, -⟩ := d4 0 hcl.1
      have hszw := hbr.size
      have hltb := lt_block hblkr
      obtain ⟨wx, hwx⟩ : ∃ wx, wx = wr.alloc (.cells #[.int .i64 p, .int .i64 l, .slice (some ⟨bc, oc, none⟩) code.length cc] 40) := ⟨_, rfl⟩
      have hbx : Below wr.heap.size wr wx := by rw [hwx]; exact (Below.refl _ _).alloc (Nat.le_refl _) _
      have hX : wx.heap[wr.heap.size]? = some (.cells #[.int .i64 p, .int .i64 l, .slice (some ⟨bc, oc, none⟩) code.length cc] 40 (0, 0)) := by rw [hwx]; exact block_new _ _ _
      have hbwx := hbr.trans (hbx.mono hszw)
      have hblkx := block_kept hblkr hbx
      have hCSx := hid (HCS.out.below hbx)
      have hx1 := block_cell hX
      have HCALL : Hid (∀ W, Below wx.heap.size wx W → Calls Tryz.prog 39 #[.agg #[.int .i64 p, .int .i64 l, .slice (some ⟨bc, oc, none⟩) code.length cc], .pointer (some ⟨Mb, 0, none⟩), .pointer (some ⟨Pb, 0, none⟩)] W fun e w' => ∃ a' c', e = .returned (.agg #[.int .i64 p, .int .i64 l, .slice a' (f code).length c']) ∧ w'.ownsRow W.heap.size 44 2 (.slice a' (f code).length c') (f code).length (codeVals (f code)) ∧ Below W.heap.size W w') := fun W hW => by
        have hbW := hbwx.trans (hW.mono hbwx.size)
        exact rew1_any w0 W a1 a2 c1 c2 Mb Pb bc oc cc ts fs pv p l code f HST.out (HB0.out.trans (hbW.mono HB0.out.size)) hin hcl.1 hcl.2 ((d4.mono hbx).mono hW) (block_kept HM.out hbW) (block_kept HP.out hbW)
      have HBW := hid hbwx
      have HXS : Hid (w.heap.size + 1 ≤ wx.heap.size) := by show _ ≤ _; have := hbx.size; omega
      have HWX := hid hwx
      have hk9 : k * 3 + 2 < cur.size := by omega
      clear hwx hbx d4 hcl hin hbwx hszw
      go_wp2_with fail
      rw [← HWX.out]
      refine (HCALL.out _ (Below.refl _ _)).mono ?_
      rintro e w3 ⟨a3, c3, rfl, hown3, hb3⟩
      have hblk3 := block_kept hblkx hb3
      have hfz := block_free hblk3
      have hx3 := block_cell (block_kept hX hb3)
      have g1 : w3.cell? ⟨w.heap.size, k * 3, none⟩ = some cur[k * 3] := by rw [block_cell hblk3]; simp
      have g2 : w3.cell? ⟨w.heap.size, k * 3 + 1, none⟩ = some cur[k * 3 + 1] := by rw [block_cell hblk3]; simp
      have g3 : w3.cell? ⟨w.heap.size, k * 3 + 2, none⟩ = some cur[k * 3 + 2] := by rw [block_cell hblk3]; simp
      have HCS3 : Hid (CodesOwn w3 (w.heap.size + 1) (ms ++ [⟨p, l, f code⟩]) (cs ++ [(a3, c3)])) := CodesOwn.snoc (w := wx) hCSx.out (hCSx.out.below hb3) HXS.out hown3
      have HB3 : Hid (Below w.heap.size w w3) := HBW.out.trans (hb3.mono HBW.out.size)
      have HMS3 : Hid (ms ++ [(⟨p, l, f code⟩ : Fn)] = (fs.take (k + 1)).map fun F => ⟨F.params, F.locals, f F.code⟩) := by show _ = _; rw [HTK.out, HMS.out]
      have HML3 : Hid ((ms ++ [(⟨p, l, f code⟩ : Fn)]).length = k + 1) := by show _ = _; rw [List.length_append, HML.out]; rfl
      have HR3 : Hid (FRow (((cur.setIfInBounds (k * 3) (.int .i64 p)).setIfInBounds (k * 3 + 1) (.int .i64 l)).setIfInBounds (k * 3 + 2) (.slice a3 (f code).length c3)) (ms ++ [⟨p, l, f code⟩]) (cs ++ [(a3, c3)])) := by
        have := HR.out.snoc ⟨p, l, f code⟩ a3 c3 (by rw [HML.out]; exact hk9)
        rw [HML.out] at this
        exact this
      clear hown3 hb3 hblkx hX hx1 hCSx hblkr HCALL HBW HXS d1 d2 d3
      go_wp2
      go_roundw
      case rel => exact ⟨k + 1, _, _, _, by omega, by go_num, HMS3, HML3, block_set (block_set (block_set hblk3 _) _) _, by simpa using hszr, HR3, ((HCS3.out.set (p := ⟨w.heap.size, k * 3, none⟩) (by simp) _).set (p := ⟨w.heap.size, k * 3 + 1, none⟩) (by simp) _).set (p := ⟨w.heap.size, k * 3 + 2, none⟩) (by simp) _, ((HB3.out.setCell (p := ⟨w.heap.size, k * 3, none⟩) (Nat.le_refl _) _).setCell (p := ⟨w.heap.size, k * 3 + 1, none⟩) (Nat.le_refl _) _).setCell (p := ⟨w.heap.size, k * 3 + 2, none⟩) (Nat.le_refl _) _⟩
      case measure => simp [intOf]; omega
    · have hke : k = fs.length := by omega
      have hms : ms = fs.map fun F => ⟨F.params, F.locals, f F.code⟩ := by rw [HMS.out, hke, List.take_length]
      have HF : Hid (wr.ownsRow w.heap.size 40 3 (.slice (some ⟨w.heap.size, 0, none⟩) fs.length fs.length) fs.length (fnVals (fs.map fun F => ⟨F.params, F.locals, f F.code⟩) cs) ∧ CodesOwn wr w.heap.size (fs.map fun F => ⟨F.params, F.locals, f F.code⟩) cs) := by
        have h1 := HR.out.own hblkr (Nat.le_refl _) (by rw [hszr, HML.out, hke]) (by rw [HML.out]; omega)
        rw [HML.out, hke] at h1
        rw [← hms]
        exact ⟨h1, HCS.out.low (by omega)⟩
      clear hms hblkr
      go_wp2
      go_ret
      exact ⟨_, cs, rfl, HF.out.1, HF.out.2, hbr⟩
end Go.Proofs.YtjdoljaailokmaaGreatDoor

namespace Go.Proofs.YtjdoljaailokmaaGreatDoor
open Go.RowKit

structure CodesAp (w : World) (base : Nat) (fs : List Fn) (cs : List (Option Addr × Nat)) : Prop where
  len : fs.length = cs.length
  own : ∀ i (h : i < fs.length) (h' : i < cs.length), w.ownsRow base 44 2 (.slice cs[i].1 fs[i].code.length cs[i].2) fs[i].code.length (codeVals fs[i].code)
  apart : ∀ i j (hi : i < cs.length) (hj : j < cs.length), i ≠ j → ∀ g g', cs[i].1 = some ⟨g, 0, none⟩ → cs[j].1 = some ⟨g', 0, none⟩ → g ≠ g'
theorem CodesOwn.ap {w : World} {base : Nat} {fs : List Fn} {cs : List (Option Addr × Nat)} (h : CodesOwn w base fs cs) : CodesAp w base fs cs :=
  ⟨h.len, h.own, fun i j hi hj hne g g' hg hg' => by
    rcases Nat.lt_or_gt_of_ne hne with a | a
    · have := h.order i j a hj g g' hg hg'; omega
    · have := h.order j i a hi g' g hg' hg; omega⟩
theorem CodesAp.keeps {w w' : World} {base B : Nat} {ts : List Nat} {fs : List Fn} {cs : List (Option Addr × Nat)} (h : CodesAp w base fs cs) (hk : Keeps B ts w w') (he : 44 ∉ ts) : CodesAp w' base fs cs :=
  ⟨h.len, fun i hi hi' => own_keeps (h.own i hi hi') hk he, h.apart⟩
structure ModAp (w : World) (base : Nat) (a1 : Option Addr) (c1 : Nat) (a2 : Option Addr) (c2 : Nat) (ts : List ByteArray) (fs : List Fn) (cs : List (Option Addr × Nat)) : Prop where
  texts : w.ownsRow base 9 1 (.slice a1 ts.length c1) ts.length (ts.map .string)
  funcs : w.ownsRow base 40 3 (.slice a2 fs.length c2) fs.length (fnVals fs cs)
  codes : CodesAp w base fs cs
section
variable {w w' : World} {base c1 c2 : Nat} {a1 a2 : Option Addr} {ts : List ByteArray} {fs : List Fn} {cs : List (Option Addr × Nat)}
theorem ModOwn.ap (h : ModOwn w base a1 c1 a2 c2 ts fs cs) : ModAp w base a1 c1 a2 c2 ts fs cs := ⟨h.texts, h.funcs, h.codes.ap⟩
theorem ModAp.keeps {B : Nat} {l : List Nat} (h : ModAp w base a1 c1 a2 c2 ts fs cs) (hk : Keeps B l w w') (h9 : 9 ∉ l) (h44 : 40 ∉ l) (h54 : 44 ∉ l) : ModAp w' base a1 c1 a2 c2 ts fs cs :=
  ⟨own_keeps h.texts hk h9, own_keeps h.funcs hk h44, h.codes.keeps hk h54⟩
theorem ModAp.below (h : ModAp w base a1 c1 a2 c2 ts fs cs) (hb : Below w.heap.size w w') : ModAp w' base a1 c1 a2 c2 ts fs cs :=
  h.keeps (B := 0) (l := []) (Keeps.below hb) (by simp) (by simp) (by simp)
theorem CodesAp.low {base' : Nat} (h : CodesAp w base fs cs) (hb : base' ≤ base) : CodesAp w base' fs cs := ⟨h.len, fun i hi hi' => own_low (h.own i hi hi') hb, h.apart⟩
theorem ModAp.low {base' : Nat} (h : ModAp w base a1 c1 a2 c2 ts fs cs) (hb : base' ≤ base) : ModAp w base' a1 c1 a2 c2 ts fs cs :=
  ⟨own_low h.texts hb, own_low h.funcs hb, h.codes.low hb⟩
theorem ModAp.set (h : ModAp w base a1 c1 a2 c2 ts fs cs) {p : Addr} (hp : p.block < base) (v : Value) : ModAp (w.setCell p v) base a1 c1 a2 c2 ts fs cs :=
  ⟨ownsRow_setCell_below h.texts hp v, ownsRow_setCell_below h.funcs hp v, ⟨h.codes.len, fun i hi hi' => ownsRow_setCell_below (h.codes.own i hi hi') hp v, h.codes.apart⟩⟩
theorem ModAp.strs (h : ModAp w base a1 c1 a2 c2 ts fs cs) : StrsAt w base a1 ts := texts_at h.texts
theorem ModAp.fns (h : ModAp w base a1 c1 a2 c2 ts fs cs) : FnsAt w base a2 fs := by
  intro i hi
  have hi' : i < cs.length := by rw [← h.codes.len]; exact hi
  have hv := fnVals_at fs cs h.codes.len i hi hi'
  obtain ⟨g, hg, hb, h1⟩ := own_cell h.funcs (i * 3) (by omega)
  obtain ⟨g', hg', -, h2⟩ := own_cell h.funcs (i * 3 + 1) (by omega)
  obtain ⟨g'', hg'', -, h3⟩ := own_cell h.funcs (i * 3 + 2) (by omega)
  rw [hg] at hg' hg''
  cases hg'
  cases hg''
  exact ⟨g, 0, cs[i].1, cs[i].2, hg, hb, by rw [Nat.zero_add, h1, hv.1], by rw [show 0 + i * 3 + 1 = i * 3 + 1 by omega, h2, hv.2.1], by rw [show 0 + i * 3 + 2 = i * 3 + 2 by omega, h3, hv.2.2], code_at (h.codes.own i hi hi')⟩
end
theorem fnVals_row (gs : List Fn) (cs : List (Option Addr × Nat)) : ∀ (i : Nat) (h : i < gs.length) (_ : i < cs.length) (ys : List (Int × Int)) (a : Option Addr) (c : Nat), (fnVals gs cs).set (i * 3 + 2) (.slice a ys.length c) = fnVals (gs.set i ⟨gs[i].params, gs[i].locals, ys⟩) (cs.set i (a, c)) := by
  induction gs generalizing cs with
  | nil => intro i h; simp at h
  | cons f gs ih =>
    intro i h h' ys a c
    cases cs with
    | nil => simp at h'
    | cons c0 cs =>
      have e : ∀ y ys c cs, fnVals (y :: ys) (c :: cs) = .int .i64 y.params :: .int .i64 y.locals :: .slice c.1 y.code.length c.2 :: fnVals ys cs := fun y ys c cs => by simp [fnVals]
      cases i with
      | zero => simp [e]
      | succ i =>
        rw [e, show (i + 1) * 3 + 2 = i * 3 + 2 + 1 + 1 + 1 by omega]
        simp only [List.set_cons_succ, List.getElem_cons_succ]
        rw [ih cs i (by simpa using h) (by simpa using h') ys a c, e]
/-- One function's instructions are others: their block is the one that it was, or a new one. -/
theorem CodesAp.write {w w' : World} {base : Nat} {fs : List Fn} {cs : List (Option Addr × Nat)} {r : Option Nat} (h : CodesAp w base fs cs) (i : Nat) (hi : i < fs.length) (hi' : i < cs.length) (p l : Int) (ys : List (Int × Int)) (a : Option Addr) (c : Nat)
    (hrow : w'.ownsRow base 44 2 (.slice a ys.length c) ys.length (codeVals ys)) (hg : w.grownBy w' r) (hr : ∀ g, r = some g → cs[i].1 = some ⟨g, 0, none⟩) (ha : ∀ g, a = some ⟨g, 0, none⟩ → cs[i].1 = some ⟨g, 0, none⟩ ∨ w.heap.size ≤ g) :
    CodesAp w' base (fs.set i ⟨p, l, ys⟩) (cs.set i (a, c)) := by
  have old : ∀ j (hj : j < fs.length) (hj' : j < cs.length), j ≠ i → w'.ownsRow base 44 2 (.slice cs[j].1 fs[j].code.length cs[j].2) fs[j].code.length (codeVals fs[j].code) := fun j hj hj' hne =>
    own_other (h.own j hj hj') hg (fun g hg' e => h.apart j i hj' hi' hne g g hg' (hr g e) rfl)
  have lt : ∀ j (hj' : j < cs.length) g, cs[j].1 = some ⟨g, 0, none⟩ → g < w.heap.size := fun j hj' g hg' => (own_lt (h.own j (by rw [h.len]; exact hj') hj') hg').2
  refine ⟨by simpa using h.len, fun j hj hj' => ?_, fun j k hj hk hne g g' hg1 hg2 => ?_⟩
  · have hj0 : j < fs.length := by simpa using hj
    have hj1 : j < cs.length := by simpa using hj'
    by_cases e : j = i
    · subst e
      simpa using hrow
    · have := old j hj0 hj1 e
      simpa [List.getElem_set_ne (fun x => e x.symm)] using this
  · have hj0 : j < cs.length := by simpa using hj
    have hk0 : k < cs.length := by simpa using hk
    by_cases e : j = i
    · subst e
      have hk1 : cs[k].1 = some ⟨g', 0, none⟩ := by simpa [List.getElem_set_ne hne] using hg2
      have hj1 : a = some ⟨g, 0, none⟩ := by simpa using hg1
      rcases ha g hj1 with q | q
      · exact h.apart j k hj0 hk0 hne g g' q hk1
      · have := lt k hk0 g' hk1; omega
    · have hj1 : cs[j].1 = some ⟨g, 0, none⟩ := by simpa [List.getElem_set_ne (fun x => e x.symm)] using hg1
      by_cases e2 : k = i
      · subst e2
        have hk1 : a = some ⟨g', 0, none⟩ := by simpa using hg2
        rcases ha g' hk1 with q | q
        · exact h.apart j k hj0 hk0 hne g g' hj1 q
        · have := lt j hj0 g hj1; omega
      · have hk1 : cs[k].1 = some ⟨g', 0, none⟩ := by simpa [List.getElem_set_ne (fun x => e2 x.symm)] using hg2
        exact h.apart j k hj0 hk0 hne g g' hj1 hk1
/-- One function's instructions lie in a new row. -/
theorem ModAp.recode {w w1 : World} {base c1 c2 : Nat} {a1 a2 : Option Addr} {ts : List ByteArray} {fs : List Fn} {cs : List (Option Addr × Nat)} (h : ModAp w base a1 c1 a2 c2 ts fs cs) (i : Nat) (hi : i < fs.length) (ys : List (Int × Int)) (a : Option Addr) (c : Nat) (hb : Below w.heap.size w w1) (hB : base ≤ w.heap.size)
    (hrow : w1.ownsRow w.heap.size 44 2 (.slice a ys.length c) ys.length (codeVals ys)) :
    ∃ g2, a2 = some ⟨g2, 0, none⟩ ∧ base ≤ g2 ∧ w1.frozen? ⟨g2, i * 3 + 2, none⟩ = false ∧ (∃ u, w1.cell? ⟨g2, i * 3 + 2, none⟩ = some u) ∧ (∃ cur, w1.heap[g2]? = some (.cells cur 40 (0, 0))) ∧
      ModAp (w1.setCell ⟨g2, i * 3 + 2, none⟩ (.slice a ys.length c)) base a1 c1 a2 c2 ts (fs.set i ⟨fs[i].params, fs[i].locals, ys⟩) (cs.set i (a, c)) := by
  have hi' : i < cs.length := by rw [← h.codes.len]; exact hi
  have h1 := h.below hb
  obtain ⟨g2, hg2, hb2, hf, hc, ⟨u, hu⟩, hput, honly⟩ := own_put h1.funcs (i * 3 + 2) (by omega)
  obtain ⟨cur, hcur⟩ := own_blk h1.funcs hg2
  have hk : Keeps base [40] w1 (w1.setCell ⟨g2, i * 3 + 2, none⟩ (.slice a ys.length c)) := (honly _).keeps hcur (by simp) hb2
  refine ⟨g2, hg2, hb2, hf, ⟨u, hc.trans hu⟩, ⟨cur, hcur⟩, own_keeps h1.texts hk (by simp), ?_, ?_⟩
  · have := hput (.slice a ys.length c)
    rw [fnVals_row fs cs i hi hi'] at this
    simpa using this
  · exact (h.codes.write (w' := w1) (r := none) i hi hi' fs[i].params fs[i].locals ys a c (own_low hrow hB) ⟨hb.os, hb.tape, hb.output, hb.size, fun k hk _ => hb.block k hk⟩ (fun g e => by cases e) (fun g e => .inr (own_lt hrow e).1)).keeps hk (by simp)
end Go.Proofs.YtjdoljaailokmaaGreatDoor
