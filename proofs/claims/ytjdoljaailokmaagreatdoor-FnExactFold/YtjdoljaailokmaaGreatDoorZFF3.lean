/-
  The document's Fold.
-/
import Derived.Test.YtjdoljaailokmaaGreatDoorZFF1
import Derived.Test.YtjdoljaailokmaaGreatDoorZFQ21
import Derived.Test.YtjdoljaailokmaaGreatDoorZFQ15
namespace Go.Proofs.YtjdoljaailokmaaGreatDoor
open Go.RowKit

/-- How many a row has. -/
def rowLen : Option Value → Nat
  | some (.slice _ n _) => n
  | _ => 0
/-- The first place of a function's code, or that there is none. -/
def PlaceIs (code : List (Int × Int)) (d : List Int) (x : Int) : Prop := (∃ (i : Nat) (v : Int), First code d i v ∧ x = (i : Int)) ∨ ((∀ i v, ¬ FAt code d i v) ∧ x = -1)
theorem PlacePost.is {code : List (Int × Int)} {d : List Int} {e : Ending} (h : PlacePost code d e) : ∃ x, e = .returned (.int .i64 x) ∧ PlaceIs code d x := by
  rcases h with ⟨i, v, h1, h2⟩ | ⟨h1, h2⟩
  · exact ⟨_, h2, .inl ⟨i, v, h1, rfl⟩⟩
  · exact ⟨_, h2, .inr ⟨h1, rfl⟩⟩
/-- How the module stands within a function. -/
structure FoldSt (w : World) (base k : Nat) (ta' : Option Addr) (tc' gf oc : Nat) (ts : List ByteArray) (fs gs0 : List Fn) (hk : k < fs.length) (t : Nat) (c : List (Int × Int)) (d : List Int) : Prop where
  ins : InS fs fs[k].code t c d
  mod : ∃ cz, ModAp w base ta' tc' (some ⟨gf, 0, none⟩) oc ts (gs0.set k ⟨fs[k].params, fs[k].locals, c⟩) cz
theorem mapTo_same (f : List (Int × Int) → List (Int × Int)) (fs : List Fn) {k : Nat} (hk : k ≤ fs.length) : SameP fs (mapTo f fs k) := by
  refine ⟨mapTo_len f fs hk, fun i h h' => ?_⟩
  have := mapTo_get f fs k i
  rw [List.getElem?_eq_getElem h', List.getElem?_eq_getElem h] at this
  by_cases e : i < k
  · rw [if_pos e] at this
    have := Option.some.inj this
    rw [this]
  · rw [if_neg e] at this
    rw [Option.some.inj this]
/-- Where the function lies. -/
theorem FoldSt.at {w : World} {base k tc' gf oc t : Nat} {ta' : Option Addr} {ts : List ByteArray} {fs gs0 : List Fn} {hk : k < fs.length} {c : List (Int × Int)} {d : List Int} (h : FoldSt w base k ta' tc' gf oc ts fs gs0 hk t c d) (hl : gs0.length = fs.length) :
    ∃ gc cc, w.cell? ⟨gf, k * 3 + 2, none⟩ = some (.slice (some ⟨gc, 0, none⟩) c.length cc) ∧ base ≤ gf ∧ base ≤ gc ∧ gc ≠ gf ∧ (∃ cur, w.heap[gf]? = some (.cells cur 40 (0, 0))) ∧ w.ownsRow base 44 2 (.slice (some ⟨gc, 0, none⟩) c.length cc) c.length (codeVals c) ∧
      (∀ (i : Nat) (hi : i < c.length) (v : Int), ∃ cz, ModAp (w.setCell ⟨gc, i * 2 + 1, none⟩ (.int .i64 v)) base ta' tc' (some ⟨gf, 0, none⟩) oc ts (gs0.set k ⟨fs[k].params, fs[k].locals, c.set i (c[i].1, v)⟩) cz ∧ (w.setCell ⟨gc, i * 2 + 1, none⟩ (.int .i64 v)).ownsRow base 44 2 (.slice (some ⟨gc, 0, none⟩) c.length cc) c.length (codeVals (c.set i (c[i].1, v)))) := by
  obtain ⟨cz, hM⟩ := h.mod
  have hkg : k < (gs0.set k ⟨fs[k].params, fs[k].locals, c⟩).length := by rw [List.length_set]; omega
  have hc : (gs0.set k ⟨fs[k].params, fs[k].locals, c⟩)[k] = ⟨fs[k].params, fs[k].locals, c⟩ := by simp
  obtain ⟨g2, gc, cc, h1, h2, h3, h4, h5, h6, h7⟩ := hM.at hkg (by rw [hc]; exact h.ins.ok.fine.one)
  cases h1
  rw [hc] at h3 h6
  refine ⟨gc, cc, h3, h2, h5, fun e => ?_, h4, h6, fun i hi v => ?_⟩
  · obtain ⟨cur, q⟩ := h4
    obtain ⟨cur', q'⟩ := own_blk h6 rfl
    rw [e, q] at q'
    cases q'
  · obtain ⟨cs', q⟩ := h7 i (by rw [hc]; exact hi) v
    refine ⟨cs', ?_, ?_⟩
    · simp only [hc] at q
      rw [List.set_set] at q
      exact q
    · obtain ⟨g', hg', -, -, -, -, hput, -⟩ := own_ins h6 hi
      cases hg'
      exact hput v
/-- New instructions. -/
theorem ModAp.recode2 {w w1 : World} {base k tc' gf oc : Nat} {ta' : Option Addr} {ts : List ByteArray} {gs0 : List Fn} {p l : Int} {c : List (Int × Int)} {cz : List (Option Addr × Nat)} (h : ModAp w base ta' tc' (some ⟨gf, 0, none⟩) oc ts (gs0.set k ⟨p, l, c⟩) cz) (hk : k < gs0.length) (ys : List (Int × Int)) (a : Option Addr) (c' : Nat) (hb : Below w.heap.size w w1) (hB : base ≤ w.heap.size)
    (hrow : w1.ownsRow w.heap.size 44 2 (.slice a ys.length c') ys.length (codeVals ys)) :
    w1.frozen? ⟨gf, k * 3 + 2, none⟩ = false ∧ (∃ u, w1.cell? ⟨gf, k * 3 + 2, none⟩ = some u) ∧ (∃ cur, w1.heap[gf]? = some (.cells cur 40 (0, 0))) ∧
      ∃ cz', ModAp (w1.setCell ⟨gf, k * 3 + 2, none⟩ (.slice a ys.length c')) base ta' tc' (some ⟨gf, 0, none⟩) oc ts (gs0.set k ⟨p, l, ys⟩) cz' := by
  have hkg : k < (gs0.set k ⟨p, l, c⟩).length := by rw [List.length_set]; exact hk
  obtain ⟨g2, h1, h2, h3, h4, h5, h6⟩ := h.recode k hkg ys a c' hb hB hrow
  cases h1
  refine ⟨h3, h4, h5, cz.set k (a, c'), ?_⟩
  have hc : (gs0.set k ⟨p, l, c⟩)[k] = ⟨p, l, c⟩ := by simp
  simp only [hc] at h6
  rw [List.set_set] at h6
  exact h6
/-- The first place, asked of the module as it stands. -/
theorem FoldSt.ask {w : World} {base k tc' gf oc t : Nat} {ta' : Option Addr} {ts : List ByteArray} {fs : List Fn} {hk : k < fs.length} {c : List (Int × Int)} {d : List Int} (h : FoldSt w base k ta' tc' gf oc ts fs (mapTo (foldOf fs) fs k) hk t c d) (h12 : fs.length ≤ 12) (W : World) (hW : Below w.heap.size w W) (nt : Nat) :
    Calls Tryz.prog 15 #[.agg #[.slice ta' nt tc', .slice (some ⟨gf, 0, none⟩) fs.length oc], .int .i64 k] W fun e w' => (∃ x, e = .returned (.int .i64 x) ∧ Hid (PlaceIs c d x)) ∧ Below W.heap.size W w' := by
  obtain ⟨cz, hM⟩ := h.mod
  obtain ⟨gs, hgs⟩ : ∃ gs, gs = (mapTo (foldOf fs) fs k).set k ⟨fs[k].params, fs[k].locals, c⟩ := ⟨_, rfl⟩
  rw [← hgs] at hM
  have hS : SameP fs gs := by rw [hgs]; exact (mapTo_same _ fs (by omega)).set k hk _ _
  have hl := hS.1
  have hkg : k < gs.length := by omega
  have hc : gs[k].code = c := by simp [hgs]
  have hF : FnsAt W 0 (some ⟨gf, 0, none⟩) gs := (hM.below hW).fns.low (Nat.zero_le _)
  have := sFoldAt_any ta' (some ⟨gf, 0, none⟩) nt tc' oc gs k d W hkg (by omega) hF (by rw [hc]; exact hS.fine h.ins.ok.fine) (by rw [hc]; exact hS.lab h.ins.ok.lab)
  rw [hl, hc] at this
  refine this.mono ?_
  rintro e w' ⟨h1, h2⟩
  obtain ⟨x, e1, e2⟩ := h1.is
  exact ⟨⟨x, e1, e2⟩, h2⟩
theorem PlaceIs.yes {code : List (Int × Int)} {d : List Int} {x : Int} (h : PlaceIs code d x) (h0 : 0 ≤ x) : ∃ (i : Nat) (v : Int), First code d i v ∧ x = (i : Int) := by
  rcases h with h | ⟨-, h⟩
  · exact h
  · omega
theorem PlaceIs.no {code : List (Int × Int)} {d : List Int} {x : Int} (h : PlaceIs code d x) (h0 : ¬ 0 ≤ x) : ∀ i v, ¬ FAt code d i v := by
  rcases h with ⟨i, v, -, h⟩ | ⟨h, -⟩
  · omega
  · exact h
theorem infoB45 : (Tryz.prog.info? 4).map (fun i => (i.zero, i.size, i.bytes)) = some (some (.bool false), 1, 1) := by kernel_rfl

set_option maxRecDepth 100000 in
set_option maxHeartbeats 8000000 in
theorem sFold_any (a1 a2 : Option Addr) (c1 c2 : Nat) (ts : List ByteArray) (fs : List Fn) (w : World) (hs : Small ts fs) (hst : StrsAt w 0 a1 ts) (hfn : FnsAt w 0 a2 fs) :
    Calls Tryz.prog 5 #[.agg #[.slice a1 ts.length c1, .slice a2 fs.length c2]] w fun e w' => SPost (foldOf fs) ts fs w e w' := by
  obtain ⟨i0, hi, hz0, hz1, hz2⟩ := info_parts infoB45
  obtain ⟨wa, hwa⟩ : ∃ wa, wa = (w.alloc (.cells #[.slice a1 ts.length c1, .slice a2 fs.length c2] 29)).alloc (.cells #[.slice none 0 0, .slice none 0 0] 29) := ⟨_, rfl⟩
  have hbA : Below w.heap.size w wa := by rw [hwa]; exact ((Below.refl _ _).alloc (Nat.le_refl _) _).alloc (by simp) _
  have hB1 : wa.heap[w.heap.size]? = some (.cells #[.slice a1 ts.length c1, .slice a2 fs.length c2] 29 (0, 0)) := by rw [hwa]; exact block_old (block_new _ _ _) _
  have hB2 : wa.heap[w.heap.size + 1]? = some (.cells #[.slice none 0 0, .slice none 0 0] 29 (0, 0)) := by rw [hwa]; simpa using block_new (w.alloc (.cells #[.slice a1 ts.length c1, .slice a2 fs.length c2] 29)) #[.slice none 0 0, .slice none 0 0] 29
  have hszA : w.heap.size + 2 ≤ wa.heap.size := by rw [hwa]; simp
  have HSZ : Hid (w.heap.size + 2 ≤ wa.heap.size) := hszA
  have y0 := block_cell hB1
  go_enter Tryz.func5, Tryz.ntmps5
  go_upto_region 1 with fail
  rw [← hwa]
  clear hwa hszA
  go_wp2_with fail
  refine (sGood_any _ _ _ _ ts fs wa hs (hst.mono hbA) (hfn.mono hbA)).mono ?_
  rintro e w1 ⟨rfl, hb1⟩
  have hB1a := block_kept hB1 hb1
  have hB2a := block_kept hB2 hb1
  have hbw1 := hbA.trans (hb1.mono hbA.size)
  have HSZ1 : Hid (w.heap.size + 2 ≤ w1.heap.size) := Nat.le_trans HSZ.out hb1.size
  clear hB1 hB2 hb1 hbA y0 HSZ
  by_cases hG : Good ts fs
  case neg =>
    rw [pB_no hG]
    have r1 := block_cell hB2a
    have r2 := block_free hB2a
    have hr2 := block_cell (block_set (i := 1) (block_set (i := 0) hB2a (.slice none 0 0)) (.slice none 0 0))
    have HF : Hid (Below w.heap.size w ((w1.setCell ⟨w.heap.size + 1, 0, none⟩ (.slice none 0 0)).setCell ⟨w.heap.size + 1, 1, none⟩ (.slice none 0 0)) ∧ RewRes (foldOf fs) ts fs [] []) := ⟨(hbw1.setCell (p := ⟨w.heap.size + 1, 0, none⟩) (by simp) _).setCell (p := ⟨w.heap.size + 1, 1, none⟩) (by simp) _, .inr ⟨hG, rfl, rfl⟩⟩
    clear hst hfn hB1a hbw1 hG
    go_wp2
    refine bodyPost_ret (v := .agg #[.slice none 0 0, .slice none 0 0]) (by simp [results, Tryz.results5, go_sem, r1]) rfl ?_
    exact ⟨[], [], none, 0, none, 0, HF.out.2, rfl, fun i h => by simp at h, fun i h => by simp at h, by first | exact HF.out.1 | exact hid HF.out.1⟩
  rw [pB_yes hG]
  have hGs := good_size hG
  have HG := hid hG
  have x1 := block_cell hB1a
  go_wp2_with fail
  refine (copyX_any a1 a2 c1 c2 ts fs w1 (hst.mono hbw1) (hfn.mono hbw1) (by omega) (by omega) (fun f hf => by have := hGs.2.2 f hf; omega)).mono ?_
  rintro e w2 ⟨ta', tc', oa, oc, cs, rfl, hmo, hb2⟩
  have hmA := hmo.ap.low (show w.heap.size + 2 ≤ w1.heap.size + 2 by have := HSZ1.out; omega)
  have hB2b := block_kept hB2a hb2
  have hbw2 := hbw1.trans (hb2.mono hbw1.size)
  have HSZ2 : Hid (w.heap.size + 2 ≤ w2.heap.size) := Nat.le_trans HSZ1.out hb2.size
  have hfl : fs.length ≤ 12 := hGs.2.1
  obtain ⟨gf, rfl⟩ : ∃ gf, oa = some ⟨gf, 0, none⟩ := by
    obtain ⟨g, hg, -⟩ := own_ptr hmA.funcs (by
      have hm := good_mod hG
      rcases Nat.lt_or_ge fs.length 1 with a | a
      · rw [modB_no (by omega)] at hm; cases hm
      · exact a)
    exact ⟨g, hg⟩
  clear hB1a hB2a hb2 hbw1 x1 hmo hG hst hfn
  obtain ⟨Ro, hRo⟩ : ∃ Ro, Ro = w2.heap.size := ⟨_, rfl⟩
  have hbx : Below w2.heap.size w2 (w2.alloc (.cells #[.slice ta' ts.length tc', .slice (some ⟨gf, 0, none⟩) fs.length oc] 29)) := (Below.refl _ _).alloc (Nat.le_refl _) _
  have hB3 := block_new w2 #[.slice ta' ts.length tc', .slice (some ⟨gf, 0, none⟩) fs.length oc] 29
  rw [← hRo] at hB3
  have hRlo : w.heap.size + 2 ≤ Ro := by rw [hRo]; exact HSZ2.out
  have hgfR : gf < Ro := by
    rw [hRo]
    exact (own_lt hmA.funcs rfl).2
  have hgfl : w.heap.size + 2 ≤ gf := (own_lt hmA.funcs rfl).1
  go_wp2
  rw [← hRo]
  obtain ⟨w3, hw3⟩ : ∃ w3, w3 = w2.alloc (.cells #[.slice ta' ts.length tc', .slice (some ⟨gf, 0, none⟩) fs.length oc] 29) := ⟨_, rfl⟩
  rw [← hw3] at hbx hB3 ⊢
  have hB2c := block_kept hB2b hbx
  have hmC := hmA.below hbx
  have hbw3 := hbw2.trans (hbx.mono hbw2.size)
  have HGS := hid hGs
  clear hw3 hRo hB2b hmA hbw2 hbx hGs
  go_loopw [4] (fun i wr => ∃ (k : Nat), k ≤ fs.length ∧ i = .int .i64 k ∧ wr.heap[Ro]? = some (.cells #[.slice ta' ts.length tc', .slice (some ⟨gf, 0, none⟩) fs.length oc] 29 (0, 0)) ∧ wr.heap[w.heap.size + 1]? = some (.cells #[.slice none 0 0, .slice none 0 0] 29 (0, 0)) ∧ Hid (∃ cz, ModAp wr (w.heap.size + 2) ta' tc' (some ⟨gf, 0, none⟩) oc ts (mapTo (foldOf fs) fs k) cz) ∧ Below w.heap.size w wr) (fun i _ => fs.length - (intOf i).toNat)
  case atStart => exact ⟨0, by omega, rfl, hB3, hB2c, ⟨cs, by rw [mapTo_zero]; exact hmC⟩, hbw3⟩
  case round =>
    obtain ⟨k, hk, rfl, hRb, hRes, hM, hb⟩ := hrel
    clear hB3 hB2c hmC hbw3
    by_cases hlt : k < fs.length
    · obtain ⟨d0, hI0⟩ := InS.init HG.out hlt
      have hST : Hid (FoldSt wr (w.heap.size + 2) k ta' tc' gf oc ts fs (mapTo (foldOf fs) fs k) hlt 0 fs[k].code d0) := by
        obtain ⟨cz, hM⟩ := hM.out
        refine ⟨hI0, cz, ?_⟩
        have e : (mapTo (foldOf fs) fs k).set k ⟨fs[k].params, fs[k].locals, fs[k].code⟩ = mapTo (foldOf fs) fs k := by
          have h' : k < (mapTo (foldOf fs) fs k).length := by rw [mapTo_len _ _ (by omega)]; exact hlt
          have e2 : (⟨fs[k].params, fs[k].locals, fs[k].code⟩ : Fn) = (mapTo (foldOf fs) fs k)[k] := (mapTo_at (foldOf fs) fs hlt h').symm
          rw [e2, List.set_getElem_self]
        rw [e]
        exact hM
      have m0 := block_cell hRb
      clear hM hI0
      go_wp2_with fail
      refine (hST.out.ask hfl wr (Below.refl _ _) ts.length).mono ?_
      rintro e w4 ⟨⟨x, rfl, HX⟩, hb4⟩
      have hRb4 := block_kept hRb hb4
      have hRes4 := block_kept hRes hb4
      have hb5 := hb.trans (hb4.mono hb.size)
      have hST4 : Hid (FoldSt w4 (w.heap.size + 2) k ta' tc' gf oc ts fs (mapTo (foldOf fs) fs k) hlt 0 fs[k].code d0) := ⟨hST.out.ins, by obtain ⟨cz, h⟩ := hST.out.mod; exact ⟨cz, h.below hb4⟩⟩
      clear hST hb4 hRb hRes hb m0
      go_wp2
      go_loopw [5] (fun i wx => ∃ (t : Nat) (x : Int) (c : List (Int × Int)) (d : List Int), i = .int .i64 x ∧ Hid (PlaceIs c d x) ∧ Hid (FoldSt wx (w.heap.size + 2) k ta' tc' gf oc ts fs (mapTo (foldOf fs) fs k) hlt t c d) ∧ wx.heap[Ro]? = some (.cells #[.slice ta' ts.length tc', .slice (some ⟨gf, 0, none⟩) fs.length oc] 29 (0, 0)) ∧ wx.heap[w.heap.size + 1]? = some (.cells #[.slice none 0 0, .slice none 0 0] 29 (0, 0)) ∧ Below w.heap.size w wx) (fun _ wx => rowLen (wx.cell? ⟨gf, k * 3 + 2, none⟩))
      case atStart => exact ⟨0, x, fs[k].code, d0, rfl, HX, hST4, hRb4, hRes4, hb5⟩
      case round =>
        obtain ⟨t, x, c, d, rfl, HXX, HS, hRbx, hResx, hbx⟩ := hrel
        clear hST4 hRb4 hRes4 hb5 HX
        have hml : (mapTo (foldOf fs) fs k).length = fs.length := mapTo_len _ _ (by omega)
        by_cases hx0 : 0 ≤ x
        case neg =>
          have HM2 : Hid (∃ cz, ModAp wr (w.heap.size + 2) ta' tc' (some ⟨gf, 0, none⟩) oc ts (mapTo (foldOf fs) fs (k + 1)) cz) := by
            obtain ⟨cz, h⟩ := HS.out.mod
            rw [HS.out.ins.last (HXX.out.no hx0), mapTo_more _ _ hlt] at h
            exact ⟨cz, h⟩
          clear HS HXX hml
          go_wp2
          go_roundw
          case rel => exact ⟨k + 1, by omega, by go_num, hRbx, hResx, HM2.out, hbx⟩
          case measure => simp [intOf]; omega
        obtain ⟨i, v, hF, rfl⟩ := HXX.out.yes hx0
        have HF := hid hF
        have hi2 := hF.1.hi
        have hcl : c.length ≤ 120 := HS.out.ins.ok.fine.most
        obtain ⟨gc, cc, e0, hgf2, hgc, hne, ⟨cur, hcur⟩, hown, hput⟩ := HS.out.at hml
        have hn2 : gc ≠ Ro := fun e => by
          obtain ⟨cur', q⟩ := own_blk hown rfl
          rw [e, hRbx] at q; cases q
        have hnf : gf ≠ Ro := by omega
        obtain ⟨q0, hq0, -, e1, e2, e7, -, -⟩ := own_ins hown (i := i) (by omega)
        cases hq0
        obtain ⟨q0, hq0, -, e3, e4, -, -, -⟩ := own_ins hown (i := i + 1) (by omega)
        cases hq0
        obtain ⟨q0, hq0, -, e5, -, -, -, -⟩ := own_ins hown (i := i + 2) hi2
        cases hq0
        have m1 := block_cell hRbx
        obtain ⟨o3, ho3⟩ : ∃ o3, o3 = c[i + 2].1 := ⟨_, rfl⟩
        obtain ⟨x1, hx1⟩ : ∃ x1, x1 = c[i].2 := ⟨_, rfl⟩
        obtain ⟨x2, hx2⟩ : ∃ x2, x2 = c[i + 1].2 := ⟨_, rfl⟩
        rw [← ho3] at e5
        rw [← hx1] at e2
        rw [← hx2] at e4
        have HA : Hid (∀ W, Calls Tryz.prog 16 #[.int .i64 o3, .int .i64 x1, .int .i64 x2] W fun e w' => e = .returned (.tuple #[.int .i64 v, .int .i64 0]) ∧ w' = W) := fun W => by
          have g1 := getD_at (code := c) (k := i) (by omega)
          have g2 := getD_at (code := c) (k := i + 1) (by omega)
          have g3 := getD_at (code := c) (k := i + 2) hi2
          have r1 := hF.1.val
          have r2 := hF.1.ok
          have r3 := hF.1.o3
          rw [g3, ← ho3] at r1 r3
          rw [g1, g2, ← hx1, ← hx2] at r1 r2
          have := sArith_any r3 x1 x2 W
          rw [← r1, r2] at this
          exact this
        have HC1 : Hid (c[i].1 = 1) := by
          have := hF.1.o1
          rw [getD_at (by omega)] at this
          exact this
        have HPUT := hid hput
        have HCUR := hid hcur
        have HOWN := hid hown
        clear hF ho3 hx1 hx2 HXX hput hcur hown
        go_upto_region 11 with fail
        go_quiet ((go_at_call 16; exact Calls.quiet_of_same (HA.out _)))
        obtain ⟨wd, hwd⟩ : ∃ wd, wd = wr.drewN nq := ⟨_, rfl⟩
        have hbd : Below wr.heap.size wr wd := by rw [hwd]; exact below_dr (Below.refl _ _) _
        rw [← hwd]
        clear hwd
        have HRd := hid (block_kept hRbx hbd)
        have HResd := hid (block_kept hResx hbd)
        have hbwd := hbx.trans (hbd.mono hbx.size)
        have HSd : Hid (FoldSt wd (w.heap.size + 2) k ta' tc' gf oc ts fs (mapTo (foldOf fs) fs k) hlt t c d) := ⟨HS.out.ins, by obtain ⟨cz, h⟩ := HS.out.mod; exact ⟨cz, h.below hbd⟩⟩
        obtain ⟨gc2, cc2, e02, -, -, -, -, hown2, hput2⟩ := HSd.out.at hml
        have HE0 := hid (cell_later hbd e0)
        have hgc2 : gc2 = gc ∧ cc2 = cc := by
          have := cell_later hbd e0
          rw [e02] at this
          have h1 := Option.some.inj this
          injection h1 with h1 h2 h3
          injection h1 with h1
          injection h1 with h1
          exact ⟨h1, h3⟩
        obtain ⟨rfl, rfl⟩ := hgc2
        obtain ⟨q0, hq0, -, -, e2d, e7d, -, -⟩ := own_ins hown2 (i := i) (by omega)
        cases hq0
        have hcurd := block_kept HCUR.out hbd
        obtain ⟨cz6, hM6, hrow5⟩ := hput2 i (by omega) v
        rw [HC1.out] at hM6 hrow5
        have HROW5 := hid hrow5
        have hgcl := (own_lt hown2 rfl).2
        have HCU6 : Hid ((wd.setCell ⟨gc2, i * 2 + 1, none⟩ (.int .i64 v)).heap[gf]? = some (.cells cur 40 (0, 0))) := (Below.heap_setCell _ _ _ _ (fun e => hne e.symm)).trans hcurd
        have HR6 : Hid ((wd.setCell ⟨gc2, i * 2 + 1, none⟩ (.int .i64 v)).heap[Ro]? = some (.cells #[.slice ta' ts.length tc', .slice (some ⟨gf, 0, none⟩) fs.length oc] 29 (0, 0))) := (Below.heap_setCell _ _ _ _ (fun e => hn2 e.symm)).trans HRd.out
        have HRes6 : Hid ((wd.setCell ⟨gc2, i * 2 + 1, none⟩ (.int .i64 v)).heap[w.heap.size + 1]? = some (.cells #[.slice none 0 0, .slice none 0 0] 29 (0, 0))) := (Below.heap_setCell _ _ _ _ (by show w.heap.size + 1 ≠ gc2; omega)).trans HResd.out
        have HB6 : Hid (Below w.heap.size w (wd.setCell ⟨gc2, i * 2 + 1, none⟩ (.int .i64 v))) := hbwd.setCell (p := ⟨gc2, i * 2 + 1, none⟩) (by show w.heap.size ≤ gc2; omega) _
        have HM6 := hid hM6
        clear hbd e0 e1 e2 e3 e4 e5 e7 HA HPUT HCUR HOWN hown2 hput2 hcurd hM6 hrow5 hbwd hRbx hResx hbx
        go_upto_region 13 with fail
        obtain ⟨w6, hw6⟩ : ∃ w6, w6 = wd.setCell ⟨gc2, i * 2 + 1, none⟩ (.int .i64 v) := ⟨_, rfl⟩
        rw [← hw6] at HCU6 HR6 HRes6 HB6 HM6 HROW5 ⊢
        clear hw6 HRd HResd HSd e02 e2d e7d
        go_upto_region 14 with (first | (at_make; refine wpList_make_full _ rfl _ _ 45 rfl w6.heap.size 4 i0 (.bool false) 1 Tryz.underlying45 hi hz0 hz1 _ _ _ _ c.length rfl rfl rfl rfl (by rw [hz2]; omega) (by unfold maxLen; omega) (Nat.le_refl _) ?_; intro w7 hown7 hgrow7))
        have hM0 := madeB hown7
        have hb7 : Below w6.heap.size w6 w7 := (Below.refl _ _).grown hgrow7 (Nat.le_refl _) (by intro k hk; cases hk)
        clear hown7 hgrow7
        have m10 := hM0.cell (j := i + 1) (by omega)
        have m11 := hM0.free (i + 1)
        have hM1 := hM0.set (i := i + 1) (by omega)
        have m20 := hM1.cell (j := i + 2) (by omega)
        have m21 := hM1.free (i + 2)
        have hM2 := hM1.set (i := i + 2) (by omega)
        have HMK : Hid (BoolsAt _ _ _ _) := marks_gone (i := i) hM2 (fun j => by simp)
        have hb8 : Below w6.heap.size w6 ((w7.setCell ⟨w6.heap.size, i + 1, none⟩ (.bool true)).setCell ⟨w6.heap.size, i + 2, none⟩ (.bool true)) := (hb7.setCell (p := ⟨w6.heap.size, i + 1, none⟩) (Nat.le_refl _) _).setCell (p := ⟨w6.heap.size, i + 2, none⟩) (Nat.le_refl _) _
        clear hM0 hM1 hM2 hb7
        go_upto_region 16 with fail
        obtain ⟨w8, hw8⟩ : ∃ w8, w8 = ((w7.setCell ⟨w6.heap.size, i + 1, none⟩ (.bool true)).setCell ⟨w6.heap.size, i + 2, none⟩ (.bool true)) := ⟨_, rfl⟩
        rw [← hw8] at HMK hb8 ⊢
        clear hw8 m10 m11 m20 m21
        have HR8 : Hid _ := hid (block_kept HR6.out hb8)
        have HRes8 : Hid _ := hid (block_kept HRes6.out hb8)
        have HCU8 : Hid _ := hid (block_kept HCU6.out hb8)
        have HB8 : Hid _ := hid (HB6.out.trans (hb8.mono HB6.out.size))
        have hM8 := hid (HM6.out.below hb8)
        have hB8 : w.heap.size + 2 ≤ w8.heap.size := by have := lt_block HCU8.out; omega
        obtain ⟨ys, hys⟩ : ∃ ys, ys = foldTo i v c := ⟨_, rfl⟩
        have hFF := HS.out.ins.ok.fine
        have hcl6 : (c.set i (1, v)).length = c.length := List.length_set ..
        have HO : Hid (∀ W, Below w8.heap.size w8 W → Calls Tryz.prog 17 #[.slice (some ⟨gc2, 0, none⟩) c.length cc2, .slice (some ⟨w6.heap.size, 0, none⟩) c.length c.length] W fun e w' => ∃ a' c', e = .returned (.slice a' ys.length c') ∧ w'.ownsRow W.heap.size 44 2 (.slice a' ys.length c') ys.length (codeVals ys) ∧ Below W.heap.size W w') := fun W hW => by
          have hrow : w6.ownsRow (w.heap.size + 2) 44 2 (.slice (some ⟨gc2, 0, none⟩) (c.set i (1, v)).length cc2) (c.set i (1, v)).length (codeVals (c.set i (1, v))) := by rw [hcl6]; exact HROW5.out
          have hF1 := num_fine (i := i) (v := v) hFF
          have hh := sOut_any (some ⟨gc2, 0, none⟩) (some ⟨w6.heap.size, 0, none⟩) cc2 c.length (c.set i (1, v)) (goneF i) W (((code_at hrow).low (Nat.zero_le _)).mono (hb8.trans (hW.mono hb8.size))) (by rw [hcl6]; exact HMK.out.mono hW) hF1.most (fun j hj1 hj2 hj => by rw [getD_code hj1] at hj ⊢; exact hF1.jump j hj1 hj)
          rw [hcl6] at hh
          rw [hys]
          exact hh
        have HYS := hid hys
        have hne8 : Ro ≠ gf := fun e => hnf e.symm
        have HS1 : Hid (∀ w' : World, Below w8.heap.size w8 w' → w'.cell? ⟨Ro, 1, none⟩ = some (.slice (some ⟨gf, 0, none⟩) fs.length oc)) := fun w' q => by rw [block_cell (block_kept HR8.out q)]; rfl
        have HS2 : Hid (∀ w5 : World, Below w8.heap.size w8 w5 → ∀ u, (fun w' : World => w'.cell? ⟨Ro, 1, none⟩ = some (.slice (some ⟨gf, 0, none⟩) fs.length oc)) (w5.setCell ⟨gf, k * 3 + 2, none⟩ u)) := fun w5 q u => by
          show (w5.setCell ⟨gf, k * 3 + 2, none⟩ u).cell? _ = _
          rw [block_cell (g := Ro) (by rw [Below.heap_setCell _ _ _ _ (fun e => hne8 e)]; exact block_kept HR8.out q)]; rfl
        have hkg : k < (mapTo (foldOf fs) fs k).length := by omega
        have HNX := hid (HS.out.ins.next HF.out)
        have HLS := hid (foldTo_short HF.out.1)
        have HNE : Hid (Ro ≠ gf) := hne8
        obtain ⟨gs0, hgs0⟩ : ∃ gs0, gs0 = mapTo (foldOf fs) fs k := ⟨_, rfl⟩
        have HGS0 := hid hgs0
        rw [← hgs0] at hM8 hkg
        rw [← hys] at HNX HLS
        clear hys hFF hcl6 hne8 hb8 hgs0 HROW5 HM6 HCU6 HR6 HRes6 HB6
        have hh : (fun w' : World => w'.cell? ⟨Ro, 1, none⟩ = some (.slice (some ⟨gf, 0, none⟩) fs.length oc)) _ := HS1.out _ (Below.refl _ _).drew
        refine h_begin (fun w' : World => w'.cell? ⟨Ro, 1, none⟩ = some (.slice (some ⟨gf, 0, none⟩) fs.length oc)) (by kernel_rfl) ?_
        refine h_take (i := 0) (oi := _) (v := ?_) rfl (by kernel_rfl) (by kernel_rfl) (by kernel_rfl) (fun _ _ _ h => h) (by kernel_rfl) ?_ hh ?_
        rotate_left
        · intro w' hSw
          have j0 := hSw
          go_simp
          try with_reducible rfl
        simp only [Act.put, List.setIfInBounds_toArray]
        refine h_take (i := 1) (oi := _) (v := ?_) rfl (by kernel_rfl) (by kernel_rfl) (by kernel_rfl) (fun _ _ _ h => h) (by kernel_rfl) ?_ hh ?_
        rotate_left
        · intro w' hSw
          have j0 := hSw
          go_simp
          try with_reducible rfl
        simp only [Act.put]
        refine h_take (i := 2) (oi := _) (v := ?_) rfl (by kernel_rfl) (by kernel_rfl) (by kernel_rfl) (fun _ _ _ h => h) (by kernel_rfl) ?_ hh ?_
        rotate_left
        · intro w' hSw
          have j0 := hSw
          go_simp
          try with_reducible rfl
        simp only [Act.put]
        refine h_take (i := 3) (oi := _) (v := ?_) rfl (by kernel_rfl) (by kernel_rfl) (by kernel_rfl) (fun _ _ _ h => h) (by kernel_rfl) ?_ hh ?_
        rotate_left
        · intro w' hSw
          have j0 := hSw
          go_simp
          try with_reducible rfl
        simp only [Act.put]
        refine h_take (i := 4) (oi := _) (v := ?_) rfl (by kernel_rfl) (by kernel_rfl) (by kernel_rfl) (fun _ _ _ h => h) (by kernel_rfl) ?_ hh ?_
        rotate_left
        · intro w' hSw
          have j0 := hSw
          go_simp
          try with_reducible rfl
        simp only [Act.put]
        refine h_one (i := 5) (o := _) (by kernel_rfl) rfl (fun K hK => ?_)
        go_simp
        go_at_call 17
        refine (HO.out _ (Below.refl _ _).drew).mono ?_
        rintro e wz ⟨a6, c6, rfl, hrow6, hb6⟩
        have q6 : Below w8.heap.size w8 wz := (Below.refl _ _).drew.trans hb6
        obtain ⟨hfz, ⟨u6, hu6⟩, ⟨cur6, hcur6⟩, cz7, hM7⟩ := hM8.out.recode2 hkg ys a6 c6 q6 hB8 hrow6
        have hh : (fun w' : World => w'.cell? ⟨Ro, 1, none⟩ = some (.slice (some ⟨gf, 0, none⟩) fs.length oc)) _ := HS1.out wz q6
        refine hK.out _ _ hh ?_
        clear hK K
        try simp only [Act.put]
        refine h_take (i := 6) (oi := _) (v := ?_) rfl (by kernel_rfl) (by kernel_rfl) (by kernel_rfl) (fun _ _ _ h => h) (by kernel_rfl) ?_ hh ?_
        rotate_left
        · intro w' hSw
          have j0 := hSw
          go_simp
          try with_reducible rfl
        simp only [Act.put]
        refine h_take (i := 7) (oi := _) (v := ?_) rfl (by kernel_rfl) (by kernel_rfl) (by kernel_rfl) (fun _ _ _ h => h) (by kernel_rfl) ?_ hh ?_
        rotate_left
        · intro w' hSw
          have j0 := hSw
          go_simp
          try with_reducible rfl
        simp only [Act.put]
        refine h_one (i := 8) (o := _) (by kernel_rfl) rfl (fun K hK => ?_)
        go_simp
        have hh : (fun w' : World => w'.cell? ⟨Ro, 1, none⟩ = some (.slice (some ⟨gf, 0, none⟩) fs.length oc)) _ := HS2.out wz q6 (.slice a6 ys.length c6)
        refine hK.out _ _ hh ?_
        clear hK K
        try simp only [Act.put]
        refine wpAnyH_done (by kernel_rfl) ?_ _
        obtain ⟨w9, hw9⟩ : ∃ w9, w9 = wz.setCell ⟨gf, k * 3 + 2, none⟩ (.slice a6 ys.length c6) := ⟨_, rfl⟩
        have hR9 : w9.heap[Ro]? = some (.cells #[.slice ta' ts.length tc', .slice (some ⟨gf, 0, none⟩) fs.length oc] 29 (0, 0)) := by rw [hw9, Below.heap_setCell _ _ _ _ (fun e => HNE.out e)]; exact block_kept HR8.out q6
        have hRes9 : w9.heap[w.heap.size + 1]? = some (.cells #[.slice none 0 0, .slice none 0 0] 29 (0, 0)) := by rw [hw9, Below.heap_setCell _ _ _ _ (by show w.heap.size + 1 ≠ gf; omega)]; exact block_kept HRes8.out q6
        have hb9 : Below w.heap.size w w9 := by rw [hw9]; exact (HB8.out.trans (q6.mono HB8.out.size)).setCell (p := ⟨gf, k * 3 + 2, none⟩) (by show w.heap.size ≤ gf; omega) _
        have hST9 : Hid (FoldSt w9 (w.heap.size + 2) k ta' tc' gf oc ts fs (mapTo (foldOf fs) fs k) hlt (t + 1) ys (keptD (goneF i) d c.length)) := ⟨HNX.out, cz7, by rw [hw9, ← HGS0.out]; exact hM7⟩
        go_simp
        rw [← hw9]
        clear hw9 hM7 hfz hu6 hcur6 hrow6 hb6 q6 hh
        have m9 := block_cell hR9
        go_wp2_with fail
        refine (hST9.out.ask hfl w9 (Below.refl _ _) ts.length).mono ?_
        rintro e wv ⟨⟨x', rfl, HX'⟩, hbv⟩
        have hRv := block_kept hR9 hbv
        have hResv := block_kept hRes9 hbv
        have hbwv := hb9.trans (hbv.mono hb9.size)
        have hSTv : Hid (FoldSt wv (w.heap.size + 2) k ta' tc' gf oc ts fs (mapTo (foldOf fs) fs k) hlt (t + 1) ys (keptD (goneF i) d c.length)) := ⟨hST9.out.ins, by obtain ⟨cz, h⟩ := hST9.out.mod; exact ⟨cz, h.below hbv⟩⟩
        have HMS : Hid (rowLen (wv.cell? ⟨gf, k * 3 + 2, none⟩) < rowLen (wr.cell? ⟨gf, k * 3 + 2, none⟩)) := by
          obtain ⟨_, _, z1, -⟩ := hSTv.out.at hml
          obtain ⟨_, _, z2, -⟩ := HS.out.at hml
          show _ < _
          rw [z1, z2]
          show ys.length < c.length
          have := HLS.out
          omega
        clear hbv hb9 hR9 hRes9 hST9 m9 HO HS1 HS2 HR8 HRes8 HCU8 HB8 hM8 HYS
        go_wp2
        go_roundw
        case rel => exact ⟨t + 1, x', ys, _, rfl, HX', hSTv, hRv, hResv, hbwv⟩
        case measure => exact HMS.out
    · have hke : k = fs.length := by omega
      have y1 := block_cell hRb
      have y2 := block_cell hRes
      have y3 := block_free hRes
      have hr1 := block_set (i := 0) hRes (.slice ta' ts.length tc')
      have hr2 := block_set (i := 1) hr1 (.slice (some ⟨gf, 0, none⟩) fs.length oc)
      have rr := block_cell hr2
      have HM2 : Hid (∃ cz, ModAp ((wr.setCell ⟨w.heap.size + 1, 0, none⟩ (.slice ta' ts.length tc')).setCell ⟨w.heap.size + 1, 1, none⟩ (.slice (some ⟨gf, 0, none⟩) fs.length oc)) (w.heap.size + 2) ta' tc' (some ⟨gf, 0, none⟩) oc ts (fs.map fun F => ⟨F.params, F.locals, foldOf fs F.code⟩) cz) := by
        obtain ⟨cz, h⟩ := hM.out
        rw [hke, mapTo_all] at h
        exact ⟨cz, (h.set (p := ⟨w.heap.size + 1, 0, none⟩) (by simp) _).set (p := ⟨w.heap.size + 1, 1, none⟩) (by simp) _⟩
      have HB2 : Hid (Below w.heap.size w ((wr.setCell ⟨w.heap.size + 1, 0, none⟩ (.slice ta' ts.length tc')).setCell ⟨w.heap.size + 1, 1, none⟩ (.slice (some ⟨gf, 0, none⟩) fs.length oc))) := (hb.setCell (p := ⟨w.heap.size + 1, 0, none⟩) (by simp) (.slice ta' ts.length tc')).setCell (p := ⟨w.heap.size + 1, 1, none⟩) (by simp) (.slice (some ⟨gf, 0, none⟩) fs.length oc)
      clear hr1 hr2 hb hRb hM
      go_wp2
      obtain ⟨cz, hMz⟩ := HM2.out
      refine bodyPost_ret (v := .agg #[.slice ta' ts.length tc', .slice (some ⟨gf, 0, none⟩) fs.length oc]) (by simp [results, Tryz.results5, go_sem, rr]) rfl
        ⟨ts, _, ta', tc', _, oc, hid (.inl ⟨HG.out, rfl, rfl⟩), by simp, hMz.strs.low (Nat.zero_le _), hMz.fns.low (Nat.zero_le _), HB2.out⟩
end Go.Proofs.YtjdoljaailokmaaGreatDoor
