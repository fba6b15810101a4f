/-
  The document's Cut.
-/
import Derived.Test.YtffeejkghmpkkaaRCP
import Derived.Test.YtffeejkghmpkkaaRMT2
import Derived.Test.YtffeejkghmpkkaaRGd
import Derived.Test.YtffeejkghmpkkaaRV6
import Derived.Test.YtffeejkghmpkkaaRMT5
import Derived.Deep.CutRange
namespace Go.Proofs.Ytffeejkghmpkkaa
open Go.RowKit

/-- What is answered of a module: its functions, each with other instructions, or nothing where it is not good. -/
def RewRes (f : List (Int × Int) → List (Int × Int)) (ts : List ByteArray) (fs : List Fn) (ts' : List ByteArray) (fs' : List Fn) : Prop :=
  (Good ts fs ∧ ts' = ts ∧ fs' = fs.map fun F => ⟨F.params, F.locals, f F.code⟩) ∨ (¬ Good ts fs ∧ ts' = [] ∧ fs' = [])
theorem RewRes.one {f : List (Int × Int) → List (Int × Int)} {ts t1 t2 : List ByteArray} {fs f1 f2 : List Fn} (h : RewRes f ts fs t1 f1) (h' : RewRes f ts fs t2 f2) : t1 = t2 ∧ f1 = f2 := by
  rcases h with ⟨hG, rfl, rfl⟩ | ⟨hG, rfl, rfl⟩
  · rcases h' with ⟨-, rfl, rfl⟩ | ⟨hN, -⟩
    · exact ⟨rfl, rfl⟩
    · exact absurd hG hN
  · rcases h' with ⟨hN, -⟩ | ⟨-, rfl, rfl⟩
    · exact absurd hN hG
    · exact ⟨rfl, rfl⟩
/-- What the document's side answers. -/
def SPost (f : List (Int × Int) → List (Int × Int)) (ts : List ByteArray) (fs : List Fn) (w : World) (e : Ending) (w' : World) : Prop :=
  ∃ (ts' : List ByteArray) (fs' : List Fn) (a1 : Option Addr) (c1 : Nat) (a2 : Option Addr) (c2 : Nat), Hid (RewRes f ts fs ts' fs') ∧ e = .returned (.agg #[.slice a1 ts'.length c1, .slice a2 fs'.length c2]) ∧ StrsAt w' 0 a1 ts' ∧ FnsAt w' 0 a2 fs' ∧ Below w.heap.size w w'

/-- A good module: what its functions are. -/
theorem good_mod {ts : List ByteArray} {fs : List Fn} (h : Good ts fs) : modB ts fs = true := by
  obtain ⟨f', a', hV⟩ := h
  rcases hV with ⟨-, h, -⟩ | ⟨hm, hT⟩
  · cases h
  · exact hm
theorem good_fine {ts : List ByteArray} {fs : List Fn} (h : Good ts fs) {k : Nat} (hk : k < fs.length) : Fine fs fs[k].code := fine_of (good_mod h) hk
theorem good_lab {ts : List ByteArray} {fs : List Fn} (h : Good ts fs) {k : Nat} (hk : k < fs.length) {d : List Int} (hd : Done fs fs[k].code d) : Lab fs fs[k].code d := by
  have F := good_fine h hk
  refine lab_of_done F hd ?_
  obtain ⟨f', a', hV⟩ := h
  rcases hV with ⟨-, h, -⟩ | ⟨hm, hT⟩
  · cases h
  · rcases hT with ⟨-, -, -, hC⟩ | ⟨g, hg, k', d', -, -, -, -, ht, hc, -⟩
    · exact fun j hj => hC k hk d hd j hj
    · exact absurd rfl hc
theorem good_size {ts : List ByteArray} {fs : List Fn} (h : Good ts fs) : ts.length ≤ 20 ∧ fs.length ≤ 12 ∧ ∀ f ∈ fs, 1 ≤ f.code.length ∧ f.code.length ≤ 120 := by
  have hm := good_mod h
  refine ⟨?_, ?_, fun f hf => ?_⟩
  · rcases Nat.lt_or_ge 20 ts.length with a | a
    · rw [modB_no (by omega)] at hm; cases hm
    · exact a
  · rcases Nat.lt_or_ge 12 fs.length with a | a
    · rw [modB_no (by omega)] at hm; cases hm
    · exact a
  · obtain ⟨k, hk, rfl⟩ := List.getElem_of_mem hf
    have F := good_fine h hk
    exact ⟨F.one, F.most⟩
/-- The first k functions have other instructions. -/
def mapTo (f : List (Int × Int) → List (Int × Int)) (fs : List Fn) (k : Nat) : List Fn := (fs.take k).map (fun F => ⟨F.params, F.locals, f F.code⟩) ++ fs.drop k
theorem mapTo_len (f : List (Int × Int) → List (Int × Int)) (fs : List Fn) {k : Nat} (h : k ≤ fs.length) : (mapTo f fs k).length = fs.length := by simp [mapTo]; omega
theorem mapTo_get (f : List (Int × Int) → List (Int × Int)) (fs : List Fn) (k i : Nat) : (mapTo f fs k)[i]? = if i < k then fs[i]?.map (fun F => ⟨F.params, F.locals, f F.code⟩) else fs[i]? := by
  unfold mapTo
  by_cases hi : i < k
  · rw [if_pos hi]
    by_cases hl : i < fs.length
    · rw [List.getElem?_append_left (by simp; omega), List.getElem?_map, List.getElem?_take_of_lt hi]
    · rw [List.getElem?_eq_none (by simp; omega), List.getElem?_eq_none (by omega)]; rfl
  · rw [if_neg hi]
    by_cases hl : k ≤ fs.length
    · rw [List.getElem?_append_right (by simp; omega), List.getElem?_drop]
      congr 1
      simp
      omega
    · rw [List.getElem?_eq_none (by simp; omega), List.getElem?_eq_none (by omega)]
theorem mapTo_at (f : List (Int × Int) → List (Int × Int)) (fs : List Fn) {k : Nat} (h : k < fs.length) (h' : k < (mapTo f fs k).length) : (mapTo f fs k)[k] = fs[k] := by
  have := mapTo_get f fs k k
  rw [if_neg (by omega), List.getElem?_eq_getElem h', List.getElem?_eq_getElem h] at this
  simpa using this
theorem mapTo_more (f : List (Int × Int) → List (Int × Int)) (fs : List Fn) {k : Nat} (h : k < fs.length) : (mapTo f fs k).set k ⟨fs[k].params, fs[k].locals, f fs[k].code⟩ = mapTo f fs (k + 1) := by
  have hl := mapTo_len f fs (k := k) (by omega)
  apply List.ext_getElem?
  intro i
  rw [List.getElem?_set, mapTo_get, mapTo_get]
  by_cases e : k = i
  · subst e
    rw [if_pos rfl, if_pos (by omega), if_pos (by omega), List.getElem?_eq_getElem h]; rfl
  · rw [if_neg e]
    by_cases e2 : i < k
    · rw [if_pos e2, if_pos (by omega)]
    · rw [if_neg e2, if_neg (by omega)]
theorem mapTo_all (f : List (Int × Int) → List (Int × Int)) (fs : List Fn) : mapTo f fs fs.length = fs.map fun F => ⟨F.params, F.locals, f F.code⟩ := by simp [mapTo]
theorem mapTo_zero (f : List (Int × Int) → List (Int × Int)) (fs : List Fn) : mapTo f fs 0 = fs := by simp [mapTo]
theorem infoB4 : (Try.prog.info? 4).map (fun i => (i.zero, i.size, i.bytes)) = some (some (.bool false), 1, 1) := by kernel_rfl

set_option maxRecDepth 100000 in
set_option maxHeartbeats 8000000 in
theorem sCut_any (a1 a2 : Option Addr) (c1 c2 : Nat) (ts : List ByteArray) (fs : List Fn) (w : World) (hs : Small ts fs) (hst : StrsAt w 0 a1 ts) (hfn : FnsAt w 0 a2 fs) :
    Calls Try.prog 6 #[.agg #[.slice a1 ts.length c1, .slice a2 fs.length c2]] w fun e w' => SPost (cutOf fs) ts fs w e w' := by
  obtain ⟨i0, hi, hz0, hz1, hz2⟩ := info_parts infoB4
  obtain ⟨wa, hwa⟩ : ∃ wa, wa = (w.alloc (.cells #[.slice a1 ts.length c1, .slice a2 fs.length c2] 29)).alloc (.cells #[.slice none 0 0, .slice none 0 0] 29) := ⟨_, rfl⟩
  have hbA : Below w.heap.size w wa := by rw [hwa]; exact ((Below.refl _ _).alloc (Nat.le_refl _) _).alloc (by simp) _
  have hB1 : wa.heap[w.heap.size]? = some (.cells #[.slice a1 ts.length c1, .slice a2 fs.length c2] 29 (0, 0)) := by rw [hwa]; exact block_old (block_new _ _ _) _
  have hB2 : wa.heap[w.heap.size + 1]? = some (.cells #[.slice none 0 0, .slice none 0 0] 29 (0, 0)) := by rw [hwa]; simpa using block_new (w.alloc (.cells #[.slice a1 ts.length c1, .slice a2 fs.length c2] 29)) #[.slice none 0 0, .slice none 0 0] 29
  have hszA : w.heap.size + 2 ≤ wa.heap.size := by rw [hwa]; simp
  have HSZ : Hid (w.heap.size + 2 ≤ wa.heap.size) := hszA
  have y0 := block_cell hB1
  go_enter Try.func6, Try.ntmps6
  go_upto_region 1 with fail
  rw [← hwa]
  clear hwa hszA
  go_wp2_with fail
  refine (sGood_any _ _ _ _ ts fs wa hs (hst.mono hbA) (hfn.mono hbA)).mono ?_
  rintro e w1 ⟨rfl, hb1⟩
  have hB1a := block_kept hB1 hb1
  have hB2a := block_kept hB2 hb1
  have hbw1 := hbA.trans (hb1.mono hbA.size)
  have HSZ1 : Hid (w.heap.size + 2 ≤ w1.heap.size) := Nat.le_trans HSZ.out hb1.size
  clear hB1 hB2 hb1 hbA y0 HSZ
  by_cases hG : Good ts fs
  case neg =>
    rw [pB_no hG]
    have r1 := block_cell hB2a
    have r2 := block_free hB2a
    have hr2 := block_cell (block_set (i := 1) (block_set (i := 0) hB2a (.slice none 0 0)) (.slice none 0 0))
    have HF : Hid (Below w.heap.size w ((w1.setCell ⟨w.heap.size + 1, 0, none⟩ (.slice none 0 0)).setCell ⟨w.heap.size + 1, 1, none⟩ (.slice none 0 0)) ∧ RewRes (cutOf fs) ts fs [] []) := ⟨(hbw1.setCell (p := ⟨w.heap.size + 1, 0, none⟩) (by simp) _).setCell (p := ⟨w.heap.size + 1, 1, none⟩) (by simp) _, .inr ⟨hG, rfl, rfl⟩⟩
    clear hst hfn hB1a hbw1 hG
    go_wp2
    refine bodyPost_ret (v := .agg #[.slice none 0 0, .slice none 0 0]) (by simp [results, Try.results6, go_sem, r1]) rfl ?_
    exact ⟨[], [], none, 0, none, 0, HF.out.2, rfl, fun i h => by simp at h, fun i h => by simp at h, by first | exact HF.out.1 | exact hid HF.out.1⟩
  rw [pB_yes hG]
  have hGs := good_size hG
  have HG := hid hG
  have x1 := block_cell hB1a
  go_wp2_with fail
  refine (copyX_any a1 a2 c1 c2 ts fs w1 (hst.mono hbw1) (hfn.mono hbw1) (by omega) (by omega) (fun f hf => by have := hGs.2.2 f hf; omega)).mono ?_
  rintro e w2 ⟨ta', tc', oa, oc, cs, rfl, hmo, hb2⟩
  have hmA := hmo.ap.low (show w.heap.size + 2 ≤ w1.heap.size + 2 by have := HSZ1.out; omega)
  have hB1b := block_kept hB1a hb2
  have hB2b := block_kept hB2a hb2
  have hbw2 := hbw1.trans (hb2.mono hbw1.size)
  have HSZ2 : Hid (w.heap.size + 2 ≤ w2.heap.size) := Nat.le_trans HSZ1.out hb2.size
  have hn12 := hGs.2.1
  have hfl : fs.length ≤ 12 := hGs.2.1
  clear hB1a hB2a hb2 hbw1 x1 hmo hG
  obtain ⟨Ro, hRo⟩ : ∃ Ro, Ro = w2.heap.size := ⟨_, rfl⟩
  have hbx : Below w2.heap.size w2 (w2.alloc (.cells #[.slice ta' ts.length tc', .slice oa fs.length oc] 29)) := (Below.refl _ _).alloc (Nat.le_refl _) _
  have hB3 := block_new w2 #[.slice ta' ts.length tc', .slice oa fs.length oc] 29
  rw [← hRo] at hB3
  have hRlo : w.heap.size + 2 ≤ Ro := by rw [hRo]; exact HSZ2.out
  go_wp2
  rw [← hRo]
  obtain ⟨w3, hw3⟩ : ∃ w3, w3 = w2.alloc (.cells #[.slice ta' ts.length tc', .slice oa fs.length oc] 29) := ⟨_, rfl⟩
  rw [← hw3] at hbx hB3 ⊢
  have hB1c := block_kept hB1b hbx
  have hB2c := block_kept hB2b hbx
  have hmC := hmA.below hbx
  have hbw3 := hbw2.trans (hbx.mono hbw2.size)
  have HST := hid hst
  have HFN := hid hfn
  have HGS := hid hGs
  clear hw3 hRo hB1b hB2b hmA hbw2 hbx hst hfn hGs
  go_loopw [4] (fun i wr => ∃ (k : Nat) (gs : List Fn) (cz : List (Option Addr × Nat)), k ≤ fs.length ∧ i = .int .i64 k ∧ Hid (gs = mapTo (cutOf fs) fs k) ∧ Hid (gs.length = fs.length) ∧ wr.heap[Ro]? = some (.cells #[.slice ta' ts.length tc', .slice oa fs.length oc] 29 (0, 0)) ∧ wr.heap[w.heap.size]? = some (.cells #[.slice a1 ts.length c1, .slice a2 fs.length c2] 29 (0, 0)) ∧ wr.heap[w.heap.size + 1]? = some (.cells #[.slice none 0 0, .slice none 0 0] 29 (0, 0)) ∧ Hid (ModAp wr (w.heap.size + 2) ta' tc' oa oc ts gs cz) ∧ Below w.heap.size w wr) (fun i _ => fs.length - (intOf i).toNat)
  case atStart => exact ⟨0, fs, cs, by omega, rfl, by show _ = _; rw [mapTo_zero], rfl, hB3, hB1c, hB2c, hmC, hbw3⟩
  case round =>
    obtain ⟨k, gs, cz, hk, rfl, HGE, HGL, hRb, hMb, hRes, hM, hb⟩ := hrel
    clear hB3 hB1c hB2c hmC hbw3
    have m1 := block_cell hMb
    by_cases hlt : k < fs.length
    · obtain ⟨bf, off, ca, cc, rfl, -, -, -, e3, e4⟩ := HFN.out k hlt
      have hbflt := World.block_lt_of_cell? w _ e3
      have d3 := cell_later hb e3
      have d4 := e4.mono hb
      have E3 := hid e3
      clear e3 e4
      have HFR : Hid (FnsAt wr 0 (some ⟨bf, off, none⟩) fs) := HFN.out.mono hb
      have F := good_fine HG.out hlt
      have hcl := HGS.out.2.2 fs[k] (List.getElem_mem hlt)
      go_upto_region 8 with (go_at_call 18; refine (sDepths_any a1 (some ⟨bf, off, none⟩) ts.length c1 c2 fs k _ hlt (by omega) (by exact HFR.out) F).mono ?_; rintro e w4 ⟨g, cap, d, rfl, hgl, hD, hH, hb4⟩)
      have L := good_lab HG.out hlt hD
      have hdl := L.len
      have hlow := L.low
      have HD : Hid (Done fs fs[k].code d ∧ Lab fs fs[k].code d) := ⟨hD, L⟩
      have HF := hid F
      have hE4 : (w4.alloc (.cells #[] 4)).ownsRow w4.heap.size 4 1 (.slice (some ⟨w4.heap.size, 0, none⟩) 0 0) 0 [] := by
        have := World.ownsRow_made (base := w4.heap.size) (e := 4) (size := 1) w4 #[] 0 (Nat.le_refl _) (by unfold maxLen; omega) rfl
        simpa using this
      have hMb4 := block_kept hMb hb4
      clear L hD F m1 hgl
      obtain ⟨n, hn⟩ : ∃ n, n = fs[k].code.length := ⟨_, rfl⟩
      rw [← hn] at d3 hcl hdl ⊢
      have HNN := hid hn
      clear hn
      obtain ⟨wo, hwo⟩ : ∃ wo, wo = wr := ⟨_, rfl⟩
      rw [← hwo] at hb4 hRb hMb hRes hM hb HFR
      subst hwo
      go_wp2
      go_loopw [6, 7] (fun o i wr => ∃ (t : Nat) (ga : Option Addr) (gc : Nat), t ≤ n ∧ i = .int .i64 t ∧ o = .slice ga t gc ∧ wr.ownsRow w4.heap.size 4 1 (.slice ga t gc) t ((List.range t).map (fun j => .bool (goneD d j))) ∧ Below w4.heap.size w4 wr) (fun _ i _ => n - (intOf i).toNat)
      case atStart => exact ⟨0, some ⟨w4.heap.size, 0, none⟩, 0, by omega, rfl, rfl, hE4, (Below.refl _ _).alloc (Nat.le_refl _) _⟩
      case round =>
        obtain ⟨t, ga, gc, ht, rfl, rfl, hown, hbx⟩ := hrel
        clear hE4
        by_cases hlt2 : t < n
        · have hHx := hH.mono hbx
          have hcd := hHx.cell (j := t) (by omega)
          have hszx := hbx.size
          have hgd : Hid (goneD d t = decide (d[t] < 0)) := by
            show _ = _
            unfold goneD
            rw [List.getD_eq_getElem?_getD, List.getElem?_eq_getElem (by omega)]; rfl
          have HR : Hid ((List.range (t + 1)).map (fun j => Value.bool (goneD d j)) = (List.range t).map (fun j => Value.bool (goneD d j)) ++ [Value.bool (goneD d t)]) := by show _ = _; simp [List.range_succ]
          have hdt : Hid (∀ b, b = decide (d[t] < 0) → Value.bool b = Value.bool (goneD d t)) := fun b hb => by rw [hb, ← hgd.out]
          generalize d[t] = z at hcd hgd hdt
          go_wp2_with (first | (at_builtin; refine wpList_append_lies _ rfl _ _ 40 rfl w4.heap.size 4 i0 (.bool false) 1 1 Try.underlying40 hi hz0 hz1 hz2 rfl (by decide) _ _ _ rfl (World.ownsRow.alloc hown _) ⟨wr.heap.size, 0, none⟩ 1 1 [.bool (decide (z < 0))] rfl rfl (cell_one_new _ _ _) (by intro u hu; simp at hu; subst hu; rfl) (by decide) (by unfold maxLen; omega) (by omega) (by simp; omega) _ rfl ?_; intro g1 cap1 w5 hown1 hgrow1 hat1 hlt1))
          have hk1 := Keeps.grown (ts := [4]) (World.ownsRow.alloc hown _) hgrow1 (by simp)
          have hb5 : Below w4.heap.size w4 w5 := (hbx.alloc hbx.size _).trans (hk1.toBelow (by simp; omega))
          go_roundw
          case rel => exact ⟨t + 1, _, _, by omega, by go_num, by go_num, by rw [HR.out, ← hdt.out _ rfl]; simpa using hown1, hb5⟩
          case measure => simp [intOf]; omega
        · have hte : t = n := by omega
          subst hte
          have HB : Hid (BoolsAt wr ga t (goneD d)) := fun i hi2 => by
            obtain ⟨g3, hg3, -, hc3⟩ := own_cell hown i (by omega)
            exact ⟨g3, 0, hg3, by rw [Nat.zero_add, hc3]; simp [hi2]⟩
          have hbo : Below wo.heap.size wo wr := hb4.trans (hbx.mono hb4.size)
          have hbow := hb.trans (hbo.mono hb.size)
          have HOW := hid (And.intro hbo hbow)
          have hRb5 := block_kept hRb hbo
          have hMb5 := block_kept hMb hbo
          have hRes5 := block_kept hRes hbo
          have hM5 := hid (hM.out.below hbo)
          have d35 := cell_later hbo d3
          have HC5 : Hid (CodeAt wr 0 ca fs[k].code) := d4.mono hbo
          have hkg : k < gs.length := by rw [HGL.out]; exact hlt
          obtain ⟨ys, hys⟩ : ∃ ys, ys = cutOf fs fs[k].code := ⟨_, rfl⟩
          have HO : Hid (∀ W, Below wr.heap.size wr W → Calls Try.prog 19 #[.slice ca t cc, .slice ga t gc] W fun e w' => ∃ a' c', e = .returned (.slice a' ys.length c') ∧ w'.ownsRow W.heap.size 54 2 (.slice a' ys.length c') ys.length (codeVals ys) ∧ Below W.heap.size W w') := fun W hW => by
            have hh := sOut_any ca ga cc gc fs[k].code (goneD d) W (HC5.out.mono hW) (by rw [← HNN.out]; exact HB.out.mono hW) HF.out.most (fun i hi1 hi2 hj => by rw [getD_code hi1] at hj ⊢; exact HF.out.jump i hi1 hj)
            rw [← HNN.out] at hh
            rw [hys]
            unfold cutOf
            rw [dOf_eq HD.out.1]
            exact hh
          have HYS := hid hys
          have HGF : Hid (∃ gf, oa = some ⟨gf, 0, none⟩ ∧ w.heap.size + 2 ≤ gf ∧ ∃ cur, wr.heap[gf]? = some (.cells cur 44 (0, 0))) := by
            obtain ⟨g3, h3, h4, -⟩ := own_cell hM5.out.funcs 0 (by omega)
            exact ⟨g3, h3, h4, own_blk hM5.out.funcs h3⟩
          obtain ⟨gf, rfl, hgf, cur, hcur⟩ := HGF.out
          have hne : Ro ≠ gf := fun e => by rw [e, hcur] at hRb5; cases hRb5
          have HS : Hid (∀ w' : World, Below wr.heap.size wr w' → w'.cell? ⟨Ro, 1, none⟩ = some (.slice (some ⟨gf, 0, none⟩) fs.length oc) ∧ w'.cell? ⟨w.heap.size, 1, none⟩ = some (.slice (some ⟨bf, off, none⟩) fs.length c2) ∧ w'.cell? ⟨bf, off + k * 3 + 2, none⟩ = some (.slice ca t cc)) := fun w' q =>
            ⟨by rw [block_cell (block_kept hRb5 q)]; rfl, by rw [block_cell (block_kept hMb5 q)]; rfl, cell_later q d35⟩
          have HS2 : Hid (∀ w5 : World, Below wr.heap.size wr w5 → ∀ v, (fun w' : World => w'.cell? ⟨Ro, 1, none⟩ = some (.slice (some ⟨gf, 0, none⟩) fs.length oc) ∧ w'.cell? ⟨w.heap.size, 1, none⟩ = some (.slice (some ⟨bf, off, none⟩) fs.length c2) ∧ w'.cell? ⟨bf, off + k * 3 + 2, none⟩ = some (.slice ca t cc)) (w5.setCell ⟨gf, k * 3 + 2, none⟩ v)) := fun w5 q v =>
            ⟨by rw [block_cell (g := Ro) (by rw [Below.heap_setCell _ _ _ _ (fun e => hne e)]; exact block_kept hRb5 q)]; rfl,
             by rw [block_cell (g := w.heap.size) (by rw [Below.heap_setCell _ _ _ _ (by simp; omega)]; exact block_kept hMb5 q)]; rfl,
             by have := cell_later ((HOW.out.2.trans (q.mono HOW.out.2.size)).setCell (p := ⟨gf, k * 3 + 2, none⟩) (by simp; omega) v) E3.out
                rwa [← HNN.out] at this⟩
          have HGG : Hid (gs[k] = fs[k]) := by
            have := mapTo_at (cutOf fs) fs hlt (by rw [← HGE.out]; exact hkg)
            show _ = _
            simp only [HGE.out]
            exact this
          have HNE : Hid (Ro ≠ gf) := hne
          have HB3 := hid (And.intro hRb5 (And.intro hMb5 hRes5))
          have HSZr : Hid (w.heap.size + 2 ≤ wr.heap.size) := by have := lt_block hcur; show _ ≤ _; omega
          clear hRes5 hH hown hbx hlt2 hM hRb hMb hRes hb hb4 hRb5 hMb5 hcur hne d3 d35 d4 hbo hbow hys hbflt hdl hlow
          go_upto_region 13 with fail
          have hh : (fun w' : World => w'.cell? ⟨Ro, 1, none⟩ = some (.slice (some ⟨gf, 0, none⟩) fs.length oc) ∧ w'.cell? ⟨w.heap.size, 1, none⟩ = some (.slice (some ⟨bf, off, none⟩) fs.length c2) ∧ w'.cell? ⟨bf, off + k * 3 + 2, none⟩ = some (.slice ca t cc)) _ := HS.out _ (Below.refl _ _).drew
          refine h_begin (fun w' : World => w'.cell? ⟨Ro, 1, none⟩ = some (.slice (some ⟨gf, 0, none⟩) fs.length oc) ∧ w'.cell? ⟨w.heap.size, 1, none⟩ = some (.slice (some ⟨bf, off, none⟩) fs.length c2) ∧ w'.cell? ⟨bf, off + k * 3 + 2, none⟩ = some (.slice ca t cc)) (by kernel_rfl) ?_
          refine h_take (i := 0) (oi := _) (v := ?_) rfl (by kernel_rfl) (by kernel_rfl) (by kernel_rfl) (fun _ _ _ h => h) (by kernel_rfl) ?_ hh ?_
          rotate_left
          · intro w' hSw
            obtain ⟨j0, j1, j2⟩ := hSw
            go_simp
            try with_reducible rfl
          simp only [Act.put, List.setIfInBounds_toArray]
          refine h_take (i := 1) (oi := _) (v := ?_) rfl (by kernel_rfl) (by kernel_rfl) (by kernel_rfl) (fun _ _ _ h => h) (by kernel_rfl) ?_ hh ?_
          rotate_left
          · intro w' hSw
            obtain ⟨j0, j1, j2⟩ := hSw
            go_simp
            try with_reducible rfl
          simp only [Act.put]
          refine h_take (i := 2) (oi := _) (v := ?_) rfl (by kernel_rfl) (by kernel_rfl) (by kernel_rfl) (fun _ _ _ h => h) (by kernel_rfl) ?_ hh ?_
          rotate_left
          · intro w' hSw
            obtain ⟨j0, j1, j2⟩ := hSw
            go_simp
            try with_reducible rfl
          simp only [Act.put]
          refine h_take (i := 3) (oi := _) (v := ?_) rfl (by kernel_rfl) (by kernel_rfl) (by kernel_rfl) (fun _ _ _ h => h) (by kernel_rfl) ?_ hh ?_
          rotate_left
          · intro w' hSw
            obtain ⟨j0, j1, j2⟩ := hSw
            go_simp
            try with_reducible rfl
          simp only [Act.put]
          refine h_take (i := 4) (oi := _) (v := ?_) rfl (by kernel_rfl) (by kernel_rfl) (by kernel_rfl) (fun _ _ _ h => h) (by kernel_rfl) ?_ hh ?_
          rotate_left
          · intro w' hSw
            obtain ⟨j0, j1, j2⟩ := hSw
            go_simp
            try with_reducible rfl
          simp only [Act.put]
          refine h_take (i := 5) (oi := _) (v := ?_) rfl (by kernel_rfl) (by kernel_rfl) (by kernel_rfl) (fun _ _ _ h => h) (by kernel_rfl) ?_ hh ?_
          rotate_left
          · intro w' hSw
            obtain ⟨j0, j1, j2⟩ := hSw
            go_simp
            try with_reducible rfl
          simp only [Act.put]
          refine h_take (i := 6) (oi := _) (v := ?_) rfl (by kernel_rfl) (by kernel_rfl) (by kernel_rfl) (fun _ _ _ h => h) (by kernel_rfl) ?_ hh ?_
          rotate_left
          · intro w' hSw
            obtain ⟨j0, j1, j2⟩ := hSw
            go_simp
            try with_reducible rfl
          simp only [Act.put]
          refine h_take (i := 7) (oi := _) (v := ?_) rfl (by kernel_rfl) (by kernel_rfl) (by kernel_rfl) (fun _ _ _ h => h) (by kernel_rfl) ?_ hh ?_
          rotate_left
          · intro w' hSw
            obtain ⟨j0, j1, j2⟩ := hSw
            go_simp
            try with_reducible rfl
          simp only [Act.put]
          refine h_take (i := 8) (oi := _) (v := ?_) rfl (by kernel_rfl) (by kernel_rfl) (by kernel_rfl) (fun _ _ _ h => h) (by kernel_rfl) ?_ hh ?_
          rotate_left
          · intro w' hSw
            obtain ⟨j0, j1, j2⟩ := hSw
            go_simp
            try with_reducible rfl
          simp only [Act.put]
          refine h_take (i := 9) (oi := _) (v := ?_) rfl (by kernel_rfl) (by kernel_rfl) (by kernel_rfl) (fun _ _ _ h => h) (by kernel_rfl) ?_ hh ?_
          rotate_left
          · intro w' hSw
            obtain ⟨j0, j1, j2⟩ := hSw
            go_simp
            try with_reducible rfl
          simp only [Act.put]
          refine h_one (i := 10) (o := _) (by kernel_rfl) rfl (fun K hK => ?_)
          go_simp
          go_at_call 19
          refine (HO.out _ (Below.refl _ _).drew).mono ?_
          rintro e w6 ⟨a6, c6, rfl, hrow6, hb6⟩
          have q6 : Below wr.heap.size wr w6 := (Below.refl _ _).drew.trans hb6
          obtain ⟨g2, hg2, hg2b, hfz, ⟨u6, hu6⟩, ⟨cur6, hcur6⟩, hM6⟩ := hM5.out.recode k hkg ys a6 c6 q6 HSZr.out hrow6
          obtain rfl : gf = g2 := by cases hg2; rfl
          have hh : (fun w' : World => w'.cell? ⟨Ro, 1, none⟩ = some (.slice (some ⟨gf, 0, none⟩) fs.length oc) ∧ w'.cell? ⟨w.heap.size, 1, none⟩ = some (.slice (some ⟨bf, off, none⟩) fs.length c2) ∧ w'.cell? ⟨bf, off + k * 3 + 2, none⟩ = some (.slice ca t cc)) _ := HS.out w6 q6
          refine hK.out _ _ hh ?_
          clear hK K
          try simp only [Act.put]
          refine h_take (i := 11) (oi := _) (v := ?_) rfl (by kernel_rfl) (by kernel_rfl) (by kernel_rfl) (fun _ _ _ h => h) (by kernel_rfl) ?_ hh ?_
          rotate_left
          · intro w' hSw
            obtain ⟨j0, j1, j2⟩ := hSw
            go_simp
            try with_reducible rfl
          simp only [Act.put]
          refine h_take (i := 12) (oi := _) (v := ?_) rfl (by kernel_rfl) (by kernel_rfl) (by kernel_rfl) (fun _ _ _ h => h) (by kernel_rfl) ?_ hh ?_
          rotate_left
          · intro w' hSw
            obtain ⟨j0, j1, j2⟩ := hSw
            go_simp
            try with_reducible rfl
          simp only [Act.put]
          refine h_one (i := 13) (o := _) (by kernel_rfl) rfl (fun K hK => ?_)
          go_simp
          have hh : (fun w' : World => w'.cell? ⟨Ro, 1, none⟩ = some (.slice (some ⟨gf, 0, none⟩) fs.length oc) ∧ w'.cell? ⟨w.heap.size, 1, none⟩ = some (.slice (some ⟨bf, off, none⟩) fs.length c2) ∧ w'.cell? ⟨bf, off + k * 3 + 2, none⟩ = some (.slice ca t cc)) _ := HS2.out w6 q6 (.slice a6 ys.length c6)
          refine hK.out _ _ hh ?_
          clear hK K
          try simp only [Act.put]
          have HZ : Hid (gs.set k ⟨gs[k].params, gs[k].locals, ys⟩ = gs.set k ⟨fs[k].params, fs[k].locals, cutOf fs fs[k].code⟩ ∧ Hid ((gs.set k ⟨gs[k].params, gs[k].locals, ys⟩).length = fs.length) ∧ (w6.setCell ⟨gf, k * 3 + 2, none⟩ (.slice a6 ys.length c6)).heap[Ro]? = some (.cells #[.slice ta' ts.length tc', .slice (some ⟨gf, 0, none⟩) fs.length oc] 29 (0, 0)) ∧ (w6.setCell ⟨gf, k * 3 + 2, none⟩ (.slice a6 ys.length c6)).heap[w.heap.size]? = some (.cells #[.slice a1 ts.length c1, .slice (some ⟨bf, off, none⟩) fs.length c2] 29 (0, 0)) ∧ (w6.setCell ⟨gf, k * 3 + 2, none⟩ (.slice a6 ys.length c6)).heap[w.heap.size + 1]? = some (.cells #[.slice none 0 0, .slice none 0 0] 29 (0, 0)) ∧ Hid (ModAp (w6.setCell ⟨gf, k * 3 + 2, none⟩ (.slice a6 ys.length c6)) (w.heap.size + 2) ta' tc' (some ⟨gf, 0, none⟩) oc ts (gs.set k ⟨gs[k].params, gs[k].locals, ys⟩) (cz.set k (a6, c6))) ∧ Below w.heap.size w (w6.setCell ⟨gf, k * 3 + 2, none⟩ (.slice a6 ys.length c6))) := by
            refine ⟨by rw [HGG.out, HYS.out], by show _ = _; rw [List.length_set]; exact HGL.out, ?_, ?_, ?_, hM6, (show Below w.heap.size w (w6.setCell ⟨gf, k * 3 + 2, none⟩ (.slice a6 ys.length c6)) from (HOW.out.2.trans (q6.mono HOW.out.2.size)).setCell (p := ⟨gf, k * 3 + 2, none⟩) (by simp; omega) (.slice a6 ys.length c6))⟩
            · rw [Below.heap_setCell _ _ _ _ (fun e => HNE.out e)]; exact block_kept HB3.out.1 q6
            · rw [Below.heap_setCell _ _ _ _ (by simp; omega)]; exact block_kept HB3.out.2.1 q6
            · rw [Below.heap_setCell _ _ _ _ (by simp; omega)]; exact block_kept HB3.out.2.2 q6
          clear hM6 hfz hu6 hcur6 hrow6 hb6 q6
          refine wpAnyH_done (by kernel_rfl) ?_ _
          go_simp
          go_wp2
          go_roundw
          case rel => exact ⟨k + 1, _, _, by omega, by go_num, hid (by rw [HZ.out.1, HGE.out, mapTo_more _ _ hlt]), HZ.out.2.1, HZ.out.2.2.1, HZ.out.2.2.2.1, HZ.out.2.2.2.2.1, HZ.out.2.2.2.2.2.1, HZ.out.2.2.2.2.2.2⟩
          case measure => simp [intOf]; omega
    · have hke : k = fs.length := by omega
      have hgs : gs = fs.map fun F => ⟨F.params, F.locals, cutOf fs F.code⟩ := by rw [HGE.out, hke, mapTo_all]
      have y1 := block_cell hRb
      have y2 := block_cell hRes
      have y3 := block_free hRes
      have hr1 := block_set (i := 0) hRes (.slice ta' ts.length tc')
      have hr2 := block_set (i := 1) hr1 (.slice oa fs.length oc)
      have rr := block_cell hr2
      have HM2 : Hid (ModAp ((wr.setCell ⟨w.heap.size + 1, 0, none⟩ (.slice ta' ts.length tc')).setCell ⟨w.heap.size + 1, 1, none⟩ (.slice oa fs.length oc)) (w.heap.size + 2) ta' tc' oa oc ts gs cz) := (hM.out.set (p := ⟨w.heap.size + 1, 0, none⟩) (by simp) _).set (p := ⟨w.heap.size + 1, 1, none⟩) (by simp) _
      have HB2 : Hid (Below w.heap.size w ((wr.setCell ⟨w.heap.size + 1, 0, none⟩ (.slice ta' ts.length tc')).setCell ⟨w.heap.size + 1, 1, none⟩ (.slice oa fs.length oc))) := (hb.setCell (p := ⟨w.heap.size + 1, 0, none⟩) (by simp) (.slice ta' ts.length tc')).setCell (p := ⟨w.heap.size + 1, 1, none⟩) (by simp) (.slice oa fs.length oc)
      have HGS2 := hid hgs
      clear hr1 hr2 hgs hb hMb hRb
      go_wp2
      refine bodyPost_ret (v := .agg #[.slice ta' ts.length tc', .slice oa fs.length oc]) (by simp [results, Try.results6, go_sem, rr]) rfl
        ⟨ts, gs, ta', tc', oa, oc, hid (.inl ⟨HG.out, rfl, HGS2.out⟩), by rw [HGL.out], HM2.out.strs.low (Nat.zero_le _), HM2.out.fns.low (Nat.zero_le _), HB2.out⟩
end Go.Proofs.Ytffeejkghmpkkaa
