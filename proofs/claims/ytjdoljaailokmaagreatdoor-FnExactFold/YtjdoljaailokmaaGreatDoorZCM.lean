/-
  The document's copy of a module, exactly.
-/
import Derived.Test.YtjdoljaailokmaaGreatDoorZFQ15
import Derived.Test.YtjdoljaailokmaaGreatDoorZGT
import Derived.Test.YtjdoljaailokmaaGreatDoorZW2
import Derived.Deep.CutRange
import Derived.Deep.RegionHeld3
import Derived.Deep.AppendLies
namespace Go.Proofs.YtjdoljaailokmaaGreatDoor
open Go.RowKit

theorem code_news {w w' : World} {lo g o : Nat} {xs : List (Int × Int)} (h : CodeAt w lo (some ⟨g, o, none⟩) xs) (hb : Below w.heap.size w w') : ∀ (j : Nat) (u : Value), (codeVals xs)[j]? = some u → w'.cell? ((⟨g, o, none⟩ : Addr).add j) = some u := by
  intro j u hj
  rw [Go.WideShapes.add_plain]
  have hl : (codeVals xs).length = xs.length * 2 := by
    clear hj h
    induction xs with
    | nil => rfl
    | cons x xs ih =>
      have e : codeVals (x :: xs) = .int .i64 x.1 :: .int .i64 x.2 :: codeVals xs := by simp [codeVals]
      rw [e]; simp [ih]; omega
  have hlt : j < xs.length * 2 := by
    rcases Nat.lt_or_ge j (codeVals xs).length with a | a
    · omega
    · rw [List.getElem?_eq_none a] at hj; cases hj
  have hi : j / 2 < xs.length := by omega
  obtain ⟨b, off, hba, -, c1, c2⟩ := h (j / 2) hi
  cases hba
  have hv := codeVals_at xs (j / 2) hi
  rcases Nat.mod_two_eq_zero_or_one j with e | e
  · have e2 : j = j / 2 * 2 := by omega
    rw [e2, hv.1] at hj
    cases hj
    rw [show o + j = o + j / 2 * 2 by omega]
    exact cell_later hb c1
  · have e2 : j = j / 2 * 2 + 1 := by omega
    rw [e2, hv.2] at hj
    cases hj
    rw [show o + j = o + j / 2 * 2 + 1 by omega]
    exact cell_later hb c2
theorem strs_news {w w' : World} {lo g o : Nat} {ts : List ByteArray} (h : StrsAt w lo (some ⟨g, o, none⟩) ts) (hb : Below w.heap.size w w') : ∀ (j : Nat) (u : Value), (ts.map Value.string)[j]? = some u → w'.cell? ((⟨g, o, none⟩ : Addr).add j) = some u := by
  intro j u hj
  rw [Go.WideShapes.add_plain]
  have hlt : j < ts.length := by
    rcases Nat.lt_or_ge j ts.length with a | a
    · exact a
    · rw [List.getElem?_eq_none (by simpa using a)] at hj; cases hj
  obtain ⟨b, off, hba, -, c⟩ := h j hlt
  cases hba
  rw [List.getElem?_map, List.getElem?_eq_getElem hlt] at hj
  cases hj
  exact cell_later hb c
theorem codeVals_len (xs : List (Int × Int)) : (codeVals xs).length = xs.length * 2 := by
  induction xs with
  | nil => rfl
  | cons x xs ih =>
    have e : codeVals (x :: xs) = .int .i64 x.1 :: .int .i64 x.2 :: codeVals xs := by simp [codeVals]
    rw [e]; simp [ih]; omega
theorem codeVals_one {xs : List (Int × Int)} : ∀ u ∈ codeVals xs, u.oneCell' = true := by
  intro u hu
  unfold codeVals at hu
  obtain ⟨x, -, hx⟩ := List.mem_flatMap.1 hu
  simp at hx
  rcases hx with rfl | rfl <;> rfl

/-- What a copy that is being made is in memory. -/
structure CM (w wr : World) (ta : Option Addr) (nt tc : Nat) (fa : Option Addr) (fn fc : Nat) (Ro : Nat) (ta' : Option Addr) (tc' : Nat) (oa : Option Addr) (oc : Nat) (ts : List ByteArray) (os : List Fn) (cs : List (Option Addr × Nat)) : Prop where
  box : wr.heap[w.heap.size]? = some (.cells #[.slice ta nt tc, .slice fa fn fc] 29 (0, 0))
  res : wr.heap[w.heap.size + 1]? = some (.cells #[.slice none 0 0, .slice none 0 0] 29 (0, 0))
  out : wr.heap[Ro]? = some (.cells #[.slice ta' ts.length tc', .slice oa os.length oc] 29 (0, 0))
  far : w.heap.size + 2 ≤ Ro
  mod : ModOwn wr (w.heap.size + 2) ta' tc' oa oc ts os cs
  below : Below w.heap.size w wr

section
variable {w wr w' : World} {ta : Option Addr} {nt tc : Nat} {fa : Option Addr} {fn fc Ro : Nat} {ta' : Option Addr} {tc' : Nat} {oa : Option Addr} {oc : Nat} {ts : List ByteArray} {os : List Fn} {cs : List (Option Addr × Nat)}
theorem CM.later (h : CM w wr ta nt tc fa fn fc Ro ta' tc' oa oc ts os cs) (hb : Below wr.heap.size wr w') : CM w w' ta nt tc fa fn fc Ro ta' tc' oa oc ts os cs :=
  ⟨block_kept h.box hb, block_kept h.res hb, block_kept h.out hb, h.far, h.mod.below hb, h.below.trans (hb.mono h.below.size)⟩
theorem CM.size (h : CM w wr ta nt tc fa fn fc Ro ta' tc' oa oc ts os cs) : w.heap.size + 2 < wr.heap.size := by
  have := lt_block h.out
  have := h.far
  omega
/-- One function more. -/
theorem CM.add (h : CM w wr ta nt tc fa fn fc Ro ta' tc' oa oc ts os cs) (f : Fn) (ca : Option Addr) (cc X : Nat) (hl : ∀ i (h : i < cs.length) g, cs[i].1 = some ⟨g, 0, none⟩ → g < X) (hX : w.heap.size + 2 ≤ X) (hf : wr.ownsRow X 44 2 (.slice ca f.code.length cc) f.code.length (codeVals f.code)) (hk : Keeps (w.heap.size + 2) [40] wr w') {g c : Nat}
    (hown : w'.ownsRow (w.heap.size + 2) 40 3 (.slice (some ⟨g, 0, none⟩) (os.length + 1) c) (os.length + 1) (fnVals os cs ++ [.int .i64 f.params, .int .i64 f.locals, .slice ca f.code.length cc])) :
    CM w (w'.setCell ⟨Ro, 1, none⟩ (.slice (some ⟨g, 0, none⟩) (os.length + 1) c)) ta nt tc fa fn fc Ro ta' tc' (some ⟨g, 0, none⟩) c ts (os ++ [f]) (cs ++ [(ca, cc)]) := by
  have hfar := h.far
  have hsz := h.size
  have ho := hk.cell h.out (by simp)
  have hle : (os ++ [f]).length = os.length + 1 := by simp
  have hs : Keeps (w.heap.size + 2) [29] w' (w'.setCell ⟨Ro, 1, none⟩ (.slice (some ⟨g, 0, none⟩) (os.length + 1) c)) := Keeps.set (Keeps.refl _ _ _) ho (by simp) (by omega) _ _
  refine ⟨?_, ?_, ?_, h.far, ⟨own_keeps (own_keeps h.mod.texts hk (by simp)) hs (by simp), ?_, ?_⟩, (h.below.trans ((hk.toBelow (by omega)).mono (by omega))).setCell (by simp; omega) _⟩
  · rw [Below.heap_setCell _ _ _ _ (by simp; omega)]; exact hk.cell h.box (by simp)
  · rw [Below.heap_setCell _ _ _ _ (by simp; omega)]; exact hk.cell h.res (by simp)
  · rw [hle]; simpa using block_set (i := 1) ho (.slice (some ⟨g, 0, none⟩) (os.length + 1) c)
  · rw [hle, fnVals_snoc h.mod.codes.len]; exact own_keeps hown hs (by simp)
  · exact ((h.mod.codes.keeps hk (by simp)).keeps hs (by simp)).snoc2 hl (Nat.le_refl _) hX (own_keeps (own_keeps hf hk (by simp)) hs (by simp))
theorem CM.start {w1 : World} (h1 : w1.heap[w.heap.size]? = some (.cells #[.slice ta nt tc, .slice fa fn fc] 29 (0, 0))) (h2 : w1.heap[w.heap.size + 1]? = some (.cells #[.slice none 0 0, .slice none 0 0] 29 (0, 0))) (hT : w1.ownsRow (w.heap.size + 2) 9 1 (.slice ta' ts.length tc') ts.length (ts.map .string)) (hsz : w.heap.size + 2 ≤ w1.heap.size) (hb : Below w.heap.size w w1) :
    CM w (w1.alloc (.cells #[.slice ta' ts.length tc', .slice none 0 0] 29)) ta nt tc fa fn fc w1.heap.size ta' tc' none 0 ts [] [] := by
  have hx : Below w1.heap.size w1 (w1.alloc (.cells #[.slice ta' ts.length tc', .slice none 0 0] 29)) := (Below.refl _ _).alloc (Nat.le_refl _) _
  exact ⟨block_kept h1 hx, block_kept h2 hx, block_new _ _ _, hsz, ⟨own_keeps (B := 0) (ts := []) hT (Keeps.below hx) (by simp), World.ownsRow_nil _ _ _ _, CodesOwn.nil _ _⟩, hb.trans (hx.mono hb.size)⟩
end

set_option maxRecDepth 100000 in
set_option maxHeartbeats 40000000 in
theorem copyX_any (ta fa : Option Addr) (tc fc : Nat) (ts : List ByteArray) (fs : List Fn) (w : World) (hst : StrsAt w 0 ta ts) (hfn : FnsAt w 0 fa fs) (hn : ts.length ≤ 100) (hl : fs.length ≤ 100) (hcl : ∀ f ∈ fs, 1 ≤ f.code.length ∧ f.code.length ≤ 60000) :
    Calls Tryz.prog 14 #[.agg #[.slice ta ts.length tc, .slice fa fs.length fc]] w fun e w' => ∃ ta' tc' oa oc cs, e = .returned (.agg #[.slice ta' ts.length tc', .slice oa fs.length oc]) ∧ ModOwn w' (w.heap.size + 2) ta' tc' oa oc ts fs cs ∧ Below w.heap.size w w' := by
  obtain ⟨i9, hi9, hz90, hz91, hz92⟩ := info_parts info9
  obtain ⟨i36, hi36, hz0, hz1, hz2⟩ := info_parts info40
  obtain ⟨i40, hi40, hy0, hy1, hy2⟩ := info_parts info44
  obtain ⟨wa, hwa⟩ : ∃ wa, wa = (w.alloc (.cells #[.slice ta ts.length tc, .slice fa fs.length fc] 29)).alloc (.cells #[.slice none 0 0, .slice none 0 0] 29) := ⟨_, rfl⟩
  have hszw : wa.heap.size = w.heap.size + 2 := by rw [hwa]; simp
  have hbA : Below w.heap.size w wa := by rw [hwa]; exact ((Below.refl _ _).alloc (Nat.le_refl _) _).alloc (by simp) _
  have hB1 : wa.heap[w.heap.size]? = some (.cells #[.slice ta ts.length tc, .slice fa fs.length fc] 29 (0, 0)) := by rw [hwa]; exact block_old (block_new _ _ _) _
  have hB2 : wa.heap[w.heap.size + 1]? = some (.cells #[.slice none 0 0, .slice none 0 0] 29 (0, 0)) := by rw [hwa]; simpa using block_new (w.alloc (.cells #[.slice ta ts.length tc, .slice fa fs.length fc] 29)) #[.slice none 0 0, .slice none 0 0] 29
  have HWA : Hid (wa = (w.alloc (.cells #[.slice ta ts.length tc, .slice fa fs.length fc] 29)).alloc (.cells #[.slice none 0 0, .slice none 0 0] 29)) := hwa
  have HSZ : Hid (wa.heap.size = w.heap.size + 2) := hszw
  have hE : (wa.alloc (.cells #[] 9)).ownsRow (w.heap.size + 2) 9 1 (.slice (some ⟨wa.heap.size, 0, none⟩) 0 0) 0 [] := World.ownsRow_made (base := w.heap.size + 2) (e := 9) (size := 1) wa #[] 0 (by omega) (by unfold maxLen; omega) rfl
  go_enter Tryz.func14, Tryz.ntmps14
  clear hwa hszw
  go_upto_region 1 with fail
  rw [← HWA.out]
  go_cut [3] from 6 to 10 (fun s3 wx => ∃ Ro ta' tc', s3 = .pointer (some ⟨Ro, 0, none⟩) ∧ CM w wx ta ts.length tc fa fs.length fc Ro ta' tc' none 0 ts [] [])
  case first =>
    have hbe : Below wa.heap.size wa (wa.alloc (.cells #[] 9)) := (Below.refl _ _).alloc (Nat.le_refl _) _
    have y1 := block_cell (block_kept hB1 hbe)
    have y0 := block_cell hB1
    by_cases h0 : ts = []
    · subst h0
      rcases ta with _ | ad
      all_goals
        go_wp2_with fail
        have hs := CM.start (w := w) (w1 := wa.alloc (.cells #[] 9)) (tc' := 0) (block_kept hB1 hbe) (block_kept hB2 hbe) (ts := []) hE (by have := HSZ.out; simp; omega) (hbA.trans (hbe.mono hbA.size))
        simp only [World.size_alloc] at hs
        go_meet
        case rel => exact ⟨wa.heap.size + 1, some ⟨wa.heap.size, 0, none⟩, 0, rfl, hs⟩
    · have hpos : 0 < ts.length := List.length_pos_iff.2 h0
      obtain ⟨gt, ot, rfl, -, -⟩ := hst 0 hpos
      obtain ⟨vs, hvs⟩ : ∃ vs, vs = ts.map Value.string := ⟨_, rfl⟩
      have HN : Hid (∀ (j : Nat) (u : Value), vs[j]? = some u → (wa.alloc (.cells #[] 9)).cell? ((⟨gt, ot, none⟩ : Addr).add j) = some u) := by rw [hvs]; exact strs_news hst (hbA.trans (hbe.mono hbA.size))
      have HVL : Hid (vs.length = ts.length * 1) := by show _ = _; rw [hvs]; simp
      have hv1 : ∀ u ∈ vs, u.oneCell' = true := fun u hu => by rw [hvs] at hu; obtain ⟨s, -, rfl⟩ := List.mem_map.1 hu; rfl
      have HVS : Hid (vs = ts.map Value.string) := hvs
      clear hvs
      go_wp2_with (at_builtin; (refine wpList_append_lies _ rfl _ _ 22 rfl (w.heap.size + 2) 9 i9 (.string ByteArray.empty) 1 16 Tryz.underlying22 hi9 hz90 hz91 hz92 rfl (by decide) _ _ _ rfl hE ⟨gt, ot, none⟩ ts.length tc vs rfl HVL.out HN.out hv1 hpos (by unfold maxLen; omega) (by omega) (by have := HSZ.out; simp; omega) _ rfl ?_); intro g cp w1 hown1 hgrow1 hat1 hlt1)
      have hk1 := Keeps.grown (ts := [9]) hE hgrow1 (by simp)
      have hown2 : w1.ownsRow (w.heap.size + 2) 9 1 (.slice (some ⟨g, 0, none⟩) ts.length cp) ts.length (ts.map .string) := by rw [← HVS.out]; simpa using hown1
      have hb1 : Below w.heap.size w w1 := (hbA.trans (hbe.mono hbA.size)).trans ((hk1.toBelow (by have := HSZ.out; simp; omega)).mono (by omega))
      have hs := CM.start (w := w) (w1 := w1) (tc' := cp) (hk1.cell (block_kept hB1 hbe) (by simp)) (hk1.cell (block_kept hB2 hbe) (by simp)) hown2 (by have := HSZ.out; have := hk1.size; simp at this; omega) hb1
      go_meet
      case rel => exact ⟨w1.heap.size, some ⟨g, 0, none⟩, cp, rfl, hs⟩
  case rest =>
    obtain ⟨Ro, ta', tc', rfl, hCM⟩ := hcut
    clear hE hB1 hB2 hbA HWA HSZ
    go_wp2
    go_loopw [4] (fun i wr => ∃ (k : Nat) (oa : Option Addr) (oc : Nat) (os : List Fn) (cs : List (Option Addr × Nat)), k ≤ fs.length ∧ Hid (os = fs.take k) ∧ i = .int .i64 k ∧ CM w wr ta ts.length tc fa fs.length fc Ro ta' tc' oa oc ts os cs) (fun i _ => fs.length - (intOf i).toNat)
    case atStart => exact ⟨0, none, 0, [], [], by omega, by show _ = _; simp, rfl, hCM⟩
    case round =>
      obtain ⟨k, oa, oc, os, cs, hk, hos0, rfl, hCMr⟩ := hrel
      clear hCM
      have x0 := block_cell hCMr.box
      by_cases hlt : k < fs.length
      · have hm := List.getElem_mem hlt
        obtain ⟨hn1, hn6⟩ := hcl fs[k] hm
        obtain ⟨gf, gfo, ca, cc, rfl, -, a1, a2, a3, a4⟩ := hfn k hlt
        have b1 := cell_later hCMr.below a1
        have b2 := cell_later hCMr.below a2
        have b3 := cell_later hCMr.below a3
        have HTK : Hid (fs.take (k + 1) = fs.take k ++ [fs[k]]) := List.take_succ_eq_append_getElem hlt
        clear a1 a2 a3 hm
        generalize fs[k] = h at hn1 hn6 a4 b1 b2 b3 HTK
        obtain ⟨p, l, code⟩ := h
        simp only at hn1 hn6 a4 b1 b2 b3
        obtain ⟨gc, go, rfl, -, -, -⟩ := a4 0 hn1
        obtain ⟨vs, hvs⟩ : ∃ vs, vs = codeVals code := ⟨_, rfl⟩
        obtain ⟨cn, hcn⟩ : ∃ cn, cn = code.length := ⟨_, rfl⟩
        rw [← hcn] at hn1 hn6 b3
        have HVS : Hid (vs = codeVals code ∧ cn = code.length) := ⟨hvs, hcn⟩
        clear hcn
        obtain ⟨wx, hwx⟩ : ∃ wx, wx = wr.alloc (.cells #[.int .i64 p, .int .i64 l, .slice (some ⟨gc, go, none⟩) cn cc] 40) := ⟨_, rfl⟩
        have hbx : Below wr.heap.size wr wx := by rw [hwx]; exact (Below.refl _ _).alloc (Nat.le_refl _) _
        have hX : wx.heap[wr.heap.size]? = some (.cells #[.int .i64 p, .int .i64 l, .slice (some ⟨gc, go, none⟩) cn cc] 40 (0, 0)) := by rw [hwx]; exact block_new _ _ _
        have hCMx := hCMr.later hbx
        have HZX : Hid (wr.heap.size ≤ wx.heap.size) := hbx.size
        have HOLD : Hid (∀ i (h : i < cs.length) g, cs[i].1 = some ⟨g, 0, none⟩ → g < wx.heap.size) := hCMx.mod.lt.codes
        have HWX : Hid (wx = wr.alloc (.cells #[.int .i64 p, .int .i64 l, .slice (some ⟨gc, go, none⟩) cn cc] 40)) := hwx
        have hbe := ((Below.refl wx.heap.size wx).alloc (Nat.le_refl _) (.cells #[] 44)).drew
        have hEc : (wx.alloc (.cells #[] 44)).drew.ownsRow wx.heap.size 44 2 (.slice (some ⟨wx.heap.size, 0, none⟩) 0 0) 0 [] := World.ownsRow_made (base := wx.heap.size) (e := 44) (size := 2) wx #[] 0 (Nat.le_refl _) (by unfold maxLen; omega) rfl
        have HN : Hid (∀ (j : Nat) (u : Value), vs[j]? = some u → (wx.alloc (.cells #[] 44)).drew.cell? ((⟨gc, go, none⟩ : Addr).add j) = some u) := by rw [hvs]; exact code_news a4 (hCMx.below.trans (hbe.mono hCMx.below.size))
        have HVL : Hid (vs.length = cn * 2) := by show _ = _; rw [HVS.out.1, HVS.out.2]; exact codeVals_len _
        have hv1 : ∀ u ∈ vs, u.oneCell' = true := fun u hu => by rw [hvs] at hu; exact codeVals_one u hu
        have hpos : 0 < cn := by omega
        have hsx := hCMx.size
        have y1 := block_cell hX
        have y2 := block_cell (block_kept hX hbe)
        have y3 := block_cell hCMx.out
        have y4 := block_cell (block_kept hCMx.out hbe)
        have hos : os.length ≤ 100 := by rw [hos0.out, List.length_take]; omega
        clear hwx hvs a4
        go_wp2
        rw [← HWX.out]
        clear b1 b2 b3 hCMr x0 hbx
        have hh : (fun w' => w'.cell? ⟨Ro, 1, none⟩ = some (.slice oa os.length oc) ∧ w'.cell? ⟨wr.heap.size, 0, none⟩ = some (.int .i64 p) ∧ w'.cell? ⟨wr.heap.size, 1, none⟩ = some (.int .i64 l) ∧ w'.cell? ⟨wr.heap.size, 2, none⟩ = some (.slice (some ⟨gc, go, none⟩) cn cc)) wx.drew := ⟨(y3 1).trans rfl, (y1 0).trans rfl, (y1 1).trans rfl, (y1 2).trans rfl⟩
        refine wp_region_T (Two (fun w' => w'.cell? ⟨Ro, 1, none⟩ = some (.slice oa os.length oc) ∧ w'.cell? ⟨wr.heap.size, 0, none⟩ = some (.int .i64 p) ∧ w'.cell? ⟨wr.heap.size, 1, none⟩ = some (.int .i64 l) ∧ w'.cell? ⟨wr.heap.size, 2, none⟩ = some (.slice (some ⟨gc, go, none⟩) cn cc)) (fun _ => True) [12, 13, 14] []) (by kernel_rfl) ?_
        refine wpAnyT_take (i := 0) (fun w' => w'.cell? ⟨Ro, 1, none⟩ = some (.slice oa os.length oc) ∧ w'.cell? ⟨wr.heap.size, 0, none⟩ = some (.int .i64 p) ∧ w'.cell? ⟨wr.heap.size, 1, none⟩ = some (.int .i64 l) ∧ w'.cell? ⟨wr.heap.size, 2, none⟩ = some (.slice (some ⟨gc, go, none⟩) cn cc)) [1, 12, 13, 14] (oi := _) (v := ?_) rfl (by kernel_rfl) (by kernel_rfl) (by kernel_rfl) (by kernel_rfl) (fun _ _ _ h => h) (by kernel_rfl) (Two.same 0) (Two.left (by decide)) ?_ hh ?_
        rotate_left
        · intro w' hSw
          obtain ⟨s0, s1, s2, s3⟩ := hSw
          go_simp
          try with_reducible rfl
        simp only [Act.put, List.setIfInBounds_toArray]
        refine wpAnyT_take (i := 1) (fun w' => w'.cell? ⟨Ro, 1, none⟩ = some (.slice oa os.length oc) ∧ w'.cell? ⟨wr.heap.size, 0, none⟩ = some (.int .i64 p) ∧ w'.cell? ⟨wr.heap.size, 1, none⟩ = some (.int .i64 l) ∧ w'.cell? ⟨wr.heap.size, 2, none⟩ = some (.slice (some ⟨gc, go, none⟩) cn cc)) [12, 13, 14] (oi := _) (v := ?_) rfl (by kernel_rfl) (by kernel_rfl) (by kernel_rfl) (by kernel_rfl) (fun _ _ _ h => h) (by kernel_rfl) (Two.same 1) (Two.left (by decide)) ?_ hh ?_
        rotate_left
        · intro w' hSw
          obtain ⟨s0, s1, s2, s3⟩ := hSw
          go_simp
          try with_reducible rfl
        simp only [Act.put]
        refine wpAnyT_take (i := 2) (fun w' => w'.cell? ⟨Ro, 1, none⟩ = some (.slice oa os.length oc) ∧ w'.cell? ⟨wr.heap.size, 0, none⟩ = some (.int .i64 p) ∧ w'.cell? ⟨wr.heap.size, 1, none⟩ = some (.int .i64 l) ∧ w'.cell? ⟨wr.heap.size, 2, none⟩ = some (.slice (some ⟨gc, go, none⟩) cn cc)) [3, 10, 11, 12, 13, 14] (oi := _) (v := ?_) rfl (by kernel_rfl) (by kernel_rfl) (by kernel_rfl) (by kernel_rfl) (fun _ _ _ h => h) (by kernel_rfl) (Two.same 2) (Two.left (by decide)) ?_ hh ?_
        rotate_left
        · intro w' hSw
          obtain ⟨s0, s1, s2, s3⟩ := hSw
          go_simp
          try with_reducible rfl
        simp only [Act.put]
        refine wpAnyT_take (i := 3) (fun w' => w'.cell? ⟨Ro, 1, none⟩ = some (.slice oa os.length oc) ∧ w'.cell? ⟨wr.heap.size, 0, none⟩ = some (.int .i64 p) ∧ w'.cell? ⟨wr.heap.size, 1, none⟩ = some (.int .i64 l) ∧ w'.cell? ⟨wr.heap.size, 2, none⟩ = some (.slice (some ⟨gc, go, none⟩) cn cc)) [10, 11, 12, 13, 14] (oi := _) (v := ?_) rfl (by kernel_rfl) (by kernel_rfl) (by kernel_rfl) (by kernel_rfl) (fun _ _ _ h => h) (by kernel_rfl) (Two.same 3) (Two.left (by decide)) ?_ hh ?_
        rotate_left
        · intro w' hSw
          obtain ⟨s0, s1, s2, s3⟩ := hSw
          go_simp
          try with_reducible rfl
        simp only [Act.put]
        refine wpAnyT_take (i := 4) (fun w' => w'.cell? ⟨Ro, 1, none⟩ = some (.slice oa os.length oc) ∧ w'.cell? ⟨wr.heap.size, 0, none⟩ = some (.int .i64 p) ∧ w'.cell? ⟨wr.heap.size, 1, none⟩ = some (.int .i64 l) ∧ w'.cell? ⟨wr.heap.size, 2, none⟩ = some (.slice (some ⟨gc, go, none⟩) cn cc)) [5, 10, 11, 12, 13, 14] (oi := _) (v := ?_) rfl (by kernel_rfl) (by kernel_rfl) (by kernel_rfl) (by kernel_rfl) (fun _ _ _ h => h) (by kernel_rfl) (Two.same 4) (Two.left (by decide)) ?_ hh ?_
        rotate_left
        · intro w' hSw
          obtain ⟨s0, s1, s2, s3⟩ := hSw
          go_simp
          try with_reducible rfl
        simp only [Act.put]
        refine wpAnyT_take (i := 5) (fun w' => w'.cell? ⟨Ro, 1, none⟩ = some (.slice oa os.length oc) ∧ w'.cell? ⟨wr.heap.size, 0, none⟩ = some (.int .i64 p) ∧ w'.cell? ⟨wr.heap.size, 1, none⟩ = some (.int .i64 l) ∧ w'.cell? ⟨wr.heap.size, 2, none⟩ = some (.slice (some ⟨gc, go, none⟩) cn cc)) [10, 11, 12, 13, 14] (oi := _) (v := ?_) rfl (by kernel_rfl) (by kernel_rfl) (by kernel_rfl) (by kernel_rfl) (fun _ _ _ h => h) (by kernel_rfl) (Two.same 5) (Two.left (by decide)) ?_ hh ?_
        rotate_left
        · intro w' hSw
          obtain ⟨s0, s1, s2, s3⟩ := hSw
          go_simp
          try with_reducible rfl
        simp only [Act.put]
        refine wpAnyT_take (i := 7) (fun w' => w'.cell? ⟨Ro, 1, none⟩ = some (.slice oa os.length oc) ∧ w'.cell? ⟨wr.heap.size, 0, none⟩ = some (.int .i64 p) ∧ w'.cell? ⟨wr.heap.size, 1, none⟩ = some (.int .i64 l) ∧ w'.cell? ⟨wr.heap.size, 2, none⟩ = some (.slice (some ⟨gc, go, none⟩) cn cc)) [8, 9, 10, 11, 12, 13, 14] (oi := _) (v := ?_) rfl (by kernel_rfl) (by kernel_rfl) (by kernel_rfl) (by kernel_rfl) (fun _ _ _ h => h) (by kernel_rfl) (Two.same 7) (Two.left (by decide)) ?_ hh ?_
        rotate_left
        · intro w' hSw
          obtain ⟨s0, s1, s2, s3⟩ := hSw
          go_simp
          try with_reducible rfl
        simp only [Act.put]
        refine wpAnyT_take (i := 8) (fun w' => w'.cell? ⟨Ro, 1, none⟩ = some (.slice oa os.length oc) ∧ w'.cell? ⟨wr.heap.size, 0, none⟩ = some (.int .i64 p) ∧ w'.cell? ⟨wr.heap.size, 1, none⟩ = some (.int .i64 l) ∧ w'.cell? ⟨wr.heap.size, 2, none⟩ = some (.slice (some ⟨gc, go, none⟩) cn cc)) [9, 10, 11, 12, 13, 14] (oi := _) (v := ?_) rfl (by kernel_rfl) (by kernel_rfl) (by kernel_rfl) (by kernel_rfl) (fun _ _ _ h => h) (by kernel_rfl) (Two.same 8) (Two.left (by decide)) ?_ hh ?_
        rotate_left
        · intro w' hSw
          obtain ⟨s0, s1, s2, s3⟩ := hSw
          go_simp
          try with_reducible rfl
        simp only [Act.put]
        clear hh
        refine wpAnyT_one (i := 6) (o := _) (by kernel_rfl) rfl (fun K hK => ?_)
        go_simp
        refine hK.out _ _ (⟨fun _ _ => ⟨(y4 1).trans rfl, (y2 0).trans rfl, (y2 1).trans rfl, (y2 2).trans rfl⟩, fun _ h => h⟩) ?_
        clear hK K
        refine wpAnyT_one (i := 9) (o := _) (by kernel_rfl) rfl (fun K hK => ?_)
        refine step_append_lies _ (by rfl) _ _ _ (by rfl) wx.heap.size 44 i40 (.agg #[.int .i64 0, .int .i64 0]) 2 16 Tryz.underlying38 hi40 hy0 hy1 hy2 rfl (by decide) _ _ _ (by rfl) hEc ⟨gc, go, none⟩ cn cc vs (by rfl) HVL.out HN.out hv1 hpos (by unfold maxLen; omega) (by omega) (by simp) _ (by rfl) ?_
        intro g1 cp1 w4 hown4 hgrow4 hat4 hlt4
        simp only [Nat.zero_add, List.nil_append] at hown4
        have hk4 := Keeps.grown (ts := [44]) hEc hgrow4 (by simp)
        have hb4 : Below wx.heap.size wx w4 := hbe.trans (hk4.toBelow (by simp))
        have hCM4 := hCMx.later hb4
        have HR4 : Hid (w4.ownsRow wx.heap.size 44 2 (.slice (some ⟨g1, 0, none⟩) code.length cp1) code.length (codeVals code)) := by show World.ownsRow _ _ _ _ _ _ _; rw [← HVS.out.1, ← HVS.out.2]; exact hown4
        have hs4 := hCM4.size
        have hX4 := block_kept hX hb4
        have z1 := block_cell hX4
        have z4 := block_cell (block_old hX4 (.cells #[.int .i64 p, .int .i64 l, .slice (some ⟨g1, 0, none⟩) cn cp1] 40))
        have z2 := block_cell hCM4.out
        have z3 := block_cell (block_old hCM4.out (.cells #[.int .i64 p, .int .i64 l, .slice (some ⟨g1, 0, none⟩) cn cp1] 40))
        refine hK.out _ _ (⟨fun _ _ => ⟨(z2 1).trans rfl, (z1 0).trans rfl, (z1 1).trans rfl, (z1 2).trans rfl⟩, fun _ h => h⟩) ?_
        clear hK K
        simp only [Act.put, List.setIfInBounds_toArray]
        refine wpAnyT_one (i := 10) (o := _) (by kernel_rfl) rfl (fun K hK => ?_)
        go_simp
        refine hK.out _ _ (Two.same 10 _) ?_
        clear hK K
        refine wpAnyT_one (i := 11) (o := _) (by kernel_rfl) rfl (fun K hK => ?_)
        go_simp
        refine hK.out _ _ (⟨fun _ _ => ⟨(z3 1).trans rfl, (z4 0).trans rfl, (z4 1).trans rfl, (z4 2).trans rfl⟩, fun _ h => h⟩) ?_
        clear hK K
        refine wpAnyT_one (i := 12) (o := _) (by kernel_rfl) rfl (fun K hK => ?_)
        refine step_append_lies _ (by rfl) _ _ _ (by rfl) (w.heap.size + 2) 40 i36 (.agg #[.int .i64 0, .int .i64 0, .slice none 0 0]) 3 40 Tryz.underlying27 hi36 hz0 hz1 hz2 rfl (by decide) _ _ _ (by rfl) (World.ownsRow.alloc hCM4.mod.funcs _) ⟨w4.heap.size, 0, none⟩ 1 1 [.int .i64 p, .int .i64 l, .slice (some ⟨g1, 0, none⟩) cn cp1] (by rfl) (by rfl) (World.news_of_block (cs := #[.int .i64 p, .int .i64 l, .slice (some ⟨g1, 0, none⟩) cn cp1]) (t := 40) (fr := (0, 0)) (heap_alloc_new w4 _)) (by simp [Value.oneCell']) (by decide) (by unfold maxLen; omega) (by omega) (by simp; omega) (w4.heap.size + 1) (by simp) ?_
        intro g2 cp2 w6 hown6 hgrow6 hat6 hlt6
        have hk6 := Keeps.grown (ts := [40]) (World.ownsRow.alloc hCM4.mod.funcs (.cells #[.int .i64 p, .int .i64 l, .slice (some ⟨g1, 0, none⟩) cn cp1] 40)) hgrow6 (by simp)
        have c6 := block_cell (hk6.cell (block_old hCM4.out _) (by simp))
        have f6 := block_free (hk6.cell (block_old hCM4.out _) (by simp))
        have hCM6 := (hCM4.later ((Below.refl _ _).alloc (Nat.le_refl _) _)).add ⟨p, l, code⟩ (some ⟨g1, 0, none⟩) cp1 wx.heap.size HOLD.out (by omega) (own_keeps (B := 0) (ts := []) HR4.out (Keeps.below ((Below.refl _ _).alloc (Nat.le_refl _) _)) (by simp)) hk6 (by simpa [← HVS.out.2] using hown6)
        refine hK.out _ _ (⟨fun h => absurd (by decide) h, fun _ h => h⟩) ?_
        clear hK K
        simp only [Act.put, List.setIfInBounds_toArray]
        refine wpAnyT_one (i := 13) (o := _) (by kernel_rfl) rfl (fun K hK => ?_)
        go_simp
        refine hK.out _ _ (⟨fun h => absurd (by decide) h, fun _ h => h⟩) ?_
        clear hK K
        refine wpAnyT_one (i := 14) (o := _) (by kernel_rfl) rfl (fun K hK => ?_)
        go_simp
        refine hK.out _ _ (⟨fun h => absurd (by decide) h, fun _ h => h⟩) ?_
        clear hK K
        refine wpAnyT_done (by kernel_rfl) ?_ _
        have hos2 : Hid (os ++ [(⟨p, l, code⟩ : Fn)] = fs.take (k + 1)) := by show _ = _; rw [hos0.out, HTK.out]
        generalize (w6.setCell ⟨Ro, 1, none⟩ (.slice (some ⟨g2, 0, none⟩) (os.length + 1) cp2)) = w7 at hCM6 ⊢
        clear hCM4 hCMx hEc hbe hX y1 y2 y3 y4
        go_simp
        go_wp2
        go_roundw
        case rel => exact ⟨k + 1, _, _, _, _, by omega, hos2, by go_num, hCM6⟩
        case measure => simp [intOf]; omega
      · have hke : k = fs.length := by omega
        have hos1 : os = fs := by rw [hos0.out, hke, List.take_length]
        subst hos1
        have y1 := block_cell hCMr.out
        have y2 := block_cell hCMr.res
        have y3 := block_free hCMr.res
        have hr1 := block_set (i := 0) hCMr.res (.slice ta' ts.length tc')
        have hr2 := block_set (i := 1) hr1 (.slice oa os.length oc)
        have rr := block_cell hr2
        have hM2 : ModOwn ((wr.setCell ⟨w.heap.size + 1, 0, none⟩ (.slice ta' ts.length tc')).setCell ⟨w.heap.size + 1, 1, none⟩ (.slice oa os.length oc)) (w.heap.size + 2) ta' tc' oa oc ts os cs := (hCMr.mod.set (p := ⟨w.heap.size + 1, 0, none⟩) (by simp) _).set (p := ⟨w.heap.size + 1, 1, none⟩) (by simp) _
        have hB2 := (hCMr.below.setCell (p := ⟨w.heap.size + 1, 0, none⟩) (by simp) (.slice ta' ts.length tc')).setCell (p := ⟨w.heap.size + 1, 1, none⟩) (by simp) (.slice oa os.length oc)
        clear hr1 hr2
        go_wp2
        refine bodyPost_ret (v := .agg #[.slice ta' ts.length tc', .slice oa os.length oc]) (by simp [results, Tryz.results14, go_sem, rr]) rfl ⟨ta', tc', oa, oc, cs, rfl, hM2, hB2⟩
end Go.Proofs.YtjdoljaailokmaaGreatDoor
