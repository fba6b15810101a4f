/-
  The drawing functions of the document's model: a module copied.
-/
import Derived.Test.YtpmkfdinkomaiaaGreatDoorD9
import Derived.Test.YtpmkfdinkomaiaaGreatDoorGQ7
import Derived.Deep.CutRange
import Derived.Deep.RegionHeld3
namespace Go.Proofs.YtpmkfdinkomaiaaGreatDoor
open Go.RowKit

theorem news_own {w w' : World} {B e size n g : Nat} {cc : Nat} {vs : List Value} (h : w.ownsRow B e size (.slice (some ⟨g, 0, none⟩) n cc) n vs) (hn : 0 < n) (hb : Below w.heap.size w w') : ∀ (j : Nat) (u : Value), vs[j]? = some u → w'.cell? ((⟨g, 0, none⟩ : Addr).add j) = some u := by
  obtain ⟨g', e', -, -, -, hc⟩ := own_cells h hn
  cases e'
  intro j u hj
  rw [Go.WideShapes.add_plain, Nat.zero_add]
  exact cell_later hb (hc j u hj)

/-- No two functions have their instructions in one block. -/
def Apart (hs : List HF) : Prop := ∀ (i j : Nat) (hi : i < hs.length) (hj : j < hs.length), i ≠ j → hs[i].ca ≠ hs[j].ca
theorem Apart.add {hs : List HF} (h : Apart hs) {f : HF} (hf : ∀ x ∈ hs, x.ca ≠ f.ca) : Apart (hs ++ [f]) := by
  intro i j hi hj hij
  have hl : (hs ++ [f]).length = hs.length + 1 := by simp
  rcases Nat.lt_or_ge i hs.length with a | a <;> rcases Nat.lt_or_ge j hs.length with b | b
  · rw [List.getElem_append_left a, List.getElem_append_left b]; exact h i j a b hij
  · rw [List.getElem_append_left a, List.getElem_append_right b]; simpa using hf _ (List.getElem_mem a)
  · rw [List.getElem_append_right a, List.getElem_append_left b]; simpa using (hf _ (List.getElem_mem b)).symm
  · omega
/-- What a copy that is being made is in memory. -/
structure CM (w wr : World) (ta : Option Addr) (nt tc : Nat) (fa : Option Addr) (fn fc : Nat) (Ro : Nat) (ta' : Option Addr) (tc' : Nat) (oa : Option Addr) (oc : Nat) (os : List HF) : Prop where
  box : wr.heap[w.heap.size]? = some (.cells #[.slice ta nt tc, .slice fa fn fc] 27 (0, 0))
  res : wr.heap[w.heap.size + 1]? = some (.cells #[.slice none 0 0, .slice none 0 0] 27 (0, 0))
  out : wr.heap[Ro]? = some (.cells #[.slice ta' nt tc', .slice oa os.length oc] 27 (0, 0))
  far : w.heap.size + 2 ≤ Ro
  texts : RowT wr (w.heap.size + 2) (.slice ta' nt tc') nt
  funcs : RowF wr (w.heap.size + 2) (.slice oa os.length oc) os
  below : Below w.heap.size w wr

section
variable {w wr w' : World} {ta : Option Addr} {nt tc : Nat} {fa : Option Addr} {fn fc Ro : Nat} {ta' : Option Addr} {tc' : Nat} {oa : Option Addr} {oc : Nat} {os : List HF}
theorem CM.later (h : CM w wr ta nt tc fa fn fc Ro ta' tc' oa oc os) (hb : Below wr.heap.size wr w') : CM w w' ta nt tc fa fn fc Ro ta' tc' oa oc os :=
  ⟨block_kept h.box hb, block_kept h.res hb, block_kept h.out hb, h.far, h.texts.same (Same.below hb), h.funcs.same (Same.below hb), h.below.trans (hb.mono h.below.size)⟩
theorem CM.size (h : CM w wr ta nt tc fa fn fc Ro ta' tc' oa oc os) : w.heap.size + 2 < wr.heap.size := by
  have := lt_block h.out
  have := h.far
  omega
/-- One function more. -/
theorem CM.add (h : CM w wr ta nt tc fa fn fc Ro ta' tc' oa oc os) (f : HF) (hf : RowI wr (w.heap.size + 2) (.slice f.ca f.n f.cc) f.n) (h1 : 1 ≤ f.n) (h2 : f.n ≤ 60000) (hk : Keeps (w.heap.size + 2) [48] wr w') {g c : Nat}
    (hown : w'.ownsRow (w.heap.size + 2) 48 3 (.slice (some ⟨g, 0, none⟩) (os.length + 1) c) (os.length + 1) (flatF os ++ [.int .i64 f.p, .int .i64 f.l, .slice f.ca f.n f.cc])) :
    CM w (w'.setCell ⟨Ro, 1, none⟩ (.slice (some ⟨g, 0, none⟩) (os.length + 1) c)) ta nt tc fa fn fc Ro ta' tc' (some ⟨g, 0, none⟩) c (os ++ [f]) := by
  have hfar := h.far
  have hsz := h.size
  have ho := hk.cell h.out (by simp)
  have hle : (os ++ [f]).length = os.length + 1 := by simp
  have hs : Same w' (w'.setCell ⟨Ro, 1, none⟩ (.slice (some ⟨g, 0, none⟩) (os.length + 1) c)) := Same.set (Same.refl _) ho (by omega) _ _
  refine ⟨?_, ?_, ?_, h.far, (h.texts.keeps hk (by simp)).same hs, ?_, (h.below.trans ((hk.toBelow (by omega)).mono (by omega))).setCell (by simp; omega) _⟩
  · rw [Below.heap_setCell _ _ _ _ (by simp; omega)]; exact hk.cell h.box (by simp)
  · rw [Below.heap_setCell _ _ _ _ (by simp; omega)]; exact hk.cell h.res (by simp)
  · rw [hle]; simpa using block_set (i := 1) ho (.slice (some ⟨g, 0, none⟩) (os.length + 1) c)
  · rw [hle]; exact (h.funcs.add f hf h1 h2 hk hown).same hs
theorem CM.start {w1 : World} (h1 : w1.heap[w.heap.size]? = some (.cells #[.slice ta nt tc, .slice fa fn fc] 27 (0, 0))) (h2 : w1.heap[w.heap.size + 1]? = some (.cells #[.slice none 0 0, .slice none 0 0] 27 (0, 0))) (hT : RowT w1 (w.heap.size + 2) (.slice ta' nt tc') nt) (hsz : w.heap.size + 2 ≤ w1.heap.size) (hb : Below w.heap.size w w1) :
    CM w (w1.alloc (.cells #[.slice ta' nt tc', .slice none 0 0] 27)) ta nt tc fa fn fc w1.heap.size ta' tc' none 0 [] := by
  have hx : Below w1.heap.size w1 (w1.alloc (.cells #[.slice ta' nt tc', .slice none 0 0] 27)) := (Below.refl _ _).alloc (Nat.le_refl _) _
  exact ⟨block_kept h1 hx, block_kept h2 hx, block_new _ _ _, hsz, hT.same (Same.below hx), ⟨⟨rfl, .inl ⟨rfl, rfl⟩⟩, by simp⟩, hb.trans (hx.mono hb.size)⟩
end

set_option maxRecDepth 100000 in
set_option maxHeartbeats 40000000 in
theorem copyModule_any (B0 : Nat) (ta fa : Option Addr) (nt tc fc : Nat) (hs : List HF) (w : World) (hT : RowT w B0 (.slice ta nt tc) nt) (hn : nt ≤ 100) (hF : RowF w B0 (.slice fa hs.length fc) hs) (hl : hs.length ≤ 100) :
    Calls Tryz.prog 52 #[.agg #[.slice ta nt tc, .slice fa hs.length fc]] w fun e w' => ∃ ta' tc' oa oc os, e = .returned (.agg #[.slice ta' nt tc', .slice oa (List.length os) oc]) ∧ RowT w' (w.heap.size + 2) (.slice ta' nt tc') nt ∧ RowF w' (w.heap.size + 2) (.slice oa os.length oc) os ∧ os.length = hs.length ∧ Below w.heap.size w w' ∧ Apart os := by
  obtain ⟨i9, hi9, hz90, hz91, hz92⟩ := info_parts info9
  obtain ⟨i36, hi36, hz0, hz1, hz2⟩ := info_parts info48
  obtain ⟨i40, hi40, hy0, hy1, hy2⟩ := info_parts info51
  obtain ⟨wa, hwa⟩ : ∃ wa, wa = (w.alloc (.cells #[.slice ta nt tc, .slice fa hs.length fc] 27)).alloc (.cells #[.slice none 0 0, .slice none 0 0] 27) := ⟨_, rfl⟩
  have hszw : wa.heap.size = w.heap.size + 2 := by rw [hwa]; simp
  have hbA : Below w.heap.size w wa := by rw [hwa]; exact ((Below.refl _ _).alloc (Nat.le_refl _) _).alloc (by simp) _
  have hB1 : wa.heap[w.heap.size]? = some (.cells #[.slice ta nt tc, .slice fa hs.length fc] 27 (0, 0)) := by rw [hwa]; exact block_old (block_new _ _ _) _
  have hB2 : wa.heap[w.heap.size + 1]? = some (.cells #[.slice none 0 0, .slice none 0 0] 27 (0, 0)) := by rw [hwa]; simpa using block_new (w.alloc (.cells #[.slice ta nt tc, .slice fa hs.length fc] 27)) #[.slice none 0 0, .slice none 0 0] 27
  have HWA : Hid (wa = (w.alloc (.cells #[.slice ta nt tc, .slice fa hs.length fc] 27)).alloc (.cells #[.slice none 0 0, .slice none 0 0] 27)) := hwa
  have HSZ : Hid (wa.heap.size = w.heap.size + 2) := hszw
  have hE : (wa.alloc (.cells #[] 9)).ownsRow (w.heap.size + 2) 9 1 (.slice (some ⟨wa.heap.size, 0, none⟩) 0 0) 0 [] := World.ownsRow_made (base := w.heap.size + 2) (e := 9) (size := 1) wa #[] 0 (by omega) (by unfold maxLen; omega) rfl
  go_enter Tryz.func52, Tryz.ntmps52
  clear hwa hszw
  go_upto_region 1 with fail
  rw [← HWA.out]
  go_cut [3] from 6 to 10 (fun s3 wx => ∃ Ro ta' tc', s3 = .pointer (some ⟨Ro, 0, none⟩) ∧ CM w wx ta nt tc fa hs.length fc Ro ta' tc' none 0 [])
  case first =>
    have hbe : Below wa.heap.size wa (wa.alloc (.cells #[] 9)) := (Below.refl _ _).alloc (Nat.le_refl _) _
    have y1 := block_cell (block_kept hB1 hbe)
    have y0 := block_cell hB1
    by_cases h0 : nt = 0
    · subst h0
      rcases ta with _ | ad
      all_goals
        go_wp2_with fail
        have hs := CM.start (w := w) (w1 := wa.alloc (.cells #[] 9)) (tc' := 0) (block_kept hB1 hbe) (block_kept hB2 hbe) ⟨[], hE, by simp⟩ (by have := HSZ.out; simp; omega) (hbA.trans (hbe.mono hbA.size))
        simp only [World.size_alloc] at hs
        go_meet
        case rel => exact ⟨wa.heap.size + 1, some ⟨wa.heap.size, 0, none⟩, 0, rfl, hs⟩
    · obtain ⟨vs, hvo, hvs⟩ := hT
      have hpos : 0 < nt := by omega
      obtain ⟨gt, rfl, -, -, -, -⟩ := own_cells hvo hpos
      have HN : Hid (∀ (j : Nat) (u : Value), vs[j]? = some u → (wa.alloc (.cells #[] 9)).cell? ((⟨gt, 0, none⟩ : Addr).add j) = some u) := news_own hvo hpos (hbA.trans (hbe.mono hbA.size))
      have hvl : vs.length = nt * 1 := hvo.1
      have HVL : Hid (vs.length = nt * 1) := hvl
      have hv1 : ∀ u ∈ vs, u.oneCell' = true := fun u hu => by obtain ⟨s, rfl, -⟩ := hvs u hu; rfl
      clear hvl
      go_wp2_with (at_builtin; (refine wpList_append_lies _ rfl _ _ 24 rfl (w.heap.size + 2) 9 i9 (.string ByteArray.empty) 1 16 Tryz.underlying24 hi9 hz90 hz91 hz92 rfl (by decide) _ _ _ rfl hE ⟨gt, 0, none⟩ nt tc vs rfl HVL.out HN.out hv1 hpos (by unfold maxLen; omega) (by omega) (by have := HSZ.out; simp; omega) _ rfl ?_); intro g cp w1 hown1 hgrow1 hat1 hlt1)
      have hk1 := Keeps.grown (ts := [9]) hE hgrow1 (by simp)
      have hown2 : w1.ownsRow (w.heap.size + 2) 9 1 (.slice (some ⟨g, 0, none⟩) nt cp) nt vs := by simpa using hown1
      have hb1 : Below w.heap.size w w1 := (hbA.trans (hbe.mono hbA.size)).trans ((hk1.toBelow (by have := HSZ.out; simp; omega)).mono (by omega))
      have hs := CM.start (w := w) (w1 := w1) (tc' := cp) (hk1.cell (block_kept hB1 hbe) (by simp)) (hk1.cell (block_kept hB2 hbe) (by simp)) ⟨vs, hown2, hvs⟩ (by have := HSZ.out; have := hk1.size; simp at this; omega) hb1
      go_meet
      case rel => exact ⟨w1.heap.size, some ⟨g, 0, none⟩, cp, rfl, hs⟩
  case rest =>
    obtain ⟨Ro, ta', tc', rfl, hCM⟩ := hcut
    clear hE hB1 hB2 hbA HWA HSZ
    go_wp2
    go_loopw [4] (fun i wr => ∃ (k : Nat) (oa : Option Addr) (oc : Nat) (os : List HF), k ≤ hs.length ∧ Hid (os.length = k) ∧ Hid (Apart os) ∧ i = .int .i64 k ∧ CM w wr ta nt tc fa hs.length fc Ro ta' tc' oa oc os) (fun i _ => hs.length - (intOf i).toNat)
    case atStart => exact ⟨0, none, 0, [], by omega, rfl, fun i j hi => absurd hi (by simp), rfl, hCM⟩
    case round =>
      obtain ⟨k, oa, oc, os, hk, hol, hap, rfl, hCMr⟩ := hrel
      clear hCM
      have x0 := block_cell hCMr.box
      by_cases hlt : k < hs.length
      · have hm := List.getElem_mem hlt
        obtain ⟨⟨vs, hvo, hvs⟩, hn1, hn6⟩ := hF.code hs[k] hm
        obtain ⟨gf, rfl, -, -, -, hfc⟩ := own_cells hF.own (by omega)
        obtain ⟨a1, a2, a3⟩ := flatF_at hs k hlt
        have b1 := cell_later hCMr.below (hfc _ _ a1)
        have b2 := cell_later hCMr.below (hfc _ _ a2)
        have b3 := cell_later hCMr.below (hfc _ _ a3)
        clear a1 a2 a3 hfc hm
        generalize hs[k] = h at hvo hvs hn1 hn6 b1 b2 b3
        obtain ⟨p, l, ca, cn, cc⟩ := h
        simp only at hvo hvs hn1 hn6 b1 b2 b3
        obtain ⟨gc, rfl, -, -, -, -⟩ := own_cells hvo (by omega)
        obtain ⟨wx, hwx⟩ : ∃ wx, wx = wr.alloc (.cells #[.int .i64 p, .int .i64 l, .slice (some ⟨gc, 0, none⟩) cn cc] 48) := ⟨_, rfl⟩
        have hbx : Below wr.heap.size wr wx := by rw [hwx]; exact (Below.refl _ _).alloc (Nat.le_refl _) _
        have hX : wx.heap[wr.heap.size]? = some (.cells #[.int .i64 p, .int .i64 l, .slice (some ⟨gc, 0, none⟩) cn cc] 48 (0, 0)) := by rw [hwx]; exact block_new _ _ _
        have hCMx := hCMr.later hbx
        have HZX : Hid (wr.heap.size ≤ wx.heap.size) := hbx.size
        have HOLD : Hid (∀ x ∈ os, ∀ g : Nat, wr.heap.size ≤ g → x.ca ≠ some ⟨g, 0, none⟩) := fun x hx g hg e => by
          obtain ⟨⟨vz, hz, -⟩, hz1, -⟩ := hCMr.funcs.code x hx
          obtain ⟨gz, hgz, -, -, ⟨cz, hcz⟩, -⟩ := own_cells hz (by omega)
          have := lt_block hcz
          rw [hgz] at e
          cases e
          omega
        have HWX : Hid (wx = wr.alloc (.cells #[.int .i64 p, .int .i64 l, .slice (some ⟨gc, 0, none⟩) cn cc] 48)) := hwx
        have hbe := ((Below.refl wx.heap.size wx).alloc (Nat.le_refl _) (.cells #[] 51)).drew
        have hEc : (wx.alloc (.cells #[] 51)).drew.ownsRow wx.heap.size 51 2 (.slice (some ⟨wx.heap.size, 0, none⟩) 0 0) 0 [] := World.ownsRow_made (base := wx.heap.size) (e := 51) (size := 2) wx #[] 0 (Nat.le_refl _) (by unfold maxLen; omega) rfl
        have HN : Hid (∀ (j : Nat) (u : Value), vs[j]? = some u → (wx.alloc (.cells #[] 51)).drew.cell? ((⟨gc, 0, none⟩ : Addr).add j) = some u) := news_own hvo (by omega) (hCMx.below.trans (hbe.mono hCMx.below.size))
        have HVL : Hid (vs.length = cn * 2) := hvo.1
        have hv1 : ∀ u ∈ vs, u.oneCell' = true := fun u hu => by obtain ⟨z, rfl⟩ := hvs u hu; rfl
        have hpos : 0 < cn := by omega
        have hsx := hCMx.size
        have y1 := block_cell hX
        have y2 := block_cell (block_kept hX hbe)
        have y3 := block_cell hCMx.out
        have y4 := block_cell (block_kept hCMx.out hbe)
        have hos : os.length ≤ 100 := by have := hol.out; omega
        clear hwx
        go_wp2
        rw [← HWX.out]
        clear b1 b2 b3 hCMr x0 hbx
        have hh : (fun w' => w'.cell? ⟨Ro, 1, none⟩ = some (.slice oa os.length oc) ∧ w'.cell? ⟨wr.heap.size, 0, none⟩ = some (.int .i64 p) ∧ w'.cell? ⟨wr.heap.size, 1, none⟩ = some (.int .i64 l) ∧ w'.cell? ⟨wr.heap.size, 2, none⟩ = some (.slice (some ⟨gc, 0, none⟩) cn cc)) wx.drew := ⟨(y3 1).trans rfl, (y1 0).trans rfl, (y1 1).trans rfl, (y1 2).trans rfl⟩
        refine wp_region_T (Two (fun w' => w'.cell? ⟨Ro, 1, none⟩ = some (.slice oa os.length oc) ∧ w'.cell? ⟨wr.heap.size, 0, none⟩ = some (.int .i64 p) ∧ w'.cell? ⟨wr.heap.size, 1, none⟩ = some (.int .i64 l) ∧ w'.cell? ⟨wr.heap.size, 2, none⟩ = some (.slice (some ⟨gc, 0, none⟩) cn cc)) (fun _ => True) [12, 13, 14] []) (by kernel_rfl) ?_
        refine wpAnyT_take (i := 0) (fun w' => w'.cell? ⟨Ro, 1, none⟩ = some (.slice oa os.length oc) ∧ w'.cell? ⟨wr.heap.size, 0, none⟩ = some (.int .i64 p) ∧ w'.cell? ⟨wr.heap.size, 1, none⟩ = some (.int .i64 l) ∧ w'.cell? ⟨wr.heap.size, 2, none⟩ = some (.slice (some ⟨gc, 0, none⟩) cn cc)) [1, 12, 13, 14] (oi := _) (v := ?_) rfl (by kernel_rfl) (by kernel_rfl) (by kernel_rfl) (by kernel_rfl) (fun _ _ _ h => h) (by kernel_rfl) (Two.same 0) (Two.left (by decide)) ?_ hh ?_
        rotate_left
        · intro w' hSw
          obtain ⟨s0, s1, s2, s3⟩ := hSw
          go_simp
          try with_reducible rfl
        simp only [Act.put, List.setIfInBounds_toArray]
        refine wpAnyT_take (i := 1) (fun w' => w'.cell? ⟨Ro, 1, none⟩ = some (.slice oa os.length oc) ∧ w'.cell? ⟨wr.heap.size, 0, none⟩ = some (.int .i64 p) ∧ w'.cell? ⟨wr.heap.size, 1, none⟩ = some (.int .i64 l) ∧ w'.cell? ⟨wr.heap.size, 2, none⟩ = some (.slice (some ⟨gc, 0, none⟩) cn cc)) [12, 13, 14] (oi := _) (v := ?_) rfl (by kernel_rfl) (by kernel_rfl) (by kernel_rfl) (by kernel_rfl) (fun _ _ _ h => h) (by kernel_rfl) (Two.same 1) (Two.left (by decide)) ?_ hh ?_
        rotate_left
        · intro w' hSw
          obtain ⟨s0, s1, s2, s3⟩ := hSw
          go_simp
          try with_reducible rfl
        simp only [Act.put]
        refine wpAnyT_take (i := 2) (fun w' => w'.cell? ⟨Ro, 1, none⟩ = some (.slice oa os.length oc) ∧ w'.cell? ⟨wr.heap.size, 0, none⟩ = some (.int .i64 p) ∧ w'.cell? ⟨wr.heap.size, 1, none⟩ = some (.int .i64 l) ∧ w'.cell? ⟨wr.heap.size, 2, none⟩ = some (.slice (some ⟨gc, 0, none⟩) cn cc)) [3, 10, 11, 12, 13, 14] (oi := _) (v := ?_) rfl (by kernel_rfl) (by kernel_rfl) (by kernel_rfl) (by kernel_rfl) (fun _ _ _ h => h) (by kernel_rfl) (Two.same 2) (Two.left (by decide)) ?_ hh ?_
        rotate_left
        · intro w' hSw
          obtain ⟨s0, s1, s2, s3⟩ := hSw
          go_simp
          try with_reducible rfl
        simp only [Act.put]
        refine wpAnyT_take (i := 3) (fun w' => w'.cell? ⟨Ro, 1, none⟩ = some (.slice oa os.length oc) ∧ w'.cell? ⟨wr.heap.size, 0, none⟩ = some (.int .i64 p) ∧ w'.cell? ⟨wr.heap.size, 1, none⟩ = some (.int .i64 l) ∧ w'.cell? ⟨wr.heap.size, 2, none⟩ = some (.slice (some ⟨gc, 0, none⟩) cn cc)) [10, 11, 12, 13, 14] (oi := _) (v := ?_) rfl (by kernel_rfl) (by kernel_rfl) (by kernel_rfl) (by kernel_rfl) (fun _ _ _ h => h) (by kernel_rfl) (Two.same 3) (Two.left (by decide)) ?_ hh ?_
        rotate_left
        · intro w' hSw
          obtain ⟨s0, s1, s2, s3⟩ := hSw
          go_simp
          try with_reducible rfl
        simp only [Act.put]
        refine wpAnyT_take (i := 4) (fun w' => w'.cell? ⟨Ro, 1, none⟩ = some (.slice oa os.length oc) ∧ w'.cell? ⟨wr.heap.size, 0, none⟩ = some (.int .i64 p) ∧ w'.cell? ⟨wr.heap.size, 1, none⟩ = some (.int .i64 l) ∧ w'.cell? ⟨wr.heap.size, 2, none⟩ = some (.slice (some ⟨gc, 0, none⟩) cn cc)) [5, 10, 11, 12, 13, 14] (oi := _) (v := ?_) rfl (by kernel_rfl) (by kernel_rfl) (by kernel_rfl) (by kernel_rfl) (fun _ _ _ h => h) (by kernel_rfl) (Two.same 4) (Two.left (by decide)) ?_ hh ?_
        rotate_left
        · intro w' hSw
          obtain ⟨s0, s1, s2, s3⟩ := hSw
          go_simp
          try with_reducible rfl
        simp only [Act.put]
        refine wpAnyT_take (i := 5) (fun w' => w'.cell? ⟨Ro, 1, none⟩ = some (.slice oa os.length oc) ∧ w'.cell? ⟨wr.heap.size, 0, none⟩ = some (.int .i64 p) ∧ w'.cell? ⟨wr.heap.size, 1, none⟩ = some (.int .i64 l) ∧ w'.cell? ⟨wr.heap.size, 2, none⟩ = some (.slice (some ⟨gc, 0, none⟩) cn cc)) [10, 11, 12, 13, 14] (oi := _) (v := ?_) rfl (by kernel_rfl) (by kernel_rfl) (by kernel_rfl) (by kernel_rfl) (fun _ _ _ h => h) (by kernel_rfl) (Two.same 5) (Two.left (by decide)) ?_ hh ?_
        rotate_left
        · intro w' hSw
          obtain ⟨s0, s1, s2, s3⟩ := hSw
          go_simp
          try with_reducible rfl
        simp only [Act.put]
        refine wpAnyT_take (i := 7) (fun w' => w'.cell? ⟨Ro, 1, none⟩ = some (.slice oa os.length oc) ∧ w'.cell? ⟨wr.heap.size, 0, none⟩ = some (.int .i64 p) ∧ w'.cell? ⟨wr.heap.size, 1, none⟩ = some (.int .i64 l) ∧ w'.cell? ⟨wr.heap.size, 2, none⟩ = some (.slice (some ⟨gc, 0, none⟩) cn cc)) [8, 9, 10, 11, 12, 13, 14] (oi := _) (v := ?_) rfl (by kernel_rfl) (by kernel_rfl) (by kernel_rfl) (by kernel_rfl) (fun _ _ _ h => h) (by kernel_rfl) (Two.same 7) (Two.left (by decide)) ?_ hh ?_
        rotate_left
        · intro w' hSw
          obtain ⟨s0, s1, s2, s3⟩ := hSw
          go_simp
          try with_reducible rfl
        simp only [Act.put]
        refine wpAnyT_take (i := 8) (fun w' => w'.cell? ⟨Ro, 1, none⟩ = some (.slice oa os.length oc) ∧ w'.cell? ⟨wr.heap.size, 0, none⟩ = some (.int .i64 p) ∧ w'.cell? ⟨wr.heap.size, 1, none⟩ = some (.int .i64 l) ∧ w'.cell? ⟨wr.heap.size, 2, none⟩ = some (.slice (some ⟨gc, 0, none⟩) cn cc)) [9, 10, 11, 12, 13, 14] (oi := _) (v := ?_) rfl (by kernel_rfl) (by kernel_rfl) (by kernel_rfl) (by kernel_rfl) (fun _ _ _ h => h) (by kernel_rfl) (Two.same 8) (Two.left (by decide)) ?_ hh ?_
        rotate_left
        · intro w' hSw
          obtain ⟨s0, s1, s2, s3⟩ := hSw
          go_simp
          try with_reducible rfl
        simp only [Act.put]
        clear hh
        refine wpAnyT_one (i := 6) (o := _) (by kernel_rfl) rfl (fun K hK => ?_)
        go_simp
        refine hK.out _ _ (⟨fun _ _ => ⟨(y4 1).trans rfl, (y2 0).trans rfl, (y2 1).trans rfl, (y2 2).trans rfl⟩, fun _ h => h⟩) ?_
        clear hK K
        refine wpAnyT_one (i := 9) (o := _) (by kernel_rfl) rfl (fun K hK => ?_)
        refine step_append_lies _ (by rfl) _ _ _ (by rfl) wx.heap.size 51 i40 (.agg #[.int .i64 0, .int .i64 0]) 2 16 Tryz.underlying46 hi40 hy0 hy1 hy2 rfl (by decide) _ _ _ (by rfl) hEc ⟨gc, 0, none⟩ cn cc vs (by rfl) HVL.out HN.out hv1 hpos (by unfold maxLen; omega) (by omega) (by simp) _ (by rfl) ?_
        intro g1 cp1 w4 hown4 hgrow4 hat4 hlt4
        simp only [Nat.zero_add, List.nil_append] at hown4
        have hk4 := Keeps.grown (ts := [51]) hEc hgrow4 (by simp)
        have hb4 : Below wx.heap.size wx w4 := hbe.trans (hk4.toBelow (by simp))
        have hCM4 := hCMx.later hb4
        have hr4 : RowI w4 (w.heap.size + 2) (.slice (some ⟨g1, 0, none⟩) cn cp1) cn := ⟨vs, own_low hown4 (by omega), hvs⟩
        have hs4 := hCM4.size
        have HG1 : Hid (wr.heap.size ≤ g1) := Nat.le_trans HZX.out (hown4.lt g1 rfl).1
        have hX4 := block_kept hX hb4
        have z1 := block_cell hX4
        have z4 := block_cell (block_old hX4 (.cells #[.int .i64 p, .int .i64 l, .slice (some ⟨g1, 0, none⟩) cn cp1] 48))
        have z2 := block_cell hCM4.out
        have z3 := block_cell (block_old hCM4.out (.cells #[.int .i64 p, .int .i64 l, .slice (some ⟨g1, 0, none⟩) cn cp1] 48))
        refine hK.out _ _ (⟨fun _ _ => ⟨(z2 1).trans rfl, (z1 0).trans rfl, (z1 1).trans rfl, (z1 2).trans rfl⟩, fun _ h => h⟩) ?_
        clear hK K
        simp only [Act.put, List.setIfInBounds_toArray]
        refine wpAnyT_one (i := 10) (o := _) (by kernel_rfl) rfl (fun K hK => ?_)
        go_simp
        refine hK.out _ _ (Two.same 10 _) ?_
        clear hK K
        refine wpAnyT_one (i := 11) (o := _) (by kernel_rfl) rfl (fun K hK => ?_)
        go_simp
        refine hK.out _ _ (⟨fun _ _ => ⟨(z3 1).trans rfl, (z4 0).trans rfl, (z4 1).trans rfl, (z4 2).trans rfl⟩, fun _ h => h⟩) ?_
        clear hK K
        refine wpAnyT_one (i := 12) (o := _) (by kernel_rfl) rfl (fun K hK => ?_)
        refine step_append_lies _ (by rfl) _ _ _ (by rfl) (w.heap.size + 2) 48 i36 (.agg #[.int .i64 0, .int .i64 0, .slice none 0 0]) 3 40 Tryz.underlying25 hi36 hz0 hz1 hz2 rfl (by decide) _ _ _ (by rfl) (World.ownsRow.alloc hCM4.funcs.own _) ⟨w4.heap.size, 0, none⟩ 1 1 [.int .i64 p, .int .i64 l, .slice (some ⟨g1, 0, none⟩) cn cp1] (by rfl) (by rfl) (World.news_of_block (cs := #[.int .i64 p, .int .i64 l, .slice (some ⟨g1, 0, none⟩) cn cp1]) (t := 48) (fr := (0, 0)) (heap_alloc_new w4 _)) (by simp [Value.oneCell']) (by decide) (by unfold maxLen; omega) (by omega) (by simp; omega) (w4.heap.size + 1) (by simp) ?_
        intro g2 cp2 w6 hown6 hgrow6 hat6 hlt6
        have hk6 := Keeps.grown (ts := [48]) (World.ownsRow.alloc hCM4.funcs.own (.cells #[.int .i64 p, .int .i64 l, .slice (some ⟨g1, 0, none⟩) cn cp1] 48)) hgrow6 (by simp)
        have c6 := block_cell (hk6.cell (block_old hCM4.out _) (by simp))
        have f6 := block_free (hk6.cell (block_old hCM4.out _) (by simp))
        have hCM6 := (hCM4.later ((Below.refl _ _).alloc (Nat.le_refl _) _)).add ⟨p, l, some ⟨g1, 0, none⟩, cn, cp1⟩ (hr4.same (Same.below ((Below.refl _ _).alloc (Nat.le_refl _) _))) hn1 hn6 hk6 hown6
        refine hK.out _ _ (⟨fun h => absurd (by decide) h, fun _ h => h⟩) ?_
        clear hK K
        simp only [Act.put, List.setIfInBounds_toArray]
        refine wpAnyT_one (i := 13) (o := _) (by kernel_rfl) rfl (fun K hK => ?_)
        go_simp
        refine hK.out _ _ (⟨fun h => absurd (by decide) h, fun _ h => h⟩) ?_
        clear hK K
        refine wpAnyT_one (i := 14) (o := _) (by kernel_rfl) rfl (fun K hK => ?_)
        go_simp
        refine hK.out _ _ (⟨fun h => absurd (by decide) h, fun _ h => h⟩) ?_
        clear hK K
        refine wpAnyT_done (by kernel_rfl) ?_ _
        have hap2 : Hid (Apart (os ++ [(⟨p, l, some ⟨g1, 0, none⟩, cn, cp1⟩ : HF)])) := hap.out.add fun x hx => HOLD.out x hx g1 HG1.out
        have hol2 : Hid ((os ++ [(⟨p, l, some ⟨g1, 0, none⟩, cn, cp1⟩ : HF)]).length = k + 1) := by show _ = _; rw [List.length_append, hol.out]; rfl
        generalize (w6.setCell ⟨Ro, 1, none⟩ (.slice (some ⟨g2, 0, none⟩) (os.length + 1) cp2)) = w7 at hCM6 ⊢
        clear hCM4 hCMx hEc hbe hX y1 y2 y3 y4
        go_simp
        go_wp2
        go_roundw
        case rel => exact ⟨k + 1, _, _, _, by omega, hol2, hap2, by go_num, hCM6⟩
        case measure => simp [intOf]; omega
      · have y1 := block_cell hCMr.out
        have y2 := block_cell hCMr.res
        have y3 := block_free hCMr.res
        have hfar := hCMr.far
        have hr1 := block_set (i := 0) hCMr.res (.slice ta' nt tc')
        have hr2 := block_set (i := 1) hr1 (.slice oa os.length oc)
        have hsame : Same wr ((wr.setCell ⟨w.heap.size + 1, 0, none⟩ (.slice ta' nt tc')).setCell ⟨w.heap.size + 1, 1, none⟩ (.slice oa os.length oc)) := Same.set (Same.set (Same.refl _) hCMr.res (by omega) _ _) hr1 (by omega) _ _
        have rr := block_cell hr2
        have hT2 := hCMr.texts.same hsame
        have hF2 := hCMr.funcs.same hsame
        have hB2 := (hCMr.below.setCell (p := ⟨w.heap.size + 1, 0, none⟩) (by simp) (.slice ta' nt tc')).setCell (p := ⟨w.heap.size + 1, 1, none⟩) (by simp) (.slice oa os.length oc)
        clear hsame hr1 hr2
        go_wp2
        refine bodyPost_ret (v := .agg #[.slice ta' nt tc', .slice oa os.length oc]) (by simp [results, Tryz.results52, go_sem, rr]) rfl ⟨ta', tc', oa, oc, os, rfl, hT2, hF2, by have := hol.out; omega, hB2, hap.out⟩
end Go.Proofs.YtpmkfdinkomaiaaGreatDoor
