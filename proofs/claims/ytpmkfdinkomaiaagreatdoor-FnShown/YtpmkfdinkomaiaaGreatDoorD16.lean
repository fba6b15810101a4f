/-
  The drawing functions of the document's model: a module spoilt.
-/
import Derived.Test.YtpmkfdinkomaiaaGreatDoorGQ18
import Derived.Test.YtpmkfdinkomaiaaGreatDoorGQ7
import Derived.Deep.CutRange
import Derived.Deep.RegionHeld3
namespace Go.Proofs.YtpmkfdinkomaiaaGreatDoor
open Go.RowKit

theorem lit_num {w : World} {g k t : Nat} {cs : Array Value} (hb : w.heap[g]? = some (.cells cs t (0, 0))) (hall : cs.toList.all isI = true) (hk : k < cs.size) : ∃ z : Int, w.cell? ⟨g, k, none⟩ = some (.int .i64 z) := by
  rw [block_cell hb, Array.getElem?_eq_getElem hk]
  have := List.all_eq_true.1 hall cs[k] (by simp)
  revert this
  generalize cs[k] = u
  intro h
  unfold isI at h
  split at h
  · exact ⟨_, rfl⟩
  · cases h
section
variable {W w wr : World} {C : Nat} {xa : Option Addr} {bs : List Int} {xc M V : Nat} {ta : Option Addr} {nt tc : Nat} {gF fc : Nat} {hs : List HF} {f : Nat}
theorem SP.cells (h : SP W w wr C xa bs xc M V ta nt tc (some ⟨gF, 0, none⟩) fc hs) (hf : f < hs.length) : wr.cell? ⟨gF, f * 3, none⟩ = some (.int .i64 hs[f].p) ∧ wr.cell? ⟨gF, f * 3 + 1, none⟩ = some (.int .i64 hs[f].l) ∧ wr.cell? ⟨gF, f * 3 + 2, none⟩ = some (.slice hs[f].ca hs[f].n hs[f].cc) := by
  obtain ⟨g, e, -, -, -, hc⟩ := own_cells h.funcs.own (by omega)
  cases e
  obtain ⟨a1, a2, a3⟩ := flatF_at hs f hf
  exact ⟨hc _ _ a1, hc _ _ a2, hc _ _ a3⟩
theorem SP.c2 (h : SP W w wr C xa bs xc M V ta nt tc (some ⟨gF, 0, none⟩) fc hs) (hf : f < hs.length) {p l : Int} {ca : Option Addr} {n cc : Nat} (e : hs[f] = ⟨p, l, ca, n, cc⟩) : wr.cell? ⟨gF, f * 3 + 2, none⟩ = some (.slice ca n cc) := by
  have := (h.cells hf).2.2
  rw [e] at this
  exact this
theorem SP.free (h : SP W w wr C xa bs xc M V ta nt tc (some ⟨gF, 0, none⟩) fc hs) (hf : f < hs.length) (j : Nat) : wr.frozen? ⟨gF, j, none⟩ = false := by
  obtain ⟨g, e, -, -, ⟨cur, hc⟩, -⟩ := own_cells h.funcs.own (by omega)
  cases e
  exact block_free hc j
end
/-- One text more. -/
theorem SP.text {W w wr w' : World} {C : Nat} {xa : Option Addr} {bs : List Int} {xc M V : Nat} {ta : Option Addr} {nt tc : Nat} {fa : Option Addr} {fc : Nat} {hs : List HF} (h : SP W w wr C xa bs xc M V ta nt tc fa fc hs) {vs : List Value} {sx : ByteArray} {g cp : Nat} (hk : Keeps (w.heap.size + 2) [9] wr w') (hown : w'.ownsRow (w.heap.size + 2) 9 1 (.slice (some ⟨g, 0, none⟩) (nt + 1) cp) (nt + 1) (vs ++ [.string sx])) (hvs : ∀ u ∈ vs, ∃ s : ByteArray, u = .string s ∧ s.size ≤ 1000) (hs' : sx.size ≤ 1000) :
    SP W w (w'.setCell ⟨V, 0, none⟩ (.slice (some ⟨g, 0, none⟩) (nt + 1) cp)) C xa bs xc M V (some ⟨g, 0, none⟩) (nt + 1) cp fa fc hs := by
  have hsz := h.size
  have hlt := h.lt
  have hlow := h.low
  have hfar := h.far
  have hm := hk.cell h.out (by simp)
  have hsame : Same w' (w'.setCell ⟨V, 0, none⟩ (.slice (some ⟨g, 0, none⟩) (nt + 1) cp)) := Same.set (Same.refl _) hm (by omega) _ _
  refine ⟨by rw [Below.heap_setCell _ _ _ _ (by simp; omega)]; exact hk.cell h.res (by simp), by simpa using block_set (i := 0) hm (.slice (some ⟨g, 0, none⟩) (nt + 1) cp), h.far, ?_, ?_, (h.cur.keeps hk (by simp) (by omega) (by omega)).set (by simp; omega) (by simp; omega) _, (h.fr.trans (Fr.keeps hk (by omega) (by omega))).setFar (by simp; omega) _, h.lt, h.low⟩
  · refine RowT.same (w := w') ⟨_, hown, fun u hu => ?_⟩ hsame
    rcases List.mem_append.1 hu with hu | hu
    · exact hvs u hu
    · simp at hu
      subst hu
      exact ⟨sx, rfl, hs'⟩
  · exact RowG.same (w := w') ⟨own_same h.funcs.own fun k cs fr _ hb => hk.cell hb (by simp), fun y hy => ⟨(h.funcs.code y hy).1.keeps hk (by simp), (h.funcs.code y hy).2⟩⟩ hsame
/-- One function more. -/
theorem SP.add {W w wr w' : World} {C : Nat} {xa : Option Addr} {bs : List Int} {xc M V : Nat} {ta : Option Addr} {nt tc : Nat} {fa : Option Addr} {fc : Nat} {hs : List HF} (h : SP W w wr C xa bs xc M V ta nt tc fa fc hs) (f : HF) (hf : RowI wr (w.heap.size + 2) (.slice f.ca f.n f.cc) f.n) (h2 : f.n ≤ 60000) (hk : Keeps (w.heap.size + 2) [48] wr w') {g c : Nat}
    (hown : w'.ownsRow (w.heap.size + 2) 48 3 (.slice (some ⟨g, 0, none⟩) (hs.length + 1) c) (hs.length + 1) (flatF hs ++ [.int .i64 f.p, .int .i64 f.l, .slice f.ca f.n f.cc])) :
    SP W w (w'.setCell ⟨V, 1, none⟩ (.slice (some ⟨g, 0, none⟩) (hs.length + 1) c)) C xa bs xc M V ta nt tc (some ⟨g, 0, none⟩) c (hs ++ [f]) := by
  have hsz := h.size
  have hlt := h.lt
  have hlow := h.low
  have hfar := h.far
  have hm := hk.cell h.out (by simp)
  have hle : (hs ++ [f]).length = hs.length + 1 := by simp
  have hsame : Same w' (w'.setCell ⟨V, 1, none⟩ (.slice (some ⟨g, 0, none⟩) (hs.length + 1) c)) := Same.set (Same.refl _) hm (by omega) _ _
  refine ⟨by rw [Below.heap_setCell _ _ _ _ (by simp; omega)]; exact hk.cell h.res (by simp), by rw [hle]; simpa using block_set (i := 1) hm (.slice (some ⟨g, 0, none⟩) (hs.length + 1) c), h.far, (h.texts.keeps hk (by simp)).same hsame, ?_, (h.cur.keeps hk (by simp) (by omega) (by omega)).set (by simp; omega) (by simp; omega) _, (h.fr.trans (Fr.keeps hk (by omega) (by omega))).setFar (by simp; omega) _, h.lt, h.low⟩
  rw [hle]
  refine RowG.same (w := w') ⟨by rw [List.length_append, flatF_add]; exact hown, fun y hy => ?_⟩ hsame
  rcases List.mem_append.1 hy with hy | hy
  · exact ⟨(h.funcs.code y hy).1.keeps hk (by simp), (h.funcs.code y hy).2⟩
  · simp at hy
    subst hy
    exact ⟨hf.keeps hk (by simp), h2⟩
def lenOf : Option Value → Nat
  | some (.slice _ n _) => n
  | _ => 0
/-- What is ahead of k in a row. -/
theorem own_ahead {w : World} {B e size n g cc k : Nat} {xs : List Value} (h : w.ownsRow B e size (.slice (some ⟨g, 0, none⟩) n cc) n xs) (hk : k ≤ n) : w.ownsRow B e size (.slice (some ⟨g, 0, none⟩) k cc) k (xs.take (k * size)) := by
  have hm : k * size ≤ n * size := Nat.mul_le_mul_right _ hk
  have hl := h.1
  rcases h.2 with ⟨h, -⟩ | ⟨b, cap, cu, ev, hb, hh, h2, h3, h4, h5⟩
  · cases h
  · cases ev
    refine ⟨by rw [List.length_take]; omega, .inr ⟨g, cc, cu, rfl, hb, hh, by omega, h3, h4, ?_⟩⟩
    rw [← h5, List.take_take]
    congr 1
    omega
theorem app_none (W : World) (a p : Option Addr) (n cap c : Nat) (h : n ≤ cap) (ty : TypeId) : (Builtin.append_ #[46, 46] ty #[.slice a n cap, .slice p 0 c]).run Tryz.prog W = .ok (.slice a n cap) W := by
  obtain ⟨i0, hi, hz0, hz1, hz2⟩ := info_parts info51
  cases a <;> cases p <;> simp [Builtin.append_, run_underlying Tryz.underlying46, sizeOf, typeInfo, hi, Builtin.lenOf, Builtin.firstCells, loadCells, loadCellsFrom, storeCells, h]
theorem own_cap {w : World} {B e size n g cc : Nat} {xs : List Value} (h : w.ownsRow B e size (.slice (some ⟨g, 0, none⟩) n cc) n xs) : n ≤ cc := by
  rcases h.2 with ⟨h, -⟩ | ⟨b, cap, cu, ev, hb, hh, h2, h3, h4, h5⟩
  · cases h
  · cases ev; exact h2
theorem own_behind {w : World} {B e size n g cc d : Nat} {xs : List Value} (h : w.ownsRow B e size (.slice (some ⟨g, 0, none⟩) n cc) n xs) (hn : 0 < n) : ∀ (j : Nat) (u : Value), (xs.drop d)[j]? = some u → w.cell? ((⟨g, d, none⟩ : Addr).add j) = some u := by
  obtain ⟨g', e', -, -, -, hc⟩ := own_cells h hn
  cases e'
  intro j u hj
  rw [List.getElem?_drop] at hj
  rw [Go.WideShapes.add_plain]
  exact hc _ _ hj
/-- What is left behind the spoiling. -/
def SpoilPost (W w : World) (C : Nat) (xa : Option Addr) (bs : List Int) (xc M : Nat) (e : Ending) (w' : World) : Prop :=
  ∃ ta nt tc fa fc hs, e = .returned (.agg #[.slice ta nt tc, .slice fa (List.length hs) fc]) ∧ RowT w' w.heap.size (.slice ta nt tc) nt ∧ nt ≤ 3 ∧ RowG w' w.heap.size (.slice fa hs.length fc) hs ∧ 1 ≤ hs.length ∧ hs.length ≤ 14 ∧ CurAt W w' C xa bs xc M ∧ Fr C C w.heap.size w w'
/-- The copy is laid into the answer's block. -/
theorem SP.done {W w wr : World} {C : Nat} {xa : Option Addr} {bs : List Int} {xc M V : Nat} {ta : Option Addr} {nt tc : Nat} {fa : Option Addr} {fc : Nat} {hs : List HF} (h : SP W w wr C xa bs xc M V ta nt tc fa fc hs) (h1 : nt ≤ 3) (h2 : 1 ≤ hs.length) (h3 : hs.length ≤ 14) {M' : Nat} (hM : M ≤ M') :
    ((wr.setCell ⟨w.heap.size + 1, 0, none⟩ (.slice ta nt tc)).setCell ⟨w.heap.size + 1, 1, none⟩ (.slice fa hs.length fc)).heap[w.heap.size + 1]? = some (.cells #[.slice ta nt tc, .slice fa hs.length fc] 27 (0, 0)) ∧
    SpoilPost W w C xa bs xc M' (.returned (.agg #[.slice ta nt tc, .slice fa hs.length fc])) ((wr.setCell ⟨w.heap.size + 1, 0, none⟩ (.slice ta nt tc)).setCell ⟨w.heap.size + 1, 1, none⟩ (.slice fa hs.length fc)) := by
  have hlt := h.lt
  have hlo := h.low
  have hr1 := block_set (i := 0) h.res (.slice ta nt tc)
  have hr2 := block_set (i := 1) hr1 (.slice fa hs.length fc)
  have hsame : Same wr ((wr.setCell ⟨w.heap.size + 1, 0, none⟩ (.slice ta nt tc)).setCell ⟨w.heap.size + 1, 1, none⟩ (.slice fa hs.length fc)) := Same.set (Same.set (Same.refl _) h.res (by omega) _ _) hr1 (by omega) _ _
  refine ⟨by simpa using hr2, ta, nt, tc, fa, fc, hs, rfl, ?_, h1, (h.funcs.same hsame).low (by omega), h2, h3, ((h.cur.set (by simp; omega) (by simp; omega) _).set (by simp; omega) (by simp; omega) _).grow hM, (h.fr.setFar (by simp) _).setFar (by simp) _⟩
  obtain ⟨vs, a1, a2⟩ := h.texts.same hsame
  exact ⟨vs, own_low a1 (by omega), a2⟩

set_option maxRecDepth 100000 in
set_option maxHeartbeats 8000000 in
theorem spoil_any (W : World) (C xc M B0 : Nat) (xa : Option Addr) (bs : List Int) (ta fa : Option Addr) (nt tc fc : Nat) (hs : List HF) (w : World) (hC : CurAt W w C xa bs xc M) (hM : M ≤ 1000000) (hT : RowT w B0 (.slice ta nt tc) nt) (hn : nt ≤ 2) (hF : RowF w B0 (.slice fa hs.length fc) hs) (h1 : 1 ≤ hs.length) (h4 : hs.length ≤ 4) :
    Calls Tryz.prog 35 #[.pointer (some ⟨C, 0, none⟩), .agg #[.slice ta nt tc, .slice fa hs.length fc]] w (SpoilPost W w C xa bs xc (M + 300)) := by
  obtain ⟨i9, hi9, hz90, hz91, hz92⟩ := info_parts info9
  obtain ⟨i36, hi36, hu0, hu1, hu2⟩ := info_parts info48
  obtain ⟨i40, hi40, hv0, hv1, hv2⟩ := info_parts info51
  obtain ⟨i40, hi40, hv0, hv1, hv2⟩ := info_parts info51
  have hlow := hC.low
  obtain ⟨p0, s0, hcb, -⟩ := hC.blk
  have hClt := lt_block hcb
  have hW := hC.below.size
  clear hcb p0 s0
  obtain ⟨wA, hwA⟩ : ∃ wA, wA = (w.alloc (.cells #[.slice ta nt tc, .slice fa hs.length fc] 27)).alloc (.cells #[.slice none 0 0, .slice none 0 0] 27) := ⟨_, rfl⟩
  have hbA : Below w.heap.size w wA := by rw [hwA]; exact ((Below.refl _ _).alloc (Nat.le_refl _) _).alloc (by simp) _
  have hR : wA.heap[w.heap.size + 1]? = some (.cells #[.slice none 0 0, .slice none 0 0] 27 (0, 0)) := by rw [hwA]; simpa using block_new (w.alloc (.cells #[.slice ta nt tc, .slice fa hs.length fc] 27)) #[.slice none 0 0, .slice none 0 0] 27
  have hzA : wA.heap.size = w.heap.size + 2 := by rw [hwA]; simp
  have HZA : Hid (wA.heap.size = w.heap.size + 2) := hzA
  have hTA := hT.same (Same.below hbA)
  have hFA := hF.same (Same.below hbA)
  have hCA := hC.later hbA
  clear hzA hT hF
  go_enter Tryz.func35, Tryz.ntmps35
  go_wp2_with fail
  rw [← hwA]
  clear hwA
  refine (copyModule_any B0 ta fa nt tc fc hs wA hTA (by omega) hFA (by omega)).mono ?_
  rintro e w1 ⟨tb, td, oa, oc, os, rfl, hT1, hF1, hol, hb1, HAP⟩
  replace HAP : Hid (Apart os) := HAP
  obtain ⟨w2, hw2⟩ : ∃ w2, w2 = w1.alloc (.cells #[.slice tb nt td, .slice oa os.length oc] 27) := ⟨_, rfl⟩
  obtain ⟨V, hVe⟩ : ∃ V, V = w1.heap.size := ⟨_, rfl⟩
  have hb2 : Below w1.heap.size w1 w2 := by rw [hw2]; exact (Below.refl _ _).alloc (Nat.le_refl _) _
  have hcode1 : Hid (∀ h ∈ os, 1 ≤ h.n) := fun h hh => (hF1.code h hh).2.1
  have hS2 : SP W w w2 C xa bs xc M V tb nt td oa oc os := by
    have hz := HZA.out
    have hs1 := hb1.size
    have hBq := hb1.mono (show w.heap.size ≤ wA.heap.size by omega)
    obtain ⟨vs, a1, a2⟩ := hT1.same (Same.below hb2)
    refine ⟨block_kept (block_kept hR hb1) hb2, ?_, by omega, ⟨vs, own_low a1 (by omega), a2⟩, ((hF1.g).same (Same.below hb2)).low (by omega), (hCA.later hb1).later hb2, ((Fr.below hbA (Nat.le_refl _)).trans (Fr.below hb1 (by omega))).trans (Fr.below hb2 (by omega)), hClt, by omega⟩
    rw [hw2, hVe]
    exact block_new _ _ _
  have HVE : Hid (V = w1.heap.size) := hVe
  have HW2 : Hid (w2 = w1.alloc (.cells #[.slice tb nt td, .slice oa os.length oc] 27)) := hw2
  have hos1 : 1 ≤ os.length := by omega
  have hos4 : os.length ≤ 4 := by omega
  clear hTA hFA hCA hR hbA hT1 hF1 hb1 hb2 hw2 hVe hol
  obtain ⟨gF, rfl, hgB, -, -, -⟩ := own_cells hS2.funcs.own (by omega)
  have y2 := block_cell hS2.out
  rw [HW2.out, HVE.out] at y2
  go_wp2_with fail
  rw [← HW2.out]
  clear y2
  refine (pick_any W C xc M xa bs _ _ hS2.cur (by omega)).mono ?_
  rintro e w3 ⟨rf, rfl, rf0, rf1, hC3, hP3⟩
  have hS3 := hS2.px hC3 hP3
  obtain ⟨f, rfl⟩ : ∃ f : Nat, rf = f := ⟨rf.toNat, by omega⟩
  have hf : f < os.length := by omega
  have hf' : (f : Int) < (os.length : Int) := by omega
  have hf0 : (0 : Int) ≤ (f : Int) := by omega
  clear hS2 hC3 hP3 rf0 rf1
  have y3 := block_cell hS3.out
  obtain ⟨c0, c1, c2⟩ := hS3.cells hf
  have hnp := hcode1.out os[f] (List.getElem_mem hf)
  have hn6 := (hS3.funcs.code os[f] (List.getElem_mem hf)).2
  rw [HVE.out] at y3
  go_wp2_with fail
  clear y3 c0 c1 c2
  refine (pick_any W C xc _ xa bs _ _ hS3.cur (by omega)).mono ?_
  rintro e w4 ⟨rk, rfl, rk0, rk1, hC4, hP4⟩
  have hS4 := hS3.px hC4 hP4
  obtain ⟨k, rfl⟩ : ∃ k : Nat, rk = k := ⟨rk.toNat, by omega⟩
  have hk : k < os[f].n := by omega
  clear hS3 hC4 hP4 rk0 rk1
  go_wp2_with fail
  refine (pick_any W C xc _ xa bs _ _ hS4.cur (by omega)).mono ?_
  rintro e w5 ⟨rs, rfl, rs0, rs1, hC5, hP5⟩
  have hS5 := hS4.px hC5 hP5
  clear hS4 hC5 hP5
  have hV := HVE.out
  subst hV
  obtain ⟨fh, hfe⟩ : ∃ fh, fh = os[f] := ⟨_, rfl⟩
  have hcI := (hS5.funcs.code os[f] (List.getElem_mem hf)).1
  rw [← hfe] at hk hnp hn6 hcI
  have HOF : Hid (os[f] = fh) := hfe.symm
  clear hfe
  obtain ⟨fp, fl, fca, fn, fcc⟩ := fh
  dsimp only at hk hnp hn6 hcI
  have HRI : Hid (RowI w5 (w.heap.size + 2) (.slice fca fn fcc) fn) := hcI
  obtain ⟨vs, hvo, hvs⟩ := hcI
  obtain ⟨gc, hce, hgcB, hgcl, ⟨cur, hgcur⟩, -⟩ := own_cells hvo (by omega)
  subst hce
  have hcsz : fn * 2 ≤ cur.size := by
    rcases hvo.2 with ⟨-, hz⟩ | ⟨g', cap', cur', ev, -, hh, h2, h3, h4, -⟩
    · omega
    · cases ev
      rw [hgcur] at hh
      cases hh
      omega
  have hk0 : (0 : Int) ≤ (k : Int) := by omega
  have hkn : (k : Int) < (fn : Int) := by omega
  have hgC : gc ≠ C := by omega
  have hSd := hS5.later (Below.refl w5.heap.size w5).drew
  have y5 := block_cell hS5.out
  have c2 := hS5.c2 hf HOF.out
  have HS5 : Hid (SP W w w5 C xa bs xc (M + 1 + 1 + 1) w1.heap.size tb nt td (some ⟨gF, 0, none⟩) oc os) := hS5
  have HSD : Hid (SP W w w5.drew C xa bs xc (M + 1 + 1 + 1) w1.heap.size tb nt td (some ⟨gF, 0, none⟩) oc os) := hSd
  clear hS5 hSd hvo hvs HW2 HZA
  by_cases e0 : rs = 0
  case pos =>
    subst e0
    go_upto_region 9 with fail
    go_region_held3 (fun w' => w'.cell? ⟨w1.heap.size, 1, none⟩ = some (.slice (some ⟨gF, 0, none⟩) os.length oc) ∧ w'.cell? ⟨gF, f * 3 + 2, none⟩ = some (.slice (some ⟨gc, 0, none⟩) fn fcc))
      (first | exact ⟨(y5 1).trans rfl, c2⟩ | exact ⟨(block_cell hS6.out 1).trans rfl, hS6.c2 hf HOF.out⟩ | exact ⟨(block_cell (hS6.code hg6 hgcB _).out 1).trans rfl, (hS6.code hg6 hgcB _).c2 hf HOF.out⟩)
      (first
        | (go_at_call 30; refine (pick_any W C xc _ xa bs _ _ HSD.out.cur (by omega)).mono ?_; rintro e w6 ⟨r6, rfl, r60, r61, hC6, hP6⟩; have hS6 := HSD.out.px hC6 hP6; have hg6 : w6.heap[gc]? = some (.cells cur 51 (0, 0)) := (by rw [hP6.block gc hgC]; exact hgcur); have e6 : w6.cell? ⟨gc, k * 2, none⟩ = some cur[k * 2] := (by rw [block_cell hg6]; simp); have f6 := block_free hg6; have wv : IntKind.i64.wrap (r6 - 1) = r6 - 1 := (by rw [IntKind.wrap_i64]; omega)))
    have hS7 := hS6.code (i := k * 2) hg6 hgcB (r6 - 1)
    generalize (w6.setCell ⟨gc, k * 2, none⟩ (.int .i64 (r6 - 1))) = w7 at hS7 ⊢
    clear e6 f6 hg6 hS6 hC6 hP6
    obtain ⟨hd1, hd2⟩ := hS7.done (M' := M + 300) (by omega) (by first | omega | (have := HL7.out; omega)) (by first | omega | (have := HL7.out; omega)) (by omega)
    have z1 := block_cell hS7.out
    have z2 := block_cell hS7.res
    have z3 := block_free hS7.res
    have z4 := block_cell hd1
    have HD : Hid (SpoilPost W w C xa bs xc (M + 300) (.returned (.agg #[.slice tb nt td, .slice (some ⟨gF, 0, none⟩) os.length oc])) _) := hd2
    clear hd1 hd2 y5 c2
    go_wp2
    exact bodyPost_ret (v := .agg #[.slice tb nt td, .slice (some ⟨gF, 0, none⟩) os.length oc]) (by simp [results, Tryz.results35, go_sem, z4]) rfl HD.out
  by_cases e1 : rs = 1
  case pos =>
    subst e1
    go_upto_region 11 with fail
    go_region_held3 (fun w' => w'.cell? ⟨w1.heap.size, 1, none⟩ = some (.slice (some ⟨gF, 0, none⟩) os.length oc) ∧ w'.cell? ⟨gF, f * 3 + 2, none⟩ = some (.slice (some ⟨gc, 0, none⟩) fn fcc))
      (first | exact ⟨(y5 1).trans rfl, c2⟩ | exact ⟨(block_cell hS6.out 1).trans rfl, hS6.c2 hf HOF.out⟩ | exact ⟨(block_cell (hS6.code hg6 hgcB _).out 1).trans rfl, (hS6.code hg6 hgcB _).c2 hf HOF.out⟩)
      (first
        | (go_at_call 53; refine (number_any W C xc _ xa bs _ HSD.out.cur (by omega)).mono ?_; rintro e w6 ⟨r6, rfl, hC6, hP6⟩; have hS6 := HSD.out.fr' hC6 hP6 (Nat.le_refl _); have hg6 : w6.heap[gc]? = some (.cells cur 51 (0, 0)) := (by rw [hP6.block gc hgcl hgC hgC]; exact hgcur); have e6 : w6.cell? ⟨gc, k * 2 + 1, none⟩ = some cur[k * 2 + 1] := (by rw [block_cell hg6]; simp); have f6 := block_free hg6))
    have hS7 := hS6.code (i := k * 2 + 1) hg6 hgcB (r6)
    generalize (w6.setCell ⟨gc, k * 2 + 1, none⟩ (.int .i64 (r6))) = w7 at hS7 ⊢
    clear e6 f6 hg6 hS6 hC6 hP6
    obtain ⟨hd1, hd2⟩ := hS7.done (M' := M + 300) (by omega) (by first | omega | (have := HL7.out; omega)) (by first | omega | (have := HL7.out; omega)) (by omega)
    have z1 := block_cell hS7.out
    have z2 := block_cell hS7.res
    have z3 := block_free hS7.res
    have z4 := block_cell hd1
    have HD : Hid (SpoilPost W w C xa bs xc (M + 300) (.returned (.agg #[.slice tb nt td, .slice (some ⟨gF, 0, none⟩) os.length oc])) _) := hd2
    clear hd1 hd2 y5 c2
    go_wp2
    exact bodyPost_ret (v := .agg #[.slice tb nt td, .slice (some ⟨gF, 0, none⟩) os.length oc]) (by simp [results, Tryz.results35, go_sem, z4]) rfl HD.out
  by_cases e2 : rs = 2
  case pos =>
    subst e2
    have HFP : Hid (∀ z : Int, flatF (os.set f ⟨z, fl, some ⟨gc, 0, none⟩, fn, fcc⟩) = (flatF os).set (f * 3) (.int .i64 z)) := fun z => by have := flat_p hf z; rw [HOF.out] at this; exact this
    go_upto_region 13 with fail
    go_region_held3 (fun w' => w'.cell? ⟨w1.heap.size, 1, none⟩ = some (.slice (some ⟨gF, 0, none⟩) os.length oc))
      (first | exact (y5 1).trans rfl | exact (block_cell hS6.out 1).trans rfl | exact (block_cell (hS6.func rfl hf ⟨r6 - 1, fl, some ⟨gc, 0, none⟩, fn, fcc⟩ (HFP.out _) hRI6 hn6).out 1).trans (by rw [List.length_set]; rfl))
      (first
        | (go_at_call 30; refine (pick_any W C xc _ xa bs _ _ HSD.out.cur (by omega)).mono ?_; rintro e w6 ⟨r6, rfl, r60, r61, hC6, hP6⟩; have hS6 := HSD.out.px hC6 hP6; have hRI6 : RowI w6 (w.heap.size + 2) (.slice (some ⟨gc, 0, none⟩) fn fcc) fn := HRI.out.same ((Same.drew _).trans (HSD.out.cur.same hP6)); have e6 := (hS6.cells hf).1; have f6 := hS6.free hf (f * 3); have wv : IntKind.i64.wrap (r6 - 1) = r6 - 1 := (by rw [IntKind.wrap_i64]; omega)))
    have hS7 := hS6.func rfl hf ⟨r6 - 1, fl, some ⟨gc, 0, none⟩, fn, fcc⟩ (HFP.out _) hRI6 hn6
    generalize (w6.setCell ⟨gF, f * 3, none⟩ (.int .i64 (r6 - 1))) = w7 at hS7 ⊢
    clear e6 f6 hS6 hC6 hP6 hRI6
    have HL7 : Hid ((os.set f ⟨r6 - 1, fl, some ⟨gc, 0, none⟩, fn, fcc⟩).length = os.length) := List.length_set
    generalize (os.set f ⟨r6 - 1, fl, some ⟨gc, 0, none⟩, fn, fcc⟩) = os7 at hS7 HL7
    obtain ⟨hd1, hd2⟩ := hS7.done (M' := M + 300) (by omega) (by first | omega | (have := HL7.out; omega)) (by first | omega | (have := HL7.out; omega)) (by omega)
    have z1 := block_cell hS7.out
    have z2 := block_cell hS7.res
    have z3 := block_free hS7.res
    have z4 := block_cell hd1
    have HD : Hid (SpoilPost W w C xa bs xc (M + 300) (.returned (.agg #[.slice tb nt td, .slice (some ⟨gF, 0, none⟩) os7.length oc])) _) := hd2
    clear hd1 hd2 y5 c2
    go_wp2
    exact bodyPost_ret (v := .agg #[.slice tb nt td, .slice (some ⟨gF, 0, none⟩) os7.length oc]) (by simp [results, Tryz.results35, go_sem, z4]) rfl HD.out
  by_cases e3 : rs = 3
  case pos =>
    subst e3
    have HFL : Hid (∀ z : Int, flatF (os.set f ⟨fp, z, some ⟨gc, 0, none⟩, fn, fcc⟩) = (flatF os).set (f * 3 + 1) (.int .i64 z)) := fun z => by have := flat_l hf z; rw [HOF.out] at this; exact this
    have hSl := HS5.out.later ((Below.refl w5.heap.size w5).alloc (Nat.le_refl _) (.cells #[.int .i64 (-1), .int .i64 0, .int .i64 12, .int .i64 13] 3)).drew
    have HSL : Hid (SP W w (w5.alloc (.cells #[.int .i64 (-1), .int .i64 0, .int .i64 12, .int .i64 13] 3)).drew C xa bs xc (M + 1 + 1 + 1) w1.heap.size tb nt td (some ⟨gF, 0, none⟩) oc os) := hSl
    have hsz5 := HS5.out.size
    have h5C : w5.heap.size ≠ C := by omega
    clear hSl
    have yl := block_cell HSL.out.out
    go_upto_region 15 with fail
    go_region_law (first
        | (go_simp; go_at_call 30; refine (pick_any W C xc _ xa bs _ _ HSL.out.cur (by omega)).mono ?_; rintro e w6 ⟨r6, rfl, r60, r61, hC6, hP6⟩; have hS6 := HSL.out.px hC6 hP6; obtain ⟨q6, rfl⟩ : ∃ q6 : Nat, r6 = q6 := ⟨r6.toNat, by omega⟩; have hq6 : (q6 : Int) < 4 := (by omega); have hl6 : w6.heap[w5.heap.size]? = some (.cells #[.int .i64 (-1), .int .i64 0, .int .i64 12, .int .i64 13] 3 (0, 0)) := (by rw [hP6.block _ h5C]; exact block_new w5 _ _); obtain ⟨z6, hz6⟩ := lit_num hl6 (k := q6) (by decide) (by simp; omega); have hRI6 : RowI w6 (w.heap.size + 2) (.slice (some ⟨gc, 0, none⟩) fn fcc) fn := HRI.out.same ((Same.below (show Below w5.heap.size w5 (w5.alloc (.cells #[.int .i64 (-1), .int .i64 0, .int .i64 12, .int .i64 13] 3)).drew from ((Below.refl w5.heap.size w5).alloc (Nat.le_refl _) (.cells #[.int .i64 (-1), .int .i64 0, .int .i64 12, .int .i64 13] 3)).drew)).trans (HSL.out.cur.same hP6)); have e6 := (hS6.cells hf).2.1; have f6 := hS6.free hf (f * 3 + 1); have y6 := block_cell hS6.out)
        | (go_simp; go_at_call 30; refine (pick_any W C xc _ xa bs _ _ HSD.out.cur (by omega)).mono ?_; rintro e w6 ⟨r6, rfl, r60, r61, hC6, hP6⟩; have hS6 := HSD.out.px hC6 hP6; obtain ⟨q6, rfl⟩ : ∃ q6 : Nat, r6 = q6 := ⟨r6.toNat, by omega⟩; have hq6 : (q6 : Int) < 4 := (by omega); have hbB : Below w6.heap.size w6 (w6.alloc (.cells #[.int .i64 (-1), .int .i64 0, .int .i64 12, .int .i64 13] 3)) := (Below.refl _ _).alloc (Nat.le_refl _) _; have hS6A := hS6.later hbB; obtain ⟨z6, hz6⟩ := lit_num (block_new w6 #[.int .i64 (-1), .int .i64 0, .int .i64 12, .int .i64 13] 3) (k := q6) (by decide) (by simp; omega); have hRI6A : RowI (w6.alloc (.cells #[.int .i64 (-1), .int .i64 0, .int .i64 12, .int .i64 13] 3)) (w.heap.size + 2) (.slice (some ⟨gc, 0, none⟩) fn fcc) fn := HRI.out.same (((Same.drew _).trans (HSD.out.cur.same hP6)).trans (Same.below hbB)); have e6 := (hS6A.cells hf).2.1; have f6 := hS6A.free hf (f * 3 + 1); have y6 := block_cell hS6.out; have y6A := block_cell hS6A.out))
    all_goals
      have HL7 : Hid ((os.set f ⟨fp, z6, some ⟨gc, 0, none⟩, fn, fcc⟩).length = os.length) := List.length_set
      first
      | (have hS7 := hS6A.func rfl hf ⟨fp, z6, some ⟨gc, 0, none⟩, fn, fcc⟩ (HFL.out _) hRI6A hn6
         generalize ((w6.alloc (.cells #[.int .i64 (-1), .int .i64 0, .int .i64 12, .int .i64 13] 3)).setCell ⟨gF, f * 3 + 1, none⟩ (.int .i64 z6)) = w7 at hS7 ⊢
         clear e6 f6 hS6 hS6A hC6 hP6 hRI6A hz6 y6 y6A yl)
      | (have hS7 := hS6.func rfl hf ⟨fp, z6, some ⟨gc, 0, none⟩, fn, fcc⟩ (HFL.out _) hRI6 hn6
         generalize (w6.setCell ⟨gF, f * 3 + 1, none⟩ (.int .i64 z6)) = w7 at hS7 ⊢
         clear e6 f6 hS6 hC6 hP6 hRI6 hz6 hl6 y6 yl)
      generalize (os.set f ⟨fp, z6, some ⟨gc, 0, none⟩, fn, fcc⟩) = os7 at hS7 HL7
      go_simp
      obtain ⟨hd1, hd2⟩ := hS7.done (M' := M + 300) (by omega) (by first | omega | (have := HL7.out; omega)) (by first | omega | (have := HL7.out; omega)) (by omega)
      have z1 := block_cell hS7.out
      have z2 := block_cell hS7.res
      have z3 := block_free hS7.res
      have z4 := block_cell hd1
      have HD : Hid (SpoilPost W w C xa bs xc (M + 300) (.returned (.agg #[.slice tb nt td, .slice (some ⟨gF, 0, none⟩) os7.length oc])) _) := hd2
      clear hd1 hd2 y5 c2
      go_wp2
      exact bodyPost_ret (v := .agg #[.slice tb nt td, .slice (some ⟨gF, 0, none⟩) os7.length oc]) (by simp [results, Tryz.results35, go_sem, z4]) rfl HD.out
  by_cases e4 : rs = 4
  case pos =>
    subst e4
    have hSl := HS5.out.later ((Below.refl w5.heap.size w5).alloc (Nat.le_refl _) (.cells #[.string ⟨#[113, 34]⟩, .string ⟨#[10]⟩, .string ⟨#[48, 49, 50, 51, 52, 53, 54, 55, 56, 57, 48, 49, 50, 51, 52, 53, 54, 55, 56, 57, 48, 49, 50, 51, 52, 53, 54, 55, 56, 57, 48, 49, 50, 51, 52, 53, 54, 55, 56, 57, 48, 49, 50, 51, 52, 53, 54, 55, 56, 57, 48, 49, 50, 51, 52, 53, 54, 55, 56, 57, 48]⟩, .string ⟨#[195, 169]⟩] 9)).drew
    have HSL : Hid (SP W w (w5.alloc (.cells #[.string ⟨#[113, 34]⟩, .string ⟨#[10]⟩, .string ⟨#[48, 49, 50, 51, 52, 53, 54, 55, 56, 57, 48, 49, 50, 51, 52, 53, 54, 55, 56, 57, 48, 49, 50, 51, 52, 53, 54, 55, 56, 57, 48, 49, 50, 51, 52, 53, 54, 55, 56, 57, 48, 49, 50, 51, 52, 53, 54, 55, 56, 57, 48, 49, 50, 51, 52, 53, 54, 55, 56, 57, 48]⟩, .string ⟨#[195, 169]⟩] 9)).drew C xa bs xc (M + 1 + 1 + 1) w1.heap.size tb nt td (some ⟨gF, 0, none⟩) oc os) := hSl
    have hsz5 := HS5.out.size
    have h5C : w5.heap.size ≠ C := by omega
    clear hSl c2
    have yl := block_cell HSL.out.out
    go_upto_region 17 with fail
    go_region_law (first
        | (refine step_append_lies _ (by rfl) _ _ _ (by rfl) (w.heap.size + 2) 9 i9 (.string ByteArray.empty) 1 16 Tryz.underlying24 hi9 hz90 hz91 hz92 rfl (by decide) _ _ _ (by rfl) (World.ownsRow.alloc hown6 _) ⟨w6.heap.size, 0, none⟩ 1 1 [.string sx] (by rfl) (by rfl) (World.news_of_block (cs := #[.string sx]) (t := 9) (fr := (0, 0)) (heap_alloc_new w6 _)) (by simp [Value.oneCell']) (by decide) (by unfold maxLen; omega) (by omega) (by simp; omega) (w6.heap.size + 1) (by simp) ?_; intro g cp w8 hown8 hgrow8 hat8 hlt8; have hk8 := Keeps.grown (ts := [9]) (World.ownsRow.alloc hown6 (.cells #[.string sx] 9)) hgrow8 (by simp); have hS8 := (hS6.later ((Below.refl _ _).alloc (Nat.le_refl _) (.cells #[.string sx] 9))).text hk8 (by simpa using hown8) hvs6 hss; have c8 := block_cell (hk8.cell (block_old hS6.out (.cells #[.string sx] 9)) (by simp)); have f8 := block_free (hk8.cell (block_old hS6.out (.cells #[.string sx] 9)) (by simp)))
        | (refine step_append_lies _ (by rfl) _ _ _ (by rfl) (w.heap.size + 2) 9 i9 (.string ByteArray.empty) 1 16 Tryz.underlying24 hi9 hz90 hz91 hz92 rfl (by decide) _ _ _ (by rfl) (World.ownsRow.alloc hown6A _) ⟨w6.heap.size + 1, 0, none⟩ 1 1 [.string sx] (by rfl) (by rfl) (one_new _ _ (by simp) _ _) (by simp [Value.oneCell']) (by decide) (by unfold maxLen; omega) (by omega) (by simp; omega) (w6.heap.size + 1 + 1) (by simp) ?_; intro g cp w8 hown8 hgrow8 hat8 hlt8; have hk8 := Keeps.grown (ts := [9]) (World.ownsRow.alloc hown6A (.cells #[.string sx] 9)) hgrow8 (by simp); have hS8 := (hS6A.later ((Below.refl _ _).alloc (Nat.le_refl _) (.cells #[.string sx] 9))).text hk8 (by simpa using hown8) hvs6 hss; have c8 := block_cell (hk8.cell (block_old hS6A.out (.cells #[.string sx] 9)) (by simp)); have f8 := block_free (hk8.cell (block_old hS6A.out (.cells #[.string sx] 9)) (by simp)))
        | (go_simp; go_at_call 30; refine (pick_any W C xc _ xa bs _ _ HSL.out.cur (by omega)).mono ?_; rintro e w6 ⟨r6, rfl, r60, r61, hC6, hP6⟩; obtain ⟨q6, rfl⟩ : ∃ q6 : Nat, r6 = q6 := ⟨r6.toNat, by omega⟩; have hq6 : (q6 : Int) < 4 := (by omega); obtain ⟨sx, hsx, hss⟩ := lit_str (k := q6) hP6 h5C (by decide) (by simp; omega); have hS6 := HSL.out.px hC6 hP6; obtain ⟨vs6, hown6, hvs6⟩ := hS6.texts; have hz6 := hS6.size; have y6 := block_cell hS6.out; have y6b := block_cell (block_old hS6.out (.cells #[.string sx] 9)))
        | (go_simp; go_at_call 30; refine (pick_any W C xc _ xa bs _ _ HSD.out.cur (by omega)).mono ?_; rintro e w6 ⟨r6, rfl, r60, r61, hC6, hP6⟩; obtain ⟨q6, rfl⟩ : ∃ q6 : Nat, r6 = q6 := ⟨r6.toNat, by omega⟩; have hq6 : (q6 : Int) < 4 := (by omega); have hS6A := (HSD.out.px hC6 hP6).later ((Below.refl w6.heap.size w6).alloc (Nat.le_refl _) (.cells #[.string ⟨#[113, 34]⟩, .string ⟨#[10]⟩, .string ⟨#[48, 49, 50, 51, 52, 53, 54, 55, 56, 57, 48, 49, 50, 51, 52, 53, 54, 55, 56, 57, 48, 49, 50, 51, 52, 53, 54, 55, 56, 57, 48, 49, 50, 51, 52, 53, 54, 55, 56, 57, 48, 49, 50, 51, 52, 53, 54, 55, 56, 57, 48, 49, 50, 51, 52, 53, 54, 55, 56, 57, 48]⟩, .string ⟨#[195, 169]⟩] 9)); obtain ⟨sx, hsx, hss⟩ := lit_str2 (w := w6) (k := q6) (cs := #[.string ⟨#[113, 34]⟩, .string ⟨#[10]⟩, .string ⟨#[48, 49, 50, 51, 52, 53, 54, 55, 56, 57, 48, 49, 50, 51, 52, 53, 54, 55, 56, 57, 48, 49, 50, 51, 52, 53, 54, 55, 56, 57, 48, 49, 50, 51, 52, 53, 54, 55, 56, 57, 48, 49, 50, 51, 52, 53, 54, 55, 56, 57, 48, 49, 50, 51, 52, 53, 54, 55, 56, 57, 48]⟩, .string ⟨#[195, 169]⟩]) (by decide) (by simp; omega); obtain ⟨vs6, hown6A, hvs6⟩ := hS6A.texts; have hz6 := (HSD.out.px hC6 hP6).size; have y6A := block_cell hS6A.out; have y6b := block_cell (block_old hS6A.out (.cells #[.string sx] 9)); have y6 := block_cell (HSD.out.px hC6 hP6).out))
    all_goals
      generalize (w8.setCell ⟨w1.heap.size, 0, none⟩ (.slice (some ⟨g, 0, none⟩) (nt + 1) cp)) = w7 at hS8 ⊢
      clear yl y6 y6b c8 f8 hsx
      go_simp
      obtain ⟨hd1, hd2⟩ := hS8.done (M' := M + 300) (by omega) (by first | omega | (have := HL7.out; omega)) (by first | omega | (have := HL7.out; omega)) (by omega)
      have z1 := block_cell hS8.out
      have z2 := block_cell hS8.res
      have z3 := block_free hS8.res
      have z4 := block_cell hd1
      have HD : Hid (SpoilPost W w C xa bs xc (M + 300) (.returned (.agg #[.slice (some ⟨g, 0, none⟩) (nt + 1) cp, .slice (some ⟨gF, 0, none⟩) os.length oc])) _) := hd2
      clear hd1 hd2 y5
      go_wp2
      exact bodyPost_ret (v := .agg #[.slice (some ⟨g, 0, none⟩) (nt + 1) cp, .slice (some ⟨gF, 0, none⟩) os.length oc]) (by simp [results, Tryz.results35, go_sem, z4]) rfl HD.out
  by_cases e6 : rs = 6
  case pos =>
    subst e6
    have hSs := HS5.out
    clear y5 c2 HSD
    go_wp2
    go_loopw [] (fun wr => ∃ (ga : Option Addr) (gcp : Nat) (gs : List HF), 1 ≤ gs.length ∧ gs.length ≤ 13 ∧ SP W w wr C xa bs xc (M + 3 + gs.length) w1.heap.size tb nt td ga gcp gs) (fun wr => 14 - lenOf (wr.cell? ⟨w1.heap.size, 1, none⟩))
    case atStart => exact ⟨_, _, os, hos1, by omega, hSs.grow (by omega)⟩
    case round =>
      obtain ⟨ga, gcp, gs, hg1, hg13, hSr⟩ := hrel
      clear hSs
      have y5 := block_cell hSr.out
      have HSR : Hid (SP W w wr C xa bs xc (M + 3 + gs.length) w1.heap.size tb nt td ga gcp gs) := hSr
      have HSRD : Hid (SP W w wr.drew C xa bs xc (M + 3 + gs.length) w1.heap.size tb nt td ga gcp gs) := hSr.later (Below.refl wr.heap.size wr).drew
      have HLO : Hid (lenOf (wr.cell? ⟨w1.heap.size, 1, none⟩) = gs.length) := by show _ = _; rw [y5 1]; rfl
      clear hSr
      go_upto_region 21 with fail
      go_region_held3 (fun w' => w'.cell? ⟨w1.heap.size, 1, none⟩ = some (.slice ga gs.length gcp))
        (first | exact (y5 1).trans rfl | exact (y6 1).trans rfl)
        (first
          | (go_at_call 30; refine (pick_any W C xc _ xa bs _ _ HSRD.out.cur (by omega)).mono ?_; rintro e w6 ⟨r6, rfl, r60, r61, hC6, hP6⟩; have hS6 := HSRD.out.px hC6 hP6; have y6 := block_cell hS6.out; have wv : IntKind.i64.wrap (12 + r6) = 12 + r6 := (by rw [IntKind.wrap_i64]; omega)))
      have HS6 : Hid (SP W w w6 C xa bs xc (M + 3 + gs.length + 1) w1.heap.size tb nt td ga gcp gs) := hS6
      clear y5 hC6 hP6
      by_cases hlt : (gs.length : Int) < 12 + r6
      case pos =>
        have hown6 := HS6.out.funcs.own
        have hsz6 := HS6.out.size
        have hbI : Below w6.heap.size w6 (w6.alloc (.cells #[.int .i64 4, .int .i64 0, .int .i64 25, .int .i64 0] 51)) := (Below.refl _ _).alloc (Nat.le_refl _) _
        have hbF : Below (w6.alloc (.cells #[.int .i64 4, .int .i64 0, .int .i64 25, .int .i64 0] 51)).heap.size (w6.alloc (.cells #[.int .i64 4, .int .i64 0, .int .i64 25, .int .i64 0] 51)) ((w6.alloc (.cells #[.int .i64 4, .int .i64 0, .int .i64 25, .int .i64 0] 51)).alloc (.cells #[.int .i64 0, .int .i64 0, .slice (some ⟨w6.heap.size, 0, none⟩) 2 2] 48)) := (Below.refl _ _).alloc (Nat.le_refl _) _
        have HB2 : Hid (SP W w ((w6.alloc (.cells #[.int .i64 4, .int .i64 0, .int .i64 25, .int .i64 0] 51)).alloc (.cells #[.int .i64 0, .int .i64 0, .slice (some ⟨w6.heap.size, 0, none⟩) 2 2] 48)) C xa bs xc (M + 3 + gs.length + 1) w1.heap.size tb nt td ga gcp gs) := (HS6.out.later hbI).later hbF
        have yI := block_cell (HS6.out.later hbI).out
        have yB := block_cell HB2.out.out
        have hRI : RowI ((w6.alloc (.cells #[.int .i64 4, .int .i64 0, .int .i64 25, .int .i64 0] 51)).alloc (.cells #[.int .i64 0, .int .i64 0, .slice (some ⟨w6.heap.size, 0, none⟩) 2 2] 48)) (w.heap.size + 2) (.slice (some ⟨w6.heap.size, 0, none⟩) 2 2) 2 := ⟨[.int .i64 4, .int .i64 0, .int .i64 25, .int .i64 0], ⟨by simp, .inr ⟨w6.heap.size, 2, #[.int .i64 4, .int .i64 0, .int .i64 25, .int .i64 0], rfl, by omega, block_old (block_new _ _ _) _, Nat.le_refl _, by unfold maxLen; omega, by simp, by simp⟩⟩, by intro u hu; simp at hu; rcases hu with rfl | rfl | rfl | rfl <;> exact ⟨_, rfl⟩⟩
        clear hbI hbF hS6
        go_wp2_with (at_builtin; refine wpList_append_lies _ rfl _ _ 25 rfl (w.heap.size + 2) 48 i36 (.agg #[.int .i64 0, .int .i64 0, .slice none 0 0]) 3 40 Tryz.underlying25 hi36 hu0 hu1 hu2 rfl (by decide) _ _ _ rfl (World.ownsRow.alloc (World.ownsRow.alloc hown6 (.cells #[.int .i64 4, .int .i64 0, .int .i64 25, .int .i64 0] 51)) (.cells #[.int .i64 0, .int .i64 0, .slice (some ⟨w6.heap.size, 0, none⟩) 2 2] 48)) ⟨w6.heap.size + 1, 0, none⟩ 1 1 [.int .i64 0, .int .i64 0, .slice (some ⟨w6.heap.size, 0, none⟩) 2 2] rfl rfl (World.news_of_block (cs := #[.int .i64 0, .int .i64 0, .slice (some ⟨w6.heap.size, 0, none⟩) 2 2]) (t := 48) (fr := (0, 0)) (by simpa using heap_alloc_new (w6.alloc (.cells #[.int .i64 4, .int .i64 0, .int .i64 25, .int .i64 0] 51)) (.cells #[.int .i64 0, .int .i64 0, .slice (some ⟨w6.heap.size, 0, none⟩) 2 2] 48))) (by simp [Value.oneCell']) (by decide) (by unfold maxLen; omega) (by omega) (by simp; omega) _ rfl ?_; intro g8 cp8 w8 hown8 hgrow8 hat8 hlt8; have hk8 := Keeps.grown (ts := [48]) (World.ownsRow.alloc (World.ownsRow.alloc hown6 (.cells #[.int .i64 4, .int .i64 0, .int .i64 25, .int .i64 0] 51)) (.cells #[.int .i64 0, .int .i64 0, .slice (some ⟨w6.heap.size, 0, none⟩) 2 2] 48)) hgrow8 (by simp); have hb8 := hk8.cell HB2.out.out (by simp); have c8 := block_cell hb8; have f8 := block_free hb8)
        have hS8 := HB2.out.add ⟨0, 0, some ⟨w6.heap.size, 0, none⟩, 2, 2⟩ hRI (by show 2 ≤ 60000; omega) hk8 hown8
        have HME : Hid (lenOf ((w8.setCell ⟨w1.heap.size, 1, none⟩ (.slice (some ⟨g8, 0, none⟩) (gs.length + 1) cp8)).cell? ⟨w1.heap.size, 1, none⟩) = gs.length + 1) := by show _ = _; rw [block_cell hS8.out 1, List.length_append]; rfl
        clear c8 f8 hb8 yI yB y6 wv hown6 hown8 hgrow8 hk8
        go_roundw
        case rel => exact ⟨_, _, gs ++ [⟨0, 0, some ⟨w6.heap.size, 0, none⟩, 2, 2⟩], by rw [List.length_append]; simp, by rw [List.length_append]; simp; omega, hS8.grow (by rw [List.length_append]; simp; omega)⟩
        case measure => rw [HLO.out, HME.out]; omega
      have hge : ¬ (gs.length : Int) < 12 + r6 := hlt
      clear y6 hS6
      have hSz := HS6.out
      obtain ⟨hd1, hd2⟩ := hSz.done (M' := M + 300) (by omega) (by first | omega | (have := HL7.out; omega)) (by first | omega | (have := HL7.out; omega)) (by omega)
      have z1 := block_cell hSz.out
      have z2 := block_cell hSz.res
      have z3 := block_free hSz.res
      have z4 := block_cell hd1
      have HD : Hid (SpoilPost W w C xa bs xc (M + 300) (.returned (.agg #[.slice tb nt td, .slice ga gs.length gcp])) _) := hd2
      clear hd1 hd2
      go_wp2
      exact bodyPost_ret (v := .agg #[.slice tb nt td, .slice ga gs.length gcp]) (by simp [results, Tryz.results35, go_sem, z4]) rfl HD.out
  by_cases e5 : rs = 5
  case pos =>
    subst e5
    have hS5 := HS5.out
    have HSD5 : Hid (SP W w w5.drew C xa bs xc (M + 3) w1.heap.size tb nt td (some ⟨gF, 0, none⟩) oc os) := hS5.later (Below.refl w5.heap.size w5).drew
    obtain ⟨vs7, hvo7, hvs7⟩ := HRI.out
    have hvl7 := hvo7.1
    have hvo7D : w5.drew.ownsRow (w.heap.size + 2) 51 2 (.slice (some ⟨gc, 0, none⟩) fn fcc) fn vs7 := hvo7
    obtain ⟨gq, hgq, -, -, ⟨cF, hcF⟩, -⟩ := own_cells HSD5.out.funcs.own (by omega)
    cases hgq
    have HCF : Hid (w5.drew.heap[gF]? = some (.cells cF 48 (0, 0))) := hcF
    have hfi0 : (0 : Int) ≤ (f : Int) := by omega
    have hfi : (f : Int) < (os.length : Int) := by omega
    have hcap := own_cap hvo7
    have hkc : k ≤ fcc := by omega
    have wk : IntKind.i64.wrap ((k : Int) + 1) = (k : Int) + 1 := by rw [IntKind.wrap_i64]; omega
    have hk10 : (0 : Int) ≤ (k : Int) + 1 := by omega
    have hk11 : (k : Int) + 1 ≤ (fn : Int) := by omega
    have hkt : ((k : Int) + 1).toNat = k + 1 := by omega
    clear hS5 hcF
    by_cases hm5 : k + 1 = fn
    case pos =>
      subst hm5
      by_cases hfe : fcc = k + 1
      case pos =>
        subst hfe
        have hownP : w5.drew.ownsRow (w.heap.size + 2) 51 2 (.slice (some ⟨gc, 0, none⟩) k (k + 1)) k (vs7.take (k * 2)) := own_ahead hvo7D (k := k) (by omega)
        have ha : ∀ (p : Option Addr) (c : Nat) (ty : TypeId) (W : World), (Builtin.append_ #[46, 46] ty #[.slice (some ⟨gc, 0, none⟩) k (k + 1), .slice p 0 c]).run Tryz.prog W = .ok (.slice (some ⟨gc, 0, none⟩) k (k + 1)) W := fun p c ty W => app_none W _ p k (k + 1) c (by omega) ty
        have hkk : (k : Int) ≤ (k : Int) + 1 := by omega
        go_upto_region 19 with fail
        have hhV : (fun w' => w'.cell? ⟨w1.heap.size, 1, none⟩ = some (.slice (some ⟨gF, 0, none⟩) os.length oc)) w5.drew := (y5 1).trans rfl
        have hhX : (fun w' => w'.cell? ⟨w1.heap.size, 1, none⟩ = some (.slice (some ⟨gF, 0, none⟩) os.length oc) ∧ w'.cell? ⟨gF, f * 3 + 2, none⟩ = some (.slice (some ⟨gc, 0, none⟩) (k + 1) (k + 1))) w5.drew := ⟨(y5 1).trans rfl, c2⟩
        refine wp_region_T (Two (fun w' => w'.cell? ⟨w1.heap.size, 1, none⟩ = some (.slice (some ⟨gF, 0, none⟩) os.length oc)) (fun w' => w'.cell? ⟨w1.heap.size, 1, none⟩ = some (.slice (some ⟨gF, 0, none⟩) os.length oc) ∧ w'.cell? ⟨gF, f * 3 + 2, none⟩ = some (.slice (some ⟨gc, 0, none⟩) (k + 1) (k + 1))) [21, 22, 23] [20, 21, 22, 23]) (by kernel_rfl) ?_
        refine wpAnyT_take (i := 0) (fun w' => w'.cell? ⟨w1.heap.size, 1, none⟩ = some (.slice (some ⟨gF, 0, none⟩) os.length oc)) [1, 21, 22, 23] (oi := _) (v := ?_) rfl (by kernel_rfl) (by kernel_rfl) (by kernel_rfl) (by kernel_rfl) (fun _ _ _ h => h) (by kernel_rfl) (Two.same 0) (Two.left (by decide)) ?_ hhV ?_
        rotate_left
        · intro w' hSw
          have s0 := hSw
          go_simp
          try with_reducible rfl
        simp only [Act.put, List.setIfInBounds_toArray]
        refine wpAnyT_take (i := 1) (fun w' => w'.cell? ⟨w1.heap.size, 1, none⟩ = some (.slice (some ⟨gF, 0, none⟩) os.length oc)) [21, 22, 23] (oi := _) (v := ?_) rfl (by kernel_rfl) (by kernel_rfl) (by kernel_rfl) (by kernel_rfl) (fun _ _ _ h => h) (by kernel_rfl) (Two.same 1) (Two.left (by decide)) ?_ hhV ?_
        rotate_left
        · intro w' hSw
          have s0 := hSw
          go_simp
          try with_reducible rfl
        simp only [Act.put]
        refine wpAnyT_take (i := 2) (fun w' => w'.cell? ⟨w1.heap.size, 1, none⟩ = some (.slice (some ⟨gF, 0, none⟩) os.length oc)) [21, 22, 23] (oi := _) (v := ?_) rfl (by kernel_rfl) (by kernel_rfl) (by kernel_rfl) (by kernel_rfl) (fun _ _ _ h => h) (by kernel_rfl) (Two.same 2) (Two.left (by decide)) ?_ hhV ?_
        rotate_left
        · intro w' hSw
          have s0 := hSw
          go_simp
          try with_reducible rfl
        simp only [Act.put]
        refine wpAnyT_take (i := 3) (fun w' => w'.cell? ⟨w1.heap.size, 1, none⟩ = some (.slice (some ⟨gF, 0, none⟩) os.length oc) ∧ w'.cell? ⟨gF, f * 3 + 2, none⟩ = some (.slice (some ⟨gc, 0, none⟩) (k + 1) (k + 1))) [4, 6, 7, 8, 10, 20, 21, 22, 23] (oi := _) (v := ?_) rfl (by kernel_rfl) (by kernel_rfl) (by kernel_rfl) (by kernel_rfl) (fun _ _ _ h => h) (by kernel_rfl) (Two.same 3) (Two.right (by decide)) ?_ hhX ?_
        rotate_left
        · intro w' hSw
          obtain ⟨s0, s1⟩ := hSw
          go_simp
          try with_reducible rfl
        simp only [Act.put]
        refine wpAnyT_take (i := 4) (fun w' => w'.cell? ⟨w1.heap.size, 1, none⟩ = some (.slice (some ⟨gF, 0, none⟩) os.length oc) ∧ w'.cell? ⟨gF, f * 3 + 2, none⟩ = some (.slice (some ⟨gc, 0, none⟩) (k + 1) (k + 1))) [6, 7, 8, 10, 20, 21, 22, 23] (oi := _) (v := ?_) rfl (by kernel_rfl) (by kernel_rfl) (by kernel_rfl) (by kernel_rfl) (fun _ _ _ h => h) (by kernel_rfl) (Two.same 4) (Two.right (by decide)) ?_ hhX ?_
        rotate_left
        · intro w' hSw
          obtain ⟨s0, s1⟩ := hSw
          go_simp
          try with_reducible rfl
        simp only [Act.put]
        refine wpAnyT_take (i := 5) (fun w' => w'.cell? ⟨w1.heap.size, 1, none⟩ = some (.slice (some ⟨gF, 0, none⟩) os.length oc) ∧ w'.cell? ⟨gF, f * 3 + 2, none⟩ = some (.slice (some ⟨gc, 0, none⟩) (k + 1) (k + 1))) [6, 7, 8, 10, 20, 21, 22, 23] (oi := _) (v := ?_) rfl (by kernel_rfl) (by kernel_rfl) (by kernel_rfl) (by kernel_rfl) (fun _ _ _ h => h) (by kernel_rfl) (Two.same 5) (Two.right (by decide)) ?_ hhX ?_
        rotate_left
        · intro w' hSw
          obtain ⟨s0, s1⟩ := hSw
          go_simp
          try with_reducible rfl
        simp only [Act.put]
        refine wpAnyT_take (i := 6) (fun w' => w'.cell? ⟨w1.heap.size, 1, none⟩ = some (.slice (some ⟨gF, 0, none⟩) os.length oc) ∧ w'.cell? ⟨gF, f * 3 + 2, none⟩ = some (.slice (some ⟨gc, 0, none⟩) (k + 1) (k + 1))) [7, 8, 10, 20, 21, 22, 23] (oi := _) (v := ?_) rfl (by kernel_rfl) (by kernel_rfl) (by kernel_rfl) (by kernel_rfl) (fun _ _ _ h => h) (by kernel_rfl) (Two.same 6) (Two.right (by decide)) ?_ hhX ?_
        rotate_left
        · intro w' hSw
          obtain ⟨s0, s1⟩ := hSw
          go_simp
          try with_reducible rfl
        simp only [Act.put]
        refine wpAnyT_take (i := 7) (fun w' => w'.cell? ⟨w1.heap.size, 1, none⟩ = some (.slice (some ⟨gF, 0, none⟩) os.length oc) ∧ w'.cell? ⟨gF, f * 3 + 2, none⟩ = some (.slice (some ⟨gc, 0, none⟩) (k + 1) (k + 1))) [8, 10, 20, 21, 22, 23] (oi := _) (v := ?_) rfl (by kernel_rfl) (by kernel_rfl) (by kernel_rfl) (by kernel_rfl) (fun _ _ _ h => h) (by kernel_rfl) (Two.same 7) (Two.right (by decide)) ?_ hhX ?_
        rotate_left
        · intro w' hSw
          obtain ⟨s0, s1⟩ := hSw
          go_simp
          try with_reducible rfl
        simp only [Act.put]
        refine wpAnyT_take (i := 8) (fun w' => w'.cell? ⟨w1.heap.size, 1, none⟩ = some (.slice (some ⟨gF, 0, none⟩) os.length oc) ∧ w'.cell? ⟨gF, f * 3 + 2, none⟩ = some (.slice (some ⟨gc, 0, none⟩) (k + 1) (k + 1))) [10, 20, 21, 22, 23] (oi := _) (v := ?_) rfl (by kernel_rfl) (by kernel_rfl) (by kernel_rfl) (by kernel_rfl) (fun _ _ _ h => h) (by kernel_rfl) (Two.same 8) (Two.right (by decide)) ?_ hhX ?_
        rotate_left
        · intro w' hSw
          obtain ⟨s0, s1⟩ := hSw
          go_simp
          try with_reducible rfl
        simp only [Act.put]
        refine wpAnyT_take (i := 9) (fun w' => w'.cell? ⟨w1.heap.size, 1, none⟩ = some (.slice (some ⟨gF, 0, none⟩) os.length oc) ∧ w'.cell? ⟨gF, f * 3 + 2, none⟩ = some (.slice (some ⟨gc, 0, none⟩) (k + 1) (k + 1))) [10, 20, 21, 22, 23] (oi := _) (v := ?_) rfl (by kernel_rfl) (by kernel_rfl) (by kernel_rfl) (by kernel_rfl) (fun _ _ _ h => h) (by kernel_rfl) (Two.same 9) (Two.right (by decide)) ?_ hhX ?_
        rotate_left
        · intro w' hSw
          obtain ⟨s0, s1⟩ := hSw
          go_simp
          try with_reducible rfl
        simp only [Act.put]
        refine wpAnyT_take (i := 10) (fun w' => w'.cell? ⟨w1.heap.size, 1, none⟩ = some (.slice (some ⟨gF, 0, none⟩) os.length oc) ∧ w'.cell? ⟨gF, f * 3 + 2, none⟩ = some (.slice (some ⟨gc, 0, none⟩) (k + 1) (k + 1))) [20, 21, 22, 23] (oi := _) (v := ?_) rfl (by kernel_rfl) (by kernel_rfl) (by kernel_rfl) (by kernel_rfl) (fun _ _ _ h => h) (by kernel_rfl) (Two.same 10) (Two.right (by decide)) ?_ hhX ?_
        rotate_left
        · intro w' hSw
          obtain ⟨s0, s1⟩ := hSw
          go_simp
          try with_reducible rfl
        simp only [Act.put]
        refine wpAnyT_take (i := 11) (fun w' => w'.cell? ⟨w1.heap.size, 1, none⟩ = some (.slice (some ⟨gF, 0, none⟩) os.length oc) ∧ w'.cell? ⟨gF, f * 3 + 2, none⟩ = some (.slice (some ⟨gc, 0, none⟩) (k + 1) (k + 1))) [12, 14, 15, 16, 19, 20, 21, 22, 23] (oi := _) (v := ?_) rfl (by kernel_rfl) (by kernel_rfl) (by kernel_rfl) (by kernel_rfl) (fun _ _ _ h => h) (by kernel_rfl) (Two.same 11) (Two.right (by decide)) ?_ hhX ?_
        rotate_left
        · intro w' hSw
          obtain ⟨s0, s1⟩ := hSw
          go_simp
          try with_reducible rfl
        simp only [Act.put]
        refine wpAnyT_take (i := 12) (fun w' => w'.cell? ⟨w1.heap.size, 1, none⟩ = some (.slice (some ⟨gF, 0, none⟩) os.length oc) ∧ w'.cell? ⟨gF, f * 3 + 2, none⟩ = some (.slice (some ⟨gc, 0, none⟩) (k + 1) (k + 1))) [14, 15, 16, 19, 20, 21, 22, 23] (oi := _) (v := ?_) rfl (by kernel_rfl) (by kernel_rfl) (by kernel_rfl) (by kernel_rfl) (fun _ _ _ h => h) (by kernel_rfl) (Two.same 12) (Two.right (by decide)) ?_ hhX ?_
        rotate_left
        · intro w' hSw
          obtain ⟨s0, s1⟩ := hSw
          go_simp
          try with_reducible rfl
        simp only [Act.put]
        refine wpAnyT_take (i := 13) (fun w' => w'.cell? ⟨w1.heap.size, 1, none⟩ = some (.slice (some ⟨gF, 0, none⟩) os.length oc) ∧ w'.cell? ⟨gF, f * 3 + 2, none⟩ = some (.slice (some ⟨gc, 0, none⟩) (k + 1) (k + 1))) [14, 15, 16, 19, 20, 21, 22, 23] (oi := _) (v := ?_) rfl (by kernel_rfl) (by kernel_rfl) (by kernel_rfl) (by kernel_rfl) (fun _ _ _ h => h) (by kernel_rfl) (Two.same 13) (Two.right (by decide)) ?_ hhX ?_
        rotate_left
        · intro w' hSw
          obtain ⟨s0, s1⟩ := hSw
          go_simp
          try with_reducible rfl
        simp only [Act.put]
        refine wpAnyT_take (i := 14) (fun w' => w'.cell? ⟨w1.heap.size, 1, none⟩ = some (.slice (some ⟨gF, 0, none⟩) os.length oc) ∧ w'.cell? ⟨gF, f * 3 + 2, none⟩ = some (.slice (some ⟨gc, 0, none⟩) (k + 1) (k + 1))) [15, 16, 19, 20, 21, 22, 23] (oi := _) (v := ?_) rfl (by kernel_rfl) (by kernel_rfl) (by kernel_rfl) (by kernel_rfl) (fun _ _ _ h => h) (by kernel_rfl) (Two.same 14) (Two.right (by decide)) ?_ hhX ?_
        rotate_left
        · intro w' hSw
          obtain ⟨s0, s1⟩ := hSw
          go_simp
          try with_reducible rfl
        simp only [Act.put]
        refine wpAnyT_take (i := 15) (fun w' => w'.cell? ⟨w1.heap.size, 1, none⟩ = some (.slice (some ⟨gF, 0, none⟩) os.length oc) ∧ w'.cell? ⟨gF, f * 3 + 2, none⟩ = some (.slice (some ⟨gc, 0, none⟩) (k + 1) (k + 1))) [16, 19, 20, 21, 22, 23] (oi := _) (v := ?_) rfl (by kernel_rfl) (by kernel_rfl) (by kernel_rfl) (by kernel_rfl) (fun _ _ _ h => h) (by kernel_rfl) (Two.same 15) (Two.right (by decide)) ?_ hhX ?_
        rotate_left
        · intro w' hSw
          obtain ⟨s0, s1⟩ := hSw
          go_simp
          try with_reducible rfl
        simp only [Act.put]
        refine wpAnyT_take (i := 16) (fun w' => w'.cell? ⟨w1.heap.size, 1, none⟩ = some (.slice (some ⟨gF, 0, none⟩) os.length oc) ∧ w'.cell? ⟨gF, f * 3 + 2, none⟩ = some (.slice (some ⟨gc, 0, none⟩) (k + 1) (k + 1))) [19, 20, 21, 22, 23] (oi := _) (v := ?_) rfl (by kernel_rfl) (by kernel_rfl) (by kernel_rfl) (by kernel_rfl) (fun _ _ _ h => h) (by kernel_rfl) (Two.same 16) (Two.right (by decide)) ?_ hhX ?_
        rotate_left
        · intro w' hSw
          obtain ⟨s0, s1⟩ := hSw
          go_simp
          try with_reducible rfl
        simp only [Act.put]
        refine wpAnyT_take (i := 17) (fun w' => w'.cell? ⟨w1.heap.size, 1, none⟩ = some (.slice (some ⟨gF, 0, none⟩) os.length oc) ∧ w'.cell? ⟨gF, f * 3 + 2, none⟩ = some (.slice (some ⟨gc, 0, none⟩) (k + 1) (k + 1))) [18, 19, 20, 21, 22, 23] (oi := _) (v := ?_) rfl (by kernel_rfl) (by kernel_rfl) (by kernel_rfl) (by kernel_rfl) (fun _ _ _ h => h) (by kernel_rfl) (Two.same 17) (Two.right (by decide)) ?_ hhX ?_
        rotate_left
        · intro w' hSw
          obtain ⟨s0, s1⟩ := hSw
          go_simp
          try with_reducible rfl
        simp only [Act.put]
        refine wpAnyT_take (i := 18) (fun w' => w'.cell? ⟨w1.heap.size, 1, none⟩ = some (.slice (some ⟨gF, 0, none⟩) os.length oc) ∧ w'.cell? ⟨gF, f * 3 + 2, none⟩ = some (.slice (some ⟨gc, 0, none⟩) (k + 1) (k + 1))) [19, 20, 21, 22, 23] (oi := _) (v := ?_) rfl (by kernel_rfl) (by kernel_rfl) (by kernel_rfl) (by kernel_rfl) (fun _ _ _ h => h) (by kernel_rfl) (Two.same 18) (Two.right (by decide)) ?_ hhX ?_
        rotate_left
        · intro w' hSw
          obtain ⟨s0, s1⟩ := hSw
          go_simp
          try with_reducible rfl
        simp only [Act.put]
        refine wpAnyT_take (i := 19) (fun w' => w'.cell? ⟨w1.heap.size, 1, none⟩ = some (.slice (some ⟨gF, 0, none⟩) os.length oc) ∧ w'.cell? ⟨gF, f * 3 + 2, none⟩ = some (.slice (some ⟨gc, 0, none⟩) (k + 1) (k + 1))) [20, 21, 22, 23] (oi := _) (v := ?_) rfl (by kernel_rfl) (by kernel_rfl) (by kernel_rfl) (by kernel_rfl) (fun _ _ _ h => h) (by kernel_rfl) (Two.same 19) (Two.right (by decide)) ?_ hhX ?_
        rotate_left
        · intro w' hSw
          obtain ⟨s0, s1⟩ := hSw
          go_simp
          try with_reducible rfl
        simp only [Act.put]
        clear hhV hhX
        go_simp
        have HSD5' := HSD5.out
        have HCF' := HCF.out
        have c2D : w5.drew.cell? ⟨gF, f * 3 + 2, none⟩ = some (.slice (some ⟨gc, 0, none⟩) (k + 1) (k + 1)) := c2
        generalize w5.drew = wD at HSD5' HCF' hownP c2D ⊢
        have c9 := block_cell HSD5'.out
        have f9 := block_free HCF'
        have e9 : wD.cell? ⟨gF, f * 3 + 2, none⟩ = some (.slice (some ⟨gc, 0, none⟩) (k + 1) (k + 1)) := c2D
        refine wpAnyT_one (i := 20) (o := _) (by kernel_rfl) rfl (fun K hK => ?_)
        go_simp
        refine hK.out _ _ (⟨fun _ _ => (c9 1).trans rfl, fun h => absurd (by decide) h⟩) ?_
        clear hK K
        refine wpAnyT_one (i := 21) (o := _) (by kernel_rfl) rfl (fun K hK => ?_)
        go_simp
        refine hK.out _ _ (⟨fun h => absurd (by decide) h, fun h => absurd (by decide) h⟩) ?_
        clear hK K
        refine wpAnyT_one (i := 22) (o := _) (by kernel_rfl) rfl (fun K hK => ?_)
        go_simp
        refine hK.out _ _ (⟨fun h => absurd (by decide) h, fun h => absurd (by decide) h⟩) ?_
        clear hK K
        refine wpAnyT_one (i := 23) (o := _) (by kernel_rfl) rfl (fun K hK => ?_)
        go_simp
        refine hK.out _ _ (⟨fun h => absurd (by decide) h, fun h => absurd (by decide) h⟩) ?_
        clear hK K
        refine wpAnyT_done (by kernel_rfl) ?_ _
        obtain ⟨h9, hh9⟩ : ∃ h9 : HF, h9 = ⟨os[f].p, os[f].l, some ⟨gc, 0, none⟩, k, (k + 1)⟩ := ⟨_, rfl⟩
        have hRI9 : RowI wD (w.heap.size + 2) (.slice (some ⟨gc, 0, none⟩) k (k + 1)) k := ⟨_, hownP, fun u hu => hvs7 u (List.mem_of_mem_take hu)⟩
        have hS7 : SP W w (wD.setCell ⟨gF, f * 3 + 2, none⟩ (.slice (some ⟨gc, 0, none⟩) k (k + 1))) C xa bs xc (M + 3) w1.heap.size tb nt td (some ⟨gF, 0, none⟩) oc (os.set f h9) := HSD5'.append hf (fun i hi hne e => HAP.out i f hi hf hne (by rw [e, HOF.out])) (Keeps.refl _ [51] _) (fun _ _ _ => rfl) h9 (by rw [hh9]; exact flat_c hf _ _ _) (by rw [hh9]; exact hRI9) (by rw [hh9]; show k ≤ 60000; omega)
        have HL7 : Hid ((os.set f h9).length = os.length) := List.length_set
        generalize (wD.setCell ⟨gF, f * 3 + 2, none⟩ (.slice (some ⟨gc, 0, none⟩) k (k + 1))) = w7 at hS7 ⊢
        generalize os.set f h9 = os7 at hS7 HL7
        clear hRI9 c9 f9 e9 hownP hvo7 hvo7D ha
        go_simp
        obtain ⟨hd1, hd2⟩ := hS7.done (M' := M + 300) (by omega) (by first | omega | (have := HL7.out; omega)) (by first | omega | (have := HL7.out; omega)) (by omega)
        have z1 := block_cell hS7.out
        have z2 := block_cell hS7.res
        have z3 := block_free hS7.res
        have z4 := block_cell hd1
        have HD : Hid (SpoilPost W w C xa bs xc (M + 300) (.returned (.agg #[.slice tb nt td, .slice (some ⟨gF, 0, none⟩) os7.length oc])) _) := hd2
        clear hd1 hd2 y5 c2
        go_wp2
        exact bodyPost_ret (v := .agg #[.slice tb nt td, .slice (some ⟨gF, 0, none⟩) os7.length oc]) (by simp [results, Tryz.results35, go_sem, z4]) rfl HD.out
      have hfk : ¬ fcc = k + 1 := hfe
      have hownP : w5.drew.ownsRow (w.heap.size + 2) 51 2 (.slice (some ⟨gc, 0, none⟩) k fcc) k (vs7.take (k * 2)) := own_ahead hvo7D (k := k) (by omega)
      have ha : ∀ (p : Option Addr) (c : Nat) (ty : TypeId) (W : World), (Builtin.append_ #[46, 46] ty #[.slice (some ⟨gc, 0, none⟩) k fcc, .slice p 0 c]).run Tryz.prog W = .ok (.slice (some ⟨gc, 0, none⟩) k fcc) W := fun p c ty W => app_none W _ p k fcc c (by omega) ty
      have hkk : (k : Int) ≤ (k : Int) + 1 := by omega
      go_upto_region 19 with fail
      have hhV : (fun w' => w'.cell? ⟨w1.heap.size, 1, none⟩ = some (.slice (some ⟨gF, 0, none⟩) os.length oc)) w5.drew := (y5 1).trans rfl
      have hhX : (fun w' => w'.cell? ⟨w1.heap.size, 1, none⟩ = some (.slice (some ⟨gF, 0, none⟩) os.length oc) ∧ w'.cell? ⟨gF, f * 3 + 2, none⟩ = some (.slice (some ⟨gc, 0, none⟩) (k + 1) fcc)) w5.drew := ⟨(y5 1).trans rfl, c2⟩
      refine wp_region_T (Two (fun w' => w'.cell? ⟨w1.heap.size, 1, none⟩ = some (.slice (some ⟨gF, 0, none⟩) os.length oc)) (fun w' => w'.cell? ⟨w1.heap.size, 1, none⟩ = some (.slice (some ⟨gF, 0, none⟩) os.length oc) ∧ w'.cell? ⟨gF, f * 3 + 2, none⟩ = some (.slice (some ⟨gc, 0, none⟩) (k + 1) fcc)) [21, 22, 23] [20, 21, 22, 23]) (by kernel_rfl) ?_
      refine wpAnyT_take (i := 0) (fun w' => w'.cell? ⟨w1.heap.size, 1, none⟩ = some (.slice (some ⟨gF, 0, none⟩) os.length oc)) [1, 21, 22, 23] (oi := _) (v := ?_) rfl (by kernel_rfl) (by kernel_rfl) (by kernel_rfl) (by kernel_rfl) (fun _ _ _ h => h) (by kernel_rfl) (Two.same 0) (Two.left (by decide)) ?_ hhV ?_
      rotate_left
      · intro w' hSw
        have s0 := hSw
        go_simp
        try with_reducible rfl
      simp only [Act.put, List.setIfInBounds_toArray]
      refine wpAnyT_take (i := 1) (fun w' => w'.cell? ⟨w1.heap.size, 1, none⟩ = some (.slice (some ⟨gF, 0, none⟩) os.length oc)) [21, 22, 23] (oi := _) (v := ?_) rfl (by kernel_rfl) (by kernel_rfl) (by kernel_rfl) (by kernel_rfl) (fun _ _ _ h => h) (by kernel_rfl) (Two.same 1) (Two.left (by decide)) ?_ hhV ?_
      rotate_left
      · intro w' hSw
        have s0 := hSw
        go_simp
        try with_reducible rfl
      simp only [Act.put]
      refine wpAnyT_take (i := 2) (fun w' => w'.cell? ⟨w1.heap.size, 1, none⟩ = some (.slice (some ⟨gF, 0, none⟩) os.length oc)) [21, 22, 23] (oi := _) (v := ?_) rfl (by kernel_rfl) (by kernel_rfl) (by kernel_rfl) (by kernel_rfl) (fun _ _ _ h => h) (by kernel_rfl) (Two.same 2) (Two.left (by decide)) ?_ hhV ?_
      rotate_left
      · intro w' hSw
        have s0 := hSw
        go_simp
        try with_reducible rfl
      simp only [Act.put]
      refine wpAnyT_take (i := 3) (fun w' => w'.cell? ⟨w1.heap.size, 1, none⟩ = some (.slice (some ⟨gF, 0, none⟩) os.length oc) ∧ w'.cell? ⟨gF, f * 3 + 2, none⟩ = some (.slice (some ⟨gc, 0, none⟩) (k + 1) fcc)) [4, 6, 7, 8, 10, 20, 21, 22, 23] (oi := _) (v := ?_) rfl (by kernel_rfl) (by kernel_rfl) (by kernel_rfl) (by kernel_rfl) (fun _ _ _ h => h) (by kernel_rfl) (Two.same 3) (Two.right (by decide)) ?_ hhX ?_
      rotate_left
      · intro w' hSw
        obtain ⟨s0, s1⟩ := hSw
        go_simp
        try with_reducible rfl
      simp only [Act.put]
      refine wpAnyT_take (i := 4) (fun w' => w'.cell? ⟨w1.heap.size, 1, none⟩ = some (.slice (some ⟨gF, 0, none⟩) os.length oc) ∧ w'.cell? ⟨gF, f * 3 + 2, none⟩ = some (.slice (some ⟨gc, 0, none⟩) (k + 1) fcc)) [6, 7, 8, 10, 20, 21, 22, 23] (oi := _) (v := ?_) rfl (by kernel_rfl) (by kernel_rfl) (by kernel_rfl) (by kernel_rfl) (fun _ _ _ h => h) (by kernel_rfl) (Two.same 4) (Two.right (by decide)) ?_ hhX ?_
      rotate_left
      · intro w' hSw
        obtain ⟨s0, s1⟩ := hSw
        go_simp
        try with_reducible rfl
      simp only [Act.put]
      refine wpAnyT_take (i := 5) (fun w' => w'.cell? ⟨w1.heap.size, 1, none⟩ = some (.slice (some ⟨gF, 0, none⟩) os.length oc) ∧ w'.cell? ⟨gF, f * 3 + 2, none⟩ = some (.slice (some ⟨gc, 0, none⟩) (k + 1) fcc)) [6, 7, 8, 10, 20, 21, 22, 23] (oi := _) (v := ?_) rfl (by kernel_rfl) (by kernel_rfl) (by kernel_rfl) (by kernel_rfl) (fun _ _ _ h => h) (by kernel_rfl) (Two.same 5) (Two.right (by decide)) ?_ hhX ?_
      rotate_left
      · intro w' hSw
        obtain ⟨s0, s1⟩ := hSw
        go_simp
        try with_reducible rfl
      simp only [Act.put]
      refine wpAnyT_take (i := 6) (fun w' => w'.cell? ⟨w1.heap.size, 1, none⟩ = some (.slice (some ⟨gF, 0, none⟩) os.length oc) ∧ w'.cell? ⟨gF, f * 3 + 2, none⟩ = some (.slice (some ⟨gc, 0, none⟩) (k + 1) fcc)) [7, 8, 10, 20, 21, 22, 23] (oi := _) (v := ?_) rfl (by kernel_rfl) (by kernel_rfl) (by kernel_rfl) (by kernel_rfl) (fun _ _ _ h => h) (by kernel_rfl) (Two.same 6) (Two.right (by decide)) ?_ hhX ?_
      rotate_left
      · intro w' hSw
        obtain ⟨s0, s1⟩ := hSw
        go_simp
        try with_reducible rfl
      simp only [Act.put]
      refine wpAnyT_take (i := 7) (fun w' => w'.cell? ⟨w1.heap.size, 1, none⟩ = some (.slice (some ⟨gF, 0, none⟩) os.length oc) ∧ w'.cell? ⟨gF, f * 3 + 2, none⟩ = some (.slice (some ⟨gc, 0, none⟩) (k + 1) fcc)) [8, 10, 20, 21, 22, 23] (oi := _) (v := ?_) rfl (by kernel_rfl) (by kernel_rfl) (by kernel_rfl) (by kernel_rfl) (fun _ _ _ h => h) (by kernel_rfl) (Two.same 7) (Two.right (by decide)) ?_ hhX ?_
      rotate_left
      · intro w' hSw
        obtain ⟨s0, s1⟩ := hSw
        go_simp
        try with_reducible rfl
      simp only [Act.put]
      refine wpAnyT_take (i := 8) (fun w' => w'.cell? ⟨w1.heap.size, 1, none⟩ = some (.slice (some ⟨gF, 0, none⟩) os.length oc) ∧ w'.cell? ⟨gF, f * 3 + 2, none⟩ = some (.slice (some ⟨gc, 0, none⟩) (k + 1) fcc)) [10, 20, 21, 22, 23] (oi := _) (v := ?_) rfl (by kernel_rfl) (by kernel_rfl) (by kernel_rfl) (by kernel_rfl) (fun _ _ _ h => h) (by kernel_rfl) (Two.same 8) (Two.right (by decide)) ?_ hhX ?_
      rotate_left
      · intro w' hSw
        obtain ⟨s0, s1⟩ := hSw
        go_simp
        try with_reducible rfl
      simp only [Act.put]
      refine wpAnyT_take (i := 9) (fun w' => w'.cell? ⟨w1.heap.size, 1, none⟩ = some (.slice (some ⟨gF, 0, none⟩) os.length oc) ∧ w'.cell? ⟨gF, f * 3 + 2, none⟩ = some (.slice (some ⟨gc, 0, none⟩) (k + 1) fcc)) [10, 20, 21, 22, 23] (oi := _) (v := ?_) rfl (by kernel_rfl) (by kernel_rfl) (by kernel_rfl) (by kernel_rfl) (fun _ _ _ h => h) (by kernel_rfl) (Two.same 9) (Two.right (by decide)) ?_ hhX ?_
      rotate_left
      · intro w' hSw
        obtain ⟨s0, s1⟩ := hSw
        go_simp
        try with_reducible rfl
      simp only [Act.put]
      refine wpAnyT_take (i := 10) (fun w' => w'.cell? ⟨w1.heap.size, 1, none⟩ = some (.slice (some ⟨gF, 0, none⟩) os.length oc) ∧ w'.cell? ⟨gF, f * 3 + 2, none⟩ = some (.slice (some ⟨gc, 0, none⟩) (k + 1) fcc)) [20, 21, 22, 23] (oi := _) (v := ?_) rfl (by kernel_rfl) (by kernel_rfl) (by kernel_rfl) (by kernel_rfl) (fun _ _ _ h => h) (by kernel_rfl) (Two.same 10) (Two.right (by decide)) ?_ hhX ?_
      rotate_left
      · intro w' hSw
        obtain ⟨s0, s1⟩ := hSw
        go_simp
        try with_reducible rfl
      simp only [Act.put]
      refine wpAnyT_take (i := 11) (fun w' => w'.cell? ⟨w1.heap.size, 1, none⟩ = some (.slice (some ⟨gF, 0, none⟩) os.length oc) ∧ w'.cell? ⟨gF, f * 3 + 2, none⟩ = some (.slice (some ⟨gc, 0, none⟩) (k + 1) fcc)) [12, 14, 15, 16, 19, 20, 21, 22, 23] (oi := _) (v := ?_) rfl (by kernel_rfl) (by kernel_rfl) (by kernel_rfl) (by kernel_rfl) (fun _ _ _ h => h) (by kernel_rfl) (Two.same 11) (Two.right (by decide)) ?_ hhX ?_
      rotate_left
      · intro w' hSw
        obtain ⟨s0, s1⟩ := hSw
        go_simp
        try with_reducible rfl
      simp only [Act.put]
      refine wpAnyT_take (i := 12) (fun w' => w'.cell? ⟨w1.heap.size, 1, none⟩ = some (.slice (some ⟨gF, 0, none⟩) os.length oc) ∧ w'.cell? ⟨gF, f * 3 + 2, none⟩ = some (.slice (some ⟨gc, 0, none⟩) (k + 1) fcc)) [14, 15, 16, 19, 20, 21, 22, 23] (oi := _) (v := ?_) rfl (by kernel_rfl) (by kernel_rfl) (by kernel_rfl) (by kernel_rfl) (fun _ _ _ h => h) (by kernel_rfl) (Two.same 12) (Two.right (by decide)) ?_ hhX ?_
      rotate_left
      · intro w' hSw
        obtain ⟨s0, s1⟩ := hSw
        go_simp
        try with_reducible rfl
      simp only [Act.put]
      refine wpAnyT_take (i := 13) (fun w' => w'.cell? ⟨w1.heap.size, 1, none⟩ = some (.slice (some ⟨gF, 0, none⟩) os.length oc) ∧ w'.cell? ⟨gF, f * 3 + 2, none⟩ = some (.slice (some ⟨gc, 0, none⟩) (k + 1) fcc)) [14, 15, 16, 19, 20, 21, 22, 23] (oi := _) (v := ?_) rfl (by kernel_rfl) (by kernel_rfl) (by kernel_rfl) (by kernel_rfl) (fun _ _ _ h => h) (by kernel_rfl) (Two.same 13) (Two.right (by decide)) ?_ hhX ?_
      rotate_left
      · intro w' hSw
        obtain ⟨s0, s1⟩ := hSw
        go_simp
        try with_reducible rfl
      simp only [Act.put]
      refine wpAnyT_take (i := 14) (fun w' => w'.cell? ⟨w1.heap.size, 1, none⟩ = some (.slice (some ⟨gF, 0, none⟩) os.length oc) ∧ w'.cell? ⟨gF, f * 3 + 2, none⟩ = some (.slice (some ⟨gc, 0, none⟩) (k + 1) fcc)) [15, 16, 19, 20, 21, 22, 23] (oi := _) (v := ?_) rfl (by kernel_rfl) (by kernel_rfl) (by kernel_rfl) (by kernel_rfl) (fun _ _ _ h => h) (by kernel_rfl) (Two.same 14) (Two.right (by decide)) ?_ hhX ?_
      rotate_left
      · intro w' hSw
        obtain ⟨s0, s1⟩ := hSw
        go_simp
        try with_reducible rfl
      simp only [Act.put]
      refine wpAnyT_take (i := 15) (fun w' => w'.cell? ⟨w1.heap.size, 1, none⟩ = some (.slice (some ⟨gF, 0, none⟩) os.length oc) ∧ w'.cell? ⟨gF, f * 3 + 2, none⟩ = some (.slice (some ⟨gc, 0, none⟩) (k + 1) fcc)) [16, 19, 20, 21, 22, 23] (oi := _) (v := ?_) rfl (by kernel_rfl) (by kernel_rfl) (by kernel_rfl) (by kernel_rfl) (fun _ _ _ h => h) (by kernel_rfl) (Two.same 15) (Two.right (by decide)) ?_ hhX ?_
      rotate_left
      · intro w' hSw
        obtain ⟨s0, s1⟩ := hSw
        go_simp
        try with_reducible rfl
      simp only [Act.put]
      refine wpAnyT_take (i := 16) (fun w' => w'.cell? ⟨w1.heap.size, 1, none⟩ = some (.slice (some ⟨gF, 0, none⟩) os.length oc) ∧ w'.cell? ⟨gF, f * 3 + 2, none⟩ = some (.slice (some ⟨gc, 0, none⟩) (k + 1) fcc)) [19, 20, 21, 22, 23] (oi := _) (v := ?_) rfl (by kernel_rfl) (by kernel_rfl) (by kernel_rfl) (by kernel_rfl) (fun _ _ _ h => h) (by kernel_rfl) (Two.same 16) (Two.right (by decide)) ?_ hhX ?_
      rotate_left
      · intro w' hSw
        obtain ⟨s0, s1⟩ := hSw
        go_simp
        try with_reducible rfl
      simp only [Act.put]
      refine wpAnyT_take (i := 17) (fun w' => w'.cell? ⟨w1.heap.size, 1, none⟩ = some (.slice (some ⟨gF, 0, none⟩) os.length oc) ∧ w'.cell? ⟨gF, f * 3 + 2, none⟩ = some (.slice (some ⟨gc, 0, none⟩) (k + 1) fcc)) [18, 19, 20, 21, 22, 23] (oi := _) (v := ?_) rfl (by kernel_rfl) (by kernel_rfl) (by kernel_rfl) (by kernel_rfl) (fun _ _ _ h => h) (by kernel_rfl) (Two.same 17) (Two.right (by decide)) ?_ hhX ?_
      rotate_left
      · intro w' hSw
        obtain ⟨s0, s1⟩ := hSw
        go_simp
        try with_reducible rfl
      simp only [Act.put]
      refine wpAnyT_take (i := 18) (fun w' => w'.cell? ⟨w1.heap.size, 1, none⟩ = some (.slice (some ⟨gF, 0, none⟩) os.length oc) ∧ w'.cell? ⟨gF, f * 3 + 2, none⟩ = some (.slice (some ⟨gc, 0, none⟩) (k + 1) fcc)) [19, 20, 21, 22, 23] (oi := _) (v := ?_) rfl (by kernel_rfl) (by kernel_rfl) (by kernel_rfl) (by kernel_rfl) (fun _ _ _ h => h) (by kernel_rfl) (Two.same 18) (Two.right (by decide)) ?_ hhX ?_
      rotate_left
      · intro w' hSw
        obtain ⟨s0, s1⟩ := hSw
        go_simp
        try with_reducible rfl
      simp only [Act.put]
      refine wpAnyT_take (i := 19) (fun w' => w'.cell? ⟨w1.heap.size, 1, none⟩ = some (.slice (some ⟨gF, 0, none⟩) os.length oc) ∧ w'.cell? ⟨gF, f * 3 + 2, none⟩ = some (.slice (some ⟨gc, 0, none⟩) (k + 1) fcc)) [20, 21, 22, 23] (oi := _) (v := ?_) rfl (by kernel_rfl) (by kernel_rfl) (by kernel_rfl) (by kernel_rfl) (fun _ _ _ h => h) (by kernel_rfl) (Two.same 19) (Two.right (by decide)) ?_ hhX ?_
      rotate_left
      · intro w' hSw
        obtain ⟨s0, s1⟩ := hSw
        go_simp
        try with_reducible rfl
      simp only [Act.put]
      clear hhV hhX
      go_simp
      have HSD5' := HSD5.out
      have HCF' := HCF.out
      have c2D : w5.drew.cell? ⟨gF, f * 3 + 2, none⟩ = some (.slice (some ⟨gc, 0, none⟩) (k + 1) fcc) := c2
      generalize w5.drew = wD at HSD5' HCF' hownP c2D ⊢
      have c9 := block_cell HSD5'.out
      have f9 := block_free HCF'
      have e9 : wD.cell? ⟨gF, f * 3 + 2, none⟩ = some (.slice (some ⟨gc, 0, none⟩) (k + 1) fcc) := c2D
      refine wpAnyT_one (i := 20) (o := _) (by kernel_rfl) rfl (fun K hK => ?_)
      go_simp
      refine hK.out _ _ (⟨fun _ _ => (c9 1).trans rfl, fun h => absurd (by decide) h⟩) ?_
      clear hK K
      refine wpAnyT_one (i := 21) (o := _) (by kernel_rfl) rfl (fun K hK => ?_)
      go_simp
      refine hK.out _ _ (⟨fun h => absurd (by decide) h, fun h => absurd (by decide) h⟩) ?_
      clear hK K
      refine wpAnyT_one (i := 22) (o := _) (by kernel_rfl) rfl (fun K hK => ?_)
      go_simp
      refine hK.out _ _ (⟨fun h => absurd (by decide) h, fun h => absurd (by decide) h⟩) ?_
      clear hK K
      refine wpAnyT_one (i := 23) (o := _) (by kernel_rfl) rfl (fun K hK => ?_)
      go_simp
      refine hK.out _ _ (⟨fun h => absurd (by decide) h, fun h => absurd (by decide) h⟩) ?_
      clear hK K
      refine wpAnyT_done (by kernel_rfl) ?_ _
      obtain ⟨h9, hh9⟩ : ∃ h9 : HF, h9 = ⟨os[f].p, os[f].l, some ⟨gc, 0, none⟩, k, fcc⟩ := ⟨_, rfl⟩
      have hRI9 : RowI wD (w.heap.size + 2) (.slice (some ⟨gc, 0, none⟩) k fcc) k := ⟨_, hownP, fun u hu => hvs7 u (List.mem_of_mem_take hu)⟩
      have hS7 : SP W w (wD.setCell ⟨gF, f * 3 + 2, none⟩ (.slice (some ⟨gc, 0, none⟩) k fcc)) C xa bs xc (M + 3) w1.heap.size tb nt td (some ⟨gF, 0, none⟩) oc (os.set f h9) := HSD5'.append hf (fun i hi hne e => HAP.out i f hi hf hne (by rw [e, HOF.out])) (Keeps.refl _ [51] _) (fun _ _ _ => rfl) h9 (by rw [hh9]; exact flat_c hf _ _ _) (by rw [hh9]; exact hRI9) (by rw [hh9]; show k ≤ 60000; omega)
      have HL7 : Hid ((os.set f h9).length = os.length) := List.length_set
      generalize (wD.setCell ⟨gF, f * 3 + 2, none⟩ (.slice (some ⟨gc, 0, none⟩) k fcc)) = w7 at hS7 ⊢
      generalize os.set f h9 = os7 at hS7 HL7
      clear hRI9 c9 f9 e9 hownP hvo7 hvo7D ha
      go_simp
      obtain ⟨hd1, hd2⟩ := hS7.done (M' := M + 300) (by omega) (by first | omega | (have := HL7.out; omega)) (by first | omega | (have := HL7.out; omega)) (by omega)
      have z1 := block_cell hS7.out
      have z2 := block_cell hS7.res
      have z3 := block_free hS7.res
      have z4 := block_cell hd1
      have HD : Hid (SpoilPost W w C xa bs xc (M + 300) (.returned (.agg #[.slice tb nt td, .slice (some ⟨gF, 0, none⟩) os7.length oc])) _) := hd2
      clear hd1 hd2 y5 c2
      go_wp2
      exact bodyPost_ret (v := .agg #[.slice tb nt td, .slice (some ⟨gF, 0, none⟩) os7.length oc]) (by simp [results, Tryz.results35, go_sem, z4]) rfl HD.out
    have hfk : ¬ fcc = k + 1 := by omega
    have hownP := own_ahead hvo7D (k := k) (by omega)
    have HNW : Hid (∀ (j : Nat) (u : Value), (vs7.drop ((k + 1) * 2))[j]? = some u → w5.drew.cell? ((⟨gc, (k + 1) * 2, none⟩ : Addr).add j) = some u) := own_behind hvo7D (by omega)
    have HN1 : Hid (∀ u ∈ vs7.drop ((k + 1) * 2), u.oneCell' = true) := fun u hu => by obtain ⟨z, rfl⟩ := hvs7 u (List.mem_of_mem_drop hu); rfl
    have HNL : Hid ((vs7.drop ((k + 1) * 2)).length = (fn - (k + 1)) * 2) := by show _ = _; rw [List.length_drop]; omega
    go_upto_region 19 with fail
    have hhV : (fun w' => w'.cell? ⟨w1.heap.size, 1, none⟩ = some (.slice (some ⟨gF, 0, none⟩) os.length oc)) w5.drew := (y5 1).trans rfl
    have hhX : (fun w' => w'.cell? ⟨w1.heap.size, 1, none⟩ = some (.slice (some ⟨gF, 0, none⟩) os.length oc) ∧ w'.cell? ⟨gF, f * 3 + 2, none⟩ = some (.slice (some ⟨gc, 0, none⟩) fn fcc)) w5.drew := ⟨(y5 1).trans rfl, c2⟩
    refine wp_region_T (Two (fun w' => w'.cell? ⟨w1.heap.size, 1, none⟩ = some (.slice (some ⟨gF, 0, none⟩) os.length oc)) (fun w' => w'.cell? ⟨w1.heap.size, 1, none⟩ = some (.slice (some ⟨gF, 0, none⟩) os.length oc) ∧ w'.cell? ⟨gF, f * 3 + 2, none⟩ = some (.slice (some ⟨gc, 0, none⟩) fn fcc)) [21, 22, 23] [20, 21, 22, 23]) (by kernel_rfl) ?_
    refine wpAnyT_take (i := 0) (fun w' => w'.cell? ⟨w1.heap.size, 1, none⟩ = some (.slice (some ⟨gF, 0, none⟩) os.length oc)) [1, 21, 22, 23] (oi := _) (v := ?_) rfl (by kernel_rfl) (by kernel_rfl) (by kernel_rfl) (by kernel_rfl) (fun _ _ _ h => h) (by kernel_rfl) (Two.same 0) (Two.left (by decide)) ?_ hhV ?_
    rotate_left
    · intro w' hSw
      have s0 := hSw
      go_simp
      try with_reducible rfl
    simp only [Act.put, List.setIfInBounds_toArray]
    refine wpAnyT_take (i := 1) (fun w' => w'.cell? ⟨w1.heap.size, 1, none⟩ = some (.slice (some ⟨gF, 0, none⟩) os.length oc)) [21, 22, 23] (oi := _) (v := ?_) rfl (by kernel_rfl) (by kernel_rfl) (by kernel_rfl) (by kernel_rfl) (fun _ _ _ h => h) (by kernel_rfl) (Two.same 1) (Two.left (by decide)) ?_ hhV ?_
    rotate_left
    · intro w' hSw
      have s0 := hSw
      go_simp
      try with_reducible rfl
    simp only [Act.put]
    refine wpAnyT_take (i := 2) (fun w' => w'.cell? ⟨w1.heap.size, 1, none⟩ = some (.slice (some ⟨gF, 0, none⟩) os.length oc)) [21, 22, 23] (oi := _) (v := ?_) rfl (by kernel_rfl) (by kernel_rfl) (by kernel_rfl) (by kernel_rfl) (fun _ _ _ h => h) (by kernel_rfl) (Two.same 2) (Two.left (by decide)) ?_ hhV ?_
    rotate_left
    · intro w' hSw
      have s0 := hSw
      go_simp
      try with_reducible rfl
    simp only [Act.put]
    refine wpAnyT_take (i := 3) (fun w' => w'.cell? ⟨w1.heap.size, 1, none⟩ = some (.slice (some ⟨gF, 0, none⟩) os.length oc) ∧ w'.cell? ⟨gF, f * 3 + 2, none⟩ = some (.slice (some ⟨gc, 0, none⟩) fn fcc)) [4, 6, 7, 8, 10, 20, 21, 22, 23] (oi := _) (v := ?_) rfl (by kernel_rfl) (by kernel_rfl) (by kernel_rfl) (by kernel_rfl) (fun _ _ _ h => h) (by kernel_rfl) (Two.same 3) (Two.right (by decide)) ?_ hhX ?_
    rotate_left
    · intro w' hSw
      obtain ⟨s0, s1⟩ := hSw
      go_simp
      try with_reducible rfl
    simp only [Act.put]
    refine wpAnyT_take (i := 4) (fun w' => w'.cell? ⟨w1.heap.size, 1, none⟩ = some (.slice (some ⟨gF, 0, none⟩) os.length oc) ∧ w'.cell? ⟨gF, f * 3 + 2, none⟩ = some (.slice (some ⟨gc, 0, none⟩) fn fcc)) [6, 7, 8, 10, 20, 21, 22, 23] (oi := _) (v := ?_) rfl (by kernel_rfl) (by kernel_rfl) (by kernel_rfl) (by kernel_rfl) (fun _ _ _ h => h) (by kernel_rfl) (Two.same 4) (Two.right (by decide)) ?_ hhX ?_
    rotate_left
    · intro w' hSw
      obtain ⟨s0, s1⟩ := hSw
      go_simp
      try with_reducible rfl
    simp only [Act.put]
    refine wpAnyT_take (i := 5) (fun w' => w'.cell? ⟨w1.heap.size, 1, none⟩ = some (.slice (some ⟨gF, 0, none⟩) os.length oc) ∧ w'.cell? ⟨gF, f * 3 + 2, none⟩ = some (.slice (some ⟨gc, 0, none⟩) fn fcc)) [6, 7, 8, 10, 20, 21, 22, 23] (oi := _) (v := ?_) rfl (by kernel_rfl) (by kernel_rfl) (by kernel_rfl) (by kernel_rfl) (fun _ _ _ h => h) (by kernel_rfl) (Two.same 5) (Two.right (by decide)) ?_ hhX ?_
    rotate_left
    · intro w' hSw
      obtain ⟨s0, s1⟩ := hSw
      go_simp
      try with_reducible rfl
    simp only [Act.put]
    refine wpAnyT_take (i := 6) (fun w' => w'.cell? ⟨w1.heap.size, 1, none⟩ = some (.slice (some ⟨gF, 0, none⟩) os.length oc) ∧ w'.cell? ⟨gF, f * 3 + 2, none⟩ = some (.slice (some ⟨gc, 0, none⟩) fn fcc)) [7, 8, 10, 20, 21, 22, 23] (oi := _) (v := ?_) rfl (by kernel_rfl) (by kernel_rfl) (by kernel_rfl) (by kernel_rfl) (fun _ _ _ h => h) (by kernel_rfl) (Two.same 6) (Two.right (by decide)) ?_ hhX ?_
    rotate_left
    · intro w' hSw
      obtain ⟨s0, s1⟩ := hSw
      go_simp
      try with_reducible rfl
    simp only [Act.put]
    refine wpAnyT_take (i := 7) (fun w' => w'.cell? ⟨w1.heap.size, 1, none⟩ = some (.slice (some ⟨gF, 0, none⟩) os.length oc) ∧ w'.cell? ⟨gF, f * 3 + 2, none⟩ = some (.slice (some ⟨gc, 0, none⟩) fn fcc)) [8, 10, 20, 21, 22, 23] (oi := _) (v := ?_) rfl (by kernel_rfl) (by kernel_rfl) (by kernel_rfl) (by kernel_rfl) (fun _ _ _ h => h) (by kernel_rfl) (Two.same 7) (Two.right (by decide)) ?_ hhX ?_
    rotate_left
    · intro w' hSw
      obtain ⟨s0, s1⟩ := hSw
      go_simp
      try with_reducible rfl
    simp only [Act.put]
    refine wpAnyT_take (i := 8) (fun w' => w'.cell? ⟨w1.heap.size, 1, none⟩ = some (.slice (some ⟨gF, 0, none⟩) os.length oc) ∧ w'.cell? ⟨gF, f * 3 + 2, none⟩ = some (.slice (some ⟨gc, 0, none⟩) fn fcc)) [10, 20, 21, 22, 23] (oi := _) (v := ?_) rfl (by kernel_rfl) (by kernel_rfl) (by kernel_rfl) (by kernel_rfl) (fun _ _ _ h => h) (by kernel_rfl) (Two.same 8) (Two.right (by decide)) ?_ hhX ?_
    rotate_left
    · intro w' hSw
      obtain ⟨s0, s1⟩ := hSw
      go_simp
      try with_reducible rfl
    simp only [Act.put]
    refine wpAnyT_take (i := 9) (fun w' => w'.cell? ⟨w1.heap.size, 1, none⟩ = some (.slice (some ⟨gF, 0, none⟩) os.length oc) ∧ w'.cell? ⟨gF, f * 3 + 2, none⟩ = some (.slice (some ⟨gc, 0, none⟩) fn fcc)) [10, 20, 21, 22, 23] (oi := _) (v := ?_) rfl (by kernel_rfl) (by kernel_rfl) (by kernel_rfl) (by kernel_rfl) (fun _ _ _ h => h) (by kernel_rfl) (Two.same 9) (Two.right (by decide)) ?_ hhX ?_
    rotate_left
    · intro w' hSw
      obtain ⟨s0, s1⟩ := hSw
      go_simp
      try with_reducible rfl
    simp only [Act.put]
    refine wpAnyT_take (i := 10) (fun w' => w'.cell? ⟨w1.heap.size, 1, none⟩ = some (.slice (some ⟨gF, 0, none⟩) os.length oc) ∧ w'.cell? ⟨gF, f * 3 + 2, none⟩ = some (.slice (some ⟨gc, 0, none⟩) fn fcc)) [20, 21, 22, 23] (oi := _) (v := ?_) rfl (by kernel_rfl) (by kernel_rfl) (by kernel_rfl) (by kernel_rfl) (fun _ _ _ h => h) (by kernel_rfl) (Two.same 10) (Two.right (by decide)) ?_ hhX ?_
    rotate_left
    · intro w' hSw
      obtain ⟨s0, s1⟩ := hSw
      go_simp
      try with_reducible rfl
    simp only [Act.put]
    refine wpAnyT_take (i := 11) (fun w' => w'.cell? ⟨w1.heap.size, 1, none⟩ = some (.slice (some ⟨gF, 0, none⟩) os.length oc) ∧ w'.cell? ⟨gF, f * 3 + 2, none⟩ = some (.slice (some ⟨gc, 0, none⟩) fn fcc)) [12, 14, 15, 16, 19, 20, 21, 22, 23] (oi := _) (v := ?_) rfl (by kernel_rfl) (by kernel_rfl) (by kernel_rfl) (by kernel_rfl) (fun _ _ _ h => h) (by kernel_rfl) (Two.same 11) (Two.right (by decide)) ?_ hhX ?_
    rotate_left
    · intro w' hSw
      obtain ⟨s0, s1⟩ := hSw
      go_simp
      try with_reducible rfl
    simp only [Act.put]
    refine wpAnyT_take (i := 12) (fun w' => w'.cell? ⟨w1.heap.size, 1, none⟩ = some (.slice (some ⟨gF, 0, none⟩) os.length oc) ∧ w'.cell? ⟨gF, f * 3 + 2, none⟩ = some (.slice (some ⟨gc, 0, none⟩) fn fcc)) [14, 15, 16, 19, 20, 21, 22, 23] (oi := _) (v := ?_) rfl (by kernel_rfl) (by kernel_rfl) (by kernel_rfl) (by kernel_rfl) (fun _ _ _ h => h) (by kernel_rfl) (Two.same 12) (Two.right (by decide)) ?_ hhX ?_
    rotate_left
    · intro w' hSw
      obtain ⟨s0, s1⟩ := hSw
      go_simp
      try with_reducible rfl
    simp only [Act.put]
    refine wpAnyT_take (i := 13) (fun w' => w'.cell? ⟨w1.heap.size, 1, none⟩ = some (.slice (some ⟨gF, 0, none⟩) os.length oc) ∧ w'.cell? ⟨gF, f * 3 + 2, none⟩ = some (.slice (some ⟨gc, 0, none⟩) fn fcc)) [14, 15, 16, 19, 20, 21, 22, 23] (oi := _) (v := ?_) rfl (by kernel_rfl) (by kernel_rfl) (by kernel_rfl) (by kernel_rfl) (fun _ _ _ h => h) (by kernel_rfl) (Two.same 13) (Two.right (by decide)) ?_ hhX ?_
    rotate_left
    · intro w' hSw
      obtain ⟨s0, s1⟩ := hSw
      go_simp
      try with_reducible rfl
    simp only [Act.put]
    refine wpAnyT_take (i := 14) (fun w' => w'.cell? ⟨w1.heap.size, 1, none⟩ = some (.slice (some ⟨gF, 0, none⟩) os.length oc) ∧ w'.cell? ⟨gF, f * 3 + 2, none⟩ = some (.slice (some ⟨gc, 0, none⟩) fn fcc)) [15, 16, 19, 20, 21, 22, 23] (oi := _) (v := ?_) rfl (by kernel_rfl) (by kernel_rfl) (by kernel_rfl) (by kernel_rfl) (fun _ _ _ h => h) (by kernel_rfl) (Two.same 14) (Two.right (by decide)) ?_ hhX ?_
    rotate_left
    · intro w' hSw
      obtain ⟨s0, s1⟩ := hSw
      go_simp
      try with_reducible rfl
    simp only [Act.put]
    refine wpAnyT_take (i := 15) (fun w' => w'.cell? ⟨w1.heap.size, 1, none⟩ = some (.slice (some ⟨gF, 0, none⟩) os.length oc) ∧ w'.cell? ⟨gF, f * 3 + 2, none⟩ = some (.slice (some ⟨gc, 0, none⟩) fn fcc)) [16, 19, 20, 21, 22, 23] (oi := _) (v := ?_) rfl (by kernel_rfl) (by kernel_rfl) (by kernel_rfl) (by kernel_rfl) (fun _ _ _ h => h) (by kernel_rfl) (Two.same 15) (Two.right (by decide)) ?_ hhX ?_
    rotate_left
    · intro w' hSw
      obtain ⟨s0, s1⟩ := hSw
      go_simp
      try with_reducible rfl
    simp only [Act.put]
    refine wpAnyT_take (i := 16) (fun w' => w'.cell? ⟨w1.heap.size, 1, none⟩ = some (.slice (some ⟨gF, 0, none⟩) os.length oc) ∧ w'.cell? ⟨gF, f * 3 + 2, none⟩ = some (.slice (some ⟨gc, 0, none⟩) fn fcc)) [19, 20, 21, 22, 23] (oi := _) (v := ?_) rfl (by kernel_rfl) (by kernel_rfl) (by kernel_rfl) (by kernel_rfl) (fun _ _ _ h => h) (by kernel_rfl) (Two.same 16) (Two.right (by decide)) ?_ hhX ?_
    rotate_left
    · intro w' hSw
      obtain ⟨s0, s1⟩ := hSw
      go_simp
      try with_reducible rfl
    simp only [Act.put]
    refine wpAnyT_take (i := 17) (fun w' => w'.cell? ⟨w1.heap.size, 1, none⟩ = some (.slice (some ⟨gF, 0, none⟩) os.length oc) ∧ w'.cell? ⟨gF, f * 3 + 2, none⟩ = some (.slice (some ⟨gc, 0, none⟩) fn fcc)) [18, 19, 20, 21, 22, 23] (oi := _) (v := ?_) rfl (by kernel_rfl) (by kernel_rfl) (by kernel_rfl) (by kernel_rfl) (fun _ _ _ h => h) (by kernel_rfl) (Two.same 17) (Two.right (by decide)) ?_ hhX ?_
    rotate_left
    · intro w' hSw
      obtain ⟨s0, s1⟩ := hSw
      go_simp
      try with_reducible rfl
    simp only [Act.put]
    refine wpAnyT_take (i := 18) (fun w' => w'.cell? ⟨w1.heap.size, 1, none⟩ = some (.slice (some ⟨gF, 0, none⟩) os.length oc) ∧ w'.cell? ⟨gF, f * 3 + 2, none⟩ = some (.slice (some ⟨gc, 0, none⟩) fn fcc)) [19, 20, 21, 22, 23] (oi := _) (v := ?_) rfl (by kernel_rfl) (by kernel_rfl) (by kernel_rfl) (by kernel_rfl) (fun _ _ _ h => h) (by kernel_rfl) (Two.same 18) (Two.right (by decide)) ?_ hhX ?_
    rotate_left
    · intro w' hSw
      obtain ⟨s0, s1⟩ := hSw
      go_simp
      try with_reducible rfl
    simp only [Act.put]
    refine wpAnyT_take (i := 19) (fun w' => w'.cell? ⟨w1.heap.size, 1, none⟩ = some (.slice (some ⟨gF, 0, none⟩) os.length oc) ∧ w'.cell? ⟨gF, f * 3 + 2, none⟩ = some (.slice (some ⟨gc, 0, none⟩) fn fcc)) [20, 21, 22, 23] (oi := _) (v := ?_) rfl (by kernel_rfl) (by kernel_rfl) (by kernel_rfl) (by kernel_rfl) (fun _ _ _ h => h) (by kernel_rfl) (Two.same 19) (Two.right (by decide)) ?_ hhX ?_
    rotate_left
    · intro w' hSw
      obtain ⟨s0, s1⟩ := hSw
      go_simp
      try with_reducible rfl
    simp only [Act.put]
    clear hhV hhX
    go_simp
    refine wpAnyT_one (i := 20) (o := _) (by kernel_rfl) rfl (fun K hK => ?_)
    refine step_append_lies _ (by rfl) _ _ _ (by rfl) (w.heap.size + 2) 51 i40 (.agg #[.int .i64 0, .int .i64 0]) 2 16 Tryz.underlying46 hi40 hv0 hv1 hv2 rfl (by decide) _ _ _ (by rfl) hownP ⟨gc, (k + 1) * 2, none⟩ (fn - (k + 1)) (fcc - (k + 1)) (vs7.drop ((k + 1) * 2)) (by rfl) HNL.out HNW.out HN1.out (by omega) (by unfold maxLen; omega) (by omega) (by have := HSD5.out.size; omega) w5.heap.size (by rfl) ?_
    intro g8 cp8 w8 hown9 hgrow9 hat9 hlt9
    have hk9 := Keeps.grown (ts := [51]) hownP hgrow9 (by simp)
    have c9 := block_cell (hk9.cell HSD5.out.out (by simp))
    have hF9 := hk9.cell HCF.out (by simp)
    have f9 := block_free hF9
    have e9 : w8.cell? ⟨gF, f * 3 + 2, none⟩ = some (.slice (some ⟨gc, 0, none⟩) fn fcc) := (World.cell?_of_block (a := ⟨gF, f * 3 + 2, none⟩) (hF9.trans HCF.out.symm)).trans c2
    refine hK.out _ _ (⟨fun _ _ => (c9 1).trans rfl, fun h => absurd (by decide) h⟩) ?_
    clear hK K
    simp only [Act.put, List.setIfInBounds_toArray]
    refine wpAnyT_one (i := 21) (o := _) (by kernel_rfl) rfl (fun K hK => ?_)
    go_simp
    refine hK.out _ _ (⟨fun h => absurd (by decide) h, fun h => absurd (by decide) h⟩) ?_
    clear hK K
    refine wpAnyT_one (i := 22) (o := _) (by kernel_rfl) rfl (fun K hK => ?_)
    go_simp
    refine hK.out _ _ (⟨fun h => absurd (by decide) h, fun h => absurd (by decide) h⟩) ?_
    clear hK K
    refine wpAnyT_one (i := 23) (o := _) (by kernel_rfl) rfl (fun K hK => ?_)
    go_simp
    refine hK.out _ _ (⟨fun h => absurd (by decide) h, fun h => absurd (by decide) h⟩) ?_
    clear hK K
    refine wpAnyT_done (by kernel_rfl) ?_ _
    obtain ⟨h9, hh9⟩ : ∃ h9 : HF, h9 = ⟨os[f].p, os[f].l, some ⟨g8, 0, none⟩, k + (fn - (k + 1)), cp8⟩ := ⟨_, rfl⟩
    have hbl9 : ∀ q, q < w5.drew.heap.size → q ≠ gc → w8.heap[q]? = w5.drew.heap[q]? := fun q hq hne => hgrow9.block q hq (fun e => hne (by simpa [Value.ownBlock] using e))
    have hRI9 : RowI w8 (w.heap.size + 2) (.slice (some ⟨g8, 0, none⟩) (k + (fn - (k + 1))) cp8) (k + (fn - (k + 1))) := ⟨_, hown9, fun u hu => by
      rcases List.mem_append.1 hu with hu | hu
      · exact hvs7 u (List.mem_of_mem_take hu)
      · exact hvs7 u (List.mem_of_mem_drop hu)⟩
    have hS7 : SP W w (w8.setCell ⟨gF, f * 3 + 2, none⟩ (.slice (some ⟨g8, 0, none⟩) (k + (fn - (k + 1))) cp8)) C xa bs xc (M + 3) w1.heap.size tb nt td (some ⟨gF, 0, none⟩) oc (os.set f h9) := HSD5.out.append hf (fun i hi hne e => HAP.out i f hi hf hne (by rw [e, HOF.out])) hk9 hbl9 h9 (by rw [hh9]; exact flat_c hf _ _ _) (by rw [hh9]; exact hRI9) (by rw [hh9]; show k + (fn - (k + 1)) ≤ 60000; omega)
    have HL7 : Hid ((os.set f h9).length = os.length) := List.length_set
    generalize (w8.setCell ⟨gF, f * 3 + 2, none⟩ (.slice (some ⟨g8, 0, none⟩) (k + (fn - (k + 1))) cp8)) = w7 at hS7 ⊢
    generalize os.set f h9 = os7 at hS7 HL7
    clear hbl9 hRI9 hown9 hgrow9 hk9 c9 hF9 f9 e9 hownP hvo7 hvo7D wk
    go_simp
    obtain ⟨hd1, hd2⟩ := hS7.done (M' := M + 300) (by omega) (by first | omega | (have := HL7.out; omega)) (by first | omega | (have := HL7.out; omega)) (by omega)
    have z1 := block_cell hS7.out
    have z2 := block_cell hS7.res
    have z3 := block_free hS7.res
    have z4 := block_cell hd1
    have HD : Hid (SpoilPost W w C xa bs xc (M + 300) (.returned (.agg #[.slice tb nt td, .slice (some ⟨gF, 0, none⟩) os7.length oc])) _) := hd2
    clear hd1 hd2 y5 c2
    go_wp2
    exact bodyPost_ret (v := .agg #[.slice tb nt td, .slice (some ⟨gF, 0, none⟩) os7.length oc]) (by simp [results, Tryz.results35, go_sem, z4]) rfl HD.out
  have hcI2 := HRI.out
  obtain ⟨vs7, hvo7, hvs7⟩ := hcI2
  obtain ⟨gq, hgq, -, -, -, hcc7⟩ := own_cells hvo7 (by omega)
  cases hgq
  have hvl7 := hvo7.1
  obtain ⟨xo, hxo⟩ := hvs7 vs7[k * 2] (List.getElem_mem (by omega))
  obtain ⟨xv, hxv⟩ := hvs7 vs7[k * 2 + 1] (List.getElem_mem (by omega))
  have cx0 := hcc7 (k * 2) (.int .i64 xo) (by rw [List.getElem?_eq_getElem (by omega), hxo])
  have cx1 := hcc7 (k * 2 + 1) (.int .i64 xv) (by rw [List.getElem?_eq_getElem (by omega), hxv])
  clear hxo hxv hvl7 hvo7 hvs7 hcc7
  obtain ⟨Xb, hXb⟩ : ∃ Xb, Xb = w5.heap.size := ⟨_, rfl⟩
  obtain ⟨w6, hw6⟩ : ∃ w6, w6 = w5.alloc (.cells #[.int .i64 xo, .int .i64 xv] 51) := ⟨_, rfl⟩
  have hbX : Below w5.heap.size w5 w6 := by rw [hw6]; exact (Below.refl _ _).alloc (Nat.le_refl _) _
  have hXh : w6.heap[Xb]? = some (.cells #[.int .i64 xo, .int .i64 xv] 51 (0, 0)) := by rw [hw6, hXb]; exact block_new _ _ _
  have hS6 := HS5.out.later hbX
  have hne6 : gc ≠ Xb := by rw [hXb]; omega
  have h5sz := HS5.out.size
  have HXC : Hid (C < Xb ∧ w.heap.size + 2 < Xb) := by show _ ∧ _; rw [hXb]; omega
  have HXb : Hid (Xb = w5.heap.size) := hXb
  have HW6 : Hid (w6 = w5.alloc (.cells #[.int .i64 xo, .int .i64 xv] 51)) := hw6
  clear hXb hw6 hbX HSD
  have n0 : ¬ rs = 0 := e0
  go_wp2
  rw [← HW6.out, ← HXb.out]
  clear cx0 cx1 y5 c2
  have b0 : (rs == (0 : Int)) = false := beq_false_of_ne e0
  have b1 : (rs == (1 : Int)) = false := beq_false_of_ne e1
  have b2 : (rs == (2 : Int)) = false := beq_false_of_ne e2
  have b3 : (rs == (3 : Int)) = false := beq_false_of_ne e3
  have b4 : (rs == (4 : Int)) = false := beq_false_of_ne e4
  have b5 : (rs == (5 : Int)) = false := beq_false_of_ne e5
  have b6 : (rs == (6 : Int)) = false := beq_false_of_ne e6
  simp only [b0, b1, b2, b3, b4, b5, b6]
  clear b0 b1 b2 b3 b4 b5 b6
  go_loopw [] (fun wr => ∃ (gs : List HF) (gd gcc j : Nat), gs.length = os.length ∧ j ≤ 121 ∧ (∃ h : f < gs.length, gs[f] = ⟨fp, fl, some ⟨gd, 0, none⟩, fn + j, gcc⟩) ∧ (0 < j → fn + j ≤ 121) ∧ SP W w wr C xa bs xc (M + 3 + j) w1.heap.size tb nt td (some ⟨gF, 0, none⟩) oc gs ∧ wr.heap[Xb]? = some (.cells #[.int .i64 xo, .int .i64 xv] 51 (0, 0)) ∧ gd ≠ Xb ∧ Hid (∀ (i : Nat) (hi : i < gs.length), i ≠ f → gs[i].ca ≠ some ⟨gd, 0, none⟩)) (fun wr => 60200 - lenOf (wr.cell? ⟨gF, f * 3 + 2, none⟩))
  case atStart => exact ⟨os, gc, fcc, 0, rfl, by omega, ⟨hf, HOF.out⟩, fun h => absurd h (by omega), hS6, hXh, hne6, fun i hi hne e => HAP.out i f hi hf hne (by rw [e, HOF.out])⟩
  case round =>
    obtain ⟨gs, gd, gcc, j, hgl, hj, ⟨hfg, hgf⟩, hj2, hSr, hXr, hgx, hap7⟩ := hrel
    have HGF : Hid (gs[f] = ⟨fp, fl, some ⟨gd, 0, none⟩, fn + j, gcc⟩) := hgf
    have c2 := hSr.c2 hfg hgf
    have HSR : Hid (SP W w wr C xa bs xc (M + 3 + j) w1.heap.size tb nt td (some ⟨gF, 0, none⟩) oc gs) := hSr
    have HSRD : Hid (SP W w wr.drew C xa bs xc (M + 3 + j) w1.heap.size tb nt td (some ⟨gF, 0, none⟩) oc gs) := hSr.later (Below.refl wr.heap.size wr).drew
    have y5 := block_cell hSr.out
    have HLO : Hid (lenOf (wr.cell? ⟨gF, f * 3 + 2, none⟩) = fn + j) := by show _ = _; rw [c2]; rfl
    have HXR : Hid (wr.heap[Xb]? = some (.cells #[.int .i64 xo, .int .i64 xv] 51 (0, 0))) := hXr
    have HGL : Hid (gs.length = os.length) := hgl
    have hfi0 : (0 : Int) ≤ (f : Int) := by omega
    have hfi : (f : Int) < (gs.length : Int) := by omega
    clear hS6 hXh hne6 hSr hXr hgf
    go_upto_region 6 with fail
    go_region_held3 (fun w' => w'.cell? ⟨w1.heap.size, 1, none⟩ = some (.slice (some ⟨gF, 0, none⟩) gs.length oc) ∧ w'.cell? ⟨gF, f * 3 + 2, none⟩ = some (.slice (some ⟨gd, 0, none⟩) (fn + j) gcc))
      (first | exact ⟨(y5 1).trans rfl, c2⟩ | exact ⟨(y7 1).trans rfl, c7⟩)
      (first
        | (go_at_call 30; refine (pick_any W C xc _ xa bs _ _ HSRD.out.cur (by omega)).mono ?_; rintro e w7 ⟨r7, rfl, r70, r71, hC7, hP7⟩; have hS7 := HSRD.out.px hC7 hP7; have y7 := block_cell hS7.out; have c7 := hS7.c2 hfg HGF.out; have hX7 : w7.heap[Xb]? = some (.cells #[.int .i64 xo, .int .i64 xv] 51 (0, 0)) := (by rw [hP7.block _ (by have := HXC.out.1; omega)]; exact HXR.out); have wv : IntKind.i64.wrap (120 + r7) = 120 + r7 := (by rw [IntKind.wrap_i64]; omega)))
    have HS7 : Hid (SP W w w7 C xa bs xc (M + 3 + j + 1) w1.heap.size tb nt td (some ⟨gF, 0, none⟩) oc gs) := hS7
    have HX7 : Hid (w7.heap[Xb]? = some (.cells #[.int .i64 xo, .int .i64 xv] 51 (0, 0))) := hX7
    clear y5 c2 hC7 hP7
    by_cases hlt : ((fn + j : Nat) : Int) < 120 + r7
    case neg =>
      have hge : ¬ ((fn : Int) + (j : Int)) < 120 + r7 := by omega
      clear y7 c7 hS7 hX7
      have hSz := HS7.out
      have HL7 : Hid (gs.length = os.length) := HGL.out
      clear hgl
      obtain ⟨hd1, hd2⟩ := hSz.done (M' := M + 300) (by omega) (by first | omega | (have := HL7.out; omega)) (by first | omega | (have := HL7.out; omega)) (by omega)
      have z1 := block_cell hSz.out
      have z2 := block_cell hSz.res
      have z3 := block_free hSz.res
      have z4 := block_cell hd1
      have HD : Hid (SpoilPost W w C xa bs xc (M + 300) (.returned (.agg #[.slice tb nt td, .slice (some ⟨gF, 0, none⟩) gs.length oc])) _) := hd2
      clear hd1 hd2
      go_wp2
      exact bodyPost_ret (v := .agg #[.slice tb nt td, .slice (some ⟨gF, 0, none⟩) gs.length oc]) (by simp [results, Tryz.results35, go_sem, z4]) rfl HD.out
    have hlt' : ((fn : Int) + (j : Int)) < 120 + r7 := by omega
    have hcI7 := (HS7.out.funcs.code gs[f] (List.getElem_mem hfg)).1
    rw [HGF.out] at hcI7
    obtain ⟨vs8, hown8, hvs8⟩ := hcI7
    dsimp only at hown8
    have hx7 := block_cell hX7
    have hs7z := HS7.out.size
    have hbe7 : Below w7.heap.size w7 (w7.alloc (.cells #[.int .i64 xo, .int .i64 xv] 51)).drew := ((Below.refl w7.heap.size w7).alloc (Nat.le_refl _) (.cells #[.int .i64 xo, .int .i64 xv] 51)).drew
    have HSA : Hid (SP W w (w7.alloc (.cells #[.int .i64 xo, .int .i64 xv] 51)).drew C xa bs xc (M + 3 + j + 1) w1.heap.size tb nt td (some ⟨gF, 0, none⟩) oc gs) := HS7.out.later hbe7
    have hXA := block_kept HX7.out hbe7
    have HXA : Hid ((w7.alloc (.cells #[.int .i64 xo, .int .i64 xv] 51)).drew.heap[Xb]? = some (.cells #[.int .i64 xo, .int .i64 xv] 51 (0, 0))) := hXA
    have yA := block_cell HSA.out.out
    have cA := HSA.out.c2 hfg HGF.out
    have xA := block_cell hXA
    have hown8A : (w7.alloc (.cells #[.int .i64 xo, .int .i64 xv] 51)).drew.ownsRow (w.heap.size + 2) 51 2 (.slice (some ⟨gd, 0, none⟩) (fn + j) gcc) (fn + j) vs8 := World.ownsRow.alloc hown8 _
    obtain ⟨gq, hgq, -, -, ⟨cF, hcF⟩, -⟩ := own_cells HSA.out.funcs.own (by omega)
    cases hgq
    have HCF : Hid ((w7.alloc (.cells #[.int .i64 xo, .int .i64 xv] 51)).drew.heap[gF]? = some (.cells cF 48 (0, 0))) := hcF
    clear hS7 hX7 hXA hbe7 hcF
    go_upto_region 7 with fail
    have hhV : (fun w' => w'.cell? ⟨w1.heap.size, 1, none⟩ = some (.slice (some ⟨gF, 0, none⟩) gs.length oc)) w7.drew := (y7 1).trans rfl
    have hhX : (fun w' => w'.cell? ⟨gF, f * 3 + 2, none⟩ = some (.slice (some ⟨gd, 0, none⟩) (fn + j) gcc) ∧ w'.cell? ⟨Xb, 0, none⟩ = some (.int .i64 xo) ∧ w'.cell? ⟨Xb, 1, none⟩ = some (.int .i64 xv)) w7.drew := ⟨c7, (hx7 0).trans rfl, (hx7 1).trans rfl⟩
    refine wp_region_T (Two (fun w' => w'.cell? ⟨w1.heap.size, 1, none⟩ = some (.slice (some ⟨gF, 0, none⟩) gs.length oc)) (fun w' => w'.cell? ⟨gF, f * 3 + 2, none⟩ = some (.slice (some ⟨gd, 0, none⟩) (fn + j) gcc) ∧ w'.cell? ⟨Xb, 0, none⟩ = some (.int .i64 xo) ∧ w'.cell? ⟨Xb, 1, none⟩ = some (.int .i64 xv)) [12, 13, 14] [11, 12, 13, 14]) (by kernel_rfl) ?_
    refine wpAnyT_take (i := 0) (fun w' => w'.cell? ⟨w1.heap.size, 1, none⟩ = some (.slice (some ⟨gF, 0, none⟩) gs.length oc)) [1, 12, 13, 14] (oi := _) (v := ?_) rfl (by kernel_rfl) (by kernel_rfl) (by kernel_rfl) (by kernel_rfl) (fun _ _ _ h => h) (by kernel_rfl) (Two.same 0) (Two.left (by decide)) ?_ hhV ?_
    rotate_left
    · intro w' hSw
      have s0 := hSw
      go_simp
      try with_reducible rfl
    simp only [Act.put, List.setIfInBounds_toArray]
    refine wpAnyT_take (i := 1) (fun w' => w'.cell? ⟨w1.heap.size, 1, none⟩ = some (.slice (some ⟨gF, 0, none⟩) gs.length oc)) [12, 13, 14] (oi := _) (v := ?_) rfl (by kernel_rfl) (by kernel_rfl) (by kernel_rfl) (by kernel_rfl) (fun _ _ _ h => h) (by kernel_rfl) (Two.same 1) (Two.left (by decide)) ?_ hhV ?_
    rotate_left
    · intro w' hSw
      have s0 := hSw
      go_simp
      try with_reducible rfl
    simp only [Act.put]
    refine wpAnyT_take (i := 2) (fun w' => w'.cell? ⟨w1.heap.size, 1, none⟩ = some (.slice (some ⟨gF, 0, none⟩) gs.length oc)) [12, 13, 14] (oi := _) (v := ?_) rfl (by kernel_rfl) (by kernel_rfl) (by kernel_rfl) (by kernel_rfl) (fun _ _ _ h => h) (by kernel_rfl) (Two.same 2) (Two.left (by decide)) ?_ hhV ?_
    rotate_left
    · intro w' hSw
      have s0 := hSw
      go_simp
      try with_reducible rfl
    simp only [Act.put]
    refine wpAnyT_take (i := 3) (fun w' => w'.cell? ⟨w1.heap.size, 1, none⟩ = some (.slice (some ⟨gF, 0, none⟩) gs.length oc)) [4, 6, 7, 8, 11, 12, 13, 14] (oi := _) (v := ?_) rfl (by kernel_rfl) (by kernel_rfl) (by kernel_rfl) (by kernel_rfl) (fun _ _ _ h => h) (by kernel_rfl) (Two.same 3) (Two.left (by decide)) ?_ hhV ?_
    rotate_left
    · intro w' hSw
      have s0 := hSw
      go_simp
      try with_reducible rfl
    simp only [Act.put]
    refine wpAnyT_take (i := 4) (fun w' => w'.cell? ⟨w1.heap.size, 1, none⟩ = some (.slice (some ⟨gF, 0, none⟩) gs.length oc)) [6, 7, 8, 11, 12, 13, 14] (oi := _) (v := ?_) rfl (by kernel_rfl) (by kernel_rfl) (by kernel_rfl) (by kernel_rfl) (fun _ _ _ h => h) (by kernel_rfl) (Two.same 4) (Two.left (by decide)) ?_ hhV ?_
    rotate_left
    · intro w' hSw
      have s0 := hSw
      go_simp
      try with_reducible rfl
    simp only [Act.put]
    refine wpAnyT_take (i := 5) (fun w' => w'.cell? ⟨w1.heap.size, 1, none⟩ = some (.slice (some ⟨gF, 0, none⟩) gs.length oc)) [6, 7, 8, 11, 12, 13, 14] (oi := _) (v := ?_) rfl (by kernel_rfl) (by kernel_rfl) (by kernel_rfl) (by kernel_rfl) (fun _ _ _ h => h) (by kernel_rfl) (Two.same 5) (Two.left (by decide)) ?_ hhV ?_
    rotate_left
    · intro w' hSw
      have s0 := hSw
      go_simp
      try with_reducible rfl
    simp only [Act.put]
    refine wpAnyT_take (i := 6) (fun w' => w'.cell? ⟨w1.heap.size, 1, none⟩ = some (.slice (some ⟨gF, 0, none⟩) gs.length oc)) [7, 8, 11, 12, 13, 14] (oi := _) (v := ?_) rfl (by kernel_rfl) (by kernel_rfl) (by kernel_rfl) (by kernel_rfl) (fun _ _ _ h => h) (by kernel_rfl) (Two.same 6) (Two.left (by decide)) ?_ hhV ?_
    rotate_left
    · intro w' hSw
      have s0 := hSw
      go_simp
      try with_reducible rfl
    simp only [Act.put]
    refine wpAnyT_take (i := 7) (fun w' => w'.cell? ⟨w1.heap.size, 1, none⟩ = some (.slice (some ⟨gF, 0, none⟩) gs.length oc)) [8, 11, 12, 13, 14] (oi := _) (v := ?_) rfl (by kernel_rfl) (by kernel_rfl) (by kernel_rfl) (by kernel_rfl) (fun _ _ _ h => h) (by kernel_rfl) (Two.same 7) (Two.left (by decide)) ?_ hhV ?_
    rotate_left
    · intro w' hSw
      have s0 := hSw
      go_simp
      try with_reducible rfl
    simp only [Act.put]
    refine wpAnyT_take (i := 8) (fun w' => w'.cell? ⟨gF, f * 3 + 2, none⟩ = some (.slice (some ⟨gd, 0, none⟩) (fn + j) gcc) ∧ w'.cell? ⟨Xb, 0, none⟩ = some (.int .i64 xo) ∧ w'.cell? ⟨Xb, 1, none⟩ = some (.int .i64 xv)) [11, 12, 13, 14] (oi := _) (v := ?_) rfl (by kernel_rfl) (by kernel_rfl) (by kernel_rfl) (by kernel_rfl) (fun _ _ _ h => h) (by kernel_rfl) (Two.same 8) (Two.right (by decide)) ?_ hhX ?_
    rotate_left
    · intro w' hSw
      obtain ⟨s0, s1, s2⟩ := hSw
      go_simp
      try with_reducible rfl
    simp only [Act.put]
    refine wpAnyT_take (i := 9) (fun w' => w'.cell? ⟨gF, f * 3 + 2, none⟩ = some (.slice (some ⟨gd, 0, none⟩) (fn + j) gcc) ∧ w'.cell? ⟨Xb, 0, none⟩ = some (.int .i64 xo) ∧ w'.cell? ⟨Xb, 1, none⟩ = some (.int .i64 xv)) [10, 11, 12, 13, 14] (oi := _) (v := ?_) rfl (by kernel_rfl) (by kernel_rfl) (by kernel_rfl) (by kernel_rfl) (fun _ _ _ h => h) (by kernel_rfl) (Two.same 9) (Two.right (by decide)) ?_ hhX ?_
    rotate_left
    · intro w' hSw
      obtain ⟨s0, s1, s2⟩ := hSw
      go_simp
      try with_reducible rfl
    simp only [Act.put]
    clear hhV hhX y7 c7 hx7
    refine wpAnyT_one (i := 10) (o := _) (by kernel_rfl) rfl (fun K hK => ?_)
    go_simp
    refine hK.out _ _ (⟨fun _ _ => (yA 1).trans rfl, fun _ _ => ⟨cA, (xA 0).trans rfl, (xA 1).trans rfl⟩⟩) ?_
    clear hK K
    refine wpAnyT_one (i := 11) (o := _) (by kernel_rfl) rfl (fun K hK => ?_)
    refine step_append_lies _ (by rfl) _ _ _ (by rfl) (w.heap.size + 2) 51 i40 (.agg #[.int .i64 0, .int .i64 0]) 2 16 Tryz.underlying46 hi40 hv0 hv1 hv2 rfl (by decide) _ _ _ (by rfl) hown8A ⟨w7.heap.size, 0, none⟩ 1 1 [.int .i64 xo, .int .i64 xv] (by rfl) (by rfl) (World.news_of_block (cs := #[.int .i64 xo, .int .i64 xv]) (t := 51) (fr := (0, 0)) (heap_alloc_new w7 _)) (by simp [Value.oneCell']) (by decide) (by unfold maxLen; omega) (by omega) (by simp; omega) (w7.heap.size + 1) (by simp) ?_
    intro g8 cp8 w8 hown9 hgrow9 hat9 hlt9
    have hk9 := Keeps.grown (ts := [51]) hown8A hgrow9 (by simp)
    have c9 := block_cell (hk9.cell HSA.out.out (by simp))
    have hF9 := hk9.cell HCF.out (by simp)
    have f9 := block_free hF9
    have e9 : w8.cell? ⟨gF, f * 3 + 2, none⟩ = some (.slice (some ⟨gd, 0, none⟩) (fn + j) gcc) := (World.cell?_of_block (a := ⟨gF, f * 3 + 2, none⟩) (hF9.trans HCF.out.symm)).trans cA
    refine hK.out _ _ (⟨fun _ _ => (c9 1).trans rfl, fun h => absurd (by decide) h⟩) ?_
    clear hK K
    simp only [Act.put, List.setIfInBounds_toArray]
    refine wpAnyT_one (i := 12) (o := _) (by kernel_rfl) rfl (fun K hK => ?_)
    go_simp
    refine hK.out _ _ (⟨fun h => absurd (by decide) h, fun h => absurd (by decide) h⟩) ?_
    clear hK K
    refine wpAnyT_one (i := 13) (o := _) (by kernel_rfl) rfl (fun K hK => ?_)
    go_simp
    refine hK.out _ _ (⟨fun h => absurd (by decide) h, fun h => absurd (by decide) h⟩) ?_
    clear hK K
    refine wpAnyT_one (i := 14) (o := _) (by kernel_rfl) rfl (fun K hK => ?_)
    go_simp
    refine hK.out _ _ (⟨fun h => absurd (by decide) h, fun h => absurd (by decide) h⟩) ?_
    clear hK K
    refine wpAnyT_done (by kernel_rfl) ?_ _
    obtain ⟨h9, hh9⟩ : ∃ h9 : HF, h9 = ⟨gs[f].p, gs[f].l, some ⟨g8, 0, none⟩, fn + j + 1, cp8⟩ := ⟨_, rfl⟩
    have hbl9 : ∀ q, q < (w7.alloc (.cells #[.int .i64 xo, .int .i64 xv] 51)).drew.heap.size → q ≠ gd → w8.heap[q]? = (w7.alloc (.cells #[.int .i64 xo, .int .i64 xv] 51)).drew.heap[q]? := fun q hq hne => hgrow9.block q hq (fun e => hne (by simpa [Value.ownBlock] using e))
    have hRI9 : RowI w8 (w.heap.size + 2) (.slice (some ⟨g8, 0, none⟩) (fn + j + 1) cp8) (fn + j + 1) := ⟨_, hown9, fun u hu => by
      rcases List.mem_append.1 hu with hu | hu
      · exact hvs8 u hu
      · simp at hu
        rcases hu with rfl | rfl <;> exact ⟨_, rfl⟩⟩
    have hS9 : SP W w (w8.setCell ⟨gF, f * 3 + 2, none⟩ (.slice (some ⟨g8, 0, none⟩) (fn + j + 1) cp8)) C xa bs xc (M + 3 + j + 1) w1.heap.size tb nt td (some ⟨gF, 0, none⟩) oc (gs.set f h9) := HSA.out.append hfg hap7.out hk9 hbl9 h9 (by rw [hh9]; exact flat_c hfg _ _ _) (by rw [hh9]; exact hRI9) (by rw [hh9]; show fn + j + 1 ≤ 60000; omega)
    have hgf9 : ∃ h : f < (gs.set f h9).length, (gs.set f h9)[f] = ⟨fp, fl, some ⟨g8, 0, none⟩, fn + (j + 1), cp8⟩ := ⟨by rw [List.length_set]; exact hfg, by rw [List.getElem_set_self, hh9, HGF.out]; rfl⟩
    have hX9 : (w8.setCell ⟨gF, f * 3 + 2, none⟩ (.slice (some ⟨g8, 0, none⟩) (fn + j + 1) cp8)).heap[Xb]? = some (.cells #[.int .i64 xo, .int .i64 xv] 51 (0, 0)) := by
      rw [Below.heap_setCell _ _ _ _ (fun e => by have q := HXA.out; rw [e, HCF.out] at q; cases q), hbl9 Xb (lt_block HXA.out) (Ne.symm hgx)]
      exact HXA.out
    have hg8 : g8 = gd ∨ g8 = w7.heap.size + 1 := by
      rcases hat9 with h | h
      · left; simpa [Value.ownBlock] using h.symm
      · exact .inr h
    have hgx9 : g8 ≠ Xb := by
      have := lt_block HX7.out
      rcases hg8 with h | h
      · rw [h]; exact hgx
      · omega
    have hap9 : Hid (∀ (i : Nat) (hi : i < (gs.set f h9).length), i ≠ f → (gs.set f h9)[i].ca ≠ some ⟨g8, 0, none⟩) := fun i hi hne e => by
      rw [List.getElem_set_ne (Ne.symm hne)] at e
      have hi' : i < gs.length := by simpa using hi
      rcases hg8 with h | h
      · rw [h] at e; exact hap7.out i hi' hne e
      · have := (HS7.out.funcs.code gs[i] (List.getElem_mem hi')).1.inside e
        omega
    have HME : Hid (lenOf ((w8.setCell ⟨gF, f * 3 + 2, none⟩ (.slice (some ⟨g8, 0, none⟩) (fn + j + 1) cp8)).cell? ⟨gF, f * 3 + 2, none⟩) = fn + (j + 1)) := by show _ = _; rw [hS9.c2 hgf9.1 hgf9.2]; rfl
    have HS9 : Hid (SP W w (w8.setCell ⟨gF, f * 3 + 2, none⟩ (.slice (some ⟨g8, 0, none⟩) (fn + j + 1) cp8)) C xa bs xc (M + 3 + (j + 1)) w1.heap.size tb nt td (some ⟨gF, 0, none⟩) oc (gs.set f h9)) := hS9
    have HX9 : Hid ((w8.setCell ⟨gF, f * 3 + 2, none⟩ (.slice (some ⟨g8, 0, none⟩) (fn + j + 1) cp8)).heap[Xb]? = some (.cells #[.int .i64 xo, .int .i64 xv] 51 (0, 0))) := hX9
    have HGF9 : Hid (∃ h : f < (gs.set f h9).length, (gs.set f h9)[f] = ⟨fp, fl, some ⟨g8, 0, none⟩, fn + (j + 1), cp8⟩) := hgf9
    have HGL9 : Hid ((gs.set f h9).length = os.length) := by show _ = _; rw [List.length_set]; exact HGL.out
    generalize (w8.setCell ⟨gF, f * 3 + 2, none⟩ (.slice (some ⟨g8, 0, none⟩) (fn + j + 1) cp8)) = w9 at HS9 HX9 HME ⊢
    clear hS9 hX9 hgf9 hbl9 hRI9 hown9 hgrow9 hk9 c9 hF9 f9 e9 yA cA xA hown8A hown8 hgl
    go_simp
    go_wp2
    go_roundw
    case rel => exact ⟨gs.set f h9, g8, cp8, j + 1, HGL9.out, by omega, HGF9.out, fun _ => by omega, HS9.out, HX9.out, hgx9, hap9⟩
    case measure => rw [HLO.out, HME.out]; omega
end Go.Proofs.YtpmkfdinkomaiaaGreatDoor
