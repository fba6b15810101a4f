/-
  A watcher joins a site, tells, is made.
-/
import Derived.Test.YtlohoolimejihaaGreatZC
namespace Go.Proofs.YtlohoolimejihaaGreat
open Go.RowKit

def cellsW (W : Wt) : Array Value := if W.c = true then #[.int .i64 W.x, .int .i64 W.o, .int .i64 W.t] else #[.int .i64 W.x, .int .i64 W.o]
def tyW (W : Wt) : TypeId := if W.c = true then 201 else 204
/-- A watcher in memory. -/
def WAt (w : World) (W : Wt) : Prop := w.heap[W.g]? = some (.cells (cellsW W) (tyW W) (0, 0))
theorem two_cells {cs : Array Value} {a b : Value} (h : cs.size = 2) (h0 : cs[0]? = some a) (h1 : cs[1]? = some b) : cs = #[a, b] := by
  apply Array.ext_getElem?
  intro i
  rcases i with _ | _ | i
  · rw [h0]; rfl
  · rw [h1]; rfl
  · rw [Array.getElem?_eq_none (by omega), Array.getElem?_eq_none (by simp)]
theorem three_cells {cs : Array Value} {a b c : Value} (h : cs.size = 3) (h0 : cs[0]? = some a) (h1 : cs[1]? = some b) (h2 : cs[2]? = some c) : cs = #[a, b, c] := by
  apply Array.ext_getElem?
  intro i
  rcases i with _ | _ | _ | i
  · rw [h0]; rfl
  · rw [h1]; rfl
  · rw [h2]; rfl
  · rw [Array.getElem?_eq_none (by omega), Array.getElem?_eq_none (by simp)]
def JoinPost (W : Wt) (s : Si) (w : World) : Ending → World → Prop := fun e w' => (∃ v, e = .returned v) ∧ WAt w' (joinW W s) ∧ But W.g w w'

set_option maxRecDepth 100000 in
set_option maxHeartbeats 2000000 in
theorem joinNum_any (W : Wt) (s : Si) (w : World) (hc : W.c = false) (h : WAt w W) (ho : OkW 1000 W) :
    Calls Tryz.prog 185 #[.pointer (some ⟨W.g, 0, none⟩), .agg #[.int .i64 s.f, .int .i64 s.pc, .int .i64 s.seen, .int .i64 s.target]] w (JoinPost W s w) := by
  have hb0 : w.heap[W.g]? = some (.cells #[.int .i64 W.x, .int .i64 W.o] 204 (0, 0)) := by unfold WAt cellsW tyW at h; rw [hc] at h; exact h
  have hJ : joinW W s = { W with x := cntX s.seen W.x, o := cntO s.seen W.o } := by unfold joinW; rw [hc]; rfl
  have hlt := lt_sizez hb0
  obtain ⟨wA, hwA⟩ : ∃ wA, wA = w.alloc (.cells #[.int .i64 s.f, .int .i64 s.pc, .int .i64 s.seen, .int .i64 s.target] 68) := ⟨_, rfl⟩
  have hbA : Below w.heap.size w wA := by rw [hwA]; exact (Below.refl _ _).alloc (Nat.le_refl _) _
  have hX : wA.heap[w.heap.size]? = some (.cells #[.int .i64 s.f, .int .i64 s.pc, .int .i64 s.seen, .int .i64 s.target] 68 (0, 0)) := by rw [hwA]; exact block_new _ _ _
  have HC : Hid (Calls Tryz.prog 180 #[.pointer (some ⟨W.g, 0, none⟩), .int .i64 s.seen] wA.drew fun e w' => (∃ v, e = .returned v) ∧ CntPost W.g #[.int .i64 W.x, .int .i64 W.o] 204 s.seen W.x W.o wA.drew w') := count_any W.g s.seen W.x W.o _ 204 wA.drew (block_kept hb0 hbA.drew) rfl rfl ⟨ho.1, by have := ho.2.1; omega⟩ ⟨ho.2.2.1, by have := ho.2.2.2; omega⟩
  have HJ := hidz hJ
  have HCC := hidz hc
  have HBA := hidz hbA
  have x2 : wA.cell? ⟨w.heap.size, 2, none⟩ = some (.int .i64 s.seen) := by rw [block_cell hX]; rfl
  have HLT := hidz hlt
  have HX := hidz hX
  clear hb0 hJ hbA hc h ho hlt hX
  go_enter Tryz.func185, Tryz.ntmps185
  go_upto_region 1 with fail
  rw [← hwA]
  clear hwA
  have hh : (fun w' : World => w'.cell? ⟨w.heap.size, 2, none⟩ = some (.int .i64 s.seen)) _ := x2
  refine h_begin (fun w' : World => w'.cell? ⟨w.heap.size, 2, none⟩ = some (.int .i64 s.seen)) (by kernel_rfl) ?_
  refine h_take (i := 0) (oi := _) (v := ?_) rfl (by kernel_rfl) (by kernel_rfl) (by kernel_rfl) (fun _ _ _ h => h) (by kernel_rfl) ?_ hh ?_
  rotate_left
  · intro w' hSw
    have x2 := hSw
    go_simp
    try with_reducible rfl
  simp only [Act.put, List.setIfInBounds_toArray]
  refine h_take (i := 1) (oi := _) (v := ?_) rfl (by kernel_rfl) (by kernel_rfl) (by kernel_rfl) (fun _ _ _ h => h) (by kernel_rfl) ?_ hh ?_
  rotate_left
  · intro w' hSw
    have x2 := hSw
    go_simp
    try with_reducible rfl
  simp only [Act.put]
  refine h_take (i := 2) (oi := _) (v := ?_) rfl (by kernel_rfl) (by kernel_rfl) (by kernel_rfl) (fun _ _ _ h => h) (by kernel_rfl) ?_ hh ?_
  rotate_left
  · intro w' hSw
    have x2 := hSw
    go_simp
    try with_reducible rfl
  simp only [Act.put]
  refine h_take (i := 3) (oi := _) (v := ?_) rfl (by kernel_rfl) (by kernel_rfl) (by kernel_rfl) (fun _ _ _ h => h) (by kernel_rfl) ?_ hh ?_
  rotate_left
  · intro w' hSw
    have x2 := hSw
    go_simp
    try with_reducible rfl
  simp only [Act.put]
  refine h_take (i := 4) (oi := _) (v := ?_) rfl (by kernel_rfl) (by kernel_rfl) (by kernel_rfl) (fun _ _ _ h => h) (by kernel_rfl) ?_ hh ?_
  rotate_left
  · intro w' hSw
    have x2 := hSw
    go_simp
    try with_reducible rfl
  simp only [Act.put]
  refine h_one (i := 5) (o := _) (by kernel_rfl) rfl (fun K hK => ?_)
  go_simp
  go_at_call 180
  refine HC.out.mono ?_
  rintro e wB ⟨⟨vr, rfl⟩, hP⟩
  have HR : Hid (WAt wB (joinW W s) ∧ But W.g w wB) := by
    obtain ⟨cs', h1, h2, h3, h4, -, h5⟩ := hP
    refine ⟨?_, (But.of_below (HBA.out.drew)).trans h5⟩
    unfold WAt
    rw [HJ.out]
    unfold cellsW tyW
    simp only [HCC.out]
    rw [h1, two_cells h2 h3 h4]
    rfl
  have hh5 : wB.cell? ⟨w.heap.size, 2, none⟩ = some (.int .i64 s.seen) := by
    obtain ⟨cs', h1, h2, h3, h4, -, h5⟩ := hP
    rw [block_cell (h5.kept (show w.heap.size ≠ W.g by have := HLT.out; omega) HX.out)]
    rfl
  clear hP HC
  have hh : (fun w' : World => w'.cell? ⟨w.heap.size, 2, none⟩ = some (.int .i64 s.seen)) _ := hh5
  refine hK.out _ _ hh ?_
  clear hK K
  try simp only [Act.put]
  refine wpAnyH_done (by kernel_rfl) ?_ _
  go_end0
  unfold JoinPost
  exact ⟨⟨_, rfl⟩, HR.out⟩

set_option maxRecDepth 100000 in
set_option maxHeartbeats 4000000 in
theorem joinCall_any (W : Wt) (s : Si) (w : World) (hc : W.c = true) (h : WAt w W) (ho : OkW 1000 W) :
    Calls Tryz.prog 181 #[.pointer (some ⟨W.g, 0, none⟩), .agg #[.int .i64 s.f, .int .i64 s.pc, .int .i64 s.seen, .int .i64 s.target]] w (JoinPost W s w) := by
  have hb0 : w.heap[W.g]? = some (.cells #[.int .i64 W.x, .int .i64 W.o, .int .i64 W.t] 201 (0, 0)) := by unfold WAt cellsW tyW at h; rw [hc] at h; exact h
  have hlt := lt_sizez hb0
  have hne : w.heap.size ≠ W.g := by omega
  have hne2 : W.g ≠ w.heap.size := by omega
  obtain ⟨wA, hwA⟩ : ∃ wA, wA = w.alloc (.cells #[.int .i64 s.f, .int .i64 s.pc, .int .i64 s.seen, .int .i64 s.target] 68) := ⟨_, rfl⟩
  have hbA : Below w.heap.size w wA := by rw [hwA]; exact (Below.refl _ _).alloc (Nat.le_refl _) _
  have hX : wA.heap[w.heap.size]? = some (.cells #[.int .i64 s.f, .int .i64 s.pc, .int .i64 s.seen, .int .i64 s.target] 68 (0, 0)) := by rw [hwA]; exact block_new _ _ _
  have hG := block_kept hb0 hbA
  have HN : Hid (Calls Tryz.prog 183 #[.pointer (some ⟨W.g, 0, none⟩)] wA fun e w' => e = .returned (.bool (decide (W.x = 0 ∧ W.o = 0))) ∧ w' = wA) := none_any W.g W.x W.o wA (by rw [block_cell hG]; rfl) (by rw [block_cell hG]; rfl)
  -- behind the first test: the target is the one that fits
  obtain ⟨T, hT⟩ : ∃ T, T = tgtJ W s := ⟨_, rfl⟩
  have HT := hidz hT
  clear hT
  have HKB : Hid (∀ (wB : World) (sn : Int), wB.heap[W.g]? = some (.cells #[.int .i64 W.x, .int .i64 W.o, .int .i64 T] 201 (0, 0)) → But W.g w wB → sn = seenJ W s → Calls Tryz.prog 180 #[.pointer (some ⟨W.g, 0, none⟩), .int .i64 sn] wB fun e w' => (∃ v, e = .returned v) ∧ WAt w' (joinW W s) ∧ But W.g w w' ∧ But W.g wB w') := by
    intro wB sn hg hbt hsn
    subst hsn
    refine (count_any W.g (seenJ W s) W.x W.o _ 201 wB hg rfl rfl ⟨ho.1, by have := ho.2.1; omega⟩ ⟨ho.2.2.1, by have := ho.2.2.2; omega⟩).mono ?_
    rintro e w' ⟨hv, cs', h1, h2, h3, h4, h5, h6⟩
    refine ⟨hv, ?_, hbt.trans h6, h6⟩
    have e1 := three_cells (c := .int .i64 T) h2 h3 h4 (by rw [h5 2 (Nat.le_refl _)]; rfl)
    unfold WAt joinW cellsW tyW
    simp only [hc, if_true]
    rw [h1, e1, HT.out]
  have HBA : Hid (But W.g w wA) := But.of_below hbA
  have HX := hidz hX
  have HG := hidz hG
  clear hb0 hbA h ho hlt hc hX hG
  go_enter Tryz.func181, Tryz.ntmps181
  go_wp2_with fail
  rw [← hwA]
  clear hwA
  refine HN.out.mono ?_
  rintro e w1 ⟨rfl, rfl⟩
  by_cases hz : W.x = 0 ∧ W.o = 0
  · rw [decide_eq_true hz]
    have hTs : T = s.target := by rw [HT.out]; unfold tgtJ; rw [if_pos hz]
    subst hTs
    have x3 : w1.cell? ⟨w.heap.size, 3, none⟩ = some (.int .i64 s.target) := by rw [block_cell HX.out]; rfl
    have hfz : w1.frozen? ⟨W.g, 2, none⟩ = false := block_free HG.out 2
    have hcz : w1.cell? ⟨W.g, 2, none⟩ = some (.int .i64 W.t) := by rw [block_cell HG.out]; rfl
    obtain ⟨wB, hwB⟩ : ∃ wB, wB = w1.setCell ⟨W.g, 2, none⟩ (.int .i64 s.target) := ⟨_, rfl⟩
    have HGB : Hid (wB.heap[W.g]? = some (.cells #[.int .i64 W.x, .int .i64 W.o, .int .i64 s.target] 201 (0, 0))) := by rw [hwB]; exact block_set HG.out _
    have HXB : Hid (wB.heap[w.heap.size]? = some (.cells #[.int .i64 s.f, .int .i64 s.pc, .int .i64 s.seen, .int .i64 s.target] 68 (0, 0))) := by rw [hwB]; show _ = _; rw [Below.heap_setCell _ _ _ _ hne]; exact HX.out
    have HBB : Hid (But W.g w wB) := by rw [hwB]; exact HBA.out.trans (But.setCell _ _ _ _)
    have HSN : Hid (s.seen = seenJ W s) := by show _ = _; unfold seenJ; rw [if_pos HT.out]
    go_upto_region 3 with fail
    rw [← hwB]
    clear hwB hfz hcz x3 HX HG HBA
    have y3 : wB.cell? ⟨w.heap.size, 3, none⟩ = some (.int .i64 s.target) := by rw [block_cell HXB.out]; rfl
    have z3 : wB.cell? ⟨W.g, 2, none⟩ = some (.int .i64 s.target) := by rw [block_cell HGB.out]; rfl
    have z0 := block_cell HGB.out
    go_quiet (fail)
    clear y3 z3 z0
    go_upto_region 5 with fail
    obtain ⟨wq, hwq⟩ : ∃ wq, wq = wB.drewN nq := ⟨_, rfl⟩
    have hbq : Below wB.heap.size wB wq := by rw [hwq]; exact below_draws (Below.refl _ _) nq
    have HGQ := hidz (block_kept HGB.out hbq)
    have HXQ := hidz (block_kept HXB.out hbq)
    have HBQ := hidz (HBB.out.trans (But.of_below hbq))
    rw [← hwq]
    clear hwq hbq
    have x2 : wq.cell? ⟨w.heap.size, 2, none⟩ = some (.int .i64 s.seen) := by rw [block_cell HXQ.out]; rfl
    have hh : (fun w' : World => w'.cell? ⟨w.heap.size, 2, none⟩ = some (.int .i64 s.seen)) _ := x2
    refine h_begin (fun w' : World => w'.cell? ⟨w.heap.size, 2, none⟩ = some (.int .i64 s.seen)) (by kernel_rfl) ?_
    refine h_take (i := 0) (oi := _) (v := ?_) rfl (by kernel_rfl) (by kernel_rfl) (by kernel_rfl) (fun _ _ _ h => h) (by kernel_rfl) ?_ hh ?_
    rotate_left
    · intro w' hSw
      have x2 := hSw
      go_simp
      try with_reducible rfl
    simp only [Act.put, List.setIfInBounds_toArray]
    refine h_take (i := 1) (oi := _) (v := ?_) rfl (by kernel_rfl) (by kernel_rfl) (by kernel_rfl) (fun _ _ _ h => h) (by kernel_rfl) ?_ hh ?_
    rotate_left
    · intro w' hSw
      have x2 := hSw
      go_simp
      try with_reducible rfl
    simp only [Act.put]
    refine h_take (i := 2) (oi := _) (v := ?_) rfl (by kernel_rfl) (by kernel_rfl) (by kernel_rfl) (fun _ _ _ h => h) (by kernel_rfl) ?_ hh ?_
    rotate_left
    · intro w' hSw
      have x2 := hSw
      go_simp
      try with_reducible rfl
    simp only [Act.put]
    refine h_take (i := 3) (oi := _) (v := ?_) rfl (by kernel_rfl) (by kernel_rfl) (by kernel_rfl) (fun _ _ _ h => h) (by kernel_rfl) ?_ hh ?_
    rotate_left
    · intro w' hSw
      have x2 := hSw
      go_simp
      try with_reducible rfl
    simp only [Act.put]
    refine h_take (i := 4) (oi := _) (v := ?_) rfl (by kernel_rfl) (by kernel_rfl) (by kernel_rfl) (fun _ _ _ h => h) (by kernel_rfl) ?_ hh ?_
    rotate_left
    · intro w' hSw
      have x2 := hSw
      go_simp
      try with_reducible rfl
    simp only [Act.put]
    refine h_one (i := 5) (o := _) (by kernel_rfl) rfl (fun K hK => ?_)
    go_simp
    go_at_call 180
    refine (HKB.out wq.drew s.seen HGQ.out (HBQ.out.trans (But.of_below (Below.refl _ _).drew)) HSN.out).mono ?_
    rintro e wC ⟨⟨vr, rfl⟩, hP1, hP2, hP3⟩
    have HR := hidz (And.intro hP1 hP2)
    have hh5 : wC.cell? ⟨w.heap.size, 2, none⟩ = some (.int .i64 s.seen) := by
      rw [block_cell (hP3.kept hne (show wq.drew.heap[w.heap.size]? = _ from HXQ.out))]
      rfl
    clear hP1 hP2 hP3
    have hh : (fun w' : World => w'.cell? ⟨w.heap.size, 2, none⟩ = some (.int .i64 s.seen)) _ := hh5
    refine hK.out _ _ hh ?_
    clear hK K
    try simp only [Act.put]
    refine wpAnyH_done (by kernel_rfl) ?_ _
    go_end0
    unfold JoinPost
    exact ⟨⟨_, rfl⟩, HR.out⟩
  · rw [decide_eq_false hz]
    have hTs : T = W.t := by rw [HT.out]; unfold tgtJ; rw [if_neg hz]
    subst hTs
    have z3 : w1.cell? ⟨W.g, 2, none⟩ = some (.int .i64 W.t) := by rw [block_cell HG.out]; rfl
    have y3 : w1.cell? ⟨w.heap.size, 3, none⟩ = some (.int .i64 s.target) := by rw [block_cell HX.out]; rfl
    go_upto_region 3 with fail
    by_cases hst : s.target = W.t
    · have HSN : Hid (s.seen = seenJ W s) := by show _ = _; unfold seenJ; rw [if_pos (hst.trans HT.out)]
      have hb1 : (s.target != W.t) = false := by simpa using hst
      obtain ⟨wB, hwB⟩ : ∃ wB, wB = w1 := ⟨_, rfl⟩
      have HGB : Hid (wB.heap[W.g]? = some (.cells #[.int .i64 W.x, .int .i64 W.o, .int .i64 W.t] 201 (0, 0))) := by rw [hwB]; exact HG.out
      have HXB : Hid (wB.heap[w.heap.size]? = some (.cells #[.int .i64 s.f, .int .i64 s.pc, .int .i64 s.seen, .int .i64 s.target] 68 (0, 0))) := by rw [hwB]; exact HX.out
      have HBB : Hid (But W.g w wB) := by rw [hwB]; exact HBA.out
      clear hst
      go_quiet (fail)
      clear y3 z3 hb1
      go_upto_region 5 with fail
      subst hwB
      obtain ⟨wq, hwq⟩ : ∃ wq, wq = wB.drewN nq := ⟨_, rfl⟩
      have hbq : Below wB.heap.size wB wq := by rw [hwq]; exact below_draws (Below.refl _ _) nq
      have HGQ := hidz (block_kept HGB.out hbq)
      have HXQ := hidz (block_kept HXB.out hbq)
      have HBQ := hidz (HBB.out.trans (But.of_below hbq))
      rw [← hwq]
      clear hwq hbq
      have x2 : wq.cell? ⟨w.heap.size, 2, none⟩ = some (.int .i64 s.seen) := by rw [block_cell HXQ.out]; rfl
      have hh : (fun w' : World => w'.cell? ⟨w.heap.size, 2, none⟩ = some (.int .i64 s.seen)) _ := x2
      refine h_begin (fun w' : World => w'.cell? ⟨w.heap.size, 2, none⟩ = some (.int .i64 s.seen)) (by kernel_rfl) ?_
      refine h_take (i := 0) (oi := _) (v := ?_) rfl (by kernel_rfl) (by kernel_rfl) (by kernel_rfl) (fun _ _ _ h => h) (by kernel_rfl) ?_ hh ?_
      rotate_left
      · intro w' hSw
        have x2 := hSw
        go_simp
        try with_reducible rfl
      simp only [Act.put, List.setIfInBounds_toArray]
      refine h_take (i := 1) (oi := _) (v := ?_) rfl (by kernel_rfl) (by kernel_rfl) (by kernel_rfl) (fun _ _ _ h => h) (by kernel_rfl) ?_ hh ?_
      rotate_left
      · intro w' hSw
        have x2 := hSw
        go_simp
        try with_reducible rfl
      simp only [Act.put]
      refine h_take (i := 2) (oi := _) (v := ?_) rfl (by kernel_rfl) (by kernel_rfl) (by kernel_rfl) (fun _ _ _ h => h) (by kernel_rfl) ?_ hh ?_
      rotate_left
      · intro w' hSw
        have x2 := hSw
        go_simp
        try with_reducible rfl
      simp only [Act.put]
      refine h_take (i := 3) (oi := _) (v := ?_) rfl (by kernel_rfl) (by kernel_rfl) (by kernel_rfl) (fun _ _ _ h => h) (by kernel_rfl) ?_ hh ?_
      rotate_left
      · intro w' hSw
        have x2 := hSw
        go_simp
        try with_reducible rfl
      simp only [Act.put]
      refine h_take (i := 4) (oi := _) (v := ?_) rfl (by kernel_rfl) (by kernel_rfl) (by kernel_rfl) (fun _ _ _ h => h) (by kernel_rfl) ?_ hh ?_
      rotate_left
      · intro w' hSw
        have x2 := hSw
        go_simp
        try with_reducible rfl
      simp only [Act.put]
      refine h_one (i := 5) (o := _) (by kernel_rfl) rfl (fun K hK => ?_)
      go_simp
      go_at_call 180
      refine (HKB.out wq.drew s.seen HGQ.out (HBQ.out.trans (But.of_below (Below.refl _ _).drew)) HSN.out).mono ?_
      rintro e wC ⟨⟨vr, rfl⟩, hP1, hP2, hP3⟩
      have HR := hidz (And.intro hP1 hP2)
      have hh5 : wC.cell? ⟨w.heap.size, 2, none⟩ = some (.int .i64 s.seen) := by
        rw [block_cell (hP3.kept hne (show wq.drew.heap[w.heap.size]? = _ from HXQ.out))]
        rfl
      clear hP1 hP2 hP3
      have hh : (fun w' : World => w'.cell? ⟨w.heap.size, 2, none⟩ = some (.int .i64 s.seen)) _ := hh5
      refine hK.out _ _ hh ?_
      clear hK K
      try simp only [Act.put]
      refine wpAnyH_done (by kernel_rfl) ?_ _
      go_end0
      unfold JoinPost
      exact ⟨⟨_, rfl⟩, HR.out⟩
    · have HSN : Hid (2 = seenJ W s) := by show _ = _; unfold seenJ; rw [if_neg (fun q => hst (q.trans HT.out.symm))]
      have hb1 : (s.target != W.t) = true := by simpa using hst
      have hfz : w1.frozen? ⟨w.heap.size, 2, none⟩ = false := block_free HX.out 2
      have hcz : w1.cell? ⟨w.heap.size, 2, none⟩ = some (.int .i64 s.seen) := by rw [block_cell HX.out]; rfl
      clear hst
      go_quiet (fail)
      go_upto_region 4 with fail
      obtain ⟨wq, hwq⟩ : ∃ wq, wq = w1.drewN nq := ⟨_, rfl⟩
      have hbq : Below w1.heap.size w1 wq := by rw [hwq]; exact below_draws (Below.refl _ _) nq
      have HGq := hidz (block_kept HG.out hbq)
      have HXq := hidz (block_kept HX.out hbq)
      have HBq := hidz (HBA.out.trans (But.of_below hbq))
      rw [← hwq]
      clear hwq hbq y3 z3 hb1 hfz hcz
      have hfz : wq.frozen? ⟨w.heap.size, 2, none⟩ = false := block_free HXq.out 2
      have hcz : wq.cell? ⟨w.heap.size, 2, none⟩ = some (.int .i64 s.seen) := by rw [block_cell HXq.out]; rfl
      obtain ⟨wB, hwB⟩ : ∃ wB, wB = wq.setCell ⟨w.heap.size, 2, none⟩ (.int .i64 2) := ⟨_, rfl⟩
      have HGQ : Hid (wB.heap[W.g]? = some (.cells #[.int .i64 W.x, .int .i64 W.o, .int .i64 W.t] 201 (0, 0))) := by rw [hwB]; show _ = _; rw [Below.heap_setCell _ _ _ _ hne2]; exact HGq.out
      have HXQ : Hid (wB.heap[w.heap.size]? = some (.cells #[.int .i64 s.f, .int .i64 s.pc, .int .i64 2, .int .i64 s.target] 68 (0, 0))) := by rw [hwB]; exact block_set HXq.out _
      have HBQ : Hid (But W.g w wB) := by
        rw [hwB]
        exact ⟨HBq.out.os, HBq.out.tape, HBq.out.output, by have := HBq.out.size; simpa [World.setCell] using this, fun k hk hg => by rw [Below.heap_setCell _ _ _ _ (show k ≠ w.heap.size by omega)]; exact HBq.out.block k hk hg⟩
      go_upto_region 5 with fail
      rw [← hwB]
      clear hwB hfz hcz
      have x2 : wB.cell? ⟨w.heap.size, 2, none⟩ = some (.int .i64 2) := by rw [block_cell HXQ.out]; rfl
      have hh : (fun w' : World => w'.cell? ⟨w.heap.size, 2, none⟩ = some (.int .i64 2)) _ := x2
      refine h_begin (fun w' : World => w'.cell? ⟨w.heap.size, 2, none⟩ = some (.int .i64 2)) (by kernel_rfl) ?_
      refine h_take (i := 0) (oi := _) (v := ?_) rfl (by kernel_rfl) (by kernel_rfl) (by kernel_rfl) (fun _ _ _ h => h) (by kernel_rfl) ?_ hh ?_
      rotate_left
      · intro w' hSw
        have x2 := hSw
        go_simp
        try with_reducible rfl
      simp only [Act.put, List.setIfInBounds_toArray]
      refine h_take (i := 1) (oi := _) (v := ?_) rfl (by kernel_rfl) (by kernel_rfl) (by kernel_rfl) (fun _ _ _ h => h) (by kernel_rfl) ?_ hh ?_
      rotate_left
      · intro w' hSw
        have x2 := hSw
        go_simp
        try with_reducible rfl
      simp only [Act.put]
      refine h_take (i := 2) (oi := _) (v := ?_) rfl (by kernel_rfl) (by kernel_rfl) (by kernel_rfl) (fun _ _ _ h => h) (by kernel_rfl) ?_ hh ?_
      rotate_left
      · intro w' hSw
        have x2 := hSw
        go_simp
        try with_reducible rfl
      simp only [Act.put]
      refine h_take (i := 3) (oi := _) (v := ?_) rfl (by kernel_rfl) (by kernel_rfl) (by kernel_rfl) (fun _ _ _ h => h) (by kernel_rfl) ?_ hh ?_
      rotate_left
      · intro w' hSw
        have x2 := hSw
        go_simp
        try with_reducible rfl
      simp only [Act.put]
      refine h_take (i := 4) (oi := _) (v := ?_) rfl (by kernel_rfl) (by kernel_rfl) (by kernel_rfl) (fun _ _ _ h => h) (by kernel_rfl) ?_ hh ?_
      rotate_left
      · intro w' hSw
        have x2 := hSw
        go_simp
        try with_reducible rfl
      simp only [Act.put]
      refine h_one (i := 5) (o := _) (by kernel_rfl) rfl (fun K hK => ?_)
      go_simp
      go_at_call 180
      refine (HKB.out wB.drew 2 HGQ.out (HBQ.out.trans (But.of_below (Below.refl _ _).drew)) HSN.out).mono ?_
      rintro e wC ⟨⟨vr, rfl⟩, hP1, hP2, hP3⟩
      have HR := hidz (And.intro hP1 hP2)
      have hh5 : wC.cell? ⟨w.heap.size, 2, none⟩ = some (.int .i64 2) := by
        rw [block_cell (hP3.kept hne (show wB.drew.heap[w.heap.size]? = _ from HXQ.out))]
        rfl
      clear hP1 hP2 hP3
      have hh : (fun w' : World => w'.cell? ⟨w.heap.size, 2, none⟩ = some (.int .i64 2)) _ := hh5
      refine hK.out _ _ hh ?_
      clear hK K
      try simp only [Act.put]
      refine wpAnyH_done (by kernel_rfl) ?_ _
      go_end0
      unfold JoinPost
      exact ⟨⟨_, rfl⟩, HR.out⟩
end Go.Proofs.YtlohoolimejihaaGreat
