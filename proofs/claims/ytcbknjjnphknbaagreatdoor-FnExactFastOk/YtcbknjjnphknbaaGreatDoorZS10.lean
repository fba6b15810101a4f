/-
  The document's look at an exit.
-/
import Derived.Test.YtcbknjjnphknbaaGreatDoorZOQ29
import Derived.RegionTactic
namespace Go.Proofs.YtcbknjjnphknbaaGreatDoor
open Go.RowKit

theorem lt_own {w1 : World} {base g n : Nat} {l : List Value} (h : w1.ownsRow base 102 3 (.slice (some ⟨g, 0, none⟩) n n) n l) : g < w1.heap.size := by
  rcases h.2 with ⟨hv, -⟩ | ⟨g', cap, cur, hv, -, hh, -⟩
  · cases hv
  · cases hv
    exact lt_block hh
theorem vals_put {w : World} {b g : Nat} {vs : List Vl} {a0 a1 a2 a3 : Value} (h : ValsAt w 0 (some ⟨b, 0, none⟩) vs) (hne : b ≠ g) : ValsAt ((((w.setCell ⟨g, 0, none⟩ a0).setCell ⟨g, 1, none⟩ a1).setCell ⟨g, 2, none⟩ a2).setCell ⟨g, 3, none⟩ a3) 0 (some ⟨b, 0, none⟩) vs := by
  have key : ∀ (w : World) (i j : Nat) (v : Value), (w.setCell ⟨g, i, none⟩ v).cell? ⟨b, j, none⟩ = w.cell? ⟨b, j, none⟩ := fun w i j v => World.cell?_setCell_other _ _ _ _ (by intro h; simp only [Addr.mk.injEq] at h; omega)
  intro i hi
  obtain ⟨b', off, e, h0, h1, h2, h3⟩ := h i hi
  cases e
  exact ⟨b, 0, rfl, h0, by rw [key, key, key, key]; exact h1, by rw [key, key, key, key]; exact h2, by rw [key, key, key, key]; exact h3⟩
theorem grown_below {w w' : World} (h : w.grownBy w' none) : Below w.heap.size w w' := (Below.refl _ _).grown h (Nat.le_refl _) (by intro k hk; cases hk)
section
variable {fs : List Fn} {a1 a2 oa ea fa ra : Option Addr} {nt c1 c2 oc ec K fc rc : Nat} {D : FastD} {wK w : World} {b : Bool}
set_option maxRecDepth 100000 in
set_option maxHeartbeats 60000000 in
theorem kLeave_any (x : Ex) (hsm : ExSmall x) (hfr : EFsAt wK 0 fa x.frames) (hrc : ERsAt wK 0 ra x.recs) (l : SLim fs D K wK a2 oa ea) (h : Chk a1 a2 oa ea nt c1 c2 oc ec fs.length K D wK b w) :
    Calls Tryz.prog 38 #[.pointer (some ⟨K, 0, none⟩), .agg #[.int .i64 x.kind, .int .i64 x.spec.f, .int .i64 x.spec.pc, .int .i64 x.spec.seen, .int .i64 x.spec.target, .slice fa x.frames.length fc, .slice ra x.recs.length rc]] w fun e w' => e = .returned (.tuple #[]) ∧ Chk a1 a2 oa ea nt c1 c2 oc ec fs.length K D wK (b || !pB (ExitP fs D x)) w' ∧ Rk K w w' := by
  have hwk : K < w.heap.size := lt_block h.blk
  have hne : w.heap.size ≠ K := by omega
  obtain ⟨wA, hwA⟩ : ∃ wA, wA = w.alloc (.cells #[.int .i64 x.kind, .int .i64 x.spec.f, .int .i64 x.spec.pc, .int .i64 x.spec.seen, .int .i64 x.spec.target, .slice fa x.frames.length fc, .slice ra x.recs.length rc] 101) := ⟨_, rfl⟩
  have hbA : Below w.heap.size w wA := by rw [hwA]; exact (Below.refl _ _).alloc (Nat.le_refl _) _
  have hX1 : wA.heap[w.heap.size]? = some (.cells #[.int .i64 x.kind, .int .i64 x.spec.f, .int .i64 x.spec.pc, .int .i64 x.spec.seen, .int .i64 x.spec.target, .slice fa x.frames.length fc, .slice ra x.recs.length rc] 101 (0, 0)) := by rw [hwA]; exact block_new _ _ _
  have hC1 := h.mono hbA
  have R1 : Rk K w wA := Rk.of hbA
  have x0 := block_cell (block_new w #[.int .i64 x.kind, .int .i64 x.spec.f, .int .i64 x.spec.pc, .int .i64 x.spec.seen, .int .i64 x.spec.target, .slice fa x.frames.length fc, .slice ra x.recs.length rc] 101)
  clear h hbA
  go_enter Tryz.func38, Tryz.ntmps38
  go_wp2_with fail
  rw [← hwA]
  have x1 := block_cell hX1
  clear hwA x0
  refine (btw_any _ _ _ _).mono ?_
  rintro e wz ⟨rfl, hw⟩
  rw [hw]
  clear hw wz
  go_wp2_with fail
  refine (needP_any _ hC1).mono ?_
  rintro e w11 ⟨rfl, hC2, hr⟩
  have hX2 := block_rk hX1 hne hr
  have R2 := R1.trans hr
  clear x1 hX1 R1 hC1 hr
  have x2 := block_cell hX2
  go_upto_if 16 with fail
  go_cut [] from 16 to 31 (fun wx => Hid (Chk a1 a2 oa ea nt c1 c2 oc ec fs.length K D wK ((b || !pB (Btw x.kind 1 4)) || !pB (EGuessP fs x)) wx ∧ Rk K w11 wx))
  case first =>
    by_cases h2 : x.kind = 2
    case pos =>
      have HK2 : Hid (x.kind = 2) := h2
      have g2 : (x.kind == 2) = true := by simpa using h2
      clear h2
      have HC : Hid (Chk a1 a2 oa ea nt c1 c2 oc ec fs.length K D wK _ w11) := hC2
      have HXX := hX2
      have HS : Hid (∀ w', Below w11.heap.size w11 w' → w'.cell? ⟨K, 0, none⟩ = some (.slice a1 nt c1) ∧ w'.cell? ⟨K, 1, none⟩ = some (.slice a2 fs.length c2) ∧ w'.cell? ⟨w.heap.size, 1, none⟩ = some (.int .i64 x.spec.f) ∧ w'.cell? ⟨w.heap.size, 2, none⟩ = some (.int .i64 x.spec.pc) ∧ w'.cell? ⟨w.heap.size, 3, none⟩ = some (.int .i64 x.spec.seen) ∧ w'.cell? ⟨w.heap.size, 4, none⟩ = some (.int .i64 x.spec.target)) := fun w' q => ⟨(HC.out.mono q).cells 0, (HC.out.mono q).cells 1, block_cell (block_kept HXX q) 1, block_cell (block_kept HXX q) 2, block_cell (block_kept HXX q) 3, block_cell (block_kept HXX q) 4⟩
      obtain ⟨j0, j1, j2, j3, j4, j5⟩ := HS.out _ (Below.refl _ _)
      have q : Below w11.heap.size w11 w11.drew := (Below.refl _ _).drew
      have HFN : Hid (∀ w', Below w11.heap.size w11 w' → FnsAt w' 0 a2 fs) := fun w' q => (l.at (HC.out.mono q)).1
      go_upto_region 3 with fail
      clear x2 hC2
      go_region_held3 (fun w' => w'.cell? ⟨K, 0, none⟩ = some (.slice a1 nt c1) ∧ w'.cell? ⟨K, 1, none⟩ = some (.slice a2 fs.length c2) ∧ w'.cell? ⟨w.heap.size, 1, none⟩ = some (.int .i64 x.spec.f) ∧ w'.cell? ⟨w.heap.size, 2, none⟩ = some (.int .i64 x.spec.pc) ∧ w'.cell? ⟨w.heap.size, 3, none⟩ = some (.int .i64 x.spec.seen) ∧ w'.cell? ⟨w.heap.size, 4, none⟩ = some (.int .i64 x.spec.target))
        (first | exact ⟨j0, j1, j2, j3, j4, j5⟩ | exact HS.out _ q | exact ⟨hc.cells 0, hc.cells 1, block_cell (block_rk (block_kept HXX q) hne hr) 1, block_cell (block_rk (block_kept HXX q) hne hr) 2, block_cell (block_rk (block_kept HXX q) hne hr) 3, block_cell (block_rk (block_kept HXX q) hne hr) 4⟩)
        (first
          | (go_at_call 76; refine (specOk_any _ _ _ _ _ fs x.spec _ l.code l.nf (HFN.out _ q)).mono ?_; rintro e wz ⟨rfl, kd⟩; have q := q.trans (kd.mono q.size))
          | (go_at_call 72; refine (needP_any _ (HC.out.mono q)).mono ?_; rintro e wy ⟨rfl, hc, hr⟩))
      go_wp2_with fail
      go_meet
      case rel => exact ⟨hc.iff ⟨fun q => .inl ⟨HK2.out, q⟩, fun q => q.elim (fun q => q.2) (fun q => absurd HK2.out q.1)⟩, (Rk.of q).trans hr⟩
    case neg =>
      have HK2 : Hid (¬ x.kind = 2) := h2
      have g2 : (x.kind == 2) = false := by simpa using h2
      have g44 := guard44
      have e44 := eqIn44 x.spec zeroS
      unfold zeroS at e44
      dsimp only at e44
      clear h2
      go_wp2_with fail
      refine (needP_any _ hC2).mono ?_
      rintro e wy ⟨rfl, hc, hr⟩
      clear x2
      go_wp2_with fail
      go_meet
      case rel => exact ⟨hc.iff ⟨fun q => .inr ⟨HK2.out, q⟩, fun q => q.elim (fun q => absurd q.1 HK2.out) (fun q => q.2)⟩, hr⟩
  case rest =>
    obtain ⟨hC3, hr⟩ := hcut.out
    have hX3 := block_rk hX2 hne hr
    have R3 := R2.trans hr
    clear hcut hr x2 hX2 R2 hC2
    have x3 := block_cell hX3
    have hnfr := hsm.1.1
    have hnrc := hsm.2.1
    by_cases hbt : Btw (x.frames.length : Int) 1 4
    case neg =>
      have HC0 : Hid (∀ w', Below wc.heap.size wc w' → Calls Tryz.prog 34 #[.int .i64 x.frames.length, .int .i64 1, .int .i64 4] w' fun e w'' => e = .returned (.bool false) ∧ Below w'.heap.size w' w'') := fun w' _ => (btw_any _ _ _ _).mono fun _ _ q => ⟨by rw [q.1, pB_no hbt], by rw [q.2]; exact Below.refl _ _⟩
      have HS : Hid (∀ w', Below wc.heap.size wc w' → w'.cell? ⟨w.heap.size, 5, none⟩ = some (.slice fa x.frames.length fc) ∧ w'.cell? ⟨w.heap.size, 6, none⟩ = some (.slice ra x.recs.length rc) ∧ w'.cell? ⟨K, 2, none⟩ = some (.int .i64 D.fn)) := fun w' q => ⟨block_cell (block_kept hX3 q) 5, block_cell (block_kept hX3 q) 6, (hC3.mono q).cells 2⟩
      have HN : Hid (¬ ExitP fs D x) := fun q => hbt (by have := q.2.2.1; exact ⟨by omega, by omega⟩)
      clear hbt
      go_upto_region 6 with fail
      clear x3
      refine wp_below (by kernel_rfl) (by kernel_rfl) ?_
      refine q_want (v := ?_) (by kernel_rfl) ?_ ?_
      rotate_left
      · intro w' hC
        obtain ⟨j0, j1, j2⟩ := HS.out w' hC
        go_simp
        try with_reducible rfl
      try simp only [Act.put, List.setIfInBounds_toArray, List.set_cons_zero, List.set_cons_succ]
      refine q_want (v := .bool false) (by kernel_rfl) ?_ ?_
      · intro w' hC
        go_simp
        refine (HC0.out _ hC).mono ?_
        rintro e w'' ⟨rfl, hb2⟩
        exact ⟨rfl, hC.trans (hb2.mono hC.size)⟩
      try simp only [Act.put, List.setIfInBounds_toArray, List.set_cons_zero, List.set_cons_succ]
      iterate 2
        refine q_want (v := ?_) (by kernel_rfl) ?_ ?_
        rotate_left
        · intro w' hC
          obtain ⟨j0, j1, j2⟩ := HS.out w' hC
          go_simp
          try with_reducible rfl
        try simp only [Act.put, List.setIfInBounds_toArray, List.set_cons_zero, List.set_cons_succ]
      iterate 4 go_big_quiet_skip
      iterate 2
        refine q_want (v := ?_) (by kernel_rfl) ?_ ?_
        rotate_left
        · intro w' hC
          obtain ⟨j0, j1, j2⟩ := HS.out w' hC
          go_simp
          try with_reducible rfl
        try simp only [Act.put, List.setIfInBounds_toArray, List.set_cons_zero, List.set_cons_succ]
      iterate 11 go_big_quiet_skip
      refine q_want (v := ?_) (by kernel_rfl) ?_ ?_
      rotate_left
      · intro w' hC
        obtain ⟨j0, j1, j2⟩ := HS.out w' hC
        go_simp
        try with_reducible rfl
      try simp only [Act.put, List.setIfInBounds_toArray, List.set_cons_zero, List.set_cons_succ]
      refine wpQuiet_nil ?_
      intro w2 q2
      have hCq := hC3.mono q2
      have k3 := hCq.cells
      have k4 := hCq.free
      go_wp2
      (try simp only [Exit.inBlock, Exit.then])
      refine bodyPost_ret (results_none rfl _ _ _) rfl ?_
      exact ⟨rfl, (hCq.set true).no HN.out, (R3.trans (Rk.of q2)).set _⟩

    have HC0 : Hid (∀ w', Below wc.heap.size wc w' → Calls Tryz.prog 34 #[.int .i64 x.frames.length, .int .i64 1, .int .i64 4] w' fun e w'' => e = .returned (.bool true) ∧ Below w'.heap.size w' w'') := fun w' _ => (btw_any _ _ _ _).mono fun _ _ q => ⟨by rw [q.1, pB_yes hbt], by rw [q.2]; exact Below.refl _ _⟩
    have hz : 0 < x.frames.length := by have := hbt.1; omega
    obtain ⟨bF, oF, la0, lc0, sa0, sc0, rfl, -, df, -⟩ := hfr 0 hz
    have hbelc := hC3.bel
    rw [l.size] at hbelc
    have df' := cell_later hbelc df
    have HS : Hid (∀ w', Below wc.heap.size wc w' → w'.cell? ⟨w.heap.size, 5, none⟩ = some (.slice (some ⟨bF, oF, none⟩) x.frames.length fc) ∧ w'.cell? ⟨w.heap.size, 6, none⟩ = some (.slice ra x.recs.length rc) ∧ w'.cell? ⟨K, 2, none⟩ = some (.int .i64 D.fn) ∧ w'.cell? ⟨bF, oF, none⟩ = some (.int .i64 x.frames[0].fn)) := fun w' q => ⟨block_cell (block_kept hX3 q) 5, block_cell (block_kept hX3 q) 6, (hC3.mono q).cells 2, by simpa using cell_later q df'⟩
    have z1 : (0 : Int) < (x.frames.length : Int) := by omega
    have HBT : Hid (Btw (x.frames.length : Int) 1 4) := hbt
    clear df df' hbelc hbt
    by_cases h60 : x.recs.length ≤ 60
    case neg =>
      have g60 : (60 : Int) < (x.recs.length : Int) := by omega
      have HN : Hid (¬ ExitP fs D x) := fun q => h60 q.2.2.2.2.2.1
      clear h60
      go_upto_region 6 with fail
      clear x3
      refine wp_below (by kernel_rfl) (by kernel_rfl) ?_
      refine q_want (v := ?_) (by kernel_rfl) ?_ ?_
      rotate_left
      · intro w' hC
        obtain ⟨j0, j1, j2, j3⟩ := HS.out w' hC
        go_simp
        try with_reducible rfl
      try simp only [Act.put, List.setIfInBounds_toArray, List.set_cons_zero, List.set_cons_succ]
      refine q_want (v := .bool true) (by kernel_rfl) ?_ ?_
      · intro w' hC
        go_simp
        refine (HC0.out _ hC).mono ?_
        rintro e w'' ⟨rfl, hb2⟩
        exact ⟨rfl, hC.trans (hb2.mono hC.size)⟩
      try simp only [Act.put, List.setIfInBounds_toArray, List.set_cons_zero, List.set_cons_succ]
      iterate 8
        refine q_want (v := ?_) (by kernel_rfl) ?_ ?_
        rotate_left
        · intro w' hC
          obtain ⟨j0, j1, j2, j3⟩ := HS.out w' hC
          go_simp
          try with_reducible rfl
        try simp only [Act.put, List.setIfInBounds_toArray, List.set_cons_zero, List.set_cons_succ]
      iterate 11 go_big_quiet_skip
      refine q_want (v := ?_) (by kernel_rfl) ?_ ?_
      rotate_left
      · intro w' hC
        obtain ⟨j0, j1, j2, j3⟩ := HS.out w' hC
        go_simp
        try with_reducible rfl
      try simp only [Act.put, List.setIfInBounds_toArray, List.set_cons_zero, List.set_cons_succ]
      refine wpQuiet_nil ?_
      intro w2 q2
      have hCq := hC3.mono q2
      have k3 := hCq.cells
      have k4 := hCq.free
      go_wp2
      (try simp only [Exit.inBlock, Exit.then])
      refine bodyPost_ret (results_none rfl _ _ _) rfl ?_
      exact ⟨rfl, (hCq.set true).no HN.out, (R3.trans (Rk.of q2)).set _⟩

    have g60 : ¬ (60 : Int) < (x.recs.length : Int) := by omega
    have H60 : Hid (x.recs.length ≤ 60) := h60
    clear h60
    by_cases hfn : x.frames[0].fn = D.fn
    case neg =>
      have g0 : (x.frames[0].fn != D.fn) = true := by simpa using hfn
      have HN : Hid (¬ ExitP fs D x) := fun q => by obtain ⟨_, q⟩ := q.2.2.2.1; exact hfn q
      clear hfn
      go_upto_region 6 with fail
      clear x3
      refine wp_below (by kernel_rfl) (by kernel_rfl) ?_
      refine q_want (v := ?_) (by kernel_rfl) ?_ ?_
      rotate_left
      · intro w' hC
        obtain ⟨j0, j1, j2, j3⟩ := HS.out w' hC
        go_simp
        try with_reducible rfl
      try simp only [Act.put, List.setIfInBounds_toArray, List.set_cons_zero, List.set_cons_succ]
      refine q_want (v := .bool true) (by kernel_rfl) ?_ ?_
      · intro w' hC
        go_simp
        refine (HC0.out _ hC).mono ?_
        rintro e w'' ⟨rfl, hb2⟩
        exact ⟨rfl, hC.trans (hb2.mono hC.size)⟩
      try simp only [Act.put, List.setIfInBounds_toArray, List.set_cons_zero, List.set_cons_succ]
      iterate 20
        refine q_want (v := ?_) (by kernel_rfl) ?_ ?_
        rotate_left
        · intro w' hC
          obtain ⟨j0, j1, j2, j3⟩ := HS.out w' hC
          go_simp
          try with_reducible rfl
        try simp only [Act.put, List.setIfInBounds_toArray, List.set_cons_zero, List.set_cons_succ]
      refine wpQuiet_nil ?_
      intro w2 q2
      have hCq := hC3.mono q2
      have k3 := hCq.cells
      have k4 := hCq.free
      go_wp2
      (try simp only [Exit.inBlock, Exit.then])
      refine bodyPost_ret (results_none rfl _ _ _) rfl ?_
      exact ⟨rfl, (hCq.set true).no HN.out, (R3.trans (Rk.of q2)).set _⟩

    have g0 : (x.frames[0].fn != D.fn) = false := by simpa using hfn
    have HFN : Hid (x.frames[0].fn = D.fn) := hfn
    clear hfn
    go_upto_region 6 with fail
    clear x3
    refine wp_below (by kernel_rfl) (by kernel_rfl) ?_
    refine q_want (v := ?_) (by kernel_rfl) ?_ ?_
    rotate_left
    · intro w' hC
      obtain ⟨j0, j1, j2, j3⟩ := HS.out w' hC
      go_simp
      try with_reducible rfl
    try simp only [Act.put, List.setIfInBounds_toArray, List.set_cons_zero, List.set_cons_succ]
    refine q_want (v := .bool true) (by kernel_rfl) ?_ ?_
    · intro w' hC
      go_simp
      refine (HC0.out _ hC).mono ?_
      rintro e w'' ⟨rfl, hb2⟩
      exact ⟨rfl, hC.trans (hb2.mono hC.size)⟩
    try simp only [Act.put, List.setIfInBounds_toArray, List.set_cons_zero, List.set_cons_succ]
    iterate 20
      refine q_want (v := ?_) (by kernel_rfl) ?_ ?_
      rotate_left
      · intro w' hC
        obtain ⟨j0, j1, j2, j3⟩ := HS.out w' hC
        go_simp
        try with_reducible rfl
      try simp only [Act.put, List.setIfInBounds_toArray, List.set_cons_zero, List.set_cons_succ]
    refine wpQuiet_nil ?_
    intro w2 q2
    have hC4 := hC3.mono q2
    have hX4 := block_kept hX3 q2
    have R4 := R3.trans (Rk.of q2)
    clear hC3 hX3 R3 HS HC0 q2 g0
    have hz4 : w.heap.size < w2.heap.size := lt_block hX4
    go_wp2
    go_loopw [5] (fun i wr => ∃ (k : Nat), k ≤ x.frames.length ∧ i = .int .i64 k ∧ Chk a1 a2 oa ea nt c1 c2 oc ec fs.length K D wK (((b || !pB (Btw x.kind 1 4)) || !pB (EGuessP fs x)) || !pB (FramesTo fs D x.recs.length x.frames k)) wr ∧ wr.heap[w.heap.size]? = some (.cells #[.int .i64 x.kind, .int .i64 x.spec.f, .int .i64 x.spec.pc, .int .i64 x.spec.seen, .int .i64 x.spec.target, .slice (some ⟨bF, oF, none⟩) x.frames.length fc, .slice ra x.recs.length rc] 101 (0, 0)) ∧ Rk K w wr) (fun i _ => x.frames.length - (intOf i).toNat)
    case atStart => exact ⟨0, by omega, rfl, by rw [pB_yes FramesTo.zero]; simpa using hC4, hX4, R4⟩
    case round =>
      obtain ⟨k, hk, rfl, hC, hX, hR⟩ := hrel
      clear hC4 hX4 R4 hz4
      by_cases hlt : k < x.frames.length
      case pos =>
        obtain ⟨b', off, la, lc, sa, sc, hfa, -, d0, d1, d2, d3, p0, p1⟩ := hfr k hlt
        cases hfa
        have hbel := hC.bel
        rw [l.size] at hbel
        have e0 := cell_later hbel d0
        have e1 := cell_later hbel d1
        have e2 := cell_later hbel d2
        have e3 := cell_later hbel d3
        have hsk := hsm.1.2 _ (List.getElem_mem hlt)
        have hsl := hsk.1.1
        have hss := hsk.2.1
        have hwkr : K < wr.heap.size := lt_block hC.blk
        have hneF : wr.heap.size ≠ K := by omega
        obtain ⟨wF, hwF⟩ : ∃ wF, wF = wr.alloc (.cells #[.int .i64 x.frames[k].fn, .int .i64 x.frames[k].pc, .slice la x.frames[k].locals.length lc, .slice sa x.frames[k].stack.length sc] 144) := ⟨_, rfl⟩
        have hbF : Below wr.heap.size wr wF := by rw [hwF]; exact (Below.refl _ _).alloc (Nat.le_refl _) _
        have hF1 : wF.heap[wr.heap.size]? = some (.cells #[.int .i64 x.frames[k].fn, .int .i64 x.frames[k].pc, .slice la x.frames[k].locals.length lc, .slice sa x.frames[k].stack.length sc] 144 (0, 0)) := by rw [hwF]; exact block_new _ _ _
        have hX1 := block_kept hX hbF
        have hC1 := hC.mono hbF
        have R1 : Rk K wr wF := Rk.of hbF
        have x0 := block_cell hX
        have xA := block_cell (block_old hX (.cells #[.int .i64 x.frames[k].fn, .int .i64 x.frames[k].pc, .slice la x.frames[k].locals.length lc, .slice sa x.frames[k].stack.length sc] 144))
        have fA := block_cell (block_new wr #[.int .i64 x.frames[k].fn, .int .i64 x.frames[k].pc, .slice la x.frames[k].locals.length lc, .slice sa x.frames[k].stack.length sc] 144)
        have zk : (k : Int) < (x.frames.length : Int) := by omega
        clear d0 d1 d2 d3 hbel
        go_wp2_with fail
        rw [← hwF]
        clear hwF x0 xA fA e0 e1 e2 e3 hbF
        refine (kSrcs_any la x.frames[k].locals lc x.recs.length hsk.1 p0 l hC1).mono ?_
        rintro e w31 ⟨rfl, hC2, hr⟩
        have hF2 := block_rk hF1 hneF hr
        have hX2 := block_rk hX1 hne hr
        have R2 := R1.trans hr
        clear hC1 hF1 hX1 R1 hr
        have xb := block_cell hX2
        have fb := block_cell hF2
        go_wp2_with fail
        refine (kSrcs_any sa x.frames[k].stack sc x.recs.length hsk.2 p1 l hC2).mono ?_
        rintro e w32 ⟨rfl, hC3, hr⟩
        have hF3 := block_rk hF2 hneF hr
        have hX3 := block_rk hX2 hne hr
        have R3 := R2.trans hr
        clear hC2 hF2 hX2 R2 hr xb fb
        obtain ⟨i0, hi0, hz0, hz1, hz2⟩ := info_parts info102
        have HSF : Hid (∀ w', Below w32.heap.size w32 w' → w'.cell? ⟨wr.heap.size, 0, none⟩ = some (.int .i64 x.frames[k].fn) ∧ w'.cell? ⟨wr.heap.size, 1, none⟩ = some (.int .i64 x.frames[k].pc) ∧ w'.cell? ⟨wr.heap.size, 2, none⟩ = some (.slice la x.frames[k].locals.length lc) ∧ w'.cell? ⟨wr.heap.size, 3, none⟩ = some (.slice sa x.frames[k].stack.length sc)) := fun w' q => ⟨block_cell (block_kept hF3 q) 0, block_cell (block_kept hF3 q) 1, block_cell (block_kept hF3 q) 2, block_cell (block_kept hF3 q) 3⟩
        obtain ⟨j0, j1, j2, j3⟩ := HSF.out _ (Below.refl _ _)
        clear j0 j1 j2 j3
        go_upto_region 14 with fail
        go_cut [7] from 84 to 96 (fun s7 wx => ∃ g gl gs, s7 = .pointer (some ⟨g, 0, none⟩) ∧ wx.heap[g]? = some (.cells #[.int .i64 x.frames[k].fn, .int .i64 x.frames[k].pc, .slice (some ⟨gl, 0, none⟩) x.frames[k].locals.length x.frames[k].locals.length, .slice (some ⟨gs, 0, none⟩) x.frames[k].stack.length x.frames[k].stack.length] 148 (0, 0)) ∧ ValsAt wx 0 (some ⟨gl, 0, none⟩) (nils x.frames[k].locals.length) ∧ ValsAt wx 0 (some ⟨gs, 0, none⟩) (nils x.frames[k].stack.length) ∧ Below w32.heap.size w32 wx)
        case first =>
          have q : Below w32.heap.size w32 w32.drew := (Below.refl _ _).drew
          have hh : (fun w' : World => w'.cell? ⟨wr.heap.size, 0, none⟩ = some (.int .i64 x.frames[k].fn) ∧ w'.cell? ⟨wr.heap.size, 1, none⟩ = some (.int .i64 x.frames[k].pc) ∧ w'.cell? ⟨wr.heap.size, 2, none⟩ = some (.slice la x.frames[k].locals.length lc) ∧ w'.cell? ⟨wr.heap.size, 3, none⟩ = some (.slice sa x.frames[k].stack.length sc)) _ := HSF.out _ q
          refine h_begin (fun w' : World => w'.cell? ⟨wr.heap.size, 0, none⟩ = some (.int .i64 x.frames[k].fn) ∧ w'.cell? ⟨wr.heap.size, 1, none⟩ = some (.int .i64 x.frames[k].pc) ∧ w'.cell? ⟨wr.heap.size, 2, none⟩ = some (.slice la x.frames[k].locals.length lc) ∧ w'.cell? ⟨wr.heap.size, 3, none⟩ = some (.slice sa x.frames[k].stack.length sc)) (by kernel_rfl) ?_
          refine h_take (i := 0) (oi := _) (v := ?_) rfl (by kernel_rfl) (by kernel_rfl) (by kernel_rfl) (fun _ _ _ h => h) (by kernel_rfl) ?_ hh ?_
          rotate_left
          · intro w' hSw
            obtain ⟨j0, j1, j2, j3⟩ := hSw
            go_simp
            try with_reducible rfl
          simp only [Act.put, List.setIfInBounds_toArray]
          refine h_take (i := 1) (oi := _) (v := ?_) rfl (by kernel_rfl) (by kernel_rfl) (by kernel_rfl) (fun _ _ _ h => h) (by kernel_rfl) ?_ hh ?_
          rotate_left
          · intro w' hSw
            obtain ⟨j0, j1, j2, j3⟩ := hSw
            go_simp
            try with_reducible rfl
          simp only [Act.put]
          refine h_take (i := 2) (oi := _) (v := ?_) rfl (by kernel_rfl) (by kernel_rfl) (by kernel_rfl) (fun _ _ _ h => h) (by kernel_rfl) ?_ hh ?_
          rotate_left
          · intro w' hSw
            obtain ⟨j0, j1, j2, j3⟩ := hSw
            go_simp
            try with_reducible rfl
          simp only [Act.put]
          refine h_take (i := 3) (oi := _) (v := ?_) rfl (by kernel_rfl) (by kernel_rfl) (by kernel_rfl) (fun _ _ _ h => h) (by kernel_rfl) ?_ hh ?_
          rotate_left
          · intro w' hSw
            obtain ⟨j0, j1, j2, j3⟩ := hSw
            go_simp
            try with_reducible rfl
          simp only [Act.put]
          refine h_take (i := 4) (oi := _) (v := ?_) rfl (by kernel_rfl) (by kernel_rfl) (by kernel_rfl) (fun _ _ _ h => h) (by kernel_rfl) ?_ hh ?_
          rotate_left
          · intro w' hSw
            obtain ⟨j0, j1, j2, j3⟩ := hSw
            go_simp
            try with_reducible rfl
          simp only [Act.put]
          refine h_take (i := 5) (oi := _) (v := ?_) rfl (by kernel_rfl) (by kernel_rfl) (by kernel_rfl) (fun _ _ _ h => h) (by kernel_rfl) ?_ hh ?_
          rotate_left
          · intro w' hSw
            obtain ⟨j0, j1, j2, j3⟩ := hSw
            go_simp
            try with_reducible rfl
          simp only [Act.put]
          refine h_take (i := 6) (oi := _) (v := ?_) rfl (by kernel_rfl) (by kernel_rfl) (by kernel_rfl) (fun _ _ _ h => h) (by kernel_rfl) ?_ hh ?_
          rotate_left
          · intro w' hSw
            obtain ⟨j0, j1, j2, j3⟩ := hSw
            go_simp
            try with_reducible rfl
          simp only [Act.put]
          refine h_take (i := 8) (oi := _) (v := ?_) rfl (by kernel_rfl) (by kernel_rfl) (by kernel_rfl) (fun _ _ _ h => h) (by kernel_rfl) ?_ hh ?_
          rotate_left
          · intro w' hSw
            obtain ⟨j0, j1, j2, j3⟩ := hSw
            go_simp
            try with_reducible rfl
          simp only [Act.put]
          refine h_take (i := 9) (oi := _) (v := ?_) rfl (by kernel_rfl) (by kernel_rfl) (by kernel_rfl) (fun _ _ _ h => h) (by kernel_rfl) ?_ hh ?_
          rotate_left
          · intro w' hSw
            obtain ⟨j0, j1, j2, j3⟩ := hSw
            go_simp
            try with_reducible rfl
          simp only [Act.put]
          refine h_take (i := 10) (oi := _) (v := ?_) rfl (by kernel_rfl) (by kernel_rfl) (by kernel_rfl) (fun _ _ _ h => h) (by kernel_rfl) ?_ hh ?_
          rotate_left
          · intro w' hSw
            obtain ⟨j0, j1, j2, j3⟩ := hSw
            go_simp
            try with_reducible rfl
          simp only [Act.put]
          refine wpAnyH_all (rs := [7, 11, 13]) (by kernel_rfl) (by decide) ?_
          intro i hi
          simp only [List.mem_cons, List.not_mem_nil, or_false] at hi
          rcases hi with rfl | rfl | rfl
          · refine h_make (.tmp 90) (.tmp 90) 146 (some 91) (by kernel_rfl) w32.heap.size 102 i0 (.agg #[.int .i64 0, .int .i64 0, .string ByteArray.empty]) 3 Tryz.underlying146 hi0 hz0 hz1 x.frames[k].locals.length (by kernel_rfl) (by kernel_rfl) (by rw [hz2]; omega) (by unfold maxLen; omega) q.size ?_
            intro wmL hown hgrow
            have kd : Below w32.drew.heap.size w32.drew wmL := grown_below hgrow
            have hvL := nils_at hown
            have hltL : w32.drew.heap.size < wmL.heap.size := lt_own hown
            have q := q.trans (kd.mono q.size)
            have hh : (fun w' : World => w'.cell? ⟨wr.heap.size, 0, none⟩ = some (.int .i64 x.frames[k].fn) ∧ w'.cell? ⟨wr.heap.size, 1, none⟩ = some (.int .i64 x.frames[k].pc) ∧ w'.cell? ⟨wr.heap.size, 2, none⟩ = some (.slice la x.frames[k].locals.length lc) ∧ w'.cell? ⟨wr.heap.size, 3, none⟩ = some (.slice sa x.frames[k].stack.length sc)) _ := HSF.out _ q
            refine ⟨hh, ?_⟩
            clear kd hown hgrow
            try simp only [Act.put]
            refine wpAnyH_all (rs := [11, 13]) (by kernel_rfl) (by decide) ?_
            intro i hi
            simp only [List.mem_cons, List.not_mem_nil, or_false] at hi
            rcases hi with rfl | rfl
            · refine h_make (.tmp 94) (.tmp 94) 146 (some 95) (by kernel_rfl) w32.heap.size 102 i0 (.agg #[.int .i64 0, .int .i64 0, .string ByteArray.empty]) 3 Tryz.underlying146 hi0 hz0 hz1 x.frames[k].stack.length (by kernel_rfl) (by kernel_rfl) (by rw [hz2]; omega) (by unfold maxLen; omega) q.size ?_
              intro wmS hown hgrow
              have kd : Below wmL.heap.size wmL wmS := grown_below hgrow
              have hvS := nils_at hown
              have hltS : wmL.heap.size < wmS.heap.size := lt_own hown
              have hvL := hvL.mono kd
              have hltL := Nat.lt_of_lt_of_le hltL kd.size
              have q := q.trans (kd.mono q.size)
              have hh : (fun w' : World => w'.cell? ⟨wr.heap.size, 0, none⟩ = some (.int .i64 x.frames[k].fn) ∧ w'.cell? ⟨wr.heap.size, 1, none⟩ = some (.int .i64 x.frames[k].pc) ∧ w'.cell? ⟨wr.heap.size, 2, none⟩ = some (.slice la x.frames[k].locals.length lc) ∧ w'.cell? ⟨wr.heap.size, 3, none⟩ = some (.slice sa x.frames[k].stack.length sc)) _ := HSF.out _ q
              refine ⟨hh, ?_⟩
              clear kd hown hgrow
              try simp only [Act.put]
              refine h_take (i := 12) (oi := _) (v := ?_) rfl (by kernel_rfl) (by kernel_rfl) (by kernel_rfl) (fun _ _ _ h => h) (by kernel_rfl) ?_ hh ?_
              rotate_left
              · intro w' hSw
                obtain ⟨j0, j1, j2, j3⟩ := hSw
                go_simp
                try with_reducible rfl
              simp only [Act.put]
              refine wpAnyH_all (rs := [13]) (by kernel_rfl) (by decide) ?_
              intro i hi
              simp only [List.mem_cons, List.not_mem_nil, or_false] at hi
              subst hi
              refine h_some (o := _) rfl (fun K hK => ?_)
              go_simp
              have hk : (wmS.alloc (.cells #[.int .i64 0, .int .i64 0, .slice none 0 0, .slice none 0 0] 148)).heap[wmS.heap.size]? = some (.cells #[.int .i64 0, .int .i64 0, .slice none 0 0, .slice none 0 0] 148 (0, 0)) := block_new wmS #[.int .i64 0, .int .i64 0, .slice none 0 0, .slice none 0 0] 148
              have hgl : w32.heap.size ≤ wmS.heap.size := q.size
              have q0 := q
              have hvL0 := hvL
              have hvS0 := hvS
              have kd : Below wmS.heap.size wmS (wmS.alloc (.cells #[.int .i64 0, .int .i64 0, .slice none 0 0, .slice none 0 0] 148)) := (Below.refl _ _).alloc (Nat.le_refl _) _
              have hneL := Nat.ne_of_lt hltL
              have hvL := hvL.mono kd
              have hltL := Nat.lt_of_lt_of_le hltL kd.size
              have hneS := Nat.ne_of_lt hltS
              have hvS := hvS.mono kd
              have hltS := Nat.lt_of_lt_of_le hltS kd.size
              have q := q.alloc q.size (.cells #[.int .i64 0, .int .i64 0, .slice none 0 0, .slice none 0 0] 148)
              have hh : (fun w' : World => w'.cell? ⟨wr.heap.size, 0, none⟩ = some (.int .i64 x.frames[k].fn) ∧ w'.cell? ⟨wr.heap.size, 1, none⟩ = some (.int .i64 x.frames[k].pc) ∧ w'.cell? ⟨wr.heap.size, 2, none⟩ = some (.slice la x.frames[k].locals.length lc) ∧ w'.cell? ⟨wr.heap.size, 3, none⟩ = some (.slice sa x.frames[k].stack.length sc)) _ := HSF.out _ q
              refine hK.out _ _ hh ?_
              clear hK K kd
              try simp only [Act.put]
              have hc := block_cell hk
              have hf := block_free hk
              refine h_one (i := 14) (o := _) (by kernel_rfl) rfl (fun K hK => ?_)
              go_simp
              refine hK.out _ _ (HSF.out _ (q0.alloc q0.size _)) ?_
              clear hK K
              try simp only [Act.put]
              refine wpAnyH_done (by kernel_rfl) ?_ _
              go_wp2_with fail
              go_meet
              case rel => exact ⟨_, _, _, rfl, block_new _ _ _, hvL0.mono ((Below.refl _ _).alloc (Nat.le_refl _) _), hvS0.mono ((Below.refl _ _).alloc (Nat.le_refl _) _), q0.alloc q0.size _⟩
            · refine h_some (o := _) rfl (fun K hK => ?_)
              go_simp
              have hk : (wmL.alloc (.cells #[.int .i64 0, .int .i64 0, .slice none 0 0, .slice none 0 0] 148)).heap[wmL.heap.size]? = some (.cells #[.int .i64 0, .int .i64 0, .slice none 0 0, .slice none 0 0] 148 (0, 0)) := block_new wmL #[.int .i64 0, .int .i64 0, .slice none 0 0, .slice none 0 0] 148
              have hgl : w32.heap.size ≤ wmL.heap.size := q.size
              have kd : Below wmL.heap.size wmL (wmL.alloc (.cells #[.int .i64 0, .int .i64 0, .slice none 0 0, .slice none 0 0] 148)) := (Below.refl _ _).alloc (Nat.le_refl _) _
              have hneL := Nat.ne_of_lt hltL
              have hvL := hvL.mono kd
              have hltL := Nat.lt_of_lt_of_le hltL kd.size
              have q := q.alloc q.size (.cells #[.int .i64 0, .int .i64 0, .slice none 0 0, .slice none 0 0] 148)
              have hh : (fun w' : World => w'.cell? ⟨wr.heap.size, 0, none⟩ = some (.int .i64 x.frames[k].fn) ∧ w'.cell? ⟨wr.heap.size, 1, none⟩ = some (.int .i64 x.frames[k].pc) ∧ w'.cell? ⟨wr.heap.size, 2, none⟩ = some (.slice la x.frames[k].locals.length lc) ∧ w'.cell? ⟨wr.heap.size, 3, none⟩ = some (.slice sa x.frames[k].stack.length sc)) _ := HSF.out _ q
              refine hK.out _ _ hh ?_
              clear hK K kd
              try simp only [Act.put]
              change wpAnyH _ _ _ _ _ _ _ _ (wmL.alloc (.cells #[.int .i64 0, .int .i64 0, .slice none 0 0, .slice none 0 0] 148))
              obtain ⟨wB, hwB⟩ : ∃ wB, wB = (wmL.alloc (.cells #[.int .i64 0, .int .i64 0, .slice none 0 0, .slice none 0 0] 148)) := ⟨_, rfl⟩
              rw [← hwB] at hk q hvL hltL ⊢
              have hh : (fun w' : World => w'.cell? ⟨wr.heap.size, 0, none⟩ = some (.int .i64 x.frames[k].fn) ∧ w'.cell? ⟨wr.heap.size, 1, none⟩ = some (.int .i64 x.frames[k].pc) ∧ w'.cell? ⟨wr.heap.size, 2, none⟩ = some (.slice la x.frames[k].locals.length lc) ∧ w'.cell? ⟨wr.heap.size, 3, none⟩ = some (.slice sa x.frames[k].stack.length sc)) _ := HSF.out _ q
              clear hwB
              refine wpAnyH_all (rs := [11]) (by kernel_rfl) (by decide) ?_
              intro i hi
              simp only [List.mem_cons, List.not_mem_nil, or_false] at hi
              subst hi
              refine h_make (.tmp 94) (.tmp 94) 146 (some 95) (by kernel_rfl) w32.heap.size 102 i0 (.agg #[.int .i64 0, .int .i64 0, .string ByteArray.empty]) 3 Tryz.underlying146 hi0 hz0 hz1 x.frames[k].stack.length (by kernel_rfl) (by kernel_rfl) (by rw [hz2]; omega) (by unfold maxLen; omega) q.size ?_
              intro wmS hown hgrow
              have kd : Below wB.heap.size wB wmS := grown_below hgrow
              have hvS := nils_at hown
              have hltS : wB.heap.size < wmS.heap.size := lt_own hown
              have hvL := hvL.mono kd
              have hltL := Nat.lt_of_lt_of_le hltL kd.size
              have hneS : wB.heap.size ≠ _ := Nat.ne_of_gt (lt_block hk)
              have hk := block_kept hk kd
              have q := q.trans (kd.mono q.size)
              have hh : (fun w' : World => w'.cell? ⟨wr.heap.size, 0, none⟩ = some (.int .i64 x.frames[k].fn) ∧ w'.cell? ⟨wr.heap.size, 1, none⟩ = some (.int .i64 x.frames[k].pc) ∧ w'.cell? ⟨wr.heap.size, 2, none⟩ = some (.slice la x.frames[k].locals.length lc) ∧ w'.cell? ⟨wr.heap.size, 3, none⟩ = some (.slice sa x.frames[k].stack.length sc)) _ := HSF.out _ q
              refine ⟨hh, ?_⟩
              clear kd hown hgrow
              try simp only [Act.put]
              refine h_take (i := 12) (oi := _) (v := ?_) rfl (by kernel_rfl) (by kernel_rfl) (by kernel_rfl) (fun _ _ _ h => h) (by kernel_rfl) ?_ hh ?_
              rotate_left
              · intro w' hSw
                obtain ⟨j0, j1, j2, j3⟩ := hSw
                go_simp
                try with_reducible rfl
              simp only [Act.put]
              have hc := block_cell hk
              have hf := block_free hk
              refine h_one (i := 14) (o := _) (by kernel_rfl) rfl (fun K hK => ?_)
              go_simp
              refine hK.out _ _ (HSF.out _ ((((q.setCell hgl _).setCell hgl _).setCell hgl _).setCell hgl _)) ?_
              clear hK K
              try simp only [Act.put]
              refine wpAnyH_done (by kernel_rfl) ?_ _
              go_wp2_with fail
              go_meet
              case rel => exact ⟨_, _, _, rfl, stored4 hk, vals_put hvL hneL, vals_put hvS hneS, ((((q.setCell hgl _).setCell hgl _).setCell hgl _).setCell hgl _)⟩
          · refine h_make (.tmp 94) (.tmp 94) 146 (some 95) (by kernel_rfl) w32.heap.size 102 i0 (.agg #[.int .i64 0, .int .i64 0, .string ByteArray.empty]) 3 Tryz.underlying146 hi0 hz0 hz1 x.frames[k].stack.length (by kernel_rfl) (by kernel_rfl) (by rw [hz2]; omega) (by unfold maxLen; omega) q.size ?_
            intro wmS hown hgrow
            have kd : Below w32.drew.heap.size w32.drew wmS := grown_below hgrow
            have hvS := nils_at hown
            have hltS : w32.drew.heap.size < wmS.heap.size := lt_own hown
            have q := q.trans (kd.mono q.size)
            have hh : (fun w' : World => w'.cell? ⟨wr.heap.size, 0, none⟩ = some (.int .i64 x.frames[k].fn) ∧ w'.cell? ⟨wr.heap.size, 1, none⟩ = some (.int .i64 x.frames[k].pc) ∧ w'.cell? ⟨wr.heap.size, 2, none⟩ = some (.slice la x.frames[k].locals.length lc) ∧ w'.cell? ⟨wr.heap.size, 3, none⟩ = some (.slice sa x.frames[k].stack.length sc)) _ := HSF.out _ q
            refine ⟨hh, ?_⟩
            clear kd hown hgrow
            try simp only [Act.put]
            refine wpAnyH_all (rs := [7, 13]) (by kernel_rfl) (by decide) ?_
            intro i hi
            simp only [List.mem_cons, List.not_mem_nil, or_false] at hi
            rcases hi with rfl | rfl
            · refine h_make (.tmp 90) (.tmp 90) 146 (some 91) (by kernel_rfl) w32.heap.size 102 i0 (.agg #[.int .i64 0, .int .i64 0, .string ByteArray.empty]) 3 Tryz.underlying146 hi0 hz0 hz1 x.frames[k].locals.length (by kernel_rfl) (by kernel_rfl) (by rw [hz2]; omega) (by unfold maxLen; omega) q.size ?_
              intro wmL hown hgrow
              have kd : Below wmS.heap.size wmS wmL := grown_below hgrow
              have hvL := nils_at hown
              have hltL : wmS.heap.size < wmL.heap.size := lt_own hown
              have hvS := hvS.mono kd
              have hltS := Nat.lt_of_lt_of_le hltS kd.size
              have q := q.trans (kd.mono q.size)
              have hh : (fun w' : World => w'.cell? ⟨wr.heap.size, 0, none⟩ = some (.int .i64 x.frames[k].fn) ∧ w'.cell? ⟨wr.heap.size, 1, none⟩ = some (.int .i64 x.frames[k].pc) ∧ w'.cell? ⟨wr.heap.size, 2, none⟩ = some (.slice la x.frames[k].locals.length lc) ∧ w'.cell? ⟨wr.heap.size, 3, none⟩ = some (.slice sa x.frames[k].stack.length sc)) _ := HSF.out _ q
              refine ⟨hh, ?_⟩
              clear kd hown hgrow
              try simp only [Act.put]
              refine h_take (i := 12) (oi := _) (v := ?_) rfl (by kernel_rfl) (by kernel_rfl) (by kernel_rfl) (fun _ _ _ h => h) (by kernel_rfl) ?_ hh ?_
              rotate_left
              · intro w' hSw
                obtain ⟨j0, j1, j2, j3⟩ := hSw
                go_simp
                try with_reducible rfl
              simp only [Act.put]
              refine wpAnyH_all (rs := [13]) (by kernel_rfl) (by decide) ?_
              intro i hi
              simp only [List.mem_cons, List.not_mem_nil, or_false] at hi
              subst hi
              refine h_some (o := _) rfl (fun K hK => ?_)
              go_simp
              have hk : (wmL.alloc (.cells #[.int .i64 0, .int .i64 0, .slice none 0 0, .slice none 0 0] 148)).heap[wmL.heap.size]? = some (.cells #[.int .i64 0, .int .i64 0, .slice none 0 0, .slice none 0 0] 148 (0, 0)) := block_new wmL #[.int .i64 0, .int .i64 0, .slice none 0 0, .slice none 0 0] 148
              have hgl : w32.heap.size ≤ wmL.heap.size := q.size
              have q0 := q
              have hvL0 := hvL
              have hvS0 := hvS
              have kd : Below wmL.heap.size wmL (wmL.alloc (.cells #[.int .i64 0, .int .i64 0, .slice none 0 0, .slice none 0 0] 148)) := (Below.refl _ _).alloc (Nat.le_refl _) _
              have hneL := Nat.ne_of_lt hltL
              have hvL := hvL.mono kd
              have hltL := Nat.lt_of_lt_of_le hltL kd.size
              have hneS := Nat.ne_of_lt hltS
              have hvS := hvS.mono kd
              have hltS := Nat.lt_of_lt_of_le hltS kd.size
              have q := q.alloc q.size (.cells #[.int .i64 0, .int .i64 0, .slice none 0 0, .slice none 0 0] 148)
              have hh : (fun w' : World => w'.cell? ⟨wr.heap.size, 0, none⟩ = some (.int .i64 x.frames[k].fn) ∧ w'.cell? ⟨wr.heap.size, 1, none⟩ = some (.int .i64 x.frames[k].pc) ∧ w'.cell? ⟨wr.heap.size, 2, none⟩ = some (.slice la x.frames[k].locals.length lc) ∧ w'.cell? ⟨wr.heap.size, 3, none⟩ = some (.slice sa x.frames[k].stack.length sc)) _ := HSF.out _ q
              refine hK.out _ _ hh ?_
              clear hK K kd
              try simp only [Act.put]
              have hc := block_cell hk
              have hf := block_free hk
              refine h_one (i := 14) (o := _) (by kernel_rfl) rfl (fun K hK => ?_)
              go_simp
              refine hK.out _ _ (HSF.out _ (q0.alloc q0.size _)) ?_
              clear hK K
              try simp only [Act.put]
              refine wpAnyH_done (by kernel_rfl) ?_ _
              go_wp2_with fail
              go_meet
              case rel => exact ⟨_, _, _, rfl, block_new _ _ _, hvL0.mono ((Below.refl _ _).alloc (Nat.le_refl _) _), hvS0.mono ((Below.refl _ _).alloc (Nat.le_refl _) _), q0.alloc q0.size _⟩
            · refine h_some (o := _) rfl (fun K hK => ?_)
              go_simp
              have hk : (wmS.alloc (.cells #[.int .i64 0, .int .i64 0, .slice none 0 0, .slice none 0 0] 148)).heap[wmS.heap.size]? = some (.cells #[.int .i64 0, .int .i64 0, .slice none 0 0, .slice none 0 0] 148 (0, 0)) := block_new wmS #[.int .i64 0, .int .i64 0, .slice none 0 0, .slice none 0 0] 148
              have hgl : w32.heap.size ≤ wmS.heap.size := q.size
              have kd : Below wmS.heap.size wmS (wmS.alloc (.cells #[.int .i64 0, .int .i64 0, .slice none 0 0, .slice none 0 0] 148)) := (Below.refl _ _).alloc (Nat.le_refl _) _
              have hneS := Nat.ne_of_lt hltS
              have hvS := hvS.mono kd
              have hltS := Nat.lt_of_lt_of_le hltS kd.size
              have q := q.alloc q.size (.cells #[.int .i64 0, .int .i64 0, .slice none 0 0, .slice none 0 0] 148)
              have hh : (fun w' : World => w'.cell? ⟨wr.heap.size, 0, none⟩ = some (.int .i64 x.frames[k].fn) ∧ w'.cell? ⟨wr.heap.size, 1, none⟩ = some (.int .i64 x.frames[k].pc) ∧ w'.cell? ⟨wr.heap.size, 2, none⟩ = some (.slice la x.frames[k].locals.length lc) ∧ w'.cell? ⟨wr.heap.size, 3, none⟩ = some (.slice sa x.frames[k].stack.length sc)) _ := HSF.out _ q
              refine hK.out _ _ hh ?_
              clear hK K kd
              try simp only [Act.put]
              change wpAnyH _ _ _ _ _ _ _ _ (wmS.alloc (.cells #[.int .i64 0, .int .i64 0, .slice none 0 0, .slice none 0 0] 148))
              obtain ⟨wB, hwB⟩ : ∃ wB, wB = (wmS.alloc (.cells #[.int .i64 0, .int .i64 0, .slice none 0 0, .slice none 0 0] 148)) := ⟨_, rfl⟩
              rw [← hwB] at hk q hvS hltS ⊢
              have hh : (fun w' : World => w'.cell? ⟨wr.heap.size, 0, none⟩ = some (.int .i64 x.frames[k].fn) ∧ w'.cell? ⟨wr.heap.size, 1, none⟩ = some (.int .i64 x.frames[k].pc) ∧ w'.cell? ⟨wr.heap.size, 2, none⟩ = some (.slice la x.frames[k].locals.length lc) ∧ w'.cell? ⟨wr.heap.size, 3, none⟩ = some (.slice sa x.frames[k].stack.length sc)) _ := HSF.out _ q
              clear hwB
              refine wpAnyH_all (rs := [7]) (by kernel_rfl) (by decide) ?_
              intro i hi
              simp only [List.mem_cons, List.not_mem_nil, or_false] at hi
              subst hi
              refine h_make (.tmp 90) (.tmp 90) 146 (some 91) (by kernel_rfl) w32.heap.size 102 i0 (.agg #[.int .i64 0, .int .i64 0, .string ByteArray.empty]) 3 Tryz.underlying146 hi0 hz0 hz1 x.frames[k].locals.length (by kernel_rfl) (by kernel_rfl) (by rw [hz2]; omega) (by unfold maxLen; omega) q.size ?_
              intro wmL hown hgrow
              have kd : Below wB.heap.size wB wmL := grown_below hgrow
              have hvL := nils_at hown
              have hltL : wB.heap.size < wmL.heap.size := lt_own hown
              have hvS := hvS.mono kd
              have hltS := Nat.lt_of_lt_of_le hltS kd.size
              have hneL : wB.heap.size ≠ _ := Nat.ne_of_gt (lt_block hk)
              have hk := block_kept hk kd
              have q := q.trans (kd.mono q.size)
              have hh : (fun w' : World => w'.cell? ⟨wr.heap.size, 0, none⟩ = some (.int .i64 x.frames[k].fn) ∧ w'.cell? ⟨wr.heap.size, 1, none⟩ = some (.int .i64 x.frames[k].pc) ∧ w'.cell? ⟨wr.heap.size, 2, none⟩ = some (.slice la x.frames[k].locals.length lc) ∧ w'.cell? ⟨wr.heap.size, 3, none⟩ = some (.slice sa x.frames[k].stack.length sc)) _ := HSF.out _ q
              refine ⟨hh, ?_⟩
              clear kd hown hgrow
              try simp only [Act.put]
              refine h_take (i := 12) (oi := _) (v := ?_) rfl (by kernel_rfl) (by kernel_rfl) (by kernel_rfl) (fun _ _ _ h => h) (by kernel_rfl) ?_ hh ?_
              rotate_left
              · intro w' hSw
                obtain ⟨j0, j1, j2, j3⟩ := hSw
                go_simp
                try with_reducible rfl
              simp only [Act.put]
              have hc := block_cell hk
              have hf := block_free hk
              refine h_one (i := 14) (o := _) (by kernel_rfl) rfl (fun K hK => ?_)
              go_simp
              refine hK.out _ _ (HSF.out _ ((((q.setCell hgl _).setCell hgl _).setCell hgl _).setCell hgl _)) ?_
              clear hK K
              try simp only [Act.put]
              refine wpAnyH_done (by kernel_rfl) ?_ _
              go_wp2_with fail
              go_meet
              case rel => exact ⟨_, _, _, rfl, stored4 hk, vals_put hvL hneL, vals_put hvS hneS, ((((q.setCell hgl _).setCell hgl _).setCell hgl _).setCell hgl _)⟩
          · refine h_some (o := _) rfl (fun K hK => ?_)
            go_simp
            have hk : (w32.drew.alloc (.cells #[.int .i64 0, .int .i64 0, .slice none 0 0, .slice none 0 0] 148)).heap[w32.heap.size]? = some (.cells #[.int .i64 0, .int .i64 0, .slice none 0 0, .slice none 0 0] 148 (0, 0)) := block_new w32.drew #[.int .i64 0, .int .i64 0, .slice none 0 0, .slice none 0 0] 148
            have hgl : w32.heap.size ≤ w32.heap.size := q.size
            have kd : Below w32.drew.heap.size w32.drew (w32.drew.alloc (.cells #[.int .i64 0, .int .i64 0, .slice none 0 0, .slice none 0 0] 148)) := (Below.refl _ _).alloc (Nat.le_refl _) _
            have q := q.alloc q.size (.cells #[.int .i64 0, .int .i64 0, .slice none 0 0, .slice none 0 0] 148)
            have hh : (fun w' : World => w'.cell? ⟨wr.heap.size, 0, none⟩ = some (.int .i64 x.frames[k].fn) ∧ w'.cell? ⟨wr.heap.size, 1, none⟩ = some (.int .i64 x.frames[k].pc) ∧ w'.cell? ⟨wr.heap.size, 2, none⟩ = some (.slice la x.frames[k].locals.length lc) ∧ w'.cell? ⟨wr.heap.size, 3, none⟩ = some (.slice sa x.frames[k].stack.length sc)) _ := HSF.out _ q
            refine hK.out _ _ hh ?_
            clear hK K kd
            try simp only [Act.put]
            change wpAnyH _ _ _ _ _ _ _ _ (w32.drew.alloc (.cells #[.int .i64 0, .int .i64 0, .slice none 0 0, .slice none 0 0] 148))
            obtain ⟨wB, hwB⟩ : ∃ wB, wB = (w32.drew.alloc (.cells #[.int .i64 0, .int .i64 0, .slice none 0 0, .slice none 0 0] 148)) := ⟨_, rfl⟩
            rw [← hwB] at hk q ⊢
            have hh : (fun w' : World => w'.cell? ⟨wr.heap.size, 0, none⟩ = some (.int .i64 x.frames[k].fn) ∧ w'.cell? ⟨wr.heap.size, 1, none⟩ = some (.int .i64 x.frames[k].pc) ∧ w'.cell? ⟨wr.heap.size, 2, none⟩ = some (.slice la x.frames[k].locals.length lc) ∧ w'.cell? ⟨wr.heap.size, 3, none⟩ = some (.slice sa x.frames[k].stack.length sc)) _ := HSF.out _ q
            clear hwB
            refine wpAnyH_all (rs := [7, 11]) (by kernel_rfl) (by decide) ?_
            intro i hi
            simp only [List.mem_cons, List.not_mem_nil, or_false] at hi
            rcases hi with rfl | rfl
            · refine h_make (.tmp 90) (.tmp 90) 146 (some 91) (by kernel_rfl) w32.heap.size 102 i0 (.agg #[.int .i64 0, .int .i64 0, .string ByteArray.empty]) 3 Tryz.underlying146 hi0 hz0 hz1 x.frames[k].locals.length (by kernel_rfl) (by kernel_rfl) (by rw [hz2]; omega) (by unfold maxLen; omega) q.size ?_
              intro wmL hown hgrow
              have kd : Below wB.heap.size wB wmL := grown_below hgrow
              have hvL := nils_at hown
              have hltL : wB.heap.size < wmL.heap.size := lt_own hown
              have hneL : wB.heap.size ≠ _ := Nat.ne_of_gt (lt_block hk)
              have hk := block_kept hk kd
              have q := q.trans (kd.mono q.size)
              have hh : (fun w' : World => w'.cell? ⟨wr.heap.size, 0, none⟩ = some (.int .i64 x.frames[k].fn) ∧ w'.cell? ⟨wr.heap.size, 1, none⟩ = some (.int .i64 x.frames[k].pc) ∧ w'.cell? ⟨wr.heap.size, 2, none⟩ = some (.slice la x.frames[k].locals.length lc) ∧ w'.cell? ⟨wr.heap.size, 3, none⟩ = some (.slice sa x.frames[k].stack.length sc)) _ := HSF.out _ q
              refine ⟨hh, ?_⟩
              clear kd hown hgrow
              try simp only [Act.put]
              refine wpAnyH_all (rs := [11]) (by kernel_rfl) (by decide) ?_
              intro i hi
              simp only [List.mem_cons, List.not_mem_nil, or_false] at hi
              subst hi
              refine h_make (.tmp 94) (.tmp 94) 146 (some 95) (by kernel_rfl) w32.heap.size 102 i0 (.agg #[.int .i64 0, .int .i64 0, .string ByteArray.empty]) 3 Tryz.underlying146 hi0 hz0 hz1 x.frames[k].stack.length (by kernel_rfl) (by kernel_rfl) (by rw [hz2]; omega) (by unfold maxLen; omega) q.size ?_
              intro wmS hown hgrow
              have kd : Below wmL.heap.size wmL wmS := grown_below hgrow
              have hvS := nils_at hown
              have hltS : wmL.heap.size < wmS.heap.size := lt_own hown
              have hvL := hvL.mono kd
              have hltL := Nat.lt_of_lt_of_le hltL kd.size
              have hneS : wmL.heap.size ≠ _ := Nat.ne_of_gt (lt_block hk)
              have hk := block_kept hk kd
              have q := q.trans (kd.mono q.size)
              have hh : (fun w' : World => w'.cell? ⟨wr.heap.size, 0, none⟩ = some (.int .i64 x.frames[k].fn) ∧ w'.cell? ⟨wr.heap.size, 1, none⟩ = some (.int .i64 x.frames[k].pc) ∧ w'.cell? ⟨wr.heap.size, 2, none⟩ = some (.slice la x.frames[k].locals.length lc) ∧ w'.cell? ⟨wr.heap.size, 3, none⟩ = some (.slice sa x.frames[k].stack.length sc)) _ := HSF.out _ q
              refine ⟨hh, ?_⟩
              clear kd hown hgrow
              try simp only [Act.put]
              refine h_take (i := 12) (oi := _) (v := ?_) rfl (by kernel_rfl) (by kernel_rfl) (by kernel_rfl) (fun _ _ _ h => h) (by kernel_rfl) ?_ hh ?_
              rotate_left
              · intro w' hSw
                obtain ⟨j0, j1, j2, j3⟩ := hSw
                go_simp
                try with_reducible rfl
              simp only [Act.put]
              have hc := block_cell hk
              have hf := block_free hk
              refine h_one (i := 14) (o := _) (by kernel_rfl) rfl (fun K hK => ?_)
              go_simp
              refine hK.out _ _ (HSF.out _ ((((q.setCell hgl _).setCell hgl _).setCell hgl _).setCell hgl _)) ?_
              clear hK K
              try simp only [Act.put]
              refine wpAnyH_done (by kernel_rfl) ?_ _
              go_wp2_with fail
              go_meet
              case rel => exact ⟨_, _, _, rfl, stored4 hk, vals_put hvL hneL, vals_put hvS hneS, ((((q.setCell hgl _).setCell hgl _).setCell hgl _).setCell hgl _)⟩
            · refine h_make (.tmp 94) (.tmp 94) 146 (some 95) (by kernel_rfl) w32.heap.size 102 i0 (.agg #[.int .i64 0, .int .i64 0, .string ByteArray.empty]) 3 Tryz.underlying146 hi0 hz0 hz1 x.frames[k].stack.length (by kernel_rfl) (by kernel_rfl) (by rw [hz2]; omega) (by unfold maxLen; omega) q.size ?_
              intro wmS hown hgrow
              have kd : Below wB.heap.size wB wmS := grown_below hgrow
              have hvS := nils_at hown
              have hltS : wB.heap.size < wmS.heap.size := lt_own hown
              have hneS : wB.heap.size ≠ _ := Nat.ne_of_gt (lt_block hk)
              have hk := block_kept hk kd
              have q := q.trans (kd.mono q.size)
              have hh : (fun w' : World => w'.cell? ⟨wr.heap.size, 0, none⟩ = some (.int .i64 x.frames[k].fn) ∧ w'.cell? ⟨wr.heap.size, 1, none⟩ = some (.int .i64 x.frames[k].pc) ∧ w'.cell? ⟨wr.heap.size, 2, none⟩ = some (.slice la x.frames[k].locals.length lc) ∧ w'.cell? ⟨wr.heap.size, 3, none⟩ = some (.slice sa x.frames[k].stack.length sc)) _ := HSF.out _ q
              refine ⟨hh, ?_⟩
              clear kd hown hgrow
              try simp only [Act.put]
              refine wpAnyH_all (rs := [7]) (by kernel_rfl) (by decide) ?_
              intro i hi
              simp only [List.mem_cons, List.not_mem_nil, or_false] at hi
              subst hi
              refine h_make (.tmp 90) (.tmp 90) 146 (some 91) (by kernel_rfl) w32.heap.size 102 i0 (.agg #[.int .i64 0, .int .i64 0, .string ByteArray.empty]) 3 Tryz.underlying146 hi0 hz0 hz1 x.frames[k].locals.length (by kernel_rfl) (by kernel_rfl) (by rw [hz2]; omega) (by unfold maxLen; omega) q.size ?_
              intro wmL hown hgrow
              have kd : Below wmS.heap.size wmS wmL := grown_below hgrow
              have hvL := nils_at hown
              have hltL : wmS.heap.size < wmL.heap.size := lt_own hown
              have hvS := hvS.mono kd
              have hltS := Nat.lt_of_lt_of_le hltS kd.size
              have hneL : wmS.heap.size ≠ _ := Nat.ne_of_gt (lt_block hk)
              have hk := block_kept hk kd
              have q := q.trans (kd.mono q.size)
              have hh : (fun w' : World => w'.cell? ⟨wr.heap.size, 0, none⟩ = some (.int .i64 x.frames[k].fn) ∧ w'.cell? ⟨wr.heap.size, 1, none⟩ = some (.int .i64 x.frames[k].pc) ∧ w'.cell? ⟨wr.heap.size, 2, none⟩ = some (.slice la x.frames[k].locals.length lc) ∧ w'.cell? ⟨wr.heap.size, 3, none⟩ = some (.slice sa x.frames[k].stack.length sc)) _ := HSF.out _ q
              refine ⟨hh, ?_⟩
              clear kd hown hgrow
              try simp only [Act.put]
              refine h_take (i := 12) (oi := _) (v := ?_) rfl (by kernel_rfl) (by kernel_rfl) (by kernel_rfl) (fun _ _ _ h => h) (by kernel_rfl) ?_ hh ?_
              rotate_left
              · intro w' hSw
                obtain ⟨j0, j1, j2, j3⟩ := hSw
                go_simp
                try with_reducible rfl
              simp only [Act.put]
              have hc := block_cell hk
              have hf := block_free hk
              refine h_one (i := 14) (o := _) (by kernel_rfl) rfl (fun K hK => ?_)
              go_simp
              refine hK.out _ _ (HSF.out _ ((((q.setCell hgl _).setCell hgl _).setCell hgl _).setCell hgl _)) ?_
              clear hK K
              try simp only [Act.put]
              refine wpAnyH_done (by kernel_rfl) ?_ _
              go_wp2_with fail
              go_meet
              case rel => exact ⟨_, _, _, rfl, stored4 hk, vals_put hvL hneL, vals_put hvS hneS, ((((q.setCell hgl _).setCell hgl _).setCell hgl _).setCell hgl _)⟩
        case rest =>
          obtain ⟨g, gl, gs, rfl, hg, hvL, hvS, hq⟩ := hcut
          have hC4 := hC3.mono hq
          have hX4 := block_kept hX3 hq
          have R4 := R3.trans (Rk.of hq)
          clear hC3 hX3 R3 hF3 HSF hi0 hz0 hz1 hz2
          have hneg : g ≠ K := fun e => by
            have h1 := hC4.blk
            rw [← e, hg] at h1
            simp at h1
          obtain ⟨lb, hlb⟩ : ∃ lb, lb = decide ((k : Int) = (x.frames.length : Int) - 1) := ⟨_, rfl⟩
          have hw1 : IntKind.i64.wrap ((x.frames.length : Int) - 1) = (x.frames.length : Int) - 1 := by rw [IntKind.wrap_i64]; omega
          have HR1 : Hid (((k : Int) == IntKind.i64.wrap ((x.frames.length : Int) - 1)) = lb) := by
            show _ = _
            rw [hw1, hlb, Bool.eq_iff_iff]
            simp
          have HR2 : Hid (((k : Int) == (x.frames.length : Int) - 1) = lb) := by
            show _ = _
            rw [hlb, Bool.eq_iff_iff]
            simp
          have HLB : Hid (lb = decide ((k : Int) = (x.frames.length : Int) - 1)) := hlb
          clear hlb
          have HC : Hid (Chk a1 a2 oa ea nt c1 c2 oc ec fs.length K D wK _ wc) := hC4
          have HS : Hid (∀ w', Below wc.heap.size wc w' → w'.cell? ⟨K, 0, none⟩ = some (.slice a1 nt c1) ∧ w'.cell? ⟨K, 1, none⟩ = some (.slice a2 fs.length c2) ∧ w'.cell? ⟨g, 0, none⟩ = some (.int .i64 x.frames[k].fn) ∧ w'.cell? ⟨g, 1, none⟩ = some (.int .i64 x.frames[k].pc) ∧ w'.cell? ⟨g, 2, none⟩ = some (.slice (some ⟨gl, 0, none⟩) x.frames[k].locals.length x.frames[k].locals.length) ∧ w'.cell? ⟨g, 3, none⟩ = some (.slice (some ⟨gs, 0, none⟩) x.frames[k].stack.length x.frames[k].stack.length)) := fun w' q => ⟨(HC.out.mono q).cells 0, (HC.out.mono q).cells 1, block_cell (block_kept hg q) 0, block_cell (block_kept hg q) 1, block_cell (block_kept hg q) 2, block_cell (block_kept hg q) 3⟩
          have HFR : Hid (∀ (last : Bool) w', Below wc.heap.size wc w' → Calls Tryz.prog 78 #[.agg #[.slice a1 nt c1, .slice a2 fs.length c2], .agg #[.int .i64 x.frames[k].fn, .int .i64 x.frames[k].pc, .slice (some ⟨gl, 0, none⟩) x.frames[k].locals.length x.frames[k].locals.length, .slice (some ⟨gs, 0, none⟩) x.frames[k].stack.length x.frames[k].stack.length], .int .i64 0, .bool last] w' fun e w'' => e = .returned (.bool (pB (Fits fs x.frames[k].fn x.frames[k].pc x.frames[k].locals.length x.frames[k].stack.length last))) ∧ Below w'.heap.size w' w'') := fun last w' q => frB_any _ _ gl gs _ _ last l.nf (l.at (HC.out.mono q)).1 l.fine hsl hss (hvL.mono q) (hvS.mono q)
          obtain ⟨j0, j1, j2, j3, j4, j5⟩ := HS.out _ (Below.refl _ _)
          have q : Below wc.heap.size wc wc.drew := (Below.refl _ _).drew
          have HG := hg
          clear hC4 hg hvL hvS
          go_upto_region 15 with fail
          go_region_held3 (fun w' => w'.cell? ⟨K, 0, none⟩ = some (.slice a1 nt c1) ∧ w'.cell? ⟨K, 1, none⟩ = some (.slice a2 fs.length c2) ∧ w'.cell? ⟨g, 0, none⟩ = some (.int .i64 x.frames[k].fn) ∧ w'.cell? ⟨g, 1, none⟩ = some (.int .i64 x.frames[k].pc) ∧ w'.cell? ⟨g, 2, none⟩ = some (.slice (some ⟨gl, 0, none⟩) x.frames[k].locals.length x.frames[k].locals.length) ∧ w'.cell? ⟨g, 3, none⟩ = some (.slice (some ⟨gs, 0, none⟩) x.frames[k].stack.length x.frames[k].stack.length))
            (first | exact ⟨j0, j1, j2, j3, j4, j5⟩ | exact HS.out _ q | exact ⟨hc.cells 0, hc.cells 1, block_cell (block_rk (block_kept HG q) hneg hr) 0, block_cell (block_rk (block_kept HG q) hneg hr) 1, block_cell (block_rk (block_kept HG q) hneg hr) 2, block_cell (block_rk (block_kept HG q) hneg hr) 3⟩)
            (first
              | (go_at_call 78; (try rw [HR1.out]); (try rw [HR2.out]); refine (HFR.out _ _ q).mono ?_; rintro e wz ⟨rfl, kd⟩; have q := q.trans (kd.mono q.size))
              | (go_at_call 72; refine (needP_any _ (HC.out.mono q)).mono ?_; rintro e wy ⟨rfl, hc, hr⟩))
          have hX5 := block_rk (block_kept hX4 q) hne hr
          have R5 := (R4.trans (Rk.of q)).trans hr
          have hC5 : Chk a1 a2 oa ea nt c1 c2 oc ec fs.length K D wK (((b || !pB (Btw x.kind 1 4)) || !pB (EGuessP fs x)) || !pB (FramesTo fs D x.recs.length x.frames (k + 1))) wy := hc.both.both.both.iff ⟨fun q => (FramesTo.more hlt).1 ⟨q.1, by rw [← HLB.out]; exact ⟨q.2.2.2, q.2.1, q.2.2.1⟩⟩, fun q => by
            have q' := (FramesTo.more hlt).2 q
            rw [← HLB.out] at q'
            exact ⟨q'.1, q'.2.2.1, q'.2.2.2, q'.2.1⟩⟩
          clear HS HC HFR HG hc hr j0 j1 j2 j3 j4 j5 HR1 HR2 hw1
          go_wp2
          go_roundw
          case rel => exact ⟨k + 1, by omega, by go_num, hC5, hX5, hR.trans R5⟩
          case measure => simp [intOf]; omega
      obtain rfl : k = x.frames.length := by omega
      have z2 : ¬ (x.frames.length : Int) < (x.frames.length : Int) := by omega
      clear hlt
      go_wp2
      obtain ⟨wo, rfl⟩ : ∃ wo, wo = wr := ⟨_, rfl⟩
      go_loopw [8] (fun i wr => ∃ (j : Nat), j ≤ x.recs.length ∧ i = .int .i64 j ∧ Chk a1 a2 oa ea nt c1 c2 oc ec fs.length K D wK ((((b || !pB (Btw x.kind 1 4)) || !pB (EGuessP fs x)) || !pB (FramesTo fs D x.recs.length x.frames x.frames.length)) || !pB (RecsTo fs.length D x.recs.length x.recs j)) wr ∧ wr.heap[w.heap.size]? = some (.cells #[.int .i64 x.kind, .int .i64 x.spec.f, .int .i64 x.spec.pc, .int .i64 x.spec.seen, .int .i64 x.spec.target, .slice (some ⟨bF, oF, none⟩) x.frames.length fc, .slice ra x.recs.length rc] 101 (0, 0)) ∧ Rk K w wr) (fun i _ => x.recs.length - (intOf i).toNat)
      case atStart => exact ⟨0, by omega, rfl, by rw [pB_yes RecsTo.zero]; simpa using hC, hX, hR⟩
      case round =>
        obtain ⟨j, hj, rfl, hC2, hX2, hR2⟩ := hrel
        clear hC hX hR
        have x2 := block_cell hX2
        by_cases hlj : j < x.recs.length
        case neg =>
          obtain rfl : j = x.recs.length := by omega
          clear hlj
          go_wp2
          go_end0
          refine ⟨rfl, ?_, hR2⟩
          refine hC2.both.both.both.iff ?_
          have hb4 := HBT.out
          exact ⟨fun q => ⟨q.1, q.2.1, ⟨by have := hb4.1; omega, by have := hb4.2; omega⟩, ⟨hz, HFN.out⟩, fun i h => q.2.2.1 i h h, H60.out, fun i h => q.2.2.2 i h h⟩, fun q => ⟨q.1, q.2.1, fun i h _ => q.2.2.2.2.1 i h, fun i h _ => q.2.2.2.2.2.2 i h⟩⟩
        obtain ⟨bR, oR, fa', fc', rfl, -, d0, p0⟩ := hrc j hlj
        have hbel := hC2.bel
        rw [l.size] at hbel
        have e0 := cell_later hbel d0
        have hsj := hsm.2.2 _ (List.getElem_mem hlj)
        have hsf := hsj.1
        have zj : (j : Int) < (x.recs.length : Int) := by omega
        clear hbel
        go_wp2_with fail
        rw [show decide ((x.recs[j].fields.length : Int) ≤ 6) = pB (x.recs[j].fields.length ≤ 6) by rw [Bool.eq_iff_iff]; simp [pB]; omega]
        refine (needP_any _ hC2).mono ?_
        rintro e w41 ⟨rfl, hC3, hr⟩
        have hX3 := block_rk hX2 hne hr
        have R3 := hR2.trans hr
        clear x2 hX2 hC2 hr e0 hR2
        have HC : Hid (Chk a1 a2 oa ea nt c1 c2 oc ec fs.length K D wK _ w41) := hC3
        have HXX := hX3
        have HD : Hid (∀ w', Below K wK w' → w'.cell? ⟨bR, oR + j, none⟩ = some (.slice fa' x.recs[j].fields.length fc')) := fun w' q => by rw [l.size] at q; exact cell_later q d0
        have HS : Hid (∀ w', Below w41.heap.size w41 w' → w'.cell? ⟨w.heap.size, 6, none⟩ = some (.slice (some ⟨bR, oR, none⟩) x.recs.length rc) ∧ w'.cell? ⟨bR, oR + j, none⟩ = some (.slice fa' x.recs[j].fields.length fc')) := fun w' q => ⟨block_cell (block_kept HXX q) 6, HD.out _ (HC.out.mono q).bel⟩
        obtain ⟨j0, j1⟩ := HS.out _ (Below.refl _ _)
        have q : Below w41.heap.size w41 w41.drew := (Below.refl _ _).drew
        clear hC3
        go_upto_region 20 with fail
        go_region_held3 (fun w' => w'.cell? ⟨w.heap.size, 6, none⟩ = some (.slice (some ⟨bR, oR, none⟩) x.recs.length rc) ∧ w'.cell? ⟨bR, oR + j, none⟩ = some (.slice fa' x.recs[j].fields.length fc'))
          (first | exact ⟨j0, j1⟩ | exact HS.out _ q | exact ⟨block_cell (block_rk (block_kept HXX q) hne hr) 6, HD.out _ hc.bel⟩)
          (first
            | (go_at_call 77; refine (kSrcs_any fa' x.recs[j].fields fc' x.recs.length hsj p0 l (HC.out.mono q)).mono ?_; rintro e wy ⟨rfl, hc, hr⟩))
        have hX4 := block_rk (block_kept HXX q) hne hr
        have R4 := (R3.trans (Rk.of q)).trans hr
        have hC4 : Chk a1 a2 oa ea nt c1 c2 oc ec fs.length K D wK ((((b || !pB (Btw x.kind 1 4)) || !pB (EGuessP fs x)) || !pB (FramesTo fs D x.recs.length x.frames x.frames.length)) || !pB (RecsTo fs.length D x.recs.length x.recs (j + 1))) wy := hc.both.both.iff (RecsTo.more hlj)
        clear HS HC HD j0 j1 hc hr
        go_wp2
        go_roundw
        case rel => exact ⟨j + 1, by omega, by go_num, hC4, hX4, R4⟩
        case measure => simp [intOf]; omega
end
end Go.Proofs.YtcbknjjnphknbaaGreatDoor
