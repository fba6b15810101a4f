/-
  The look at an exit of code (the program).
-/
import Derived.Test.YtcbknjjnphknbaaGreatDoorZOQ23
namespace Go.Proofs.YtcbknjjnphknbaaGreatDoor
open Go.RowKit

section
variable {fs : List Fn} {D : FastD} {a1 a2 oa ea fa ra : Option Addr} {nt c1 c2 oc ec G base K fc rc : Nat} {w : World}
set_option maxRecDepth 100000 in
set_option maxHeartbeats 16000000 in
theorem exitOk_any (i0 : Int) (x : Ex) (hsm : ExSmall x) (hfr : EFsAt w 0 fa x.frames) (hrc : ERsAt w 0 ra x.recs) (h : Look fs D a1 a2 oa ea nt c1 c2 oc ec G base K w) (lim : Lim fs D) :
    Calls Tryz.prog 55 #[.pointer (some ⟨K, 0, none⟩), .int .i64 i0, .agg #[.int .i64 x.kind, .int .i64 x.spec.f, .int .i64 x.spec.pc, .int .i64 x.spec.seen, .int .i64 x.spec.target, .slice fa x.frames.length fc, .slice ra x.recs.length rc]] w fun e w' => e = .returned (.bool (pB (ExitP fs D x))) ∧ Below w.heap.size w w' := by
  obtain ⟨wA, hwA⟩ : ∃ wA, wA = (w.alloc (.cells #[.int .i64 x.kind, .int .i64 x.spec.f, .int .i64 x.spec.pc, .int .i64 x.spec.seen, .int .i64 x.spec.target, .slice fa x.frames.length fc, .slice ra x.recs.length rc] 101)).alloc (.cells #[.pointer (some ⟨K, 0, none⟩), .slice fa x.frames.length fc, .slice ra x.recs.length rc] 184) := ⟨_, rfl⟩
  have hbA : Below w.heap.size w wA := by rw [hwA]; exact ((Below.refl _ _).alloc (Nat.le_refl _) _).alloc (by simp) _
  have hX : wA.heap[w.heap.size]? = some (.cells #[.int .i64 x.kind, .int .i64 x.spec.f, .int .i64 x.spec.pc, .int .i64 x.spec.seen, .int .i64 x.spec.target, .slice fa x.frames.length fc, .slice ra x.recs.length rc] 101 (0, 0)) := by rw [hwA]; exact block_old (block_new _ _ _) _
  have hL : wA.heap[w.heap.size + 1]? = some (.cells #[.pointer (some ⟨K, 0, none⟩), .slice fa x.frames.length fc, .slice ra x.recs.length rc] 184 (0, 0)) := by rw [hwA]; exact block_new_at _ _ _ _ (by simp)
  have hk := h.mono hbA
  have hfrA := hfr.mono hbA
  have hrcA := hrc.mono hbA
  have hn4 := hsm.1.1
  have hn6 := hsm.2.1
  have HB : Hid (Below w.heap.size w wA) := hbA
  have HS : Hid (∀ w', Below wA.heap.size wA w' → w'.cell? ⟨w.heap.size, 0, none⟩ = some (.int .i64 x.kind) ∧ w'.cell? ⟨w.heap.size, 1, none⟩ = some (.int .i64 x.spec.f) ∧ w'.cell? ⟨w.heap.size, 2, none⟩ = some (.int .i64 x.spec.pc) ∧ w'.cell? ⟨w.heap.size, 3, none⟩ = some (.int .i64 x.spec.seen) ∧ w'.cell? ⟨w.heap.size, 4, none⟩ = some (.int .i64 x.spec.target) ∧ w'.cell? ⟨w.heap.size, 5, none⟩ = some (.slice fa x.frames.length fc) ∧ w'.cell? ⟨w.heap.size, 6, none⟩ = some (.slice ra x.recs.length rc) ∧ w'.cell? ⟨w.heap.size + 1, 0, none⟩ = some (.pointer (some ⟨K, 0, none⟩)) ∧ w'.cell? ⟨w.heap.size + 1, 1, none⟩ = some (.slice fa x.frames.length fc) ∧ w'.cell? ⟨w.heap.size + 1, 2, none⟩ = some (.slice ra x.recs.length rc) ∧ w'.cell? ⟨K, 3, none⟩ = some (.int .i64 D.fn)) := fun w' q => ⟨block_cell (block_kept hX q) 0, block_cell (block_kept hX q) 1, block_cell (block_kept hX q) 2, block_cell (block_kept hX q) 3, block_cell (block_kept hX q) 4, block_cell (block_kept hX q) 5, block_cell (block_kept hX q) 6, block_cell (block_kept hL q) 0, block_cell (block_kept hL q) 1, block_cell (block_kept hL q) 2, (hk.mono q).cells 3⟩
  have HC0 : Hid (∀ w', Below wA.heap.size wA w' → Calls Tryz.prog 50 #[.int .i64 x.kind, .int .i64 1, .int .i64 4] w' fun e w'' => e = .returned (.bool (pB (Btw x.kind 1 4))) ∧ Below w'.heap.size w' w'') := fun w' _ => (iBetween_any _ _ _ _).mono fun _ _ q => ⟨q.1, by rw [q.2]; exact Below.refl _ _⟩
  have HC1 : Hid (∀ w', Below wA.heap.size wA w' → Calls Tryz.prog 97 #[.pointer (some ⟨K, 0, none⟩), .agg #[.int .i64 x.kind, .int .i64 x.spec.f, .int .i64 x.spec.pc, .int .i64 x.spec.seen, .int .i64 x.spec.target, .slice fa x.frames.length fc, .slice ra x.recs.length rc]] w' fun e w'' => e = .returned (.bool (pB (EGuessP fs x))) ∧ Below w'.heap.size w' w'') := fun w' q => guessOk_any x (hk.mono q) lim
  have HC2 : Hid (∀ w', Below wA.heap.size wA w' → Calls Tryz.prog 50 #[.int .i64 x.frames.length, .int .i64 1, .int .i64 4] w' fun e w'' => e = .returned (.bool (pB (Btw (x.frames.length : Int) 1 4))) ∧ Below w'.heap.size w' w'') := fun w' _ => (iBetween_any _ _ _ _).mono fun _ _ q => ⟨q.1, by rw [q.2]; exact Below.refl _ _⟩
  have HC4 : Hid (∀ w', Below wA.heap.size wA w' → Calls Tryz.prog 98 #[.slice fa x.frames.length fc, .func (.func 99) #[.agg #[.pointer (some ⟨K, 0, none⟩), .slice fa x.frames.length fc, .slice ra x.recs.length rc]] #[]] w' fun e w'' => e = .returned (.bool (pB (∀ i (h : i < x.frames.length), EFrameP fs D x.recs.length x.frames[i] (decide ((i : Int) = (x.frames.length : Int) - 1))))) ∧ Below w'.heap.size w' w'') := fun w' q => allExFrame_any (.agg #[.pointer (some ⟨K, 0, none⟩), .slice fa x.frames.length fc, .slice ra x.recs.length rc]) (fun i f => EFrameP fs D x.recs.length f (decide ((i : Int) = (x.frames.length : Int) - 1))) fa x.frames fc w' hn4 (hfrA.mono q) (fun i hi _ _ _ _ w'' q' p0 p1 => frameOk_i i _ _ _ _ _ (hsm.1.2 _ (List.getElem_mem hi)) p0 p1 hi hn4 ((hk.mono q).mono q') lim)
  have HC6 : Hid (∀ w', Below wA.heap.size wA w' → Calls Tryz.prog 100 #[.slice ra x.recs.length rc, .func (.func 101) #[.agg #[.pointer (some ⟨K, 0, none⟩), .slice fa x.frames.length fc, .slice ra x.recs.length rc]] #[]] w' fun e w'' => e = .returned (.bool (pB (∀ i (h : i < x.recs.length), ERecP fs.length D x.recs.length x.recs[i]))) ∧ Below w'.heap.size w' w'') := fun w' q => allExRec_any (.agg #[.pointer (some ⟨K, 0, none⟩), .slice fa x.frames.length fc, .slice ra x.recs.length rc]) (fun _ r => ERecP fs.length D x.recs.length r) ra x.recs rc w' hn6 (hrcA.mono q) (fun i hi _ _ w'' q' p0 => recOk_any _ _ _ _ (hsm.2.2 _ (List.getElem_mem hi)) p0 ((hk.mono q).mono q'))
  clear hk hX hL h hbA hrc hrcA hfr lim hsm hn4
  by_cases h0 : Btw x.kind 1 4
  case neg =>
    rw [pB_no h0] at HC0
    have HN : Hid (¬ (Btw x.kind 1 4)) := h0
    clear h0
    obtain ⟨j0, j1, j2, j3, j4, j5, j6, j7, j8, j9, j10⟩ := HS.out wA (Below.refl _ _)
    go_enter Tryz.func55, Tryz.ntmps55
    go_upto_region 2 with fail
    rw [← hwA]
    clear hwA j0 j1 j2 j3 j4 j5 j6 j7 j8 j9 j10
    refine wp_below (by kernel_rfl) (by kernel_rfl) ?_
    iterate 2
      refine q_want (v := ?_) (by kernel_rfl) ?_ ?_
      rotate_left
      · intro w' hC
        obtain ⟨j0, j1, j2, j3, j4, j5, j6, j7, j8, j9, j10⟩ := HS.out w' hC
        go_simp
        try with_reducible rfl
      try simp only [Act.put, List.setIfInBounds_toArray, List.set_cons_zero, List.set_cons_succ]
    refine q_want (v := .bool false) (by kernel_rfl) ?_ ?_
    · intro w' hC
      go_simp
      refine (HC0.out _ hC).mono ?_
      rintro e w'' ⟨rfl, hb2⟩
      exact ⟨rfl, hC.trans (hb2.mono hC.size)⟩
    try simp only [Act.put, List.setIfInBounds_toArray, List.set_cons_zero, List.set_cons_succ]
    refine q_want (v := ?_) (by kernel_rfl) ?_ ?_
    rotate_left
    · intro w' hC
      obtain ⟨j0, j1, j2, j3, j4, j5, j6, j7, j8, j9, j10⟩ := HS.out w' hC
      go_simp
      try with_reducible rfl
    try simp only [Act.put, List.setIfInBounds_toArray, List.set_cons_zero, List.set_cons_succ]
    iterate 3 go_big_quiet_skip
    iterate 2
      refine q_want (v := ?_) (by kernel_rfl) ?_ ?_
      rotate_left
      · intro w' hC
        obtain ⟨j0, j1, j2, j3, j4, j5, j6, j7, j8, j9, j10⟩ := HS.out w' hC
        go_simp
        try with_reducible rfl
      try simp only [Act.put, List.setIfInBounds_toArray, List.set_cons_zero, List.set_cons_succ]
    iterate 4 go_big_quiet_skip
    iterate 2
      refine q_want (v := ?_) (by kernel_rfl) ?_ ?_
      rotate_left
      · intro w' hC
        obtain ⟨j0, j1, j2, j3, j4, j5, j6, j7, j8, j9, j10⟩ := HS.out w' hC
        go_simp
        try with_reducible rfl
      try simp only [Act.put, List.setIfInBounds_toArray, List.set_cons_zero, List.set_cons_succ]
    iterate 11 go_big_quiet_skip
    iterate 2
      refine q_want (v := ?_) (by kernel_rfl) ?_ ?_
      rotate_left
      · intro w' hC
        obtain ⟨j0, j1, j2, j3, j4, j5, j6, j7, j8, j9, j10⟩ := HS.out w' hC
        go_simp
        try with_reducible rfl
      try simp only [Act.put, List.setIfInBounds_toArray, List.set_cons_zero, List.set_cons_succ]
    iterate 5 go_big_quiet_skip
    iterate 2
      refine q_want (v := ?_) (by kernel_rfl) ?_ ?_
      rotate_left
      · intro w' hC
        obtain ⟨j0, j1, j2, j3, j4, j5, j6, j7, j8, j9, j10⟩ := HS.out w' hC
        go_simp
        try with_reducible rfl
      try simp only [Act.put, List.setIfInBounds_toArray, List.set_cons_zero, List.set_cons_succ]
    iterate 4 go_big_quiet_skip
    iterate 2
      refine q_want (v := ?_) (by kernel_rfl) ?_ ?_
      rotate_left
      · intro w' hC
        obtain ⟨j0, j1, j2, j3, j4, j5, j6, j7, j8, j9, j10⟩ := HS.out w' hC
        go_simp
        try with_reducible rfl
      try simp only [Act.put, List.setIfInBounds_toArray, List.set_cons_zero, List.set_cons_succ]
    iterate 5 go_big_quiet_skip
    iterate 2
      refine q_want (v := ?_) (by kernel_rfl) ?_ ?_
      rotate_left
      · intro w' hC
        obtain ⟨j0, j1, j2, j3, j4, j5, j6, j7, j8, j9, j10⟩ := HS.out w' hC
        go_simp
        try with_reducible rfl
      try simp only [Act.put, List.setIfInBounds_toArray, List.set_cons_zero, List.set_cons_succ]
    refine wpQuiet_nil ?_
    intro w2 q2
    go_wp2
    go_ret
    exact ⟨ret_bool (pB_no (fun q => HN.out q.1)).symm, HB.out.trans (q2.mono HB.out.size)⟩
  rw [pB_yes h0] at HC0
  have H0 : Hid (Btw x.kind 1 4) := h0
  clear h0
  by_cases h1 : EGuessP fs x
  case neg =>
    rw [pB_no h1] at HC1
    have HN : Hid (¬ (EGuessP fs x)) := h1
    clear h1
    obtain ⟨j0, j1, j2, j3, j4, j5, j6, j7, j8, j9, j10⟩ := HS.out wA (Below.refl _ _)
    go_enter Tryz.func55, Tryz.ntmps55
    go_upto_region 2 with fail
    rw [← hwA]
    clear hwA j0 j1 j2 j3 j4 j5 j6 j7 j8 j9 j10
    refine wp_below (by kernel_rfl) (by kernel_rfl) ?_
    iterate 2
      refine q_want (v := ?_) (by kernel_rfl) ?_ ?_
      rotate_left
      · intro w' hC
        obtain ⟨j0, j1, j2, j3, j4, j5, j6, j7, j8, j9, j10⟩ := HS.out w' hC
        go_simp
        try with_reducible rfl
      try simp only [Act.put, List.setIfInBounds_toArray, List.set_cons_zero, List.set_cons_succ]
    refine q_want (v := .bool true) (by kernel_rfl) ?_ ?_
    · intro w' hC
      go_simp
      refine (HC0.out _ hC).mono ?_
      rintro e w'' ⟨rfl, hb2⟩
      exact ⟨rfl, hC.trans (hb2.mono hC.size)⟩
    try simp only [Act.put, List.setIfInBounds_toArray, List.set_cons_zero, List.set_cons_succ]
    iterate 3
      refine q_want (v := ?_) (by kernel_rfl) ?_ ?_
      rotate_left
      · intro w' hC
        obtain ⟨j0, j1, j2, j3, j4, j5, j6, j7, j8, j9, j10⟩ := HS.out w' hC
        go_simp
        try with_reducible rfl
      try simp only [Act.put, List.setIfInBounds_toArray, List.set_cons_zero, List.set_cons_succ]
    refine q_want (v := .bool false) (by kernel_rfl) ?_ ?_
    · intro w' hC
      go_simp
      refine (HC1.out _ hC).mono ?_
      rintro e w'' ⟨rfl, hb2⟩
      exact ⟨rfl, hC.trans (hb2.mono hC.size)⟩
    try simp only [Act.put, List.setIfInBounds_toArray, List.set_cons_zero, List.set_cons_succ]
    iterate 2
      refine q_want (v := ?_) (by kernel_rfl) ?_ ?_
      rotate_left
      · intro w' hC
        obtain ⟨j0, j1, j2, j3, j4, j5, j6, j7, j8, j9, j10⟩ := HS.out w' hC
        go_simp
        try with_reducible rfl
      try simp only [Act.put, List.setIfInBounds_toArray, List.set_cons_zero, List.set_cons_succ]
    iterate 4 go_big_quiet_skip
    iterate 2
      refine q_want (v := ?_) (by kernel_rfl) ?_ ?_
      rotate_left
      · intro w' hC
        obtain ⟨j0, j1, j2, j3, j4, j5, j6, j7, j8, j9, j10⟩ := HS.out w' hC
        go_simp
        try with_reducible rfl
      try simp only [Act.put, List.setIfInBounds_toArray, List.set_cons_zero, List.set_cons_succ]
    iterate 11 go_big_quiet_skip
    iterate 2
      refine q_want (v := ?_) (by kernel_rfl) ?_ ?_
      rotate_left
      · intro w' hC
        obtain ⟨j0, j1, j2, j3, j4, j5, j6, j7, j8, j9, j10⟩ := HS.out w' hC
        go_simp
        try with_reducible rfl
      try simp only [Act.put, List.setIfInBounds_toArray, List.set_cons_zero, List.set_cons_succ]
    iterate 5 go_big_quiet_skip
    iterate 2
      refine q_want (v := ?_) (by kernel_rfl) ?_ ?_
      rotate_left
      · intro w' hC
        obtain ⟨j0, j1, j2, j3, j4, j5, j6, j7, j8, j9, j10⟩ := HS.out w' hC
        go_simp
        try with_reducible rfl
      try simp only [Act.put, List.setIfInBounds_toArray, List.set_cons_zero, List.set_cons_succ]
    iterate 4 go_big_quiet_skip
    iterate 2
      refine q_want (v := ?_) (by kernel_rfl) ?_ ?_
      rotate_left
      · intro w' hC
        obtain ⟨j0, j1, j2, j3, j4, j5, j6, j7, j8, j9, j10⟩ := HS.out w' hC
        go_simp
        try with_reducible rfl
      try simp only [Act.put, List.setIfInBounds_toArray, List.set_cons_zero, List.set_cons_succ]
    iterate 5 go_big_quiet_skip
    iterate 2
      refine q_want (v := ?_) (by kernel_rfl) ?_ ?_
      rotate_left
      · intro w' hC
        obtain ⟨j0, j1, j2, j3, j4, j5, j6, j7, j8, j9, j10⟩ := HS.out w' hC
        go_simp
        try with_reducible rfl
      try simp only [Act.put, List.setIfInBounds_toArray, List.set_cons_zero, List.set_cons_succ]
    refine wpQuiet_nil ?_
    intro w2 q2
    go_wp2
    go_ret
    exact ⟨ret_bool (pB_no (fun q => HN.out q.2.1)).symm, HB.out.trans (q2.mono HB.out.size)⟩
  rw [pB_yes h1] at HC1
  have H1 : Hid (EGuessP fs x) := h1
  clear h1
  by_cases h2 : Btw (x.frames.length : Int) 1 4
  case neg =>
    rw [pB_no h2] at HC2
    have HN : Hid (¬ (Btw (x.frames.length : Int) 1 4)) := h2
    clear h2
    obtain ⟨j0, j1, j2, j3, j4, j5, j6, j7, j8, j9, j10⟩ := HS.out wA (Below.refl _ _)
    go_enter Tryz.func55, Tryz.ntmps55
    go_upto_region 2 with fail
    rw [← hwA]
    clear hwA j0 j1 j2 j3 j4 j5 j6 j7 j8 j9 j10
    refine wp_below (by kernel_rfl) (by kernel_rfl) ?_
    iterate 2
      refine q_want (v := ?_) (by kernel_rfl) ?_ ?_
      rotate_left
      · intro w' hC
        obtain ⟨j0, j1, j2, j3, j4, j5, j6, j7, j8, j9, j10⟩ := HS.out w' hC
        go_simp
        try with_reducible rfl
      try simp only [Act.put, List.setIfInBounds_toArray, List.set_cons_zero, List.set_cons_succ]
    refine q_want (v := .bool true) (by kernel_rfl) ?_ ?_
    · intro w' hC
      go_simp
      refine (HC0.out _ hC).mono ?_
      rintro e w'' ⟨rfl, hb2⟩
      exact ⟨rfl, hC.trans (hb2.mono hC.size)⟩
    try simp only [Act.put, List.setIfInBounds_toArray, List.set_cons_zero, List.set_cons_succ]
    iterate 3
      refine q_want (v := ?_) (by kernel_rfl) ?_ ?_
      rotate_left
      · intro w' hC
        obtain ⟨j0, j1, j2, j3, j4, j5, j6, j7, j8, j9, j10⟩ := HS.out w' hC
        go_simp
        try with_reducible rfl
      try simp only [Act.put, List.setIfInBounds_toArray, List.set_cons_zero, List.set_cons_succ]
    refine q_want (v := .bool true) (by kernel_rfl) ?_ ?_
    · intro w' hC
      go_simp
      refine (HC1.out _ hC).mono ?_
      rintro e w'' ⟨rfl, hb2⟩
      exact ⟨rfl, hC.trans (hb2.mono hC.size)⟩
    try simp only [Act.put, List.setIfInBounds_toArray, List.set_cons_zero, List.set_cons_succ]
    iterate 5
      refine q_want (v := ?_) (by kernel_rfl) ?_ ?_
      rotate_left
      · intro w' hC
        obtain ⟨j0, j1, j2, j3, j4, j5, j6, j7, j8, j9, j10⟩ := HS.out w' hC
        go_simp
        try with_reducible rfl
      try simp only [Act.put, List.setIfInBounds_toArray, List.set_cons_zero, List.set_cons_succ]
    refine q_want (v := .bool false) (by kernel_rfl) ?_ ?_
    · intro w' hC
      go_simp
      refine (HC2.out _ hC).mono ?_
      rintro e w'' ⟨rfl, hb2⟩
      exact ⟨rfl, hC.trans (hb2.mono hC.size)⟩
    try simp only [Act.put, List.setIfInBounds_toArray, List.set_cons_zero, List.set_cons_succ]
    iterate 2
      refine q_want (v := ?_) (by kernel_rfl) ?_ ?_
      rotate_left
      · intro w' hC
        obtain ⟨j0, j1, j2, j3, j4, j5, j6, j7, j8, j9, j10⟩ := HS.out w' hC
        go_simp
        try with_reducible rfl
      try simp only [Act.put, List.setIfInBounds_toArray, List.set_cons_zero, List.set_cons_succ]
    iterate 11 go_big_quiet_skip
    iterate 2
      refine q_want (v := ?_) (by kernel_rfl) ?_ ?_
      rotate_left
      · intro w' hC
        obtain ⟨j0, j1, j2, j3, j4, j5, j6, j7, j8, j9, j10⟩ := HS.out w' hC
        go_simp
        try with_reducible rfl
      try simp only [Act.put, List.setIfInBounds_toArray, List.set_cons_zero, List.set_cons_succ]
    iterate 5 go_big_quiet_skip
    iterate 2
      refine q_want (v := ?_) (by kernel_rfl) ?_ ?_
      rotate_left
      · intro w' hC
        obtain ⟨j0, j1, j2, j3, j4, j5, j6, j7, j8, j9, j10⟩ := HS.out w' hC
        go_simp
        try with_reducible rfl
      try simp only [Act.put, List.setIfInBounds_toArray, List.set_cons_zero, List.set_cons_succ]
    iterate 4 go_big_quiet_skip
    iterate 2
      refine q_want (v := ?_) (by kernel_rfl) ?_ ?_
      rotate_left
      · intro w' hC
        obtain ⟨j0, j1, j2, j3, j4, j5, j6, j7, j8, j9, j10⟩ := HS.out w' hC
        go_simp
        try with_reducible rfl
      try simp only [Act.put, List.setIfInBounds_toArray, List.set_cons_zero, List.set_cons_succ]
    iterate 5 go_big_quiet_skip
    iterate 2
      refine q_want (v := ?_) (by kernel_rfl) ?_ ?_
      rotate_left
      · intro w' hC
        obtain ⟨j0, j1, j2, j3, j4, j5, j6, j7, j8, j9, j10⟩ := HS.out w' hC
        go_simp
        try with_reducible rfl
      try simp only [Act.put, List.setIfInBounds_toArray, List.set_cons_zero, List.set_cons_succ]
    refine wpQuiet_nil ?_
    intro w2 q2
    go_wp2
    go_ret
    exact ⟨ret_bool (pB_no (fun q => HN.out (by have := q.2.2.1; exact ⟨by omega, by omega⟩))).symm, HB.out.trans (q2.mono HB.out.size)⟩
  rw [pB_yes h2] at HC2
  have H2 : Hid (Btw (x.frames.length : Int) 1 4) := h2
  clear h2
  have hz : 0 < x.frames.length := by have := H2.out.1; omega
  obtain ⟨b, off, la, lc, sa, sc, rfl, -, df, -⟩ := hfrA 0 hz
  have HS' := HS
  clear HS
  have HS : Hid (∀ w', Below wA.heap.size wA w' → w'.cell? ⟨w.heap.size, 0, none⟩ = some (.int .i64 x.kind) ∧ w'.cell? ⟨w.heap.size, 1, none⟩ = some (.int .i64 x.spec.f) ∧ w'.cell? ⟨w.heap.size, 2, none⟩ = some (.int .i64 x.spec.pc) ∧ w'.cell? ⟨w.heap.size, 3, none⟩ = some (.int .i64 x.spec.seen) ∧ w'.cell? ⟨w.heap.size, 4, none⟩ = some (.int .i64 x.spec.target) ∧ w'.cell? ⟨w.heap.size, 5, none⟩ = some (.slice (some ⟨b, off, none⟩) x.frames.length fc) ∧ w'.cell? ⟨w.heap.size, 6, none⟩ = some (.slice ra x.recs.length rc) ∧ w'.cell? ⟨w.heap.size + 1, 0, none⟩ = some (.pointer (some ⟨K, 0, none⟩)) ∧ w'.cell? ⟨w.heap.size + 1, 1, none⟩ = some (.slice (some ⟨b, off, none⟩) x.frames.length fc) ∧ w'.cell? ⟨w.heap.size + 1, 2, none⟩ = some (.slice ra x.recs.length rc) ∧ w'.cell? ⟨K, 3, none⟩ = some (.int .i64 D.fn) ∧ w'.cell? ⟨b, off, none⟩ = some (.int .i64 x.frames[0].fn)) := fun w' q => by
    obtain ⟨j0, j1, j2, j3, j4, j5, j6, j7, j8, j9, j10⟩ := HS'.out w' q
    exact ⟨j0, j1, j2, j3, j4, j5, j6, j7, j8, j9, j10, by simpa using cell_later q df⟩
  clear HS' df hfrA
  have z1 : (0 : Int) < (x.frames.length : Int) := by omega
  by_cases h3 : x.frames[0].fn = D.fn
  case neg =>
    have g3 : (x.frames[0].fn == D.fn) = false := by simpa using h3
    have HN : Hid (¬ x.frames[0].fn = D.fn) := h3
    clear h3
    obtain ⟨j0, j1, j2, j3, j4, j5, j6, j7, j8, j9, j10, jf⟩ := HS.out wA (Below.refl _ _)
    go_enter Tryz.func55, Tryz.ntmps55
    go_upto_region 2 with fail
    rw [← hwA]
    clear hwA j0 j1 j2 j3 j4 j5 j6 j7 j8 j9 j10 jf
    refine wp_below (by kernel_rfl) (by kernel_rfl) ?_
    iterate 2
      refine q_want (v := ?_) (by kernel_rfl) ?_ ?_
      rotate_left
      · intro w' hC
        obtain ⟨j0, j1, j2, j3, j4, j5, j6, j7, j8, j9, j10, jf⟩ := HS.out w' hC
        go_simp
        try with_reducible rfl
      try simp only [Act.put, List.setIfInBounds_toArray, List.set_cons_zero, List.set_cons_succ]
    refine q_want (v := .bool true) (by kernel_rfl) ?_ ?_
    · intro w' hC
      go_simp
      refine (HC0.out _ hC).mono ?_
      rintro e w'' ⟨rfl, hb2⟩
      exact ⟨rfl, hC.trans (hb2.mono hC.size)⟩
    try simp only [Act.put, List.setIfInBounds_toArray, List.set_cons_zero, List.set_cons_succ]
    iterate 3
      refine q_want (v := ?_) (by kernel_rfl) ?_ ?_
      rotate_left
      · intro w' hC
        obtain ⟨j0, j1, j2, j3, j4, j5, j6, j7, j8, j9, j10, jf⟩ := HS.out w' hC
        go_simp
        try with_reducible rfl
      try simp only [Act.put, List.setIfInBounds_toArray, List.set_cons_zero, List.set_cons_succ]
    refine q_want (v := .bool true) (by kernel_rfl) ?_ ?_
    · intro w' hC
      go_simp
      refine (HC1.out _ hC).mono ?_
      rintro e w'' ⟨rfl, hb2⟩
      exact ⟨rfl, hC.trans (hb2.mono hC.size)⟩
    try simp only [Act.put, List.setIfInBounds_toArray, List.set_cons_zero, List.set_cons_succ]
    iterate 5
      refine q_want (v := ?_) (by kernel_rfl) ?_ ?_
      rotate_left
      · intro w' hC
        obtain ⟨j0, j1, j2, j3, j4, j5, j6, j7, j8, j9, j10, jf⟩ := HS.out w' hC
        go_simp
        try with_reducible rfl
      try simp only [Act.put, List.setIfInBounds_toArray, List.set_cons_zero, List.set_cons_succ]
    refine q_want (v := .bool true) (by kernel_rfl) ?_ ?_
    · intro w' hC
      go_simp
      refine (HC2.out _ hC).mono ?_
      rintro e w'' ⟨rfl, hb2⟩
      exact ⟨rfl, hC.trans (hb2.mono hC.size)⟩
    try simp only [Act.put, List.setIfInBounds_toArray, List.set_cons_zero, List.set_cons_succ]
    iterate 15
      refine q_want (v := ?_) (by kernel_rfl) ?_ ?_
      rotate_left
      · intro w' hC
        obtain ⟨j0, j1, j2, j3, j4, j5, j6, j7, j8, j9, j10, jf⟩ := HS.out w' hC
        go_simp
        try with_reducible rfl
      try simp only [Act.put, List.setIfInBounds_toArray, List.set_cons_zero, List.set_cons_succ]
    iterate 5 go_big_quiet_skip
    iterate 2
      refine q_want (v := ?_) (by kernel_rfl) ?_ ?_
      rotate_left
      · intro w' hC
        obtain ⟨j0, j1, j2, j3, j4, j5, j6, j7, j8, j9, j10, jf⟩ := HS.out w' hC
        go_simp
        try with_reducible rfl
      try simp only [Act.put, List.setIfInBounds_toArray, List.set_cons_zero, List.set_cons_succ]
    iterate 4 go_big_quiet_skip
    iterate 2
      refine q_want (v := ?_) (by kernel_rfl) ?_ ?_
      rotate_left
      · intro w' hC
        obtain ⟨j0, j1, j2, j3, j4, j5, j6, j7, j8, j9, j10, jf⟩ := HS.out w' hC
        go_simp
        try with_reducible rfl
      try simp only [Act.put, List.setIfInBounds_toArray, List.set_cons_zero, List.set_cons_succ]
    iterate 5 go_big_quiet_skip
    iterate 2
      refine q_want (v := ?_) (by kernel_rfl) ?_ ?_
      rotate_left
      · intro w' hC
        obtain ⟨j0, j1, j2, j3, j4, j5, j6, j7, j8, j9, j10, jf⟩ := HS.out w' hC
        go_simp
        try with_reducible rfl
      try simp only [Act.put, List.setIfInBounds_toArray, List.set_cons_zero, List.set_cons_succ]
    refine wpQuiet_nil ?_
    intro w2 q2
    go_wp2
    go_ret
    exact ⟨ret_bool (pB_no (fun q => by obtain ⟨_, q⟩ := q.2.2.2.1; exact HN.out q)).symm, HB.out.trans (q2.mono HB.out.size)⟩
  have g3 : (x.frames[0].fn == D.fn) = true := by simpa using h3
  have H3 : Hid (x.frames[0].fn = D.fn) := h3
  clear h3
  by_cases h4 : ∀ i (h : i < x.frames.length), EFrameP fs D x.recs.length x.frames[i] (decide ((i : Int) = (x.frames.length : Int) - 1))
  case neg =>
    rw [pB_no h4] at HC4
    have HN : Hid (¬ (∀ i (h : i < x.frames.length), EFrameP fs D x.recs.length x.frames[i] (decide ((i : Int) = (x.frames.length : Int) - 1)))) := h4
    clear h4
    obtain ⟨j0, j1, j2, j3, j4, j5, j6, j7, j8, j9, j10, jf⟩ := HS.out wA (Below.refl _ _)
    go_enter Tryz.func55, Tryz.ntmps55
    go_upto_region 2 with fail
    rw [← hwA]
    clear hwA j0 j1 j2 j3 j4 j5 j6 j7 j8 j9 j10 jf
    refine wp_below (by kernel_rfl) (by kernel_rfl) ?_
    iterate 2
      refine q_want (v := ?_) (by kernel_rfl) ?_ ?_
      rotate_left
      · intro w' hC
        obtain ⟨j0, j1, j2, j3, j4, j5, j6, j7, j8, j9, j10, jf⟩ := HS.out w' hC
        go_simp
        try with_reducible rfl
      try simp only [Act.put, List.setIfInBounds_toArray, List.set_cons_zero, List.set_cons_succ]
    refine q_want (v := .bool true) (by kernel_rfl) ?_ ?_
    · intro w' hC
      go_simp
      refine (HC0.out _ hC).mono ?_
      rintro e w'' ⟨rfl, hb2⟩
      exact ⟨rfl, hC.trans (hb2.mono hC.size)⟩
    try simp only [Act.put, List.setIfInBounds_toArray, List.set_cons_zero, List.set_cons_succ]
    iterate 3
      refine q_want (v := ?_) (by kernel_rfl) ?_ ?_
      rotate_left
      · intro w' hC
        obtain ⟨j0, j1, j2, j3, j4, j5, j6, j7, j8, j9, j10, jf⟩ := HS.out w' hC
        go_simp
        try with_reducible rfl
      try simp only [Act.put, List.setIfInBounds_toArray, List.set_cons_zero, List.set_cons_succ]
    refine q_want (v := .bool true) (by kernel_rfl) ?_ ?_
    · intro w' hC
      go_simp
      refine (HC1.out _ hC).mono ?_
      rintro e w'' ⟨rfl, hb2⟩
      exact ⟨rfl, hC.trans (hb2.mono hC.size)⟩
    try simp only [Act.put, List.setIfInBounds_toArray, List.set_cons_zero, List.set_cons_succ]
    iterate 5
      refine q_want (v := ?_) (by kernel_rfl) ?_ ?_
      rotate_left
      · intro w' hC
        obtain ⟨j0, j1, j2, j3, j4, j5, j6, j7, j8, j9, j10, jf⟩ := HS.out w' hC
        go_simp
        try with_reducible rfl
      try simp only [Act.put, List.setIfInBounds_toArray, List.set_cons_zero, List.set_cons_succ]
    refine q_want (v := .bool true) (by kernel_rfl) ?_ ?_
    · intro w' hC
      go_simp
      refine (HC2.out _ hC).mono ?_
      rintro e w'' ⟨rfl, hb2⟩
      exact ⟨rfl, hC.trans (hb2.mono hC.size)⟩
    try simp only [Act.put, List.setIfInBounds_toArray, List.set_cons_zero, List.set_cons_succ]
    iterate 19
      refine q_want (v := ?_) (by kernel_rfl) ?_ ?_
      rotate_left
      · intro w' hC
        obtain ⟨j0, j1, j2, j3, j4, j5, j6, j7, j8, j9, j10, jf⟩ := HS.out w' hC
        go_simp
        try with_reducible rfl
      try simp only [Act.put, List.setIfInBounds_toArray, List.set_cons_zero, List.set_cons_succ]
    refine q_want (v := .bool false) (by kernel_rfl) ?_ ?_
    · intro w' hC
      go_simp
      refine (HC4.out _ hC).mono ?_
      rintro e w'' ⟨rfl, hb2⟩
      exact ⟨rfl, hC.trans (hb2.mono hC.size)⟩
    try simp only [Act.put, List.setIfInBounds_toArray, List.set_cons_zero, List.set_cons_succ]
    iterate 2
      refine q_want (v := ?_) (by kernel_rfl) ?_ ?_
      rotate_left
      · intro w' hC
        obtain ⟨j0, j1, j2, j3, j4, j5, j6, j7, j8, j9, j10, jf⟩ := HS.out w' hC
        go_simp
        try with_reducible rfl
      try simp only [Act.put, List.setIfInBounds_toArray, List.set_cons_zero, List.set_cons_succ]
    iterate 4 go_big_quiet_skip
    iterate 2
      refine q_want (v := ?_) (by kernel_rfl) ?_ ?_
      rotate_left
      · intro w' hC
        obtain ⟨j0, j1, j2, j3, j4, j5, j6, j7, j8, j9, j10, jf⟩ := HS.out w' hC
        go_simp
        try with_reducible rfl
      try simp only [Act.put, List.setIfInBounds_toArray, List.set_cons_zero, List.set_cons_succ]
    iterate 5 go_big_quiet_skip
    iterate 2
      refine q_want (v := ?_) (by kernel_rfl) ?_ ?_
      rotate_left
      · intro w' hC
        obtain ⟨j0, j1, j2, j3, j4, j5, j6, j7, j8, j9, j10, jf⟩ := HS.out w' hC
        go_simp
        try with_reducible rfl
      try simp only [Act.put, List.setIfInBounds_toArray, List.set_cons_zero, List.set_cons_succ]
    refine wpQuiet_nil ?_
    intro w2 q2
    go_wp2
    go_ret
    exact ⟨ret_bool (pB_no (fun q => HN.out q.2.2.2.2.1)).symm, HB.out.trans (q2.mono HB.out.size)⟩
  rw [pB_yes h4] at HC4
  have H4 : Hid (∀ i (h : i < x.frames.length), EFrameP fs D x.recs.length x.frames[i] (decide ((i : Int) = (x.frames.length : Int) - 1))) := h4
  clear h4
  by_cases h5 : x.recs.length ≤ 60
  case neg =>
    have g5 : ¬ (x.recs.length : Int) ≤ 60 := by omega
    have HN : Hid (¬ x.recs.length ≤ 60) := h5
    clear h5
    obtain ⟨j0, j1, j2, j3, j4, j5, j6, j7, j8, j9, j10, jf⟩ := HS.out wA (Below.refl _ _)
    go_enter Tryz.func55, Tryz.ntmps55
    go_upto_region 2 with fail
    rw [← hwA]
    clear hwA j0 j1 j2 j3 j4 j5 j6 j7 j8 j9 j10 jf
    refine wp_below (by kernel_rfl) (by kernel_rfl) ?_
    iterate 2
      refine q_want (v := ?_) (by kernel_rfl) ?_ ?_
      rotate_left
      · intro w' hC
        obtain ⟨j0, j1, j2, j3, j4, j5, j6, j7, j8, j9, j10, jf⟩ := HS.out w' hC
        go_simp
        try with_reducible rfl
      try simp only [Act.put, List.setIfInBounds_toArray, List.set_cons_zero, List.set_cons_succ]
    refine q_want (v := .bool true) (by kernel_rfl) ?_ ?_
    · intro w' hC
      go_simp
      refine (HC0.out _ hC).mono ?_
      rintro e w'' ⟨rfl, hb2⟩
      exact ⟨rfl, hC.trans (hb2.mono hC.size)⟩
    try simp only [Act.put, List.setIfInBounds_toArray, List.set_cons_zero, List.set_cons_succ]
    iterate 3
      refine q_want (v := ?_) (by kernel_rfl) ?_ ?_
      rotate_left
      · intro w' hC
        obtain ⟨j0, j1, j2, j3, j4, j5, j6, j7, j8, j9, j10, jf⟩ := HS.out w' hC
        go_simp
        try with_reducible rfl
      try simp only [Act.put, List.setIfInBounds_toArray, List.set_cons_zero, List.set_cons_succ]
    refine q_want (v := .bool true) (by kernel_rfl) ?_ ?_
    · intro w' hC
      go_simp
      refine (HC1.out _ hC).mono ?_
      rintro e w'' ⟨rfl, hb2⟩
      exact ⟨rfl, hC.trans (hb2.mono hC.size)⟩
    try simp only [Act.put, List.setIfInBounds_toArray, List.set_cons_zero, List.set_cons_succ]
    iterate 5
      refine q_want (v := ?_) (by kernel_rfl) ?_ ?_
      rotate_left
      · intro w' hC
        obtain ⟨j0, j1, j2, j3, j4, j5, j6, j7, j8, j9, j10, jf⟩ := HS.out w' hC
        go_simp
        try with_reducible rfl
      try simp only [Act.put, List.setIfInBounds_toArray, List.set_cons_zero, List.set_cons_succ]
    refine q_want (v := .bool true) (by kernel_rfl) ?_ ?_
    · intro w' hC
      go_simp
      refine (HC2.out _ hC).mono ?_
      rintro e w'' ⟨rfl, hb2⟩
      exact ⟨rfl, hC.trans (hb2.mono hC.size)⟩
    try simp only [Act.put, List.setIfInBounds_toArray, List.set_cons_zero, List.set_cons_succ]
    iterate 19
      refine q_want (v := ?_) (by kernel_rfl) ?_ ?_
      rotate_left
      · intro w' hC
        obtain ⟨j0, j1, j2, j3, j4, j5, j6, j7, j8, j9, j10, jf⟩ := HS.out w' hC
        go_simp
        try with_reducible rfl
      try simp only [Act.put, List.setIfInBounds_toArray, List.set_cons_zero, List.set_cons_succ]
    refine q_want (v := .bool true) (by kernel_rfl) ?_ ?_
    · intro w' hC
      go_simp
      refine (HC4.out _ hC).mono ?_
      rintro e w'' ⟨rfl, hb2⟩
      exact ⟨rfl, hC.trans (hb2.mono hC.size)⟩
    try simp only [Act.put, List.setIfInBounds_toArray, List.set_cons_zero, List.set_cons_succ]
    iterate 8
      refine q_want (v := ?_) (by kernel_rfl) ?_ ?_
      rotate_left
      · intro w' hC
        obtain ⟨j0, j1, j2, j3, j4, j5, j6, j7, j8, j9, j10, jf⟩ := HS.out w' hC
        go_simp
        try with_reducible rfl
      try simp only [Act.put, List.setIfInBounds_toArray, List.set_cons_zero, List.set_cons_succ]
    iterate 5 go_big_quiet_skip
    iterate 2
      refine q_want (v := ?_) (by kernel_rfl) ?_ ?_
      rotate_left
      · intro w' hC
        obtain ⟨j0, j1, j2, j3, j4, j5, j6, j7, j8, j9, j10, jf⟩ := HS.out w' hC
        go_simp
        try with_reducible rfl
      try simp only [Act.put, List.setIfInBounds_toArray, List.set_cons_zero, List.set_cons_succ]
    refine wpQuiet_nil ?_
    intro w2 q2
    go_wp2
    go_ret
    exact ⟨ret_bool (pB_no (fun q => HN.out q.2.2.2.2.2.1)).symm, HB.out.trans (q2.mono HB.out.size)⟩
  have g5 : (x.recs.length : Int) ≤ 60 := by omega
  have H5 : Hid (x.recs.length ≤ 60) := h5
  clear h5
  obtain ⟨j0, j1, j2, j3, j4, j5, j6, j7, j8, j9, j10, jf⟩ := HS.out wA (Below.refl _ _)
  go_enter Tryz.func55, Tryz.ntmps55
  go_upto_region 2 with fail
  rw [← hwA]
  clear hwA j0 j1 j2 j3 j4 j5 j6 j7 j8 j9 j10 jf
  refine wp_below (by kernel_rfl) (by kernel_rfl) ?_
  iterate 2
    refine q_want (v := ?_) (by kernel_rfl) ?_ ?_
    rotate_left
    · intro w' hC
      obtain ⟨j0, j1, j2, j3, j4, j5, j6, j7, j8, j9, j10, jf⟩ := HS.out w' hC
      go_simp
      try with_reducible rfl
    try simp only [Act.put, List.setIfInBounds_toArray, List.set_cons_zero, List.set_cons_succ]
  refine q_want (v := .bool true) (by kernel_rfl) ?_ ?_
  · intro w' hC
    go_simp
    refine (HC0.out _ hC).mono ?_
    rintro e w'' ⟨rfl, hb2⟩
    exact ⟨rfl, hC.trans (hb2.mono hC.size)⟩
  try simp only [Act.put, List.setIfInBounds_toArray, List.set_cons_zero, List.set_cons_succ]
  iterate 3
    refine q_want (v := ?_) (by kernel_rfl) ?_ ?_
    rotate_left
    · intro w' hC
      obtain ⟨j0, j1, j2, j3, j4, j5, j6, j7, j8, j9, j10, jf⟩ := HS.out w' hC
      go_simp
      try with_reducible rfl
    try simp only [Act.put, List.setIfInBounds_toArray, List.set_cons_zero, List.set_cons_succ]
  refine q_want (v := .bool true) (by kernel_rfl) ?_ ?_
  · intro w' hC
    go_simp
    refine (HC1.out _ hC).mono ?_
    rintro e w'' ⟨rfl, hb2⟩
    exact ⟨rfl, hC.trans (hb2.mono hC.size)⟩
  try simp only [Act.put, List.setIfInBounds_toArray, List.set_cons_zero, List.set_cons_succ]
  iterate 5
    refine q_want (v := ?_) (by kernel_rfl) ?_ ?_
    rotate_left
    · intro w' hC
      obtain ⟨j0, j1, j2, j3, j4, j5, j6, j7, j8, j9, j10, jf⟩ := HS.out w' hC
      go_simp
      try with_reducible rfl
    try simp only [Act.put, List.setIfInBounds_toArray, List.set_cons_zero, List.set_cons_succ]
  refine q_want (v := .bool true) (by kernel_rfl) ?_ ?_
  · intro w' hC
    go_simp
    refine (HC2.out _ hC).mono ?_
    rintro e w'' ⟨rfl, hb2⟩
    exact ⟨rfl, hC.trans (hb2.mono hC.size)⟩
  try simp only [Act.put, List.setIfInBounds_toArray, List.set_cons_zero, List.set_cons_succ]
  iterate 19
    refine q_want (v := ?_) (by kernel_rfl) ?_ ?_
    rotate_left
    · intro w' hC
      obtain ⟨j0, j1, j2, j3, j4, j5, j6, j7, j8, j9, j10, jf⟩ := HS.out w' hC
      go_simp
      try with_reducible rfl
    try simp only [Act.put, List.setIfInBounds_toArray, List.set_cons_zero, List.set_cons_succ]
  refine q_want (v := .bool true) (by kernel_rfl) ?_ ?_
  · intro w' hC
    go_simp
    refine (HC4.out _ hC).mono ?_
    rintro e w'' ⟨rfl, hb2⟩
    exact ⟨rfl, hC.trans (hb2.mono hC.size)⟩
  try simp only [Act.put, List.setIfInBounds_toArray, List.set_cons_zero, List.set_cons_succ]
  iterate 12
    refine q_want (v := ?_) (by kernel_rfl) ?_ ?_
    rotate_left
    · intro w' hC
      obtain ⟨j0, j1, j2, j3, j4, j5, j6, j7, j8, j9, j10, jf⟩ := HS.out w' hC
      go_simp
      try with_reducible rfl
    try simp only [Act.put, List.setIfInBounds_toArray, List.set_cons_zero, List.set_cons_succ]
  refine q_want (v := .bool (pB (∀ i (h : i < x.recs.length), ERecP fs.length D x.recs.length x.recs[i]))) (by kernel_rfl) ?_ ?_
  · intro w' hC
    go_simp
    refine (HC6.out _ hC).mono ?_
    rintro e w'' ⟨rfl, hb2⟩
    exact ⟨rfl, hC.trans (hb2.mono hC.size)⟩
  try simp only [Act.put, List.setIfInBounds_toArray, List.set_cons_zero, List.set_cons_succ]
  iterate 2
    refine q_want (v := ?_) (by kernel_rfl) ?_ ?_
    rotate_left
    · intro w' hC
      obtain ⟨j0, j1, j2, j3, j4, j5, j6, j7, j8, j9, j10, jf⟩ := HS.out w' hC
      go_simp
      try with_reducible rfl
    try simp only [Act.put, List.setIfInBounds_toArray, List.set_cons_zero, List.set_cons_succ]
  refine wpQuiet_nil ?_
  intro w2 q2
  go_wp2
  go_ret
  exact ⟨ret_pB (by rw [pB_iff]; exact ⟨fun q => ⟨H0.out, H1.out, by have := H2.out; exact ⟨by have := this.1; omega, by have := this.2; omega⟩, ⟨hz, H3.out⟩, H4.out, H5.out, q⟩, fun q => q.2.2.2.2.2.2⟩), HB.out.trans (q2.mono HB.out.size)⟩
end
end Go.Proofs.YtcbknjjnphknbaaGreatDoor
