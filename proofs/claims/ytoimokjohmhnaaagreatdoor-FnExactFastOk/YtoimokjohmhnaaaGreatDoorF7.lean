/-
  The look at an exit of code (the program): a frame.
-/
import Derived.Test.YtoimokjohmhnaaaGreatDoorGM
namespace Go.Proofs.YtoimokjohmhnaaaGreatDoor
open Go.RowKit

section
variable {fs : List Fn} {D : FastD} {a1 a2 oa ea fa ra : Option Addr} {nt c1 c2 oc ec G base K nfr fc nr rc : Nat} {w : World}
set_option maxRecDepth 100000 in
set_option maxHeartbeats 8000000 in
theorem frameOk_i (i : Nat) (x : EF) (la sa : Option Addr) (lc sc : Nat) (hsm : EFSmall x) (hl : SrsAt w 0 la x.locals) (hs : SrsAt w 0 sa x.stack) (hi : i < nfr) (hnf : nfr ≤ 1048576) (h : Look fs D a1 a2 oa ea nt c1 c2 oc ec G base K w) (lim : Lim fs D) :
    Calls Tryz.prog 173 #[.agg #[.pointer (some ⟨K, 0, none⟩), .slice fa nfr fc, .slice ra nr rc], .int .i64 (i : Nat), .agg #[.int .i64 x.fn, .int .i64 x.pc, .slice la x.locals.length lc, .slice sa x.stack.length sc]] w fun e w' => e = .returned (.bool (pB (EFrameP fs D nr x (decide ((i : Int) = (nfr : Int) - 1))))) ∧ Below w.heap.size w w' := by
  obtain ⟨wA, hwA⟩ : ∃ wA, wA = (w.alloc (.cells #[.pointer (some ⟨K, 0, none⟩), .slice fa nfr fc, .slice ra nr rc] 270)).alloc (.cells #[.int .i64 x.fn, .int .i64 x.pc, .slice la x.locals.length lc, .slice sa x.stack.length sc] 142) := ⟨_, rfl⟩
  have hbA : Below w.heap.size w wA := by rw [hwA]; exact ((Below.refl _ _).alloc (Nat.le_refl _) _).alloc (by simp) _
  have hX : wA.heap[w.heap.size]? = some (.cells #[.pointer (some ⟨K, 0, none⟩), .slice fa nfr fc, .slice ra nr rc] 270 (0, 0)) := by rw [hwA]; exact block_old (block_new _ _ _) _
  have hF : wA.heap[w.heap.size + 1]? = some (.cells #[.int .i64 x.fn, .int .i64 x.pc, .slice la x.locals.length lc, .slice sa x.stack.length sc] 142 (0, 0)) := by rw [hwA]; exact block_new_at _ _ _ _ (by simp)
  have hk := h.mono hbA
  have HB : Hid (Below w.heap.size w wA) := hbA
  have HS : Hid (∀ w', Below wA.heap.size wA w' → w'.cell? ⟨w.heap.size, 0, none⟩ = some (.pointer (some ⟨K, 0, none⟩)) ∧ w'.cell? ⟨w.heap.size, 1, none⟩ = some (.slice fa nfr fc) ∧ w'.cell? ⟨w.heap.size, 2, none⟩ = some (.slice ra nr rc) ∧ w'.cell? ⟨w.heap.size + 1, 0, none⟩ = some (.int .i64 x.fn) ∧ w'.cell? ⟨w.heap.size + 1, 1, none⟩ = some (.int .i64 x.pc) ∧ w'.cell? ⟨w.heap.size + 1, 2, none⟩ = some (.slice la x.locals.length lc) ∧ w'.cell? ⟨w.heap.size + 1, 3, none⟩ = some (.slice sa x.stack.length sc) ∧ w'.cell? ⟨K, 0, none⟩ = some (.slice a1 nt c1) ∧ w'.cell? ⟨K, 1, none⟩ = some (.slice a2 fs.length c2) ∧ w'.cell? ⟨K, 2, none⟩ = some (.slice (some ⟨G, 0, none⟩) fs.length fs.length)) := fun w' q => ⟨block_cell (block_kept hX q) 0, block_cell (block_kept hX q) 1, block_cell (block_kept hX q) 2, block_cell (block_kept hF q) 0, block_cell (block_kept hF q) 1, block_cell (block_kept hF q) 2, block_cell (block_kept hF q) 3, (hk.mono q).cells 0, (hk.mono q).cells 1, (hk.mono q).cells 2⟩
  obtain ⟨last, hlast⟩ : ∃ last, last = decide ((i : Int) = (nfr : Int) - 1) := ⟨_, rfl⟩
  rw [← hlast]
  have hw1 : IntKind.i64.wrap ((nfr : Int) - 1) = (nfr : Int) - 1 := by rw [IntKind.wrap_i64]; omega
  have HC0 : Hid (∀ w', Below wA.heap.size wA w' → Calls Tryz.prog 196 #[.agg #[.slice a1 nt c1, .slice a2 fs.length c2], .slice (some ⟨G, 0, none⟩) fs.length fs.length, .int .i64 x.fn, .int .i64 x.pc, .int .i64 x.locals.length, .int .i64 x.stack.length, .bool last] w' fun e w'' => e = .returned (.bool (pB (Fits fs x.fn x.pc x.locals.length x.stack.length last))) ∧ Below w'.heap.size w' w'') := fun w' q => fitsB_any _ _ _ _ _ (hk.mono q) lim
  have HC1 : Hid (∀ w', Below wA.heap.size wA w' → Calls Tryz.prog 217 #[.agg #[.pointer (some ⟨K, 0, none⟩), .slice fa nfr fc, .slice ra nr rc], .slice la x.locals.length lc] w' fun e w'' => e = .returned (.bool (pB (SrcsP fs.length D nr x.locals))) ∧ Below w'.heap.size w' w'') := fun w' q => sourcesOk_any la x.locals lc hsm.1 ((hl.mono hbA).mono q) (hk.mono q)
  have HC2 : Hid (∀ w', Below wA.heap.size wA w' → Calls Tryz.prog 217 #[.agg #[.pointer (some ⟨K, 0, none⟩), .slice fa nfr fc, .slice ra nr rc], .slice sa x.stack.length sc] w' fun e w'' => e = .returned (.bool (pB (SrcsP fs.length D nr x.stack))) ∧ Below w'.heap.size w' w'') := fun w' q => sourcesOk_any sa x.stack sc hsm.2 ((hs.mono hbA).mono q) (hk.mono q)
  clear hk hX hF h hbA hl hs lim hsm
  have hlast' : ((i : Int) == (nfr : Int) - 1) = last := by rw [hlast, Bool.eq_iff_iff]; simp
  have hlast2 : decide ((i : Int) = (nfr : Int) - 1) = last := hlast.symm
  clear hlast
  by_cases h0 : Fits fs x.fn x.pc x.locals.length x.stack.length last
  case neg =>
    rw [pB_no h0] at HC0
    have HN : Hid (¬ Fits fs x.fn x.pc x.locals.length x.stack.length last) := h0
    clear h0
    obtain ⟨j0, j1, j2, j3, j4, j5, j6, j7, j8, j9⟩ := HS.out wA (Below.refl _ _)
    go_enter Tryz.func173, Tryz.ntmps173
    go_upto_region 2 with fail
    rw [← hwA]
    clear hwA j0 j1 j2 j3 j4 j5 j6 j7 j8 j9
    refine wp_below (by kernel_rfl) (by kernel_rfl) ?_
    iterate 21
      refine q_want (v := ?_) (by kernel_rfl) ?_ ?_
      rotate_left
      · intro w' hC
        obtain ⟨j0, j1, j2, j3, j4, j5, j6, j7, j8, j9⟩ := HS.out w' hC
        go_simp
        try with_reducible rfl
      try simp only [Act.put, List.setIfInBounds_toArray, List.set_cons_zero, List.set_cons_succ]
    refine q_want (v := .bool false) (by kernel_rfl) ?_ ?_
    · intro w' hC
      go_simp
      refine (HC0.out _ hC).mono ?_
      rintro e w'' ⟨rfl, hb2⟩
      exact ⟨rfl, hC.trans (hb2.mono hC.size)⟩
    try simp only [Act.put, List.setIfInBounds_toArray, List.set_cons_zero, List.set_cons_succ]
    refine q_want (v := ?_) (by kernel_rfl) ?_ ?_
    rotate_left
    · intro w' hC
      obtain ⟨j0, j1, j2, j3, j4, j5, j6, j7, j8, j9⟩ := HS.out w' hC
      go_simp
      try with_reducible rfl
    try simp only [Act.put, List.setIfInBounds_toArray, List.set_cons_zero, List.set_cons_succ]
    iterate 4 go_big_quiet_skip
    iterate 2
      refine q_want (v := ?_) (by kernel_rfl) ?_ ?_
      rotate_left
      · intro w' hC
        obtain ⟨j0, j1, j2, j3, j4, j5, j6, j7, j8, j9⟩ := HS.out w' hC
        go_simp
        try with_reducible rfl
      try simp only [Act.put, List.setIfInBounds_toArray, List.set_cons_zero, List.set_cons_succ]
    iterate 4 go_big_quiet_skip
    iterate 2
      refine q_want (v := ?_) (by kernel_rfl) ?_ ?_
      rotate_left
      · intro w' hC
        obtain ⟨j0, j1, j2, j3, j4, j5, j6, j7, j8, j9⟩ := HS.out w' hC
        go_simp
        try with_reducible rfl
      try simp only [Act.put, List.setIfInBounds_toArray, List.set_cons_zero, List.set_cons_succ]
    refine wpQuiet_nil ?_
    intro w2 q2
    go_wp2
    go_ret
    exact ⟨ret_bool (pB_no (fun q => HN.out q.1)).symm, HB.out.trans (q2.mono HB.out.size)⟩
  rw [pB_yes h0] at HC0
  have H0 : Hid (Fits fs x.fn x.pc x.locals.length x.stack.length last) := h0
  clear h0
  by_cases h1 : SrcsP fs.length D nr x.locals
  case neg =>
    rw [pB_no h1] at HC1
    have HN : Hid (¬ SrcsP fs.length D nr x.locals) := h1
    clear h1
    obtain ⟨j0, j1, j2, j3, j4, j5, j6, j7, j8, j9⟩ := HS.out wA (Below.refl _ _)
    go_enter Tryz.func173, Tryz.ntmps173
    go_upto_region 2 with fail
    rw [← hwA]
    clear hwA j0 j1 j2 j3 j4 j5 j6 j7 j8 j9
    refine wp_below (by kernel_rfl) (by kernel_rfl) ?_
    iterate 21
      refine q_want (v := ?_) (by kernel_rfl) ?_ ?_
      rotate_left
      · intro w' hC
        obtain ⟨j0, j1, j2, j3, j4, j5, j6, j7, j8, j9⟩ := HS.out w' hC
        go_simp
        try with_reducible rfl
      try simp only [Act.put, List.setIfInBounds_toArray, List.set_cons_zero, List.set_cons_succ]
    refine q_want (v := .bool true) (by kernel_rfl) ?_ ?_
    · intro w' hC
      go_simp
      refine (HC0.out _ hC).mono ?_
      rintro e w'' ⟨rfl, hb2⟩
      exact ⟨rfl, hC.trans (hb2.mono hC.size)⟩
    try simp only [Act.put, List.setIfInBounds_toArray, List.set_cons_zero, List.set_cons_succ]
    iterate 4
      refine q_want (v := ?_) (by kernel_rfl) ?_ ?_
      rotate_left
      · intro w' hC
        obtain ⟨j0, j1, j2, j3, j4, j5, j6, j7, j8, j9⟩ := HS.out w' hC
        go_simp
        try with_reducible rfl
      try simp only [Act.put, List.setIfInBounds_toArray, List.set_cons_zero, List.set_cons_succ]
    refine q_want (v := .bool false) (by kernel_rfl) ?_ ?_
    · intro w' hC
      go_simp
      refine (HC1.out _ hC).mono ?_
      rintro e w'' ⟨rfl, hb2⟩
      exact ⟨rfl, hC.trans (hb2.mono hC.size)⟩
    try simp only [Act.put, List.setIfInBounds_toArray, List.set_cons_zero, List.set_cons_succ]
    iterate 2
      refine q_want (v := ?_) (by kernel_rfl) ?_ ?_
      rotate_left
      · intro w' hC
        obtain ⟨j0, j1, j2, j3, j4, j5, j6, j7, j8, j9⟩ := HS.out w' hC
        go_simp
        try with_reducible rfl
      try simp only [Act.put, List.setIfInBounds_toArray, List.set_cons_zero, List.set_cons_succ]
    iterate 4 go_big_quiet_skip
    iterate 2
      refine q_want (v := ?_) (by kernel_rfl) ?_ ?_
      rotate_left
      · intro w' hC
        obtain ⟨j0, j1, j2, j3, j4, j5, j6, j7, j8, j9⟩ := HS.out w' hC
        go_simp
        try with_reducible rfl
      try simp only [Act.put, List.setIfInBounds_toArray, List.set_cons_zero, List.set_cons_succ]
    refine wpQuiet_nil ?_
    intro w2 q2
    go_wp2
    go_ret
    exact ⟨ret_bool (pB_no (fun q => HN.out q.2.1)).symm, HB.out.trans (q2.mono HB.out.size)⟩
  rw [pB_yes h1] at HC1
  have H1 : Hid (SrcsP fs.length D nr x.locals) := h1
  clear h1
  obtain ⟨j0, j1, j2, j3, j4, j5, j6, j7, j8, j9⟩ := HS.out wA (Below.refl _ _)
  go_enter Tryz.func173, Tryz.ntmps173
  go_upto_region 2 with fail
  rw [← hwA]
  clear hwA j0 j1 j2 j3 j4 j5 j6 j7 j8 j9
  refine wp_below (by kernel_rfl) (by kernel_rfl) ?_
  iterate 21
    refine q_want (v := ?_) (by kernel_rfl) ?_ ?_
    rotate_left
    · intro w' hC
      obtain ⟨j0, j1, j2, j3, j4, j5, j6, j7, j8, j9⟩ := HS.out w' hC
      go_simp
      try with_reducible rfl
    try simp only [Act.put, List.setIfInBounds_toArray, List.set_cons_zero, List.set_cons_succ]
  refine q_want (v := .bool true) (by kernel_rfl) ?_ ?_
  · intro w' hC
    go_simp
    refine (HC0.out _ hC).mono ?_
    rintro e w'' ⟨rfl, hb2⟩
    exact ⟨rfl, hC.trans (hb2.mono hC.size)⟩
  try simp only [Act.put, List.setIfInBounds_toArray, List.set_cons_zero, List.set_cons_succ]
  iterate 4
    refine q_want (v := ?_) (by kernel_rfl) ?_ ?_
    rotate_left
    · intro w' hC
      obtain ⟨j0, j1, j2, j3, j4, j5, j6, j7, j8, j9⟩ := HS.out w' hC
      go_simp
      try with_reducible rfl
    try simp only [Act.put, List.setIfInBounds_toArray, List.set_cons_zero, List.set_cons_succ]
  refine q_want (v := .bool true) (by kernel_rfl) ?_ ?_
  · intro w' hC
    go_simp
    refine (HC1.out _ hC).mono ?_
    rintro e w'' ⟨rfl, hb2⟩
    exact ⟨rfl, hC.trans (hb2.mono hC.size)⟩
  try simp only [Act.put, List.setIfInBounds_toArray, List.set_cons_zero, List.set_cons_succ]
  iterate 5
    refine q_want (v := ?_) (by kernel_rfl) ?_ ?_
    rotate_left
    · intro w' hC
      obtain ⟨j0, j1, j2, j3, j4, j5, j6, j7, j8, j9⟩ := HS.out w' hC
      go_simp
      try with_reducible rfl
    try simp only [Act.put, List.setIfInBounds_toArray, List.set_cons_zero, List.set_cons_succ]
  refine q_want (v := .bool (pB (SrcsP fs.length D nr x.stack))) (by kernel_rfl) ?_ ?_
  · intro w' hC
    go_simp
    refine (HC2.out _ hC).mono ?_
    rintro e w'' ⟨rfl, hb2⟩
    exact ⟨rfl, hC.trans (hb2.mono hC.size)⟩
  try simp only [Act.put, List.setIfInBounds_toArray, List.set_cons_zero, List.set_cons_succ]
  iterate 2
    refine q_want (v := ?_) (by kernel_rfl) ?_ ?_
    rotate_left
    · intro w' hC
      obtain ⟨j0, j1, j2, j3, j4, j5, j6, j7, j8, j9⟩ := HS.out w' hC
      go_simp
      try with_reducible rfl
    try simp only [Act.put, List.setIfInBounds_toArray, List.set_cons_zero, List.set_cons_succ]
  refine wpQuiet_nil ?_
  intro w2 q2
  go_wp2
  go_ret
  exact ⟨ret_pB (by rw [pB_iff]; exact ⟨fun q => ⟨H0.out, H1.out, q⟩, fun q => q.2.2⟩), HB.out.trans (q2.mono HB.out.size)⟩
end
end Go.Proofs.YtoimokjohmhnaaaGreatDoor
