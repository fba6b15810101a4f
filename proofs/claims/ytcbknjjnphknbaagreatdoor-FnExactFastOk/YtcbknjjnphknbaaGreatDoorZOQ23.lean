/-
  The look at an exit of code (the program): sources, and lists of them; records.
  The look at an exit of code (the program): its guess, its frames.
  The look at an exit of code (the program): a frame.
-/
import Derived.Test.YtcbknjjnphknbaaGreatDoorZOQ21
import Derived.Test.YtcbknjjnphknbaaGreatDoorZOQ22
import Derived.Deep.RegionHeld3
import Derived.Deep.CutRange
namespace Go.Proofs.YtcbknjjnphknbaaGreatDoor
open Go.RowKit

/-- What is asked of the number of a source that is no constant. -/
def NumP (D : FastD) (nr : Nat) (s : Sr) : Prop := (s.k = 2 ∧ Reg s.n D.vals) ∨ (s.k = 3 ∧ Reg s.n D.nums) ∨ (s.k = 4 ∧ Reg s.n nr)
theorem num2 {D : FastD} {nr : Nat} {n : Int} {v : Vl} : NumP D nr ⟨2, n, v⟩ ↔ Reg n D.vals := by simp [NumP]
theorem num3 {D : FastD} {nr : Nat} {n : Int} {v : Vl} : NumP D nr ⟨3, n, v⟩ ↔ Reg n D.nums := by simp [NumP]
theorem num4 {D : FastD} {nr : Nat} {n : Int} {v : Vl} : NumP D nr ⟨4, n, v⟩ ↔ Reg n nr := by simp [NumP]
theorem src1 {nf : Nat} {D : FastD} {nr : Nat} {n : Int} {v : Vl} : SrcP nf D nr ⟨1, n, v⟩ ↔ n = 0 ∧ valB v.k v.n v.s nf 0 = true := by simp [SrcP]
section
variable {fs : List Fn} {D : FastD} {a1 a2 oa ea fa ra : Option Addr} {nt c1 c2 oc ec G base K nfr fc nr rc : Nat} {w : World}

theorem pB_iff {P : Prop} : pB P = true ↔ P := ⟨fun h => Classical.byContradiction (fun q => by rw [pB_no q] at h; cases h), pB_yes⟩
set_option maxRecDepth 100000 in
set_option maxHeartbeats 4000000 in
theorem numberOk_any (s : Sr) (h : Look fs D a1 a2 oa ea nt c1 c2 oc ec G base K w) :
    Calls Tryz.prog 155 #[.agg #[.pointer (some ⟨K, 0, none⟩), .slice fa nfr fc, .slice ra nr rc], .agg #[.int .i64 s.k, .int .i64 s.n, .int .i64 s.v.k, .int .i64 s.v.n, .string s.v.s]] w fun e w' => e = .returned (.bool (pB (NumP D nr s))) ∧ Below w.heap.size w w' := by
  obtain ⟨k, n, vk, vn, vs⟩ := s
  dsimp only
  obtain ⟨wA, hwA⟩ : ∃ wA, wA = (w.alloc (.cells #[.pointer (some ⟨K, 0, none⟩), .slice fa nfr fc, .slice ra nr rc] 184)).alloc (.cells #[.int .i64 k, .int .i64 n, .int .i64 vk, .int .i64 vn, .string vs] 207) := ⟨_, rfl⟩
  have hbA : Below w.heap.size w wA := by rw [hwA]; exact ((Below.refl _ _).alloc (Nat.le_refl _) _).alloc (by simp) _
  have hX : wA.heap[w.heap.size]? = some (.cells #[.pointer (some ⟨K, 0, none⟩), .slice fa nfr fc, .slice ra nr rc] 184 (0, 0)) := by rw [hwA]; exact block_old (block_new _ _ _) _
  have hS : wA.heap[w.heap.size + 1]? = some (.cells #[.int .i64 k, .int .i64 n, .int .i64 vk, .int .i64 vn, .string vs] 207 (0, 0)) := by rw [hwA]; exact block_new_at _ _ _ _ (by simp)
  have hk := h.mono hbA
  have HB : Hid (Below w.heap.size w wA) := hbA
  have HS : Hid (∀ w', Below wA.heap.size wA w' → w'.cell? ⟨w.heap.size, 0, none⟩ = some (.pointer (some ⟨K, 0, none⟩)) ∧ w'.cell? ⟨w.heap.size, 2, none⟩ = some (.slice ra nr rc) ∧ w'.cell? ⟨w.heap.size + 1, 0, none⟩ = some (.int .i64 k) ∧ w'.cell? ⟨w.heap.size + 1, 1, none⟩ = some (.int .i64 n) ∧ w'.cell? ⟨K, 3, none⟩ = some (.int .i64 D.fn) ∧ w'.cell? ⟨K, 4, none⟩ = some (.int .i64 D.entry) ∧ w'.cell? ⟨K, 5, none⟩ = some (.int .i64 D.vals) ∧ w'.cell? ⟨K, 6, none⟩ = some (.int .i64 D.nums) ∧ w'.cell? ⟨K, 7, none⟩ = some (.slice oa D.ops.length oc) ∧ w'.cell? ⟨K, 8, none⟩ = some (.slice ea D.exits.length ec)) := fun w' q => ⟨block_cell (block_kept hX q) 0, block_cell (block_kept hX q) 2, block_cell (block_kept hS q) 0, block_cell (block_kept hS q) 1, (hk.mono q).cells 3, (hk.mono q).cells 4, (hk.mono q).cells 5, (hk.mono q).cells 6, (hk.mono q).cells 7, (hk.mono q).cells 8⟩
  by_cases h2 : k = 2
  case pos =>
    subst h2
    clear hk hX hS h hbA
    obtain ⟨j0, j1, j2, j3, j4, j5, j6, j7, j8, j9⟩ := HS.out wA (Below.refl _ _)
    go_enter Tryz.func155, Tryz.ntmps155
    go_upto_region 3 with fail
    rw [← hwA]
    clear hwA j0 j1 j2 j3 j4 j5 j6 j7 j8 j9
    refine wp_below (by kernel_rfl) (by kernel_rfl) ?_
    iterate 7
      refine q_want (v := ?_) (by kernel_rfl) ?_ ?_
      rotate_left
      · intro w' hC
        obtain ⟨j0, j1, j2, j3, j4, j5, j6, j7, j8, j9⟩ := HS.out w' hC
        go_simp
        try with_reducible rfl
      try simp only [Act.put, List.setIfInBounds_toArray, List.set_cons_zero, List.set_cons_succ]
    refine q_want (v := .bool (pB (Reg n D.vals))) (by kernel_rfl) ?_ ?_
    · intro w' hC
      go_simp
      refine (isInV_any oa ea oc ec D n _).mono ?_
      rintro e w'' ⟨rfl, hb2⟩
      exact ⟨rfl, hC.trans (hb2.mono hC.size)⟩
    try simp only [Act.put, List.setIfInBounds_toArray, List.set_cons_zero, List.set_cons_succ]
    refine q_want (v := ?_) (by kernel_rfl) ?_ ?_
    rotate_left
    · intro w' hC
      obtain ⟨j0, j1, j2, j3, j4, j5, j6, j7, j8, j9⟩ := HS.out w' hC
      go_simp
      try with_reducible rfl
    try simp only [Act.put, List.setIfInBounds_toArray, List.set_cons_zero, List.set_cons_succ]
    refine wpQuiet_nil ?_
    intro w2 q2
    go_wp2
    go_ret
    exact ⟨ret_pB (by rw [pB_iff]; exact num2.symm), HB.out.trans (q2.mono HB.out.size)⟩
  have g2 : (k == 2) = false := by simpa using h2
  by_cases h3 : k = 3
  case pos =>
    subst h3
    clear hk hX hS h hbA
    obtain ⟨j0, j1, j2, j3, j4, j5, j6, j7, j8, j9⟩ := HS.out wA (Below.refl _ _)
    go_enter Tryz.func155, Tryz.ntmps155
    go_upto_region 5 with fail
    rw [← hwA]
    clear hwA j0 j1 j2 j3 j4 j5 j6 j7 j8 j9
    refine wp_below (by kernel_rfl) (by kernel_rfl) ?_
    iterate 7
      refine q_want (v := ?_) (by kernel_rfl) ?_ ?_
      rotate_left
      · intro w' hC
        obtain ⟨j0, j1, j2, j3, j4, j5, j6, j7, j8, j9⟩ := HS.out w' hC
        go_simp
        try with_reducible rfl
      try simp only [Act.put, List.setIfInBounds_toArray, List.set_cons_zero, List.set_cons_succ]
    refine q_want (v := .bool (pB (Reg n D.nums))) (by kernel_rfl) ?_ ?_
    · intro w' hC
      go_simp
      refine (isInN_any oa ea oc ec D n _).mono ?_
      rintro e w'' ⟨rfl, hb2⟩
      exact ⟨rfl, hC.trans (hb2.mono hC.size)⟩
    try simp only [Act.put, List.setIfInBounds_toArray, List.set_cons_zero, List.set_cons_succ]
    refine q_want (v := ?_) (by kernel_rfl) ?_ ?_
    rotate_left
    · intro w' hC
      obtain ⟨j0, j1, j2, j3, j4, j5, j6, j7, j8, j9⟩ := HS.out w' hC
      go_simp
      try with_reducible rfl
    try simp only [Act.put, List.setIfInBounds_toArray, List.set_cons_zero, List.set_cons_succ]
    refine wpQuiet_nil ?_
    intro w2 q2
    go_wp2
    go_ret
    exact ⟨ret_pB (by rw [pB_iff]; exact num3.symm), HB.out.trans (q2.mono HB.out.size)⟩
  have g3 : (k == 3) = false := by simpa using h3
  by_cases h4 : k = 4
  case pos =>
    subst h4
    clear hk hX hS h hbA
    obtain ⟨j0, j1, j2, j3, j4, j5, j6, j7, j8, j9⟩ := HS.out wA (Below.refl _ _)
    go_enter Tryz.func155, Tryz.ntmps155
    go_upto_region 7 with fail
    rw [← hwA]
    clear hwA
    go_wp2_with (go_at_call 159; refine (hasExRec_any _ _ _ _ _).mono ?_; rintro e w1 ⟨rfl, hw⟩; rw [hw]; clear hw w1)
    go_ret
    exact ⟨ret_pB (by rw [pB_iff]; exact num4.symm), HB.out⟩
  have g4 : (k == 4) = false := by simpa using h4
  have HN : Hid (¬ NumP D nr ⟨k, n, vk, vn, vs⟩) := fun q => by
    rcases q with q | q | q
    · exact h2 q.1
    · exact h3 q.1
    · exact h4 q.1
  clear hk hX hS h hbA h2 h3 h4
  obtain ⟨j0, j1, j2, j3, j4, j5, j6, j7, j8, j9⟩ := HS.out wA (Below.refl _ _)
  go_enter Tryz.func155, Tryz.ntmps155
  go_upto_region 8 with fail
  rw [← hwA]
  clear hwA
  go_wp2
  go_ret
  exact ⟨ret_bool (pB_no HN.out).symm, HB.out⟩

set_option maxRecDepth 100000 in
set_option maxHeartbeats 4000000 in
theorem sourceOk_any (i : Int) (s : Sr) (hs : s.v.s.size ≤ 1048576) (h : Look fs D a1 a2 oa ea nt c1 c2 oc ec G base K w) :
    Calls Tryz.prog 148 #[.agg #[.pointer (some ⟨K, 0, none⟩), .slice fa nfr fc, .slice ra nr rc], .int .i64 i, .agg #[.int .i64 s.k, .int .i64 s.n, .int .i64 s.v.k, .int .i64 s.v.n, .string s.v.s]] w fun e w' => e = .returned (.bool (pB (SrcP fs.length D nr s))) ∧ Below w.heap.size w w' := by
  obtain ⟨k, n, vk, vn, vs⟩ := s
  dsimp only at hs ⊢
  obtain ⟨wA, hwA⟩ : ∃ wA, wA = (w.alloc (.cells #[.pointer (some ⟨K, 0, none⟩), .slice fa nfr fc, .slice ra nr rc] 184)).alloc (.cells #[.int .i64 k, .int .i64 n, .int .i64 vk, .int .i64 vn, .string vs] 207) := ⟨_, rfl⟩
  have hbA : Below w.heap.size w wA := by rw [hwA]; exact ((Below.refl _ _).alloc (Nat.le_refl _) _).alloc (by simp) _
  have hX : wA.heap[w.heap.size]? = some (.cells #[.pointer (some ⟨K, 0, none⟩), .slice fa nfr fc, .slice ra nr rc] 184 (0, 0)) := by rw [hwA]; exact block_old (block_new _ _ _) _
  have hS : wA.heap[w.heap.size + 1]? = some (.cells #[.int .i64 k, .int .i64 n, .int .i64 vk, .int .i64 vn, .string vs] 207 (0, 0)) := by rw [hwA]; exact block_new_at _ _ _ _ (by simp)
  have hk := h.mono hbA
  have HB : Hid (Below w.heap.size w wA) := hbA
  have HS : Hid (∀ w', Below wA.heap.size wA w' → w'.cell? ⟨w.heap.size, 0, none⟩ = some (.pointer (some ⟨K, 0, none⟩)) ∧ w'.cell? ⟨w.heap.size, 1, none⟩ = some (.slice fa nfr fc) ∧ w'.cell? ⟨w.heap.size, 2, none⟩ = some (.slice ra nr rc) ∧ w'.cell? ⟨w.heap.size + 1, 0, none⟩ = some (.int .i64 k) ∧ w'.cell? ⟨w.heap.size + 1, 1, none⟩ = some (.int .i64 n) ∧ w'.cell? ⟨w.heap.size + 1, 2, none⟩ = some (.int .i64 vk) ∧ w'.cell? ⟨w.heap.size + 1, 3, none⟩ = some (.int .i64 vn) ∧ w'.cell? ⟨w.heap.size + 1, 4, none⟩ = some (.string vs) ∧ w'.cell? ⟨K, 0, none⟩ = some (.slice a1 nt c1) ∧ w'.cell? ⟨K, 1, none⟩ = some (.slice a2 fs.length c2)) := fun w' q => ⟨block_cell (block_kept hX q) 0, block_cell (block_kept hX q) 1, block_cell (block_kept hX q) 2, block_cell (block_kept hS q) 0, block_cell (block_kept hS q) 1, block_cell (block_kept hS q) 2, block_cell (block_kept hS q) 3, block_cell (block_kept hS q) 4, (hk.mono q).cells 0, (hk.mono q).cells 1⟩
  by_cases h1 : k = 1
  case pos =>
    subst h1
    by_cases hn0 : n = 0
    case neg =>
      have g0 : (n == 0) = false := by simpa using hn0
      have HN : Hid (¬ n = 0) := hn0
      clear hk hX hS h hbA hn0
      obtain ⟨j0, j1, j2, j3, j4, j5, j6, j7, j8, j9⟩ := HS.out wA (Below.refl _ _)
      go_enter Tryz.func148, Tryz.ntmps148
      go_upto_region 2 with fail
      rw [← hwA]
      clear hwA j0 j1 j2 j3 j4 j5 j6 j7 j8 j9
      refine wp_below (by kernel_rfl) (by kernel_rfl) ?_
      iterate 4
        refine q_want (v := ?_) (by kernel_rfl) ?_ ?_
        rotate_left
        · intro w' hC
          obtain ⟨j0, j1, j2, j3, j4, j5, j6, j7, j8, j9⟩ := HS.out w' hC
          go_simp
          try with_reducible rfl
        try simp only [Act.put, List.setIfInBounds_toArray, List.set_cons_zero, List.set_cons_succ]
      iterate 8 go_big_quiet_skip
      iterate 2
        refine q_want (v := ?_) (by kernel_rfl) ?_ ?_
        rotate_left
        · intro w' hC
          obtain ⟨j0, j1, j2, j3, j4, j5, j6, j7, j8, j9⟩ := HS.out w' hC
          go_simp
          try with_reducible rfl
        try simp only [Act.put, List.setIfInBounds_toArray, List.set_cons_zero, List.set_cons_succ]
      refine wpQuiet_nil ?_
      intro w2 q2
      go_wp2
      go_ret
      exact ⟨ret_bool (pB_no (fun q => HN.out (src1.1 q).1)).symm, HB.out.trans (q2.mono HB.out.size)⟩
    subst hn0
    clear hk hX hS h hbA
    obtain ⟨j0, j1, j2, j3, j4, j5, j6, j7, j8, j9⟩ := HS.out wA (Below.refl _ _)
    go_enter Tryz.func148, Tryz.ntmps148
    go_upto_region 2 with fail
    rw [← hwA]
    clear hwA j0 j1 j2 j3 j4 j5 j6 j7 j8 j9
    refine wp_below (by kernel_rfl) (by kernel_rfl) ?_
    iterate 11
      refine q_want (v := ?_) (by kernel_rfl) ?_ ?_
      rotate_left
      · intro w' hC
        obtain ⟨j0, j1, j2, j3, j4, j5, j6, j7, j8, j9⟩ := HS.out w' hC
        go_simp
        try with_reducible rfl
      try simp only [Act.put, List.setIfInBounds_toArray, List.set_cons_zero, List.set_cons_succ]
    refine q_want (v := .bool (valB vk vn vs fs.length 0)) (by kernel_rfl) ?_ ?_
    · intro w' hC
      go_simp
      refine (iIn_any vk vn vs 0 _ _ _ _ fs.length _ _ hs).mono ?_
      rintro e w'' ⟨rfl, hb2⟩
      exact ⟨rfl, hC.trans (hb2.mono hC.size)⟩
    try simp only [Act.put, List.setIfInBounds_toArray, List.set_cons_zero, List.set_cons_succ]
    iterate 2
      refine q_want (v := ?_) (by kernel_rfl) ?_ ?_
      rotate_left
      · intro w' hC
        obtain ⟨j0, j1, j2, j3, j4, j5, j6, j7, j8, j9⟩ := HS.out w' hC
        go_simp
        try with_reducible rfl
      try simp only [Act.put, List.setIfInBounds_toArray, List.set_cons_zero, List.set_cons_succ]
    refine wpQuiet_nil ?_
    intro w2 q2
    go_wp2
    go_ret
    exact ⟨ret_pB ⟨fun q => src1.2 ⟨rfl, q⟩, fun q => (src1.1 q).2⟩, HB.out.trans (q2.mono HB.out.size)⟩
  have g1 : (k == 1) = false := by simpa using h1
  have HI : Hid (SrcP fs.length D nr ⟨k, n, vk, vn, vs⟩ ↔ (⟨vk, vn, vs⟩ : Vl) = zeroV ∧ NumP D nr ⟨k, n, vk, vn, vs⟩) :=
    ⟨fun q => q.elim (fun q => absurd q.1 h1) id, .inr⟩
  have g36 := guard36
  have e36 := eqIn36 ⟨vk, vn, vs⟩ zeroV
  unfold zeroV at e36
  dsimp only at e36
  have HK : Hid (Look fs D a1 a2 oa ea nt c1 c2 oc ec G base K wA) := hk
  clear hk hX hS h hbA h1
  obtain ⟨j0, j1, j2, j3, j4, j5, j6, j7, j8, j9⟩ := HS.out wA (Below.refl _ _)
  by_cases hz : (⟨vk, vn, vs⟩ : Vl) = zeroV
  case neg =>
    have HN : Hid (¬ (⟨vk, vn, vs⟩ : Vl) = zeroV) := hz
    have hz' : ¬ (⟨vk, vn, vs⟩ : Vl) = ⟨0, 0, ⟨#[]⟩⟩ := hz
    rw [pB_no hz'] at e36
    clear hz hz'
    go_enter Tryz.func148, Tryz.ntmps148
    go_upto_region 3 with fail
    rw [← hwA]
    clear hwA
    go_wp2
    go_ret
    exact ⟨ret_bool (pB_no (fun q => HN.out (HI.out.1 q).1)).symm, HB.out⟩
  have HZ : Hid ((⟨vk, vn, vs⟩ : Vl) = zeroV) := hz
  have hz' : (⟨vk, vn, vs⟩ : Vl) = ⟨0, 0, ⟨#[]⟩⟩ := hz
  rw [pB_yes hz'] at e36
  clear hz hz'
  go_enter Tryz.func148, Tryz.ntmps148
  go_upto_region 3 with fail
  rw [← hwA]
  clear hwA
  go_wp2_with fail
  refine (numberOk_any (fa := fa) (ra := ra) (nfr := nfr) (fc := fc) (nr := nr) (rc := rc) ⟨k, n, vk, vn, vs⟩ HK.out).mono ?_
  rintro e w1 ⟨rfl, hb1⟩
  go_wp2
  go_ret
  exact ⟨ret_pB (by rw [pB_iff, HI.out]; exact ⟨fun q => ⟨HZ.out, q⟩, fun q => q.2⟩), HB.out.trans (hb1.mono HB.out.size)⟩

set_option maxRecDepth 100000 in
set_option maxHeartbeats 4000000 in
theorem sourcesOk_any (a : Option Addr) (l : List Sr) (cap : Nat) (hl : LSmall SrSmall l) (hm : SrsAt w 0 a l) (h : Look fs D a1 a2 oa ea nt c1 c2 oc ec G base K w) :
    Calls Tryz.prog 133 #[.agg #[.pointer (some ⟨K, 0, none⟩), .slice fa nfr fc, .slice ra nr rc], .slice a l.length cap] w fun e w' => e = .returned (.bool (pB (SrcsP fs.length D nr l))) ∧ Below w.heap.size w w' := by
  have hbA : Below w.heap.size w (w.alloc (.cells #[.pointer (some ⟨K, 0, none⟩), .slice fa nfr fc, .slice ra nr rc] 184)) := (Below.refl _ _).alloc (Nat.le_refl _) _
  have hk := h.mono hbA
  go_enter Tryz.func133, Tryz.ntmps133
  go_wp2_with fail
  refine (allSrc_any (.agg #[.pointer (some ⟨K, 0, none⟩), .slice fa nfr fc, .slice ra nr rc]) (fun _ s => SrcP fs.length D nr s) a l cap _ hl.1 (hm.mono hbA) (fun i hi w' q => sourceOk_any _ _ (hl.2 _ (List.getElem_mem hi)) (hk.mono q))).mono ?_
  rintro e w1 ⟨rfl, hb1⟩
  go_wp2
  go_ret
  exact ⟨rfl, hbA.trans (hb1.mono hbA.size)⟩

set_option maxRecDepth 100000 in
set_option maxHeartbeats 4000000 in
theorem recOk_any (i : Int) (x : ER) (a : Option Addr) (cap : Nat) (hl : LSmall SrSmall x.fields) (hm : SrsAt w 0 a x.fields) (h : Look fs D a1 a2 oa ea nt c1 c2 oc ec G base K w) :
    Calls Tryz.prog 101 #[.agg #[.pointer (some ⟨K, 0, none⟩), .slice fa nfr fc, .slice ra nr rc], .int .i64 i, .agg #[.slice a x.fields.length cap]] w fun e w' => e = .returned (.bool (pB (ERecP fs.length D nr x))) ∧ Below w.heap.size w w' := by
  have hbA : Below w.heap.size w ((w.alloc (.cells #[.pointer (some ⟨K, 0, none⟩), .slice fa nfr fc, .slice ra nr rc] 184)).alloc (.cells #[.slice a x.fields.length cap] 151)) := ((Below.refl _ _).alloc (Nat.le_refl _) _).alloc (by simp) _
  have hk := h.mono hbA
  have hmA := hm.mono hbA
  by_cases h6 : x.fields.length ≤ 6
  case neg =>
    have h6' : ¬ (x.fields.length : Int) ≤ 6 := by omega
    go_enter Tryz.func101, Tryz.ntmps101
    go_wp2
    go_ret
    exact ⟨ret_bool (pB_no (fun q => absurd q.1 h6)).symm, hbA⟩
  have h6' : (x.fields.length : Int) ≤ 6 := by omega
  go_enter Tryz.func101, Tryz.ntmps101
  go_wp2_with fail
  refine (sourcesOk_any (fa := fa) (ra := ra) (nfr := nfr) (fc := fc) (nr := nr) (rc := rc) a x.fields cap hl hmA hk).mono ?_
  rintro e w1 ⟨rfl, hb1⟩
  go_wp2
  go_ret
  exact ⟨ret_pB (by rw [pB_iff]; exact ⟨fun q => ⟨h6, q⟩, fun q => q.2⟩), hbA.trans (hb1.mono hbA.size)⟩
end
end Go.Proofs.YtcbknjjnphknbaaGreatDoor

namespace Go.Proofs.YtcbknjjnphknbaaGreatDoor
open Go.RowKit

theorem Says.pB {P : Prop} {e : Ending} (h : Says P e) : e = .returned (.bool (pB P)) := by
  obtain ⟨b, rfl, hb⟩ := h
  exact ret_pB hb
theorem specs_one {fs : List Fn} {s : Si} : Specs fs [s] ↔ SpecP fs s :=
  ⟨fun h => h.1 0 (by simp), fun h => ⟨fun i hi => by obtain rfl : i = 0 := by simpa using hi
                                                      exact h, fun i hi h0 => by simp at hi; omega⟩⟩
section
variable {fs : List Fn} {D : FastD} {a1 a2 oa ea fa ra : Option Addr} {nt c1 c2 oc ec G base K nfr fc nr rc : Nat} {w : World}
theorem fitsB_any (f pc nl ns : Int) (last : Bool) (h : Look fs D a1 a2 oa ea nt c1 c2 oc ec G base K w) (lim : Lim fs D) :
    Calls Tryz.prog 132 #[.agg #[.slice a1 nt c1, .slice a2 fs.length c2], .slice (some ⟨G, 0, none⟩) fs.length fs.length, .int .i64 f, .int .i64 pc, .int .i64 nl, .int .i64 ns, .bool last] w fun e w' => e = .returned (.bool (pB (Fits fs f pc nl ns last))) ∧ Below w.heap.size w w' :=
  (fits_any a1 a2 nt c1 c2 fs base G f pc nl ns last w h.fns h.hts lim.fine).mono fun _ _ q => ⟨q.1.pB, q.2⟩

set_option maxRecDepth 100000 in
set_option maxHeartbeats 4000000 in
theorem guessOk_any (x : Ex) (h : Look fs D a1 a2 oa ea nt c1 c2 oc ec G base K w) (lim : Lim fs D) :
    Calls Tryz.prog 97 #[.pointer (some ⟨K, 0, none⟩), .agg #[.int .i64 x.kind, .int .i64 x.spec.f, .int .i64 x.spec.pc, .int .i64 x.spec.seen, .int .i64 x.spec.target, .slice fa x.frames.length fc, .slice ra x.recs.length rc]] w fun e w' => e = .returned (.bool (pB (EGuessP fs x))) ∧ Below w.heap.size w w' := by
  obtain ⟨wA, hwA⟩ : ∃ wA, wA = w.alloc (.cells #[.int .i64 x.kind, .int .i64 x.spec.f, .int .i64 x.spec.pc, .int .i64 x.spec.seen, .int .i64 x.spec.target, .slice fa x.frames.length fc, .slice ra x.recs.length rc] 101) := ⟨_, rfl⟩
  have hbA : Below w.heap.size w wA := by rw [hwA]; exact (Below.refl _ _).alloc (Nat.le_refl _) _
  have hX : wA.heap[w.heap.size]? = some (.cells #[.int .i64 x.kind, .int .i64 x.spec.f, .int .i64 x.spec.pc, .int .i64 x.spec.seen, .int .i64 x.spec.target, .slice fa x.frames.length fc, .slice ra x.recs.length rc] 101 (0, 0)) := by rw [hwA]; exact block_new _ _ _
  have hk := h.mono hbA
  have HB : Hid (Below w.heap.size w wA) := hbA
  have x0 := block_cell hX
  by_cases h2 : x.kind = 2
  case neg =>
    have g2 : (x.kind != 2) = true := by simpa using h2
    have HK2 : Hid (¬ x.kind = 2) := h2
    have g44 := guard44
    have e44 := eqIn44 x.spec zeroS
    unfold zeroS at e44
    dsimp only at e44
    clear h2 hk hX h hbA
    go_enter Tryz.func97, Tryz.ntmps97
    go_upto_region 2 with fail
    rw [← hwA]
    clear hwA
    go_wp2
    go_ret
    exact ⟨ret_pB (by rw [pB_iff]; exact ⟨fun q => .inr ⟨HK2.out, q⟩, fun q => q.elim (fun q => absurd q.1 HK2.out) (fun q => q.2)⟩), HB.out⟩
  have g2 : (x.kind != 2) = false := by simpa using h2
  have HK2 : Hid (x.kind = 2) := h2
  have HS : Hid (∀ w', Below wA.heap.size wA w' → w'.cell? ⟨K, 0, none⟩ = some (.slice a1 nt c1) ∧ w'.cell? ⟨K, 1, none⟩ = some (.slice a2 fs.length c2) ∧ w'.cell? ⟨w.heap.size, 1, none⟩ = some (.int .i64 x.spec.f) ∧ w'.cell? ⟨w.heap.size, 2, none⟩ = some (.int .i64 x.spec.pc) ∧ w'.cell? ⟨w.heap.size, 3, none⟩ = some (.int .i64 x.spec.seen) ∧ w'.cell? ⟨w.heap.size, 4, none⟩ = some (.int .i64 x.spec.target)) := fun w' q => ⟨(hk.mono q).cells 0, (hk.mono q).cells 1, block_cell (block_kept hX q) 1, block_cell (block_kept hX q) 2, block_cell (block_kept hX q) 3, block_cell (block_kept hX q) 4⟩
  have HC : Hid (∀ g w', Below wA.heap.size wA w' → w'.heap[g]? = some (.cells #[.int .i64 x.spec.f, .int .i64 x.spec.pc, .int .i64 x.spec.seen, .int .i64 x.spec.target] 97 (0, 0)) → Calls Tryz.prog 131 #[.agg #[.slice a1 nt c1, .slice a2 fs.length c2], .slice (some ⟨g, 0, none⟩) 1 1] w' fun e w'' => e = .returned (.bool (pB (SpecP fs x.spec))) ∧ Below w'.heap.size w' w'') := fun g w' q hg => by
    have := specsOk_any a1 a2 nt c1 c2 fs (some ⟨g, 0, none⟩) 1 [x.spec] w' (by simp) lim.code (hk.fns.mono q) (fun i hi => by
      obtain rfl : i = 0 := by simpa using hi
      exact ⟨g, 0, rfl, Nat.zero_le _, block_cell hg 0, block_cell hg 1, block_cell hg 2, block_cell hg 3⟩)
    rwa [show pB (Specs fs [x.spec]) = pB (SpecP fs x.spec) by rw [show Specs fs [x.spec] = SpecP fs x.spec from propext specs_one]] at this
  obtain ⟨j0, j1, j2, j3, j4, j5⟩ := HS.out wA (Below.refl _ _)
  have q : Below wA.heap.size wA wA.drew := (Below.refl _ _).drew
  clear h2 hk hX h hbA
  go_enter Tryz.func97, Tryz.ntmps97
  go_upto_region 3 with fail
  rw [← hwA]
  clear hwA x0
  go_region_held3 (fun w' => w'.cell? ⟨K, 0, none⟩ = some (.slice a1 nt c1) ∧ w'.cell? ⟨K, 1, none⟩ = some (.slice a2 fs.length c2) ∧ w'.cell? ⟨w.heap.size, 1, none⟩ = some (.int .i64 x.spec.f) ∧ w'.cell? ⟨w.heap.size, 2, none⟩ = some (.int .i64 x.spec.pc) ∧ w'.cell? ⟨w.heap.size, 3, none⟩ = some (.int .i64 x.spec.seen) ∧ w'.cell? ⟨w.heap.size, 4, none⟩ = some (.int .i64 x.spec.target))
    (first
      | exact ⟨j0, j1, j2, j3, j4, j5⟩
      | exact HS.out _ q
      | exact HS.out _ (q.alloc q.size _))
    (first
      | (go_at_call 131; refine (HC.out _ _ (by first | exact q.alloc q.size _ | exact (Below.refl _ _).alloc (Nat.le_refl _) _ | exact ((Below.refl _ _).alloc (Nat.le_refl _) _).drew) (by first | exact block_new _ _ _ | exact block_new_drew _ _ _)).mono ?_; rintro e wb ⟨rfl, kd⟩; have q := (q.alloc q.size (.cells #[.int .i64 x.spec.f, .int .i64 x.spec.pc, .int .i64 x.spec.seen, .int .i64 x.spec.target] 97)).trans (kd.mono (by have := q.size; simp <;> omega))))
  all_goals
    go_wp2
    go_ret
    exact ⟨ret_pB (by rw [pB_iff]; exact ⟨fun q => .inl ⟨HK2.out, q⟩, fun q => q.elim (fun q => q.2) (fun q => absurd HK2.out q.1)⟩), HB.out.trans (q.mono HB.out.size)⟩

end
end Go.Proofs.YtcbknjjnphknbaaGreatDoor

namespace Go.Proofs.YtcbknjjnphknbaaGreatDoor
open Go.RowKit

section
variable {fs : List Fn} {D : FastD} {a1 a2 oa ea fa ra : Option Addr} {nt c1 c2 oc ec G base K nfr fc nr rc : Nat} {w : World}
set_option maxRecDepth 100000 in
set_option maxHeartbeats 8000000 in
theorem frameOk_i (i : Nat) (x : EF) (la sa : Option Addr) (lc sc : Nat) (hsm : EFSmall x) (hl : SrsAt w 0 la x.locals) (hs : SrsAt w 0 sa x.stack) (hi : i < nfr) (hnf : nfr ≤ 1048576) (h : Look fs D a1 a2 oa ea nt c1 c2 oc ec G base K w) (lim : Lim fs D) :
    Calls Tryz.prog 99 #[.agg #[.pointer (some ⟨K, 0, none⟩), .slice fa nfr fc, .slice ra nr rc], .int .i64 (i : Nat), .agg #[.int .i64 x.fn, .int .i64 x.pc, .slice la x.locals.length lc, .slice sa x.stack.length sc]] w fun e w' => e = .returned (.bool (pB (EFrameP fs D nr x (decide ((i : Int) = (nfr : Int) - 1))))) ∧ Below w.heap.size w w' := by
  obtain ⟨wA, hwA⟩ : ∃ wA, wA = (w.alloc (.cells #[.pointer (some ⟨K, 0, none⟩), .slice fa nfr fc, .slice ra nr rc] 184)).alloc (.cells #[.int .i64 x.fn, .int .i64 x.pc, .slice la x.locals.length lc, .slice sa x.stack.length sc] 144) := ⟨_, rfl⟩
  have hbA : Below w.heap.size w wA := by rw [hwA]; exact ((Below.refl _ _).alloc (Nat.le_refl _) _).alloc (by simp) _
  have hX : wA.heap[w.heap.size]? = some (.cells #[.pointer (some ⟨K, 0, none⟩), .slice fa nfr fc, .slice ra nr rc] 184 (0, 0)) := by rw [hwA]; exact block_old (block_new _ _ _) _
  have hF : wA.heap[w.heap.size + 1]? = some (.cells #[.int .i64 x.fn, .int .i64 x.pc, .slice la x.locals.length lc, .slice sa x.stack.length sc] 144 (0, 0)) := by rw [hwA]; exact block_new_at _ _ _ _ (by simp)
  have hk := h.mono hbA
  have HB : Hid (Below w.heap.size w wA) := hbA
  have HS : Hid (∀ w', Below wA.heap.size wA w' → w'.cell? ⟨w.heap.size, 0, none⟩ = some (.pointer (some ⟨K, 0, none⟩)) ∧ w'.cell? ⟨w.heap.size, 1, none⟩ = some (.slice fa nfr fc) ∧ w'.cell? ⟨w.heap.size, 2, none⟩ = some (.slice ra nr rc) ∧ w'.cell? ⟨w.heap.size + 1, 0, none⟩ = some (.int .i64 x.fn) ∧ w'.cell? ⟨w.heap.size + 1, 1, none⟩ = some (.int .i64 x.pc) ∧ w'.cell? ⟨w.heap.size + 1, 2, none⟩ = some (.slice la x.locals.length lc) ∧ w'.cell? ⟨w.heap.size + 1, 3, none⟩ = some (.slice sa x.stack.length sc) ∧ w'.cell? ⟨K, 0, none⟩ = some (.slice a1 nt c1) ∧ w'.cell? ⟨K, 1, none⟩ = some (.slice a2 fs.length c2) ∧ w'.cell? ⟨K, 2, none⟩ = some (.slice (some ⟨G, 0, none⟩) fs.length fs.length)) := fun w' q => ⟨block_cell (block_kept hX q) 0, block_cell (block_kept hX q) 1, block_cell (block_kept hX q) 2, block_cell (block_kept hF q) 0, block_cell (block_kept hF q) 1, block_cell (block_kept hF q) 2, block_cell (block_kept hF q) 3, (hk.mono q).cells 0, (hk.mono q).cells 1, (hk.mono q).cells 2⟩
  obtain ⟨last, hlast⟩ : ∃ last, last = decide ((i : Int) = (nfr : Int) - 1) := ⟨_, rfl⟩
  rw [← hlast]
  have hw1 : IntKind.i64.wrap ((nfr : Int) - 1) = (nfr : Int) - 1 := by rw [IntKind.wrap_i64]; omega
  have HC0 : Hid (∀ w', Below wA.heap.size wA w' → Calls Tryz.prog 132 #[.agg #[.slice a1 nt c1, .slice a2 fs.length c2], .slice (some ⟨G, 0, none⟩) fs.length fs.length, .int .i64 x.fn, .int .i64 x.pc, .int .i64 x.locals.length, .int .i64 x.stack.length, .bool last] w' fun e w'' => e = .returned (.bool (pB (Fits fs x.fn x.pc x.locals.length x.stack.length last))) ∧ Below w'.heap.size w' w'') := fun w' q => fitsB_any _ _ _ _ _ (hk.mono q) lim
  have HC1 : Hid (∀ w', Below wA.heap.size wA w' → Calls Tryz.prog 133 #[.agg #[.pointer (some ⟨K, 0, none⟩), .slice fa nfr fc, .slice ra nr rc], .slice la x.locals.length lc] w' fun e w'' => e = .returned (.bool (pB (SrcsP fs.length D nr x.locals))) ∧ Below w'.heap.size w' w'') := fun w' q => sourcesOk_any la x.locals lc hsm.1 ((hl.mono hbA).mono q) (hk.mono q)
  have HC2 : Hid (∀ w', Below wA.heap.size wA w' → Calls Tryz.prog 133 #[.agg #[.pointer (some ⟨K, 0, none⟩), .slice fa nfr fc, .slice ra nr rc], .slice sa x.stack.length sc] w' fun e w'' => e = .returned (.bool (pB (SrcsP fs.length D nr x.stack))) ∧ Below w'.heap.size w' w'') := fun w' q => sourcesOk_any sa x.stack sc hsm.2 ((hs.mono hbA).mono q) (hk.mono q)
  clear hk hX hF h hbA hl hs lim hsm
  have hlast' : ((i : Int) == (nfr : Int) - 1) = last := by rw [hlast, Bool.eq_iff_iff]; simp
  have hlast2 : decide ((i : Int) = (nfr : Int) - 1) = last := hlast.symm
  clear hlast
  by_cases h0 : Fits fs x.fn x.pc x.locals.length x.stack.length last
  case neg =>
    rw [pB_no h0] at HC0
    have HN : Hid (¬ Fits fs x.fn x.pc x.locals.length x.stack.length last) := h0
    clear h0
    obtain ⟨j0, j1, j2, j3, j4, j5, j6, j7, j8, j9⟩ := HS.out wA (Below.refl _ _)
    go_enter Tryz.func99, Tryz.ntmps99
    go_upto_region 2 with fail
    rw [← hwA]
    clear hwA j0 j1 j2 j3 j4 j5 j6 j7 j8 j9
    refine wp_below (by kernel_rfl) (by kernel_rfl) ?_
    iterate 21
      refine q_want (v := ?_) (by kernel_rfl) ?_ ?_
      rotate_left
      · intro w' hC
        obtain ⟨j0, j1, j2, j3, j4, j5, j6, j7, j8, j9⟩ := HS.out w' hC
        go_simp
        try with_reducible rfl
      try simp only [Act.put, List.setIfInBounds_toArray, List.set_cons_zero, List.set_cons_succ]
    refine q_want (v := .bool false) (by kernel_rfl) ?_ ?_
    · intro w' hC
      go_simp
      refine (HC0.out _ hC).mono ?_
      rintro e w'' ⟨rfl, hb2⟩
      exact ⟨rfl, hC.trans (hb2.mono hC.size)⟩
    try simp only [Act.put, List.setIfInBounds_toArray, List.set_cons_zero, List.set_cons_succ]
    refine q_want (v := ?_) (by kernel_rfl) ?_ ?_
    rotate_left
    · intro w' hC
      obtain ⟨j0, j1, j2, j3, j4, j5, j6, j7, j8, j9⟩ := HS.out w' hC
      go_simp
      try with_reducible rfl
    try simp only [Act.put, List.setIfInBounds_toArray, List.set_cons_zero, List.set_cons_succ]
    iterate 4 go_big_quiet_skip
    iterate 2
      refine q_want (v := ?_) (by kernel_rfl) ?_ ?_
      rotate_left
      · intro w' hC
        obtain ⟨j0, j1, j2, j3, j4, j5, j6, j7, j8, j9⟩ := HS.out w' hC
        go_simp
        try with_reducible rfl
      try simp only [Act.put, List.setIfInBounds_toArray, List.set_cons_zero, List.set_cons_succ]
    iterate 4 go_big_quiet_skip
    iterate 2
      refine q_want (v := ?_) (by kernel_rfl) ?_ ?_
      rotate_left
      · intro w' hC
        obtain ⟨j0, j1, j2, j3, j4, j5, j6, j7, j8, j9⟩ := HS.out w' hC
        go_simp
        try with_reducible rfl
      try simp only [Act.put, List.setIfInBounds_toArray, List.set_cons_zero, List.set_cons_succ]
    refine wpQuiet_nil ?_
    intro w2 q2
    go_wp2
    go_ret
    exact ⟨ret_bool (pB_no (fun q => HN.out q.1)).symm, HB.out.trans (q2.mono HB.out.size)⟩
  rw [pB_yes h0] at HC0
  have H0 : Hid (Fits fs x.fn x.pc x.locals.length x.stack.length last) := h0
  clear h0
  by_cases h1 : SrcsP fs.length D nr x.locals
  case neg =>
    rw [pB_no h1] at HC1
    have HN : Hid (¬ SrcsP fs.length D nr x.locals) := h1
    clear h1
    obtain ⟨j0, j1, j2, j3, j4, j5, j6, j7, j8, j9⟩ := HS.out wA (Below.refl _ _)
    go_enter Tryz.func99, Tryz.ntmps99
    go_upto_region 2 with fail
    rw [← hwA]
    clear hwA j0 j1 j2 j3 j4 j5 j6 j7 j8 j9
    refine wp_below (by kernel_rfl) (by kernel_rfl) ?_
    iterate 21
      refine q_want (v := ?_) (by kernel_rfl) ?_ ?_
      rotate_left
      · intro w' hC
        obtain ⟨j0, j1, j2, j3, j4, j5, j6, j7, j8, j9⟩ := HS.out w' hC
        go_simp
        try with_reducible rfl
      try simp only [Act.put, List.setIfInBounds_toArray, List.set_cons_zero, List.set_cons_succ]
    refine q_want (v := .bool true) (by kernel_rfl) ?_ ?_
    · intro w' hC
      go_simp
      refine (HC0.out _ hC).mono ?_
      rintro e w'' ⟨rfl, hb2⟩
      exact ⟨rfl, hC.trans (hb2.mono hC.size)⟩
    try simp only [Act.put, List.setIfInBounds_toArray, List.set_cons_zero, List.set_cons_succ]
    iterate 4
      refine q_want (v := ?_) (by kernel_rfl) ?_ ?_
      rotate_left
      · intro w' hC
        obtain ⟨j0, j1, j2, j3, j4, j5, j6, j7, j8, j9⟩ := HS.out w' hC
        go_simp
        try with_reducible rfl
      try simp only [Act.put, List.setIfInBounds_toArray, List.set_cons_zero, List.set_cons_succ]
    refine q_want (v := .bool false) (by kernel_rfl) ?_ ?_
    · intro w' hC
      go_simp
      refine (HC1.out _ hC).mono ?_
      rintro e w'' ⟨rfl, hb2⟩
      exact ⟨rfl, hC.trans (hb2.mono hC.size)⟩
    try simp only [Act.put, List.setIfInBounds_toArray, List.set_cons_zero, List.set_cons_succ]
    iterate 2
      refine q_want (v := ?_) (by kernel_rfl) ?_ ?_
      rotate_left
      · intro w' hC
        obtain ⟨j0, j1, j2, j3, j4, j5, j6, j7, j8, j9⟩ := HS.out w' hC
        go_simp
        try with_reducible rfl
      try simp only [Act.put, List.setIfInBounds_toArray, List.set_cons_zero, List.set_cons_succ]
    iterate 4 go_big_quiet_skip
    iterate 2
      refine q_want (v := ?_) (by kernel_rfl) ?_ ?_
      rotate_left
      · intro w' hC
        obtain ⟨j0, j1, j2, j3, j4, j5, j6, j7, j8, j9⟩ := HS.out w' hC
        go_simp
        try with_reducible rfl
      try simp only [Act.put, List.setIfInBounds_toArray, List.set_cons_zero, List.set_cons_succ]
    refine wpQuiet_nil ?_
    intro w2 q2
    go_wp2
    go_ret
    exact ⟨ret_bool (pB_no (fun q => HN.out q.2.1)).symm, HB.out.trans (q2.mono HB.out.size)⟩
  rw [pB_yes h1] at HC1
  have H1 : Hid (SrcsP fs.length D nr x.locals) := h1
  clear h1
  obtain ⟨j0, j1, j2, j3, j4, j5, j6, j7, j8, j9⟩ := HS.out wA (Below.refl _ _)
  go_enter Tryz.func99, Tryz.ntmps99
  go_upto_region 2 with fail
  rw [← hwA]
  clear hwA j0 j1 j2 j3 j4 j5 j6 j7 j8 j9
  refine wp_below (by kernel_rfl) (by kernel_rfl) ?_
  iterate 21
    refine q_want (v := ?_) (by kernel_rfl) ?_ ?_
    rotate_left
    · intro w' hC
      obtain ⟨j0, j1, j2, j3, j4, j5, j6, j7, j8, j9⟩ := HS.out w' hC
      go_simp
      try with_reducible rfl
    try simp only [Act.put, List.setIfInBounds_toArray, List.set_cons_zero, List.set_cons_succ]
  refine q_want (v := .bool true) (by kernel_rfl) ?_ ?_
  · intro w' hC
    go_simp
    refine (HC0.out _ hC).mono ?_
    rintro e w'' ⟨rfl, hb2⟩
    exact ⟨rfl, hC.trans (hb2.mono hC.size)⟩
  try simp only [Act.put, List.setIfInBounds_toArray, List.set_cons_zero, List.set_cons_succ]
  iterate 4
    refine q_want (v := ?_) (by kernel_rfl) ?_ ?_
    rotate_left
    · intro w' hC
      obtain ⟨j0, j1, j2, j3, j4, j5, j6, j7, j8, j9⟩ := HS.out w' hC
      go_simp
      try with_reducible rfl
    try simp only [Act.put, List.setIfInBounds_toArray, List.set_cons_zero, List.set_cons_succ]
  refine q_want (v := .bool true) (by kernel_rfl) ?_ ?_
  · intro w' hC
    go_simp
    refine (HC1.out _ hC).mono ?_
    rintro e w'' ⟨rfl, hb2⟩
    exact ⟨rfl, hC.trans (hb2.mono hC.size)⟩
  try simp only [Act.put, List.setIfInBounds_toArray, List.set_cons_zero, List.set_cons_succ]
  iterate 5
    refine q_want (v := ?_) (by kernel_rfl) ?_ ?_
    rotate_left
    · intro w' hC
      obtain ⟨j0, j1, j2, j3, j4, j5, j6, j7, j8, j9⟩ := HS.out w' hC
      go_simp
      try with_reducible rfl
    try simp only [Act.put, List.setIfInBounds_toArray, List.set_cons_zero, List.set_cons_succ]
  refine q_want (v := .bool (pB (SrcsP fs.length D nr x.stack))) (by kernel_rfl) ?_ ?_
  · intro w' hC
    go_simp
    refine (HC2.out _ hC).mono ?_
    rintro e w'' ⟨rfl, hb2⟩
    exact ⟨rfl, hC.trans (hb2.mono hC.size)⟩
  try simp only [Act.put, List.setIfInBounds_toArray, List.set_cons_zero, List.set_cons_succ]
  iterate 2
    refine q_want (v := ?_) (by kernel_rfl) ?_ ?_
    rotate_left
    · intro w' hC
      obtain ⟨j0, j1, j2, j3, j4, j5, j6, j7, j8, j9⟩ := HS.out w' hC
      go_simp
      try with_reducible rfl
    try simp only [Act.put, List.setIfInBounds_toArray, List.set_cons_zero, List.set_cons_succ]
  refine wpQuiet_nil ?_
  intro w2 q2
  go_wp2
  go_ret
  exact ⟨ret_pB (by rw [pB_iff]; exact ⟨fun q => ⟨H0.out, H1.out, q⟩, fun q => q.2.2⟩), HB.out.trans (q2.mono HB.out.size)⟩
end
end Go.Proofs.YtcbknjjnphknbaaGreatDoor
