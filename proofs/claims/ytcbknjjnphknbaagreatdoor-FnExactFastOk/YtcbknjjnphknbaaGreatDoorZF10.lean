/-
  The look at code (the program): its ops and its exits; FastOk.
-/
import Derived.Test.YtcbknjjnphknbaaGreatDoorZOQ22
import Derived.Test.YtcbknjjnphknbaaGreatDoorZF8
import Derived.Test.YtcbknjjnphknbaaGreatDoorZF9
import Derived.Test.YtcbknjjnphknbaaGreatDoorZOQ17
namespace Go.Proofs.YtcbknjjnphknbaaGreatDoor
open Go.RowKit

section
variable {ts : List ByteArray} {fs : List Fn} {D : FastD} {a1 a2 oa ea : Option Addr} {nt c1 c2 oc ec G base K : Nat} {w : World}
set_option maxRecDepth 100000 in
set_option maxHeartbeats 8000000 in
theorem opsOk_any (h : Look fs D a1 a2 oa ea nt c1 c2 oc ec G base K w) (lim : Lim fs D) :
    Calls Tryz.prog 24 #[.pointer (some ⟨K, 0, none⟩)] w fun e w' => e = .returned (.bool (pB (OpsP fs D))) ∧ Below w.heap.size w w' := by
  have HS0 : Hid (∀ w', Below w.heap.size w w' → w'.cell? ⟨K, 10, none⟩ = some (.slice oa D.ops.length oc) ∧ w'.cell? ⟨K, 3, none⟩ = some (.int .i64 D.fn)) := fun w' q => ⟨(h.mono q).cells 10, (h.mono q).cells 3⟩
  have HC0 : Hid (∀ w', Below w.heap.size w w' → Calls Tryz.prog 50 #[.int .i64 D.ops.length, .int .i64 1, .int .i64 1500] w' fun e w'' => e = .returned (.bool (pB (Btw (D.ops.length : Int) 1 1500))) ∧ Below w'.heap.size w' w'') := fun w' _ => (iBetween_any _ _ _ _).mono fun _ _ q => ⟨q.1, by rw [q.2]; exact Below.refl _ _⟩
  have HC2 : Hid (∀ w', Below w.heap.size w w' → Calls Tryz.prog 52 #[.slice oa D.ops.length oc, .func (.func 53) #[.pointer (some ⟨K, 0, none⟩)] #[]] w' fun e w'' => e = .returned (.bool (pB (∀ i (h : i < D.ops.length), FopP fs D i D.ops[i]))) ∧ Below w'.heap.size w' w'') := fun w' q => allFOp_any (.pointer (some ⟨K, 0, none⟩)) (fun i x => FopP fs D i x) oa D.ops oc w' lim.fast.1.1 ((h.mono q).ops) (fun i hi w'' q' => opOk_any i D.ops[i] (lim.fast.1.2 _ (List.getElem_mem hi)) ((h.mono q).mono q') lim)
  by_cases h0 : Btw (D.ops.length : Int) 1 1500
  case neg =>
    rw [pB_no h0] at HC0
    have HN : Hid (¬ (Btw (D.ops.length : Int) 1 1500)) := h0
    clear h0 h lim
    go_enter Tryz.func24, Tryz.ntmps24
    go_upto_region 1 with fail
    refine wp_below (by kernel_rfl) (by kernel_rfl) ?_
    iterate 5
      refine q_want (v := ?_) (by kernel_rfl) ?_ ?_
      rotate_left
      · intro w' hC
        obtain ⟨j0, j1⟩ := HS0.out w' hC
        go_simp
        try with_reducible rfl
      try simp only [Act.put, List.setIfInBounds_toArray, List.set_cons_zero, List.set_cons_succ]
    refine q_want (v := .bool false) (by kernel_rfl) ?_ ?_
    · intro w' hC
      go_simp
      refine (HC0.out _ hC).mono ?_
      rintro e w'' ⟨rfl, hb2⟩
      exact ⟨rfl, hC.trans (hb2.mono hC.size)⟩
    try simp only [Act.put, List.setIfInBounds_toArray, List.set_cons_zero, List.set_cons_succ]
    refine q_want (v := ?_) (by kernel_rfl) ?_ ?_
    rotate_left
    · intro w' hC
      obtain ⟨j0, j1⟩ := HS0.out w' hC
      go_simp
      try with_reducible rfl
    try simp only [Act.put, List.setIfInBounds_toArray, List.set_cons_zero, List.set_cons_succ]
    iterate 14 go_big_quiet_skip
    iterate 2
      refine q_want (v := ?_) (by kernel_rfl) ?_ ?_
      rotate_left
      · intro w' hC
        obtain ⟨j0, j1⟩ := HS0.out w' hC
        go_simp
        try with_reducible rfl
      try simp only [Act.put, List.setIfInBounds_toArray, List.set_cons_zero, List.set_cons_succ]
    iterate 7 go_big_quiet_skip
    iterate 2
      refine q_want (v := ?_) (by kernel_rfl) ?_ ?_
      rotate_left
      · intro w' hC
        obtain ⟨j0, j1⟩ := HS0.out w' hC
        go_simp
        try with_reducible rfl
      try simp only [Act.put, List.setIfInBounds_toArray, List.set_cons_zero, List.set_cons_succ]
    refine wpQuiet_nil ?_
    intro w2 q2
    go_wp2
    go_ret
    exact ⟨ret_bool (pB_no (fun q => HN.out (by have := q.1; exact ⟨by omega, by omega⟩))).symm, q2⟩
  rw [pB_yes h0] at HC0
  have H0 : Hid (Btw (D.ops.length : Int) 1 1500) := h0
  obtain ⟨lx, hlx⟩ : ∃ lx, lx = D.ops.length - 1 := ⟨_, rfl⟩
  have hl1 : lx < D.ops.length := by have := h0.1; omega
  have hw1 : IntKind.i64.wrap ((D.ops.length : Int) - 1) = (lx : Int) := by rw [IntKind.wrap_i64]; have := h0.1; have := h0.2; omega
  have hl2 : (lx : Int) < (D.ops.length : Int) := by omega
  have hl3 : (0 : Int) ≤ (lx : Int) := by omega
  have HLX : Hid (lx = D.ops.length - 1) := hlx
  obtain ⟨b, off, rfl, -, d0, -⟩ := h.ops lx hl1
  have HS : Hid (∀ w', Below w.heap.size w w' → w'.cell? ⟨K, 10, none⟩ = some (.slice (some ⟨b, off, none⟩) D.ops.length oc) ∧ w'.cell? ⟨b, off + lx * 10, none⟩ = some (.int .i64 D.ops[lx].op)) := fun w' q => ⟨(HS0.out w' q).1, cell_later q d0⟩
  have HC1 : Hid (∀ w', Below w.heap.size w w' → Calls Tryz.prog 51 #[.int .i64 D.ops[lx].op] w' fun e w'' => e = .returned (.bool (pB (EndOp D.ops[lx].op))) ∧ Below w'.heap.size w' w'') := fun w' _ => (endOp_any _ _).mono fun _ _ q => ⟨q.1, by rw [q.2]; exact Below.refl _ _⟩
  have HI : Hid (OpsP fs D ↔ EndOp D.ops[lx].op ∧ ∀ i (h : i < D.ops.length), FopP fs D i D.ops[i]) := by
    show _ ↔ _
    have e : D.ops.length - 1 = lx := HLX.out.symm
    unfold OpsP
    simp only [e]
    exact ⟨fun q => ⟨by obtain ⟨_, q⟩ := q.2.1; exact q, q.2.2⟩, fun q => ⟨⟨by have := H0.out.1; omega, by have := H0.out.2; omega⟩, ⟨hl1, q.1⟩, q.2⟩⟩
  clear HS0 h0 hlx d0 h lim
  by_cases h1 : EndOp D.ops[lx].op
  case neg =>
    rw [pB_no h1] at HC1
    have HN : Hid (¬ EndOp D.ops[lx].op) := h1
    clear h1
    go_enter Tryz.func24, Tryz.ntmps24
    go_upto_region 1 with fail
    refine wp_below (by kernel_rfl) (by kernel_rfl) ?_
    iterate 5
      refine q_want (v := ?_) (by kernel_rfl) ?_ ?_
      rotate_left
      · intro w' hC
        obtain ⟨j0, j1⟩ := HS.out w' hC
        go_simp
        try with_reducible rfl
      try simp only [Act.put, List.setIfInBounds_toArray, List.set_cons_zero, List.set_cons_succ]
    refine q_want (v := .bool true) (by kernel_rfl) ?_ ?_
    · intro w' hC
      go_simp
      refine (HC0.out _ hC).mono ?_
      rintro e w'' ⟨rfl, hb2⟩
      exact ⟨rfl, hC.trans (hb2.mono hC.size)⟩
    try simp only [Act.put, List.setIfInBounds_toArray, List.set_cons_zero, List.set_cons_succ]
    iterate 14
      refine q_want (v := ?_) (by kernel_rfl) ?_ ?_
      rotate_left
      · intro w' hC
        obtain ⟨j0, j1⟩ := HS.out w' hC
        go_simp
        try with_reducible rfl
      try simp only [Act.put, List.setIfInBounds_toArray, List.set_cons_zero, List.set_cons_succ]
    refine q_want (v := .bool false) (by kernel_rfl) ?_ ?_
    · intro w' hC
      go_simp
      refine (HC1.out _ hC).mono ?_
      rintro e w'' ⟨rfl, hb2⟩
      exact ⟨rfl, hC.trans (hb2.mono hC.size)⟩
    try simp only [Act.put, List.setIfInBounds_toArray, List.set_cons_zero, List.set_cons_succ]
    iterate 2
      refine q_want (v := ?_) (by kernel_rfl) ?_ ?_
      rotate_left
      · intro w' hC
        obtain ⟨j0, j1⟩ := HS.out w' hC
        go_simp
        try with_reducible rfl
      try simp only [Act.put, List.setIfInBounds_toArray, List.set_cons_zero, List.set_cons_succ]
    iterate 7 go_big_quiet_skip
    iterate 2
      refine q_want (v := ?_) (by kernel_rfl) ?_ ?_
      rotate_left
      · intro w' hC
        obtain ⟨j0, j1⟩ := HS.out w' hC
        go_simp
        try with_reducible rfl
      try simp only [Act.put, List.setIfInBounds_toArray, List.set_cons_zero, List.set_cons_succ]
    refine wpQuiet_nil ?_
    intro w2 q2
    go_wp2
    go_ret
    exact ⟨ret_bool (pB_no (fun q => HN.out (HI.out.1 q).1)).symm, q2⟩
  rw [pB_yes h1] at HC1
  have H1 : Hid (EndOp D.ops[lx].op) := h1
  clear h1
  go_enter Tryz.func24, Tryz.ntmps24
  go_upto_region 1 with fail
  refine wp_below (by kernel_rfl) (by kernel_rfl) ?_
  iterate 5
    refine q_want (v := ?_) (by kernel_rfl) ?_ ?_
    rotate_left
    · intro w' hC
      obtain ⟨j0, j1⟩ := HS.out w' hC
      go_simp
      try with_reducible rfl
    try simp only [Act.put, List.setIfInBounds_toArray, List.set_cons_zero, List.set_cons_succ]
  refine q_want (v := .bool true) (by kernel_rfl) ?_ ?_
  · intro w' hC
    go_simp
    refine (HC0.out _ hC).mono ?_
    rintro e w'' ⟨rfl, hb2⟩
    exact ⟨rfl, hC.trans (hb2.mono hC.size)⟩
  try simp only [Act.put, List.setIfInBounds_toArray, List.set_cons_zero, List.set_cons_succ]
  iterate 14
    refine q_want (v := ?_) (by kernel_rfl) ?_ ?_
    rotate_left
    · intro w' hC
      obtain ⟨j0, j1⟩ := HS.out w' hC
      go_simp
      try with_reducible rfl
    try simp only [Act.put, List.setIfInBounds_toArray, List.set_cons_zero, List.set_cons_succ]
  refine q_want (v := .bool true) (by kernel_rfl) ?_ ?_
  · intro w' hC
    go_simp
    refine (HC1.out _ hC).mono ?_
    rintro e w'' ⟨rfl, hb2⟩
    exact ⟨rfl, hC.trans (hb2.mono hC.size)⟩
  try simp only [Act.put, List.setIfInBounds_toArray, List.set_cons_zero, List.set_cons_succ]
  iterate 8
    refine q_want (v := ?_) (by kernel_rfl) ?_ ?_
    rotate_left
    · intro w' hC
      obtain ⟨j0, j1⟩ := HS.out w' hC
      go_simp
      try with_reducible rfl
    try simp only [Act.put, List.setIfInBounds_toArray, List.set_cons_zero, List.set_cons_succ]
  refine q_want (v := .bool (pB (∀ i (h : i < D.ops.length), FopP fs D i D.ops[i]))) (by kernel_rfl) ?_ ?_
  · intro w' hC
    go_simp
    refine (HC2.out _ hC).mono ?_
    rintro e w'' ⟨rfl, hb2⟩
    exact ⟨rfl, hC.trans (hb2.mono hC.size)⟩
  try simp only [Act.put, List.setIfInBounds_toArray, List.set_cons_zero, List.set_cons_succ]
  iterate 2
    refine q_want (v := ?_) (by kernel_rfl) ?_ ?_
    rotate_left
    · intro w' hC
      obtain ⟨j0, j1⟩ := HS.out w' hC
      go_simp
      try with_reducible rfl
    try simp only [Act.put, List.setIfInBounds_toArray, List.set_cons_zero, List.set_cons_succ]
  refine wpQuiet_nil ?_
  intro w2 q2
  go_wp2
  go_ret
  exact ⟨ret_pB (by rw [pB_iff, HI.out]; exact ⟨fun q => ⟨H1.out, q⟩, fun q => q.2⟩), q2⟩

set_option maxRecDepth 100000 in
set_option maxHeartbeats 1000000 in
theorem exitsOk_any (h : Look fs D a1 a2 oa ea nt c1 c2 oc ec G base K w) (lim : Lim fs D) :
    Calls Tryz.prog 25 #[.pointer (some ⟨K, 0, none⟩)] w fun e w' => e = .returned (.bool (pB (ExitsP fs D))) ∧ Below w.heap.size w w' := by
  have c := h.cells
  by_cases h0 : D.exits.length ≤ 1500
  case neg =>
    have g0 : ¬ (D.exits.length : Int) ≤ 1500 := by omega
    go_enter Tryz.func25, Tryz.ntmps25
    go_wp2
    go_ret
    exact ⟨ret_bool (pB_no (fun q => h0 q.1)).symm, Below.refl _ _⟩
  have g0 : (D.exits.length : Int) ≤ 1500 := by omega
  go_enter Tryz.func25, Tryz.ntmps25
  go_wp2_with fail
  refine (allExit_any (.pointer (some ⟨K, 0, none⟩)) (fun _ x => ExitP fs D x) ea D.exits ec w lim.fast.2.1 h.exits (fun i hi _ _ _ _ w' q p0 p1 => exitOk_any i D.exits[i] (lim.fast.2.2 _ (List.getElem_mem hi)) p0 p1 (h.mono q) lim)).mono ?_
  rintro e w1 ⟨rfl, hb⟩
  go_wp2
  go_ret
  exact ⟨ret_pB (by rw [pB_iff]; exact ⟨fun q => ⟨h0, q⟩, fun q => q.2⟩), hb⟩
end

set_option maxRecDepth 100000 in
set_option maxHeartbeats 4000000 in
theorem iFastOk_any (a1 a2 oa ea : Option Addr) (c1 c2 oc ec : Nat) (ts : List ByteArray) (fs : List Fn) (D : FastD) (w : World) (hs : Small ts fs) (hd : FastSmall D) (hm : StrsAt w 0 a1 ts) (hm2 : FnsAt w 0 a2 fs) (hf : FastAt w 0 oa ea D) (hsh : ShAt w) (hDB : DB w) :
    Calls Tryz.prog 9 #[.agg #[.slice a1 ts.length c1, .slice a2 fs.length c2], .agg (fastCells oa ea oc ec D)] w fun e w' => e = .returned (.bool (pB (FastP ts fs D))) ∧ Below w.heap.size w w' := by
  unfold fastCells
  have hbA : Below w.heap.size w ((w.alloc (.cells #[.slice a1 ts.length c1, .slice a2 fs.length c2] 35)).alloc (.cells #[.int .i64 D.fn, .int .i64 D.entry, .int .i64 D.vals, .int .i64 D.nums, .slice oa D.ops.length oc, .slice ea D.exits.length ec] 40)) := ((Below.refl _ _).alloc (Nat.le_refl _) _).alloc (by simp) _
  have hM0 := block_old (block_new w #[.slice a1 ts.length c1, .slice a2 fs.length c2] 35) (.cells #[.int .i64 D.fn, .int .i64 D.entry, .int .i64 D.vals, .int .i64 D.nums, .slice oa D.ops.length oc, .slice ea D.exits.length ec] 40)
  have hF0 := block_new_at (w.alloc (.cells #[.slice a1 ts.length c1, .slice a2 fs.length c2] 35)) #[.int .i64 D.fn, .int .i64 D.entry, .int .i64 D.vals, .int .i64 D.nums, .slice oa D.ops.length oc, .slice ea D.exits.length ec] 40 (w.heap.size + 1) (by simp)
  go_enter Tryz.func9, Tryz.ntmps9
  go_wp2_with fail
  refine (iAll_any a1 a2 c1 c2 ts fs _ hs (hm.mono hbA) (hm2.mono hbA)).mono ?_
  rintro e w1 ⟨⟨v, c, f, a, ⟨vx, vn, vk, rfl⟩, rfl, hV, hGd⟩, hb⟩
  have hM1 := block_kept hM0 hb
  have hF1 := block_kept hF0 hb
  have hB1 := hbA.trans (hb.mono hbA.size)
  have HG : Hid (c = 0 ↔ Good ts fs) := hV.good
  have HGD : Hid (c = 0 → ∃ G, Value.slice vx vn vk = .slice (some ⟨G, 0, none⟩) fs.length fs.length ∧ Hs w1 ((w.alloc (.cells #[.slice a1 ts.length c1, .slice a2 fs.length c2] 35)).alloc (.cells #[.int .i64 D.fn, .int .i64 D.entry, .int .i64 D.vals, .int .i64 D.nums, .slice oa D.ops.length oc, .slice ea D.exits.length ec] 40)).heap.size G fs.length fs) := hGd
  have HMOD : Hid (Good ts fs → modB ts fs = true) := good_mod
  clear hM0 hF0 hb hbA hV hGd
  obtain ⟨wT, hwT⟩ : ∃ wT, wT = (w1.alloc (.cells #[.int .i64 c, .int .i64 f, .int .i64 a] 56)).alloc (.cells #[.slice a1 ts.length c1, .slice a2 fs.length c2, .slice vx vn vk, .int .i64 D.fn, .int .i64 D.entry, .int .i64 D.vals, .int .i64 D.nums, .slice oa D.ops.length oc, .slice ea D.exits.length ec, .slice a2 fs.length c2, .slice oa D.ops.length oc, .slice ea D.exits.length ec] 63) := ⟨_, rfl⟩
  have hbT : Below w1.heap.size w1 wT := by rw [hwT]; exact ((Below.refl _ _).alloc (Nat.le_refl _) _).alloc (by simp) _
  have hT : wT.heap[w1.heap.size]? = some (.cells #[.int .i64 c, .int .i64 f, .int .i64 a] 56 (0, 0)) := by rw [hwT]; exact block_old (block_new _ _ _) _
  have hL : wT.heap[w1.heap.size + 1]? = some (.cells #[.slice a1 ts.length c1, .slice a2 fs.length c2, .slice vx vn vk, .int .i64 D.fn, .int .i64 D.entry, .int .i64 D.vals, .int .i64 D.nums, .slice oa D.ops.length oc, .slice ea D.exits.length ec, .slice a2 fs.length c2, .slice oa D.ops.length oc, .slice ea D.exits.length ec] 63 (0, 0)) := by rw [hwT]; exact block_new_at _ _ _ _ (by simp)
  have hBT := hB1.trans (hbT.mono hB1.size)
  have m1 := block_cell hM1
  have f1 := block_cell hF1
  have m2 := block_cell (block_old hM1 (.cells #[.int .i64 c, .int .i64 f, .int .i64 a] 56))
  have f2 := block_cell (block_old hF1 (.cells #[.int .i64 c, .int .i64 f, .int .i64 a] 56))
  by_cases hc0 : c = 0
  case neg =>
    have HN : Hid (¬ Good ts fs) := fun q => hc0 (HG.out.2 q)
    have gc : (c == 0) = false := by simpa using hc0
    have t0 := block_cell hT
    clear hc0 hL HG HGD
    go_upto_region 3 with fail
    rw [← hwT]
    clear hwT m1 f1 m2 f2
    go_wp2
    go_ret
    exact ⟨ret_bool (pB_no (fun q => HN.out q.1)).symm, hBT⟩
  subst hc0
  obtain ⟨G, hvG, hHs⟩ := HGD.out rfl
  cases hvG
  have hG : Good ts fs := HG.out.1 rfl
  have hmod := HMOD.out hG
  have lim : Lim fs D := ⟨hs.funcs, hs.code, hd, fun k hk => fine_of hmod hk⟩
  have hLk : Look fs D a1 a2 oa ea ts.length c1 c2 oc ec G _ (w1.heap.size + 1) wT := ⟨hL, hm2.mono hBT, hHs.mono hbT, hf.ops.mono hBT, hf.exits.mono hBT, hsh.mono hBT⟩
  have HLK : Hid (Look fs D a1 a2 oa ea ts.length c1 c2 oc ec G _ (w1.heap.size + 1) wT) := hLk
  have HLIM : Hid (Lim fs D) := lim
  have HDB : Hid (DB wT) := hDB.mono hBT
  have HGG : Hid (Good ts fs) := hG
  have HB : Hid (Below w.heap.size w wT) := hBT
  have t0 := block_cell hT
  clear hLk lim hG hHs hL HG HGD hT hBT hmod hbT hB1 hM1 hF1
  go_upto_region 3 with fail
  rw [← hwT]
  clear hwT m1 f1 m2 f2
  go_wp2_with fail
  refine (entryOk_any HLK.out HDB.out HGG.out).mono ?_
  rintro e w2 ⟨rfl, hb2⟩
  have HLK2 := HLK.out.mono hb2
  have HB2 : Hid (Below w.heap.size w w2) := HB.out.trans (hb2.mono HB.out.size)
  have HLK2' : Hid (Look fs D a1 a2 oa ea ts.length c1 c2 oc ec G _ (w1.heap.size + 1) w2) := HLK2
  clear HLK2 hb2 t0
  by_cases h0 : EntryP fs D
  case neg =>
    rw [pB_no h0]
    have HN : Hid (¬ EntryP fs D) := h0
    clear h0
    go_wp2
    go_ret
    exact ⟨ret_bool (pB_no (fun q => HN.out q.2.1)).symm, HB2.out⟩
  rw [pB_yes h0]
  have H0 : Hid (EntryP fs D) := h0
  clear h0
  go_wp2_with fail
  refine (opsOk_any HLK2'.out HLIM.out).mono ?_
  rintro e w3 ⟨rfl, hb3⟩
  have HLK3 : Hid (Look fs D a1 a2 oa ea ts.length c1 c2 oc ec G _ (w1.heap.size + 1) w3) := HLK2'.out.mono hb3
  have HB3 : Hid (Below w.heap.size w w3) := HB2.out.trans (hb3.mono HB2.out.size)
  clear hb3
  by_cases h1 : OpsP fs D
  case neg =>
    rw [pB_no h1]
    have HN : Hid (¬ OpsP fs D) := h1
    clear h1
    go_wp2
    go_ret
    exact ⟨ret_bool (pB_no (fun q => HN.out q.2.2.1)).symm, HB3.out⟩
  rw [pB_yes h1]
  have H1 : Hid (OpsP fs D) := h1
  clear h1
  go_wp2_with fail
  refine (exitsOk_any HLK3.out HLIM.out).mono ?_
  rintro e w4 ⟨rfl, hb4⟩
  have HB4 : Hid (Below w.heap.size w w4) := HB3.out.trans (hb4.mono HB3.out.size)
  go_wp2
  go_ret
  exact ⟨ret_pB (by rw [pB_iff]; exact ⟨fun q => ⟨HGG.out, H0.out, H1.out, q⟩, fun q => q.2.2.2⟩), HB4.out⟩
end Go.Proofs.YtcbknjjnphknbaaGreatDoor
