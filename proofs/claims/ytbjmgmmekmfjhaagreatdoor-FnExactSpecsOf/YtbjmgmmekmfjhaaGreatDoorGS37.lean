/-
The look at code (the program): its ops and its exits; FastOk.
The guesses on which code rests, as a list; what impl.SpecsOf returns.
What spec.l10SpecLess returns.
-/
import Derived.Test.YtbjmgmmekmfjhaaGreatDoorGS33
import Derived.Test.YtbjmgmmekmfjhaaGreatDoorGS35
import Derived.Test.YtbjmgmmekmfjhaaGreatDoorGS36
import Derived.Test.YtbjmgmmekmfjhaaGreatDoorGS18
import Derived.Test.YtbjmgmmekmfjhaaGreatDoorGS31
import Derived.Test.YtbjmgmmekmfjhaaGreatDoorGS23
import Derived.Deep.RegionHeld3
set_option maxRecDepth 100000
namespace Go.Proofs.YtbjmgmmekmfjhaaGreatDoor
open Go.RowKit
section
variable {ts : List ByteArray} {fs : List Fn} {D : FastD} {a1 a2 oa ea : Option Addr} {nt c1 c2 oc ec G base K : Nat} {w : World}
set_option maxHeartbeats 8000000 in
theorem opsOk_any (h : Look fs D a1 a2 oa ea nt c1 c2 oc ec G base K w) (lim : Lim fs D) :
  Calls Tryz.prog 103 #[.pointer (some ⟨K, 0, none⟩)] w fun e w' => e = .returned (.bool (pB (OpsP fs D))) ∧ Below w.heap.size w w' := by
 have HS0 : Hid (∀ w', Below w.heap.size w w' → w'.cell? ⟨K, 10, none⟩ = some (.slice oa D.ops.length oc) ∧ w'.cell? ⟨K, 3, none⟩ = some (.int .i64 D.fn)) := fun w' q => ⟨(h.mono q).cells 10, (h.mono q).cells 3⟩
 have HC0 : Hid (∀ w', Below w.heap.size w w' → Calls Tryz.prog 127 #[.int .i64 D.ops.length, .int .i64 1, .int .i64 1500] w' fun e w'' => e = .returned (.bool (pB (Btw (D.ops.length : Int) 1 1500))) ∧ Below w'.heap.size w' w'') := fun w' _ => (iBetween_any _ _ _ _).mono fun _ _ q => ⟨q.1, by rw [q.2]; exact Below.refl _ _⟩
 have HC2 : Hid (∀ w', Below w.heap.size w w' → Calls Tryz.prog 166 #[.slice oa D.ops.length oc, .func (.func 167) #[.pointer (some ⟨K, 0, none⟩)] #[]] w' fun e w'' => e = .returned (.bool (pB (∀ i (h : i < D.ops.length), FopP fs D i D.ops[i]))) ∧ Below w'.heap.size w' w'') := fun w' q => allFOp_any (.pointer (some ⟨K, 0, none⟩)) (fun i x => FopP fs D i x) oa D.ops oc w' lim.fast.1.1 ((h.mono q).ops) (fun i hi w'' q' => opOk_any i D.ops[i] (lim.fast.1.2 _ (List.getElem_mem hi)) ((h.mono q).mono q') lim)
 by_cases h0 : Btw (D.ops.length : Int) 1 1500
 case neg =>
  rw [pB_no h0] at HC0
  have HN : Hid (¬ (Btw (D.ops.length : Int) 1 1500)) := h0
  clear h0 h lim
  go_enter Tryz.func103, Tryz.ntmps103
  go_upto_region 1 with fail
  refine wp_below (by kernel_rfl) (by kernel_rfl) ?_
  iterate 5
   refine q_want (v := ?_) (by kernel_rfl) ?_ ?_
   rotate_left
   ·
    intro w' hC
    obtain ⟨j0, j1⟩ := HS0.out w' hC
    go_simp
    try with_reducible rfl
   try simp only [Act.put, sAr, sZe, sSu]
  refine q_want (v := .bool false) (by kernel_rfl) ?_ ?_
  ·
   intro w' hC
   go_simp
   refine (HC0.out _ hC).mono ?_
   rintro e w'' ⟨rfl, hb2⟩
   exact ⟨rfl, hC.trans (hb2.mono hC.size)⟩
  try simp only [Act.put, sAr, sZe, sSu]
  refine q_want (v := ?_) (by kernel_rfl) ?_ ?_
  rotate_left
  ·
   intro w' hC
   obtain ⟨j0, j1⟩ := HS0.out w' hC
   go_simp
   try with_reducible rfl
  try simp only [Act.put, sAr, sZe, sSu]
  iterate 14 go_big_quiet_skip
  iterate 2
   refine q_want (v := ?_) (by kernel_rfl) ?_ ?_
   rotate_left
   ·
    intro w' hC
    obtain ⟨j0, j1⟩ := HS0.out w' hC
    go_simp
    try with_reducible rfl
   try simp only [Act.put, sAr, sZe, sSu]
  iterate 7 go_big_quiet_skip
  iterate 2
   refine q_want (v := ?_) (by kernel_rfl) ?_ ?_
   rotate_left
   ·
    intro w' hC
    obtain ⟨j0, j1⟩ := HS0.out w' hC
    go_simp
    try with_reducible rfl
   try simp only [Act.put, sAr, sZe, sSu]
  refine wpQuiet_nil ?_
  intro w2 q2
  go_wp2
  go_ret
  exact ⟨ret_bool (pB_no (fun q => HN.out (by have := q.1; exact ⟨by omega, by omega⟩))).symm, q2⟩
 rw [pB_yes h0] at HC0
 have H0 : Hid (Btw (D.ops.length : Int) 1 1500) := h0
 obtain ⟨lx, hlx⟩ : ∃ lx, lx = D.ops.length - 1 := ⟨_, rfl⟩
 have hl1 : lx < D.ops.length := by have := h0.1; omega
 have hw1 : IntKind.i64.wrap ((D.ops.length : Int) - 1) = (lx : Int) := by rw [IntKind.wrap_i64]; have := h0.1; have := h0.2; omega
 have hl2 : (lx : Int) < (D.ops.length : Int) := by omega
 have hl3 : (0 : Int) ≤ (lx : Int) := by omega
 have HLX : Hid (lx = D.ops.length - 1) := hlx
 obtain ⟨b, off, rfl, -, d0, -⟩ := h.ops lx hl1
 have HS : Hid (∀ w', Below w.heap.size w w' → w'.cell? ⟨K, 10, none⟩ = some (.slice (some ⟨b, off, none⟩) D.ops.length oc) ∧ w'.cell? ⟨b, off + lx * 10, none⟩ = some (.int .i64 D.ops[lx].op)) := fun w' q => ⟨(HS0.out w' q).1, cell_later q d0⟩
 have HC1 : Hid (∀ w', Below w.heap.size w w' → Calls Tryz.prog 165 #[.int .i64 D.ops[lx].op] w' fun e w'' => e = .returned (.bool (pB (EndOp D.ops[lx].op))) ∧ Below w'.heap.size w' w'') := fun w' _ => (endOp_any _ _).mono fun _ _ q => ⟨q.1, by rw [q.2]; exact Below.refl _ _⟩
 have HI : Hid (OpsP fs D ↔ EndOp D.ops[lx].op ∧ ∀ i (h : i < D.ops.length), FopP fs D i D.ops[i]) := by
  show _ ↔ _
  have e : D.ops.length - 1 = lx := HLX.out.symm
  unfold OpsP
  simp only [e]
  exact ⟨fun q => ⟨by obtain ⟨_, q⟩ := q.2.1; exact q, q.2.2⟩, fun q => ⟨⟨by have := H0.out.1; omega, by have := H0.out.2; omega⟩, ⟨hl1, q.1⟩, q.2⟩⟩
 clear HS0 h0 hlx d0 h lim
 by_cases h1 : EndOp D.ops[lx].op
 case neg =>
  rw [pB_no h1] at HC1
  have HN : Hid (¬ EndOp D.ops[lx].op) := h1
  clear h1
  go_enter Tryz.func103, Tryz.ntmps103
  go_upto_region 1 with fail
  refine wp_below (by kernel_rfl) (by kernel_rfl) ?_
  iterate 5
   refine q_want (v := ?_) (by kernel_rfl) ?_ ?_
   rotate_left
   ·
    intro w' hC
    obtain ⟨j0, j1⟩ := HS.out w' hC
    go_simp
    try with_reducible rfl
   try simp only [Act.put, sAr, sZe, sSu]
  refine q_want (v := .bool true) (by kernel_rfl) ?_ ?_
  ·
   intro w' hC
   go_simp
   refine (HC0.out _ hC).mono ?_
   rintro e w'' ⟨rfl, hb2⟩
   exact ⟨rfl, hC.trans (hb2.mono hC.size)⟩
  try simp only [Act.put, sAr, sZe, sSu]
  iterate 14
   refine q_want (v := ?_) (by kernel_rfl) ?_ ?_
   rotate_left
   ·
    intro w' hC
    obtain ⟨j0, j1⟩ := HS.out w' hC
    go_simp
    try with_reducible rfl
   try simp only [Act.put, sAr, sZe, sSu]
  refine q_want (v := .bool false) (by kernel_rfl) ?_ ?_
  ·
   intro w' hC
   go_simp
   refine (HC1.out _ hC).mono ?_
   rintro e w'' ⟨rfl, hb2⟩
   exact ⟨rfl, hC.trans (hb2.mono hC.size)⟩
  try simp only [Act.put, sAr, sZe, sSu]
  iterate 2
   refine q_want (v := ?_) (by kernel_rfl) ?_ ?_
   rotate_left
   ·
    intro w' hC
    obtain ⟨j0, j1⟩ := HS.out w' hC
    go_simp
    try with_reducible rfl
   try simp only [Act.put, sAr, sZe, sSu]
  iterate 7 go_big_quiet_skip
  iterate 2
   refine q_want (v := ?_) (by kernel_rfl) ?_ ?_
   rotate_left
   ·
    intro w' hC
    obtain ⟨j0, j1⟩ := HS.out w' hC
    go_simp
    try with_reducible rfl
   try simp only [Act.put, sAr, sZe, sSu]
  refine wpQuiet_nil ?_
  intro w2 q2
  go_wp2
  go_ret
  exact ⟨ret_bool (pB_no (fun q => HN.out (HI.out.1 q).1)).symm, q2⟩
 rw [pB_yes h1] at HC1
 have H1 : Hid (EndOp D.ops[lx].op) := h1
 clear h1
 go_enter Tryz.func103, Tryz.ntmps103
 go_upto_region 1 with fail
 refine wp_below (by kernel_rfl) (by kernel_rfl) ?_
 iterate 5
  refine q_want (v := ?_) (by kernel_rfl) ?_ ?_
  rotate_left
  ·
   intro w' hC
   obtain ⟨j0, j1⟩ := HS.out w' hC
   go_simp
   try with_reducible rfl
  try simp only [Act.put, sAr, sZe, sSu]
 refine q_want (v := .bool true) (by kernel_rfl) ?_ ?_
 ·
  intro w' hC
  go_simp
  refine (HC0.out _ hC).mono ?_
  rintro e w'' ⟨rfl, hb2⟩
  exact ⟨rfl, hC.trans (hb2.mono hC.size)⟩
 try simp only [Act.put, sAr, sZe, sSu]
 iterate 14
  refine q_want (v := ?_) (by kernel_rfl) ?_ ?_
  rotate_left
  ·
   intro w' hC
   obtain ⟨j0, j1⟩ := HS.out w' hC
   go_simp
   try with_reducible rfl
  try simp only [Act.put, sAr, sZe, sSu]
 refine q_want (v := .bool true) (by kernel_rfl) ?_ ?_
 ·
  intro w' hC
  go_simp
  refine (HC1.out _ hC).mono ?_
  rintro e w'' ⟨rfl, hb2⟩
  exact ⟨rfl, hC.trans (hb2.mono hC.size)⟩
 try simp only [Act.put, sAr, sZe, sSu]
 iterate 8
  refine q_want (v := ?_) (by kernel_rfl) ?_ ?_
  rotate_left
  ·
   intro w' hC
   obtain ⟨j0, j1⟩ := HS.out w' hC
   go_simp
   try with_reducible rfl
  try simp only [Act.put, sAr, sZe, sSu]
 refine q_want (v := .bool (pB (∀ i (h : i < D.ops.length), FopP fs D i D.ops[i]))) (by kernel_rfl) ?_ ?_
 ·
  intro w' hC
  go_simp
  refine (HC2.out _ hC).mono ?_
  rintro e w'' ⟨rfl, hb2⟩
  exact ⟨rfl, hC.trans (hb2.mono hC.size)⟩
 try simp only [Act.put, sAr, sZe, sSu]
 iterate 2
  refine q_want (v := ?_) (by kernel_rfl) ?_ ?_
  rotate_left
  ·
   intro w' hC
   obtain ⟨j0, j1⟩ := HS.out w' hC
   go_simp
   try with_reducible rfl
  try simp only [Act.put, sAr, sZe, sSu]
 refine wpQuiet_nil ?_
 intro w2 q2
 go_wp2
 go_ret
 exact ⟨ret_pB (by rw [pB_iff, HI.out]; exact ⟨fun q => ⟨H1.out, q⟩, fun q => q.2⟩), q2⟩
set_option maxHeartbeats 1000000 in
theorem exitsOk_any (h : Look fs D a1 a2 oa ea nt c1 c2 oc ec G base K w) (lim : Lim fs D) :
  Calls Tryz.prog 104 #[.pointer (some ⟨K, 0, none⟩)] w fun e w' => e = .returned (.bool (pB (ExitsP fs D))) ∧ Below w.heap.size w w' := by
 have c := h.cells
 by_cases h0 : D.exits.length ≤ 1500
 case neg =>
  have g0 : ¬ (D.exits.length : Int) ≤ 1500 := by omega
  go_enter Tryz.func104, Tryz.ntmps104
  go_wp2
  go_ret
  exact ⟨ret_bool (pB_no (fun q => h0 q.1)).symm, Below.refl _ _⟩
 have g0 : (D.exits.length : Int) ≤ 1500 := by omega
 go_enter Tryz.func104, Tryz.ntmps104
 go_wp2_with fail
 refine (allExit_any (.pointer (some ⟨K, 0, none⟩)) (fun _ x => ExitP fs D x) ea D.exits ec w lim.fast.2.1 h.exits (fun i hi _ _ _ _ w' q p0 p1 => exitOk_any i D.exits[i] (lim.fast.2.2 _ (List.getElem_mem hi)) p0 p1 (h.mono q) lim)).mono ?_
 rintro e w1 ⟨rfl, hb⟩
 go_wp2
 go_ret
 exact ⟨ret_pB (by rw [pB_iff]; exact ⟨fun q => ⟨h0, q⟩, fun q => q.2⟩), hb⟩
end
set_option maxHeartbeats 4000000 in
theorem iFastOk_any (a1 a2 oa ea : Option Addr) (c1 c2 oc ec : Nat) (ts : List ByteArray) (fs : List Fn) (D : FastD) (w : World) (hs : Small ts fs) (hd : FastSmall D) (hm : StrsAt w 0 a1 ts) (hm2 : FnsAt w 0 a2 fs) (hf : FastAt w 0 oa ea D) (hsh : ShAt w) (hDB : DB w) :
  Calls Tryz.prog 55 #[.agg #[.slice a1 ts.length c1, .slice a2 fs.length c2], .agg (fastCells oa ea oc ec D)] w fun e w' => e = .returned (.bool (pB (FastP ts fs D))) ∧ Below w.heap.size w w' := by
 unfold fastCells
 have hbA : Below w.heap.size w ((w.alloc (.cells #[.slice a1 ts.length c1, .slice a2 fs.length c2] 36)).alloc (.cells #[.int .i64 D.fn, .int .i64 D.entry, .int .i64 D.vals, .int .i64 D.nums, .slice oa D.ops.length oc, .slice ea D.exits.length ec] 41)) := ((Below.refl _ _).alloc (Nat.le_refl _) _).alloc (by simp) _
 have hM0 := block_old (block_new w #[.slice a1 ts.length c1, .slice a2 fs.length c2] 36) (.cells #[.int .i64 D.fn, .int .i64 D.entry, .int .i64 D.vals, .int .i64 D.nums, .slice oa D.ops.length oc, .slice ea D.exits.length ec] 41)
 have hF0 := block_new_at (w.alloc (.cells #[.slice a1 ts.length c1, .slice a2 fs.length c2] 36)) #[.int .i64 D.fn, .int .i64 D.entry, .int .i64 D.vals, .int .i64 D.nums, .slice oa D.ops.length oc, .slice ea D.exits.length ec] 41 (w.heap.size + 1) (by simp)
 go_enter Tryz.func55, Tryz.ntmps55
 go_wp2_with fail
 refine (iAll_any a1 a2 c1 c2 ts fs _ hs (hm.mono hbA) (hm2.mono hbA)).mono ?_
 rintro e w1 ⟨⟨v, c, f, a, ⟨vx, vn, vk, rfl⟩, rfl, hV, hGd⟩, hb⟩
 have hM1 := block_kept hM0 hb
 have hF1 := block_kept hF0 hb
 have hB1 := hbA.trans (hb.mono hbA.size)
 have HG : Hid (c = 0 ↔ Good ts fs) := hV.good
 have HGD : Hid (c = 0 → ∃ G, Value.slice vx vn vk = .slice (some ⟨G, 0, none⟩) fs.length fs.length ∧ Hs w1 ((w.alloc (.cells #[.slice a1 ts.length c1, .slice a2 fs.length c2] 36)).alloc (.cells #[.int .i64 D.fn, .int .i64 D.entry, .int .i64 D.vals, .int .i64 D.nums, .slice oa D.ops.length oc, .slice ea D.exits.length ec] 41)).heap.size G fs.length fs) := hGd
 have HMOD : Hid (Good ts fs → modB ts fs = true) := good_mod
 clear hM0 hF0 hb hbA hV hGd
 obtain ⟨wT, hwT⟩ : ∃ wT, wT = (w1.alloc (.cells #[.int .i64 c, .int .i64 f, .int .i64 a] 168)).alloc (.cells #[.slice a1 ts.length c1, .slice a2 fs.length c2, .slice vx vn vk, .int .i64 D.fn, .int .i64 D.entry, .int .i64 D.vals, .int .i64 D.nums, .slice oa D.ops.length oc, .slice ea D.exits.length ec, .slice a2 fs.length c2, .slice oa D.ops.length oc, .slice ea D.exits.length ec] 175) := ⟨_, rfl⟩
 have hbT : Below w1.heap.size w1 wT := by rw [hwT]; exact ((Below.refl _ _).alloc (Nat.le_refl _) _).alloc (by simp) _
 have hT : wT.heap[w1.heap.size]? = some (.cells #[.int .i64 c, .int .i64 f, .int .i64 a] 168 (0, 0)) := by rw [hwT]; exact block_old (block_new _ _ _) _
 have hL : wT.heap[w1.heap.size + 1]? = some (.cells #[.slice a1 ts.length c1, .slice a2 fs.length c2, .slice vx vn vk, .int .i64 D.fn, .int .i64 D.entry, .int .i64 D.vals, .int .i64 D.nums, .slice oa D.ops.length oc, .slice ea D.exits.length ec, .slice a2 fs.length c2, .slice oa D.ops.length oc, .slice ea D.exits.length ec] 175 (0, 0)) := by rw [hwT]; exact block_new_at _ _ _ _ (by simp)
 have hBT := hB1.trans (hbT.mono hB1.size)
 have m1 := block_cell hM1
 have f1 := block_cell hF1
 have m2 := block_cell (block_old hM1 (.cells #[.int .i64 c, .int .i64 f, .int .i64 a] 168))
 have f2 := block_cell (block_old hF1 (.cells #[.int .i64 c, .int .i64 f, .int .i64 a] 168))
 by_cases hc0 : c = 0
 case neg =>
  have HN : Hid (¬ Good ts fs) := fun q => hc0 (HG.out.2 q)
  have gc : (c == 0) = false := by simpa using hc0
  have t0 := block_cell hT
  clear hc0 hL HG HGD
  go_upto_region 3 with fail
  rw [← hwT]
  clear hwT m1 f1 m2 f2
  go_wp2
  go_ret
  exact ⟨ret_bool (pB_no (fun q => HN.out q.1)).symm, hBT⟩
 subst hc0
 obtain ⟨G, hvG, hHs⟩ := HGD.out rfl
 cases hvG
 have hG : Good ts fs := HG.out.1 rfl
 have hmod := HMOD.out hG
 have lim : Lim fs D := ⟨hs.funcs, hs.code, hd, fun k hk => fine_of hmod hk⟩
 have hLk : Look fs D a1 a2 oa ea ts.length c1 c2 oc ec G _ (w1.heap.size + 1) wT := ⟨hL, hm2.mono hBT, hHs.mono hbT, hf.ops.mono hBT, hf.exits.mono hBT, hsh.mono hBT⟩
 have HLK : Hid (Look fs D a1 a2 oa ea ts.length c1 c2 oc ec G _ (w1.heap.size + 1) wT) := hLk
 have HLIM : Hid (Lim fs D) := lim
 have HDB : Hid (DB wT) := hDB.mono hBT
 have HGG : Hid (Good ts fs) := hG
 have HB : Hid (Below w.heap.size w wT) := hBT
 have t0 := block_cell hT
 clear hLk lim hG hHs hL HG HGD hT hBT hmod hbT hB1 hM1 hF1
 go_upto_region 3 with fail
 rw [← hwT]
 clear hwT m1 f1 m2 f2
 go_wp2_with fail
 refine (entryOk_any HLK.out HDB.out HGG.out).mono ?_
 rintro e w2 ⟨rfl, hb2⟩
 have HLK2 := HLK.out.mono hb2
 have HB2 : Hid (Below w.heap.size w w2) := HB.out.trans (hb2.mono HB.out.size)
 have HLK2' : Hid (Look fs D a1 a2 oa ea ts.length c1 c2 oc ec G _ (w1.heap.size + 1) w2) := HLK2
 clear HLK2 hb2 t0
 by_cases h0 : EntryP fs D
 case neg =>
  rw [pB_no h0]
  have HN : Hid (¬ EntryP fs D) := h0
  clear h0
  go_wp2
  go_ret
  exact ⟨ret_bool (pB_no (fun q => HN.out q.2.1)).symm, HB2.out⟩
 rw [pB_yes h0]
 have H0 : Hid (EntryP fs D) := h0
 clear h0
 go_wp2_with fail
 refine (opsOk_any HLK2'.out HLIM.out).mono ?_
 rintro e w3 ⟨rfl, hb3⟩
 have HLK3 : Hid (Look fs D a1 a2 oa ea ts.length c1 c2 oc ec G _ (w1.heap.size + 1) w3) := HLK2'.out.mono hb3
 have HB3 : Hid (Below w.heap.size w w3) := HB2.out.trans (hb3.mono HB2.out.size)
 clear hb3
 by_cases h1 : OpsP fs D
 case neg =>
  rw [pB_no h1]
  have HN : Hid (¬ OpsP fs D) := h1
  clear h1
  go_wp2
  go_ret
  exact ⟨ret_bool (pB_no (fun q => HN.out q.2.2.1)).symm, HB3.out⟩
 rw [pB_yes h1]
 have H1 : Hid (OpsP fs D) := h1
 clear h1
 go_wp2_with fail
 refine (exitsOk_any HLK3.out HLIM.out).mono ?_
 rintro e w4 ⟨rfl, hb4⟩
 have HB4 : Hid (Below w.heap.size w w4) := HB3.out.trans (hb4.mono HB3.out.size)
 go_wp2
 go_ret
 exact ⟨ret_pB (by rw [pB_iff]; exact ⟨fun q => ⟨HGG.out, H0.out, H1.out, q⟩, fun q => q.2.2.2⟩), HB4.out⟩
end Go.Proofs.YtbjmgmmekmfjhaaGreatDoor
namespace Go.Proofs.YtbjmgmmekmfjhaaGreatDoor
open Go.RowKit Go.Sort Go.Lib
def specE (e : Ex) : List Si := if e.kind = 2 then [e.spec] else []
def specL (D : FastD) : List Si := (D.exits.map specE).flatten
def specT (D : FastD) (k : Nat) : List Si := ((D.exits.take k).map specE).flatten
theorem specT_all (D : FastD) : specT D D.exits.length = specL D := by unfold specT specL; rw [List.take_length]
theorem specT_zero (D : FastD) : specT D 0 = [] := rfl
theorem specT_succ (D : FastD) (k : Nat) (h : k < D.exits.length) : specT D (k + 1) = specT D k ++ specE D.exits[k] := by
 unfold specT
 rw [List.take_succ_eq_append_getElem h, List.map_append, List.flatten_append]
 simp only [List.map_cons, List.map_nil, List.flatten_cons, List.flatten_nil, List.append_nil]
theorem specT_yes (D : FastD) (k : Nat) (h : k < D.exits.length) (h2 : D.exits[k].kind = 2) : specT D (k + 1) = specT D k ++ [D.exits[k].spec] := by rw [specT_succ D k h]; unfold specE; rw [if_pos h2]
theorem specT_no (D : FastD) (k : Nat) (h : k < D.exits.length) (h2 : D.exits[k].kind ≠ 2) : specT D (k + 1) = specT D k := by rw [specT_succ D k h]; unfold specE; rw [if_neg h2, List.append_nil]
theorem specT_len (D : FastD) : ∀ k, k ≤ D.exits.length → (specT D k).length ≤ k
 | 0, _ => by simp [specT_zero]
 | k + 1, hk => by
  have h1 := specT_len D k (by omega)
  by_cases h2 : D.exits[k].kind = 2
  · rw [specT_yes D k (by omega) h2, List.length_append]; simp; omega
  · rw [specT_no D k (by omega) h2]; omega
def SpecsA (ts : List ByteArray) (fs : List Fn) (D : FastD) (S : List Si) : Prop :=
 (FastP ts fs D ∧ S.Pairwise SLt ∧ (∀ x, x ∈ S ↔ x ∈ specL D) ∧ S.length ≤ 1048576) ∨ (¬ FastP ts fs D ∧ S = [])
theorem SpecsA.one {ts : List ByteArray} {fs : List Fn} {D : FastD} {S S' : List Si} (h : SpecsA ts fs D S) (h' : SpecsA ts fs D S') : S' = S := by
 rcases h with ⟨h1, h2, h3, -⟩ | ⟨h1, rfl⟩
 ·
  rcases h' with ⟨-, k2, k3, -⟩ | ⟨k1, -⟩
  · exact asc_ext (lt := SLt) (fun x y a b => by unfold SLt at *; omega) _ _ k2 h2 (fun x => (k3 x).trans (h3 x).symm)
  · exact absurd h1 k1
 ·
  rcases h' with ⟨k1, -⟩ | ⟨-, rfl⟩
  · exact absurd k1 h1
  · rfl
theorem SpecsA.len {ts : List ByteArray} {fs : List Fn} {D : FastD} {S : List Si} (h : SpecsA ts fs D S) : S.length ≤ 1048576 := by
 rcases h with ⟨-, -, -, h⟩ | ⟨-, rfl⟩
 · exact h
 · simp
set_option maxHeartbeats 4000000 in
theorem iSpecs_any (a1 a2 oa : Option Addr) (lo g2 c1 c2 oc ec : Nat) (ts : List ByteArray) (fs : List Fn) (D : FastD) (w : World) (hs : Small ts fs) (hd : FastSmall D) (hm : StrsAt w 0 a1 ts) (hm2 : FnsAt w 0 a2 fs) (hf : FastAt w 0 oa (some ⟨g2, 0, none⟩) D) (_hE : ExB w lo g2 D.exits) (hsh : ShAt w) (hDB : DB w) :
  Calls Tryz.prog 12 #[.agg #[.slice a1 ts.length c1, .slice a2 fs.length c2], .agg (fastCells oa (some ⟨g2, 0, none⟩) oc ec D)] w fun e w' => ∃ v S, e = .returned v ∧ SpecsA ts fs D S ∧ SSl w' w.heap.size v S ∧ Below w.heap.size w w' := by
 clear _hE
 obtain ⟨w0, hw0⟩ : ∃ w0, w0 = (w.alloc (.cells #[.slice a1 ts.length c1, .slice a2 fs.length c2] 36)).alloc (.cells #[.int .i64 D.fn, .int .i64 D.entry, .int .i64 D.vals, .int .i64 D.nums, .slice oa D.ops.length oc, .slice (some ⟨g2, 0, none⟩) D.exits.length ec] 41) := ⟨_, rfl⟩
 have hb0 : Below w.heap.size w w0 := by rw [hw0]; exact ((Below.refl _ _).alloc (Nat.le_refl _) _).alloc (by simp) _
 have hF0 : w0.heap[w.heap.size + 1]? = some (.cells #[.int .i64 D.fn, .int .i64 D.entry, .int .i64 D.vals, .int .i64 D.nums, .slice oa D.ops.length oc, .slice (some ⟨g2, 0, none⟩) D.exits.length ec] 41 (0, 0)) := by rw [hw0]; exact block_new_at _ _ _ _ (by simp)
 have hfo := iFastOk_any a1 a2 oa (some ⟨g2, 0, none⟩) c1 c2 oc ec ts fs D w0 hs hd (hm.mono hb0) (hm2.mono hb0) (hf.mono hb0) (hsh.mono hb0) (hDB.mono hb0)
 unfold fastCells at hfo ⊢
 obtain ⟨i0, hi, hz0, hz1, hz2⟩ := info_parts info97
 go_enter Tryz.func12, Tryz.ntmps12
 go_wp2_with fail
 rw [← hw0]
 refine hfo.mono ?_
 clear hfo hw0
 rintro e w1 ⟨rfl, hb1⟩
 have hB1 := hb0.trans (hb1.mono hb0.size)
 have hF1 := block_kept hF0 hb1
 clear hF0 hb0 hb1 hsh hDB hm hm2
 by_cases hP : FastP ts fs D
 case neg =>
  rw [pB_no hP]
  have HN := hids hP
  clear hP
  go_wp2
  go_ret
  exact ⟨_, [], rfl, .inr ⟨HN.out, rfl⟩, .inl ⟨rfl, _, _, rfl⟩, hB1⟩
 rw [pB_yes hP]
 have HP : Hid (FastP ts fs D) := hP
 have hel : D.exits.length ≤ 1500 := hP.2.2.2.1
 clear hP
 have y1 := block_cell hF1
 have hO0 : w1.ownsRow w.heap.size 97 4 (.slice none 0 0) 0 (flat4 []) := ⟨rfl, .inl ⟨rfl, rfl⟩⟩
 go_wp2
 clear y1
 go_loopw [5, 15] (fun q i wr => ∃ (k : Nat), k ≤ D.exits.length ∧ i = .int .i64 k ∧ (∃ xa cap, q = .slice xa (specT D k).length cap) ∧ wr.ownsRow w.heap.size 97 4 q (specT D k).length (flat4 (specT D k)) ∧ Hid (Below w.heap.size w wr)) (fun _ i _ => D.exits.length - (intOf i).toNat)
 case atStart => exact ⟨0, by omega, rfl, ⟨_, _, rfl⟩, hO0, hB1⟩
 case round =>
  obtain ⟨k, hk, rfl, ⟨xa, cap, rfl⟩, hown, HB⟩ := hrel
  clear hO0 hB1 hF1
  have hkl := specT_len D k hk
  by_cases hlt : k < D.exits.length
  case neg =>
   obtain rfl : k = D.exits.length := by omega
   have z2 : ¬ (D.exits.length : Int) < (D.exits.length : Int) := by omega
   have hrs := rising_spec w.heap.size cap xa (specT D D.exits.length) wr HB.out.size (by omega) hown
   have HL2 : Hid ((specT D D.exits.length).length ≤ 1048576) := by show _ ≤ _; omega
   clear hown hlt hk hkl
   go_wp2_with fail
   refine hrs.mono ?_
   clear hrs
   rintro e w2 ⟨v, S, rfl, h1, h2, h3, h4, h5⟩
   have HR : Hid (SpecsA ts fs D S ∧ SSl w2 w.heap.size v S ∧ Below w.heap.size w w2) := ⟨.inl ⟨HP.out, h1, by rw [specT_all] at h2; exact h2, Nat.le_trans h3 HL2.out⟩, h4, HB.out.trans h5⟩
   clear h1 h2 h3 h4 h5
   go_wp2
   go_ret
   exact ⟨v, S, rfl, HR.out.1, HR.out.2.1, HR.out.2.2⟩
  have zk : (k : Int) < (D.exits.length : Int) := by omega
  obtain ⟨be, oe, xf, xc, ya, yc, hea, -, e0, e1, e2, e3, e4, e5, e6, -, -⟩ := hf.exits k hlt
  cases hea
  have f0 := cell_later HB.out e0
  have f1 := cell_later HB.out e1
  have f2 := cell_later HB.out e2
  have f3 := cell_later HB.out e3
  have f4 := cell_later HB.out e4
  have f5 := cell_later HB.out e5
  have f6 := cell_later HB.out e6
  rw [Nat.zero_add] at f0 f1 f2 f3 f4 f5 f6
  clear e0 e1 e2 e3 e4 e5 e6
  obtain ⟨wb, hwb⟩ : ∃ wb, wb = wr.alloc (.cells #[.int .i64 D.exits[k].kind, .int .i64 D.exits[k].spec.f, .int .i64 D.exits[k].spec.pc, .int .i64 D.exits[k].spec.seen, .int .i64 D.exits[k].spec.target, .slice xf D.exits[k].frames.length xc, .slice ya D.exits[k].recs.length yc] 101) := ⟨_, rfl⟩
  have hownb : wb.ownsRow w.heap.size 97 4 (.slice xa (specT D k).length cap) (specT D k).length (flat4 (specT D k)) := by rw [hwb]; exact World.ownsRow.alloc hown _
  have HBB : Hid (Below w.heap.size w wb) := by rw [hwb]; exact HB.out.alloc HB.out.size _
  have hXb : wb.heap[wr.heap.size]? = some (.cells #[.int .i64 D.exits[k].kind, .int .i64 D.exits[k].spec.f, .int .i64 D.exits[k].spec.pc, .int .i64 D.exits[k].spec.seen, .int .i64 D.exits[k].spec.target, .slice xf D.exits[k].frames.length xc, .slice ya D.exits[k].recs.length yc] 101 (0, 0)) := by rw [hwb]; exact block_new _ _ _
  by_cases hk2 : D.exits[k].kind = 2
  case neg =>
   have g2 : (D.exits[k].kind == 2) = false := by simpa using hk2
   have HT : Hid (specT D (k + 1) = specT D k) := specT_no D k hlt hk2
   clear hk2
   have x1 := block_cell hXb
   go_upto_region 7 with fail
   rw [← hwb]
   clear hwb f0 f1 f2 f3 f4 f5 f6 hown
   go_wp2
   go_roundw
   case rel => exact ⟨k + 1, by omega, by go_num, ⟨xa, cap, by rw [HT.out]⟩, by rw [HT.out]; exact hownb, HBB⟩
   case measure => simp [intOf]; omega
  have g2 : (D.exits[k].kind == 2) = true := by simpa using hk2
  have HT : Hid (specT D (k + 1) = specT D k ++ [D.exits[k].spec]) := specT_yes D k hlt hk2
  clear hk2
  have x1 := block_cell hXb
  have hszr := HBB.out.size
  have hlx : wr.heap.size < wb.heap.size := lt_block hXb
  go_upto_region 7 with fail
  rw [← hwb]
  clear hwb f0 f1 f2 f3 f4 f5 f6 hown
  go_wp2_with (first | (at_builtin; refine wpList_append_lies _ rfl _ _ 32 rfl w.heap.size 97 i0 (.agg #[.int .i64 0, .int .i64 0, .int .i64 0, .int .i64 0]) 4 32 Tryz.underlying32 hi hz0 hz1 hz2 rfl (by decide) _ _ _ rfl (World.ownsRow.alloc hownb _) ⟨wb.heap.size, 0, none⟩ 1 1 [.int .i64 D.exits[k].spec.f, .int .i64 D.exits[k].spec.pc, .int .i64 D.exits[k].spec.seen, .int .i64 D.exits[k].spec.target] rfl rfl (World.news_of_block (cs := #[.int .i64 D.exits[k].spec.f, .int .i64 D.exits[k].spec.pc, .int .i64 D.exits[k].spec.seen, .int .i64 D.exits[k].spec.target]) (t := 97) (fr := (0, 0)) (heap_alloc_new wb _)) (by simp [Value.oneCell']) (by decide) (by unfold maxLen; omega) (by omega) (by simp; omega) _ rfl ?_; intro g1 cap1 w1 hown1 hgrow1 hat1 hlt1))
  have hk1 := Keeps.grown (ts := [97]) (World.ownsRow.alloc hownb _) hgrow1 (by simp)
  have HB1 : Hid (Below w.heap.size w w1) := (HBB.out.alloc HBB.out.size _).trans (hk1.toBelow (by simp; omega))
  go_roundw
  case rel => exact ⟨k + 1, by omega, by go_num, ⟨some ⟨g1, 0, none⟩, cap1, by rw [HT.out]; simp⟩, by rw [HT.out, flat4_app, flat4_one]; simpa using hown1, HB1⟩
  case measure => simp [intOf]; omega
end Go.Proofs.YtbjmgmmekmfjhaaGreatDoor
namespace Go.Proofs.YtbjmgmmekmfjhaaGreatDoor
open Go.RowKit Go.Sort Go.Lib
set_option maxHeartbeats 1000000 in
theorem specLess_any (a b : Si) (w : World) :
  Calls Tryz.prog 97 #[.agg #[.int .i64 a.f, .int .i64 a.pc, .int .i64 a.seen, .int .i64 a.target], .agg #[.int .i64 b.f, .int .i64 b.pc, .int .i64 b.seen, .int .i64 b.target]] w fun e w' => e = .returned (.bool (decide (SLt a b))) ∧ Below w.heap.size w w' := by
 have H : Hid (Below w.heap.size w ((w.alloc (.cells #[.int .i64 a.f, .int .i64 a.pc, .int .i64 a.seen, .int .i64 a.target] 97)).alloc (.cells #[.int .i64 b.f, .int .i64 b.pc, .int .i64 b.seen, .int .i64 b.target] 97))) := ((Below.refl _ _).alloc (Nat.le_refl _) _).alloc (by simp) _
 go_enter Tryz.func97, Tryz.ntmps97
 by_cases h1 : a.f = b.f
 case neg =>
  have g1 : (a.f != b.f) = true := by simpa using h1
  have HR : Hid (decide (a.f < b.f) = decide (SLt a b)) := decide_eq_decide.2 (by unfold SLt; omega)
  go_wp2
  go_ret
  exact ⟨ret_bool HR.out, H.out⟩
 have g1 : (a.f != b.f) = false := by simpa using h1
 have H1 := hids h1
 clear h1
 by_cases h2 : a.pc = b.pc
 case neg =>
  have g2 : (a.pc != b.pc) = true := by simpa using h2
  have HR : Hid (decide (a.pc < b.pc) = decide (SLt a b)) := decide_eq_decide.2 (by have := H1.out; unfold SLt; omega)
  go_wp2
  go_ret
  exact ⟨ret_bool HR.out, H.out⟩
 have g2 : (a.pc != b.pc) = false := by simpa using h2
 have H2 := hids h2
 clear h2
 by_cases h3 : a.target = b.target
 case neg =>
  have g3 : (a.target != b.target) = true := by simpa using h3
  have HR : Hid (decide (a.target < b.target) = decide (SLt a b)) := decide_eq_decide.2 (by have := H1.out; have := H2.out; unfold SLt; omega)
  go_wp2
  go_ret
  exact ⟨ret_bool HR.out, H.out⟩
 have g3 : (a.target != b.target) = false := by simpa using h3
 have HR : Hid (decide (a.seen < b.seen) = decide (SLt a b)) := decide_eq_decide.2 (by have := H1.out; have := H2.out; unfold SLt; omega)
 clear h3
 go_wp2
 go_ret
 exact ⟨ret_bool HR.out, H.out⟩
def place (s : Si) (l : List Si) : Nat := (l.takeWhile fun x => decide (SLt x s)).length
def insS (s : Si) (l : List Si) : List Si := if s ∈ l then l else l.take (place s l) ++ [s] ++ l.drop (place s l)
theorem place_le (s : Si) (l : List Si) : place s l ≤ l.length := by
 unfold place
 exact (List.takeWhile_prefix _).length_le
theorem place_low (s : Si) : ∀ (l : List Si) (i : Nat) (h : i < l.length), i < place s l → SLt l[i] s
 | [], i, h, _ => by simp at h
 | x :: l, i, h, hp => by
  unfold place at hp
  by_cases hx : SLt x s
  ·
   rw [List.takeWhile_cons_of_pos (by simpa using hx)] at hp
   cases i with
   | zero => exact hx
   | succ i => exact place_low s l i (by simpa using h) (by unfold place; simpa using hp)
  ·
   rw [List.takeWhile_cons_of_neg (by simpa using hx)] at hp
   simp at hp
theorem place_at (s : Si) : ∀ (l : List Si) (h : place s l < l.length), ¬ SLt l[place s l] s
 | [], h => by simp at h
 | x :: l, h => by
  by_cases hx : SLt x s
  ·
   have e : place s (x :: l) = place s l + 1 := by unfold place; rw [List.takeWhile_cons_of_pos (by simpa using hx)]; rfl
   have h' : place s l < l.length := by rw [e] at h; simpa using h
   have := place_at s l h'
   simp only [e, List.getElem_cons_succ]
   exact this
  ·
   have e : place s (x :: l) = 0 := by unfold place; rw [List.takeWhile_cons_of_neg (by simpa using hx)]; rfl
   simp only [e, List.getElem_cons_zero]
   exact hx
theorem place_is (s : Si) (l : List Si) (k : Nat) (hk : k ≤ l.length) (h1 : ∀ i (h : i < l.length), i < k → SLt l[i] s) (h2 : ∀ h : k < l.length, ¬ SLt l[k] s) : place s l = k := by
 have hp := place_le s l
 rcases Nat.lt_trichotomy (place s l) k with h | h | h
 · exact absurd (h1 _ (by omega) h) (place_at s l (by omega))
 · exact h
 · exact absurd (place_low s l k (by omega) h) (h2 (by omega))
theorem SLt.tr {a b c : Si} (h1 : SLt a b) (h2 : SLt b c) : SLt a c := by unfold SLt at *; omega
theorem SLt.tot {a b : Si} (h1 : ¬ SLt a b) (h2 : ¬ SLt b a) : a = b := by rw [si_eq]; unfold SLt at *; omega
theorem SLt.irr (a : Si) : ¬ SLt a a := by unfold SLt; omega
theorem in_place {s : Si} {l : List Si} (ha : l.Pairwise SLt) : s ∈ l ↔ ∃ h : place s l < l.length, l[place s l] = s := by
 constructor
 ·
  intro hs
  obtain ⟨i, hi, rfl⟩ := List.getElem_of_mem hs
  have e : place l[i] l = i := place_is _ _ _ (by omega) (fun j hj hji => (List.pairwise_iff_getElem.1 ha) j i hj hi hji) (fun _ => SLt.irr _)
  exact ⟨by rw [e]; exact hi, by simp only [e]⟩
 ·
  rintro ⟨h, e⟩
  rw [← e]
  exact List.getElem_mem h
theorem insS_mem (s : Si) (l : List Si) (x : Si) : x ∈ insS s l ↔ x ∈ l ∨ x = s := by
 unfold insS
 split
 ·
  rename_i h
  exact ⟨.inl, fun q => q.elim id (fun q => q ▸ h)⟩
 ·
  rw [List.mem_append, List.mem_append, List.mem_singleton]
  constructor
  ·
   rintro ((h | h) | h)
   · exact .inl (List.mem_of_mem_take h)
   · exact .inr h
   · exact .inl (List.mem_of_mem_drop h)
  ·
   rintro (h | h)
   ·
    rw [← List.take_append_drop (place s l) l, List.mem_append] at h
    exact h.elim (fun q => .inl (.inl q)) .inr
   · exact .inl (.inr h)
theorem insS_asc {s : Si} {l : List Si} (ha : l.Pairwise SLt) : (insS s l).Pairwise SLt := by
 unfold insS
 split
 · exact ha
 ·
  rename_i hs
  have hp := place_le s l
  have low : ∀ x ∈ l.take (place s l), SLt x s := by
   intro x hx
   obtain ⟨i, hi, rfl⟩ := List.getElem_of_mem hx
   rw [List.length_take] at hi
   rw [List.getElem_take]
   exact place_low s l i (by omega) (by omega)
  have high : ∀ x ∈ l.drop (place s l), SLt s x := by
   intro x hx
   obtain ⟨i, hi, rfl⟩ := List.getElem_of_mem hx
   rw [List.length_drop] at hi
   rw [List.getElem_drop]
   have h0 : place s l < l.length := by omega
   have h1 : SLt s l[place s l] := by
    by_cases q : SLt s l[place s l]
    · exact q
    · exact absurd (by rw [← SLt.tot (place_at s l h0) q]; exact List.getElem_mem h0) hs
   by_cases e : i = 0
   · subst e; simpa using h1
   · exact h1.tr ((List.pairwise_iff_getElem.1 ha) _ _ h0 (by omega) (by omega))
  rw [List.pairwise_append, List.pairwise_append]
  refine ⟨⟨ha.sublist (List.take_sublist _ _), List.pairwise_singleton _ _, fun a h b hb => by rw [List.mem_singleton.1 hb]; exact low a h⟩, ha.sublist (List.drop_sublist _ _), fun a h b hb => ?_⟩
  rcases List.mem_append.1 h with h | h
  · exact (low a h).tr (high b hb)
  · rw [List.mem_singleton.1 h]; exact high b hb
theorem insS_len (s : Si) (l : List Si) : (insS s l).length ≤ l.length + 1 := by
 unfold insS
 split
 · omega
 ·
  rw [List.length_append, List.length_append, List.length_take, List.length_drop]
  have := place_le s l
  simp
  omega
def insT (D : FastD) (k : Nat) : List Si := (specT D k).foldl (fun l s => insS s l) []
theorem insT_yes (D : FastD) (k : Nat) (h : k < D.exits.length) (h2 : D.exits[k].kind = 2) : insT D (k + 1) = insS D.exits[k].spec (insT D k) := by
 unfold insT
 rw [specT_yes D k h h2, List.foldl_append]
 rfl
theorem insT_no (D : FastD) (k : Nat) (h : k < D.exits.length) (h2 : D.exits[k].kind ≠ 2) : insT D (k + 1) = insT D k := by
 unfold insT
 rw [specT_no D k h h2]
theorem fold_asc : ∀ (ss l : List Si), l.Pairwise SLt → (ss.foldl (fun l s => insS s l) l).Pairwise SLt ∧ (∀ x, x ∈ ss.foldl (fun l s => insS s l) l ↔ x ∈ l ∨ x ∈ ss) ∧ (ss.foldl (fun l s => insS s l) l).length ≤ l.length + ss.length
 | [], l, h => ⟨h, fun x => by simp, by simp⟩
 | s :: ss, l, h => by
  obtain ⟨h1, h2, h3⟩ := fold_asc ss (insS s l) (insS_asc h)
  refine ⟨h1, fun x => ?_, ?_⟩
  · rw [List.foldl_cons, h2, insS_mem, List.mem_cons, or_assoc]
  ·
   rw [List.foldl_cons]
   have := insS_len s l
   rw [List.length_cons]
   omega
theorem insT_all (D : FastD) (k : Nat) : (insT D k).Pairwise SLt ∧ (∀ x, x ∈ insT D k ↔ x ∈ specT D k) ∧ (insT D k).length ≤ (specT D k).length := by
 unfold insT
 obtain ⟨h1, h2, h3⟩ := fold_asc (specT D k) [] List.Pairwise.nil
 exact ⟨h1, fun x => by rw [h2]; simp, by simpa using h3⟩
end Go.Proofs.YtbjmgmmekmfjhaaGreatDoor
