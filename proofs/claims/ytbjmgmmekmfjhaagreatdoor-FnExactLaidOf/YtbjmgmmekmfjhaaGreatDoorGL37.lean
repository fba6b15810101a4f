/-
The look at code (the program): its ops and its exits; FastOk.
The functions that are laid in, as a list; what impl.LaidOf returns.
-/
import Derived.Test.YtbjmgmmekmfjhaaGreatDoorGL33
import Derived.Test.YtbjmgmmekmfjhaaGreatDoorGL35
import Derived.Test.YtbjmgmmekmfjhaaGreatDoorGL36
import Derived.Test.YtbjmgmmekmfjhaaGreatDoorGL19
import Derived.Test.YtbjmgmmekmfjhaaGreatDoorGL31
import Derived.Test.YtbjmgmmekmfjhaaGreatDoorGL24
import Derived.Test.YtbjmgmmekmfjhaaGreatDoorGL22
import Derived.Test.YtbjmgmmekmfjhaaGreatDoorGL11
set_option maxRecDepth 100000
namespace Go.Proofs.YtbjmgmmekmfjhaaGreatDoor
open Go.RowKit
section
variable {ts : List ByteArray} {fs : List Fn} {D : FastD} {a1 a2 oa ea : Option Addr} {nt c1 c2 oc ec G base K : Nat} {w : World}
set_option maxHeartbeats 8000000 in
theorem opsOk_any (h : Look fs D a1 a2 oa ea nt c1 c2 oc ec G base K w) (lim : Lim fs D) :
  Calls Tryz.prog 103 #[.pointer (some ⟨K, 0, none⟩)] w fun e w' => e = .returned (.bool (pB (OpsP fs D))) ∧ Below w.heap.size w w' := by
 have HS0 : Hid (∀ w', Below w.heap.size w w' → w'.cell? ⟨K, 10, none⟩ = some (.slice oa D.ops.length oc) ∧ w'.cell? ⟨K, 3, none⟩ = some (.int .i64 D.fn)) := fun w' q => ⟨(h.mono q).cells 10, (h.mono q).cells 3⟩
 have HC0 : Hid (∀ w', Below w.heap.size w w' → Calls Tryz.prog 127 #[.int .i64 D.ops.length, .int .i64 1, .int .i64 1500] w' fun e w'' => e = .returned (.bool (pB (Btw (D.ops.length : Int) 1 1500))) ∧ Below w'.heap.size w' w'') := fun w' _ => (iBetween_any _ _ _ _).mono fun _ _ q => ⟨q.1, by rw [q.2]; exact Below.refl _ _⟩
 have HC2 : Hid (∀ w', Below w.heap.size w w' → Calls Tryz.prog 166 #[.slice oa D.ops.length oc, .func (.func 167) #[.pointer (some ⟨K, 0, none⟩)] #[]] w' fun e w'' => e = .returned (.bool (pB (∀ i (h : i < D.ops.length), FopP fs D i D.ops[i]))) ∧ Below w'.heap.size w' w'') := fun w' q => allFOp_any (.pointer (some ⟨K, 0, none⟩)) (fun i x => FopP fs D i x) oa D.ops oc w' lim.fast.1.1 ((h.mono q).ops) (fun i hi w'' q' => opOk_any i D.ops[i] (lim.fast.1.2 _ (List.getElem_mem hi)) ((h.mono q).mono q') lim)
 by_cases h0 : Btw (D.ops.length : Int) 1 1500
 case neg =>
  rw [pB_no h0] at HC0
  have HN : Hid (¬ (Btw (D.ops.length : Int) 1 1500)) := h0
  clear h0 h lim
  go_enter Tryz.func103, Tryz.ntmps103
  go_upto_region 1 with fail
  refine wp_below (by kernel_rfl) (by kernel_rfl) ?_
  iterate 5
   refine q_want (v := ?_) (by kernel_rfl) ?_ ?_
   rotate_left
   ·
    intro w' hC
    obtain ⟨j0, j1⟩ := HS0.out w' hC
    go_simp
    try with_reducible rfl
   try simp only [Act.put, sAr, sZe, sSu]
  refine q_want (v := .bool false) (by kernel_rfl) ?_ ?_
  ·
   intro w' hC
   go_simp
   refine (HC0.out _ hC).mono ?_
   rintro e w'' ⟨rfl, hb2⟩
   exact ⟨rfl, hC.trans (hb2.mono hC.size)⟩
  try simp only [Act.put, sAr, sZe, sSu]
  refine q_want (v := ?_) (by kernel_rfl) ?_ ?_
  rotate_left
  ·
   intro w' hC
   obtain ⟨j0, j1⟩ := HS0.out w' hC
   go_simp
   try with_reducible rfl
  try simp only [Act.put, sAr, sZe, sSu]
  iterate 14 go_big_quiet_skip
  iterate 2
   refine q_want (v := ?_) (by kernel_rfl) ?_ ?_
   rotate_left
   ·
    intro w' hC
    obtain ⟨j0, j1⟩ := HS0.out w' hC
    go_simp
    try with_reducible rfl
   try simp only [Act.put, sAr, sZe, sSu]
  iterate 7 go_big_quiet_skip
  iterate 2
   refine q_want (v := ?_) (by kernel_rfl) ?_ ?_
   rotate_left
   ·
    intro w' hC
    obtain ⟨j0, j1⟩ := HS0.out w' hC
    go_simp
    try with_reducible rfl
   try simp only [Act.put, sAr, sZe, sSu]
  refine wpQuiet_nil ?_
  intro w2 q2
  go_wp2
  go_ret
  exact ⟨ret_bool (pB_no (fun q => HN.out (by have := q.1; exact ⟨by omega, by omega⟩))).symm, q2⟩
 rw [pB_yes h0] at HC0
 have H0 : Hid (Btw (D.ops.length : Int) 1 1500) := h0
 obtain ⟨lx, hlx⟩ : ∃ lx, lx = D.ops.length - 1 := ⟨_, rfl⟩
 have hl1 : lx < D.ops.length := by have := h0.1; omega
 have hw1 : IntKind.i64.wrap ((D.ops.length : Int) - 1) = (lx : Int) := by rw [IntKind.wrap_i64]; have := h0.1; have := h0.2; omega
 have hl2 : (lx : Int) < (D.ops.length : Int) := by omega
 have hl3 : (0 : Int) ≤ (lx : Int) := by omega
 have HLX : Hid (lx = D.ops.length - 1) := hlx
 obtain ⟨b, off, rfl, -, d0, -⟩ := h.ops lx hl1
 have HS : Hid (∀ w', Below w.heap.size w w' → w'.cell? ⟨K, 10, none⟩ = some (.slice (some ⟨b, off, none⟩) D.ops.length oc) ∧ w'.cell? ⟨b, off + lx * 10, none⟩ = some (.int .i64 D.ops[lx].op)) := fun w' q => ⟨(HS0.out w' q).1, cell_later q d0⟩
 have HC1 : Hid (∀ w', Below w.heap.size w w' → Calls Tryz.prog 165 #[.int .i64 D.ops[lx].op] w' fun e w'' => e = .returned (.bool (pB (EndOp D.ops[lx].op))) ∧ Below w'.heap.size w' w'') := fun w' _ => (endOp_any _ _).mono fun _ _ q => ⟨q.1, by rw [q.2]; exact Below.refl _ _⟩
 have HI : Hid (OpsP fs D ↔ EndOp D.ops[lx].op ∧ ∀ i (h : i < D.ops.length), FopP fs D i D.ops[i]) := by
  show _ ↔ _
  have e : D.ops.length - 1 = lx := HLX.out.symm
  unfold OpsP
  simp only [e]
  exact ⟨fun q => ⟨by obtain ⟨_, q⟩ := q.2.1; exact q, q.2.2⟩, fun q => ⟨⟨by have := H0.out.1; omega, by have := H0.out.2; omega⟩, ⟨hl1, q.1⟩, q.2⟩⟩
 clear HS0 h0 hlx d0 h lim
 by_cases h1 : EndOp D.ops[lx].op
 case neg =>
  rw [pB_no h1] at HC1
  have HN : Hid (¬ EndOp D.ops[lx].op) := h1
  clear h1
  go_enter Tryz.func103, Tryz.ntmps103
  go_upto_region 1 with fail
  refine wp_below (by kernel_rfl) (by kernel_rfl) ?_
  iterate 5
   refine q_want (v := ?_) (by kernel_rfl) ?_ ?_
   rotate_left
   ·
    intro w' hC
    obtain ⟨j0, j1⟩ := HS.out w' hC
    go_simp
    try with_reducible rfl
   try simp only [Act.put, sAr, sZe, sSu]
  refine q_want (v := .bool true) (by kernel_rfl) ?_ ?_
  ·
   intro w' hC
   go_simp
   refine (HC0.out _ hC).mono ?_
   rintro e w'' ⟨rfl, hb2⟩
   exact ⟨rfl, hC.trans (hb2.mono hC.size)⟩
  try simp only [Act.put, sAr, sZe, sSu]
  iterate 14
   refine q_want (v := ?_) (by kernel_rfl) ?_ ?_
   rotate_left
   ·
    intro w' hC
    obtain ⟨j0, j1⟩ := HS.out w' hC
    go_simp
    try with_reducible rfl
   try simp only [Act.put, sAr, sZe, sSu]
  refine q_want (v := .bool false) (by kernel_rfl) ?_ ?_
  ·
   intro w' hC
   go_simp
   refine (HC1.out _ hC).mono ?_
   rintro e w'' ⟨rfl, hb2⟩
   exact ⟨rfl, hC.trans (hb2.mono hC.size)⟩
  try simp only [Act.put, sAr, sZe, sSu]
  iterate 2
   refine q_want (v := ?_) (by kernel_rfl) ?_ ?_
   rotate_left
   ·
    intro w' hC
    obtain ⟨j0, j1⟩ := HS.out w' hC
    go_simp
    try with_reducible rfl
   try simp only [Act.put, sAr, sZe, sSu]
  iterate 7 go_big_quiet_skip
  iterate 2
   refine q_want (v := ?_) (by kernel_rfl) ?_ ?_
   rotate_left
   ·
    intro w' hC
    obtain ⟨j0, j1⟩ := HS.out w' hC
    go_simp
    try with_reducible rfl
   try simp only [Act.put, sAr, sZe, sSu]
  refine wpQuiet_nil ?_
  intro w2 q2
  go_wp2
  go_ret
  exact ⟨ret_bool (pB_no (fun q => HN.out (HI.out.1 q).1)).symm, q2⟩
 rw [pB_yes h1] at HC1
 have H1 : Hid (EndOp D.ops[lx].op) := h1
 clear h1
 go_enter Tryz.func103, Tryz.ntmps103
 go_upto_region 1 with fail
 refine wp_below (by kernel_rfl) (by kernel_rfl) ?_
 iterate 5
  refine q_want (v := ?_) (by kernel_rfl) ?_ ?_
  rotate_left
  ·
   intro w' hC
   obtain ⟨j0, j1⟩ := HS.out w' hC
   go_simp
   try with_reducible rfl
  try simp only [Act.put, sAr, sZe, sSu]
 refine q_want (v := .bool true) (by kernel_rfl) ?_ ?_
 ·
  intro w' hC
  go_simp
  refine (HC0.out _ hC).mono ?_
  rintro e w'' ⟨rfl, hb2⟩
  exact ⟨rfl, hC.trans (hb2.mono hC.size)⟩
 try simp only [Act.put, sAr, sZe, sSu]
 iterate 14
  refine q_want (v := ?_) (by kernel_rfl) ?_ ?_
  rotate_left
  ·
   intro w' hC
   obtain ⟨j0, j1⟩ := HS.out w' hC
   go_simp
   try with_reducible rfl
  try simp only [Act.put, sAr, sZe, sSu]
 refine q_want (v := .bool true) (by kernel_rfl) ?_ ?_
 ·
  intro w' hC
  go_simp
  refine (HC1.out _ hC).mono ?_
  rintro e w'' ⟨rfl, hb2⟩
  exact ⟨rfl, hC.trans (hb2.mono hC.size)⟩
 try simp only [Act.put, sAr, sZe, sSu]
 iterate 8
  refine q_want (v := ?_) (by kernel_rfl) ?_ ?_
  rotate_left
  ·
   intro w' hC
   obtain ⟨j0, j1⟩ := HS.out w' hC
   go_simp
   try with_reducible rfl
  try simp only [Act.put, sAr, sZe, sSu]
 refine q_want (v := .bool (pB (∀ i (h : i < D.ops.length), FopP fs D i D.ops[i]))) (by kernel_rfl) ?_ ?_
 ·
  intro w' hC
  go_simp
  refine (HC2.out _ hC).mono ?_
  rintro e w'' ⟨rfl, hb2⟩
  exact ⟨rfl, hC.trans (hb2.mono hC.size)⟩
 try simp only [Act.put, sAr, sZe, sSu]
 iterate 2
  refine q_want (v := ?_) (by kernel_rfl) ?_ ?_
  rotate_left
  ·
   intro w' hC
   obtain ⟨j0, j1⟩ := HS.out w' hC
   go_simp
   try with_reducible rfl
  try simp only [Act.put, sAr, sZe, sSu]
 refine wpQuiet_nil ?_
 intro w2 q2
 go_wp2
 go_ret
 exact ⟨ret_pB (by rw [pB_iff, HI.out]; exact ⟨fun q => ⟨H1.out, q⟩, fun q => q.2⟩), q2⟩
set_option maxHeartbeats 1000000 in
theorem exitsOk_any (h : Look fs D a1 a2 oa ea nt c1 c2 oc ec G base K w) (lim : Lim fs D) :
  Calls Tryz.prog 104 #[.pointer (some ⟨K, 0, none⟩)] w fun e w' => e = .returned (.bool (pB (ExitsP fs D))) ∧ Below w.heap.size w w' := by
 have c := h.cells
 by_cases h0 : D.exits.length ≤ 1500
 case neg =>
  have g0 : ¬ (D.exits.length : Int) ≤ 1500 := by omega
  go_enter Tryz.func104, Tryz.ntmps104
  go_wp2
  go_ret
  exact ⟨ret_bool (pB_no (fun q => h0 q.1)).symm, Below.refl _ _⟩
 have g0 : (D.exits.length : Int) ≤ 1500 := by omega
 go_enter Tryz.func104, Tryz.ntmps104
 go_wp2_with fail
 refine (allExit_any (.pointer (some ⟨K, 0, none⟩)) (fun _ x => ExitP fs D x) ea D.exits ec w lim.fast.2.1 h.exits (fun i hi _ _ _ _ w' q p0 p1 => exitOk_any i D.exits[i] (lim.fast.2.2 _ (List.getElem_mem hi)) p0 p1 (h.mono q) lim)).mono ?_
 rintro e w1 ⟨rfl, hb⟩
 go_wp2
 go_ret
 exact ⟨ret_pB (by rw [pB_iff]; exact ⟨fun q => ⟨h0, q⟩, fun q => q.2⟩), hb⟩
end
set_option maxHeartbeats 4000000 in
theorem iFastOk_any (a1 a2 oa ea : Option Addr) (c1 c2 oc ec : Nat) (ts : List ByteArray) (fs : List Fn) (D : FastD) (w : World) (hs : Small ts fs) (hd : FastSmall D) (hm : StrsAt w 0 a1 ts) (hm2 : FnsAt w 0 a2 fs) (hf : FastAt w 0 oa ea D) (hsh : ShAt w) (hDB : DB w) :
  Calls Tryz.prog 55 #[.agg #[.slice a1 ts.length c1, .slice a2 fs.length c2], .agg (fastCells oa ea oc ec D)] w fun e w' => e = .returned (.bool (pB (FastP ts fs D))) ∧ Below w.heap.size w w' := by
 unfold fastCells
 have hbA : Below w.heap.size w ((w.alloc (.cells #[.slice a1 ts.length c1, .slice a2 fs.length c2] 36)).alloc (.cells #[.int .i64 D.fn, .int .i64 D.entry, .int .i64 D.vals, .int .i64 D.nums, .slice oa D.ops.length oc, .slice ea D.exits.length ec] 41)) := ((Below.refl _ _).alloc (Nat.le_refl _) _).alloc (by simp) _
 have hM0 := block_old (block_new w #[.slice a1 ts.length c1, .slice a2 fs.length c2] 36) (.cells #[.int .i64 D.fn, .int .i64 D.entry, .int .i64 D.vals, .int .i64 D.nums, .slice oa D.ops.length oc, .slice ea D.exits.length ec] 41)
 have hF0 := block_new_at (w.alloc (.cells #[.slice a1 ts.length c1, .slice a2 fs.length c2] 36)) #[.int .i64 D.fn, .int .i64 D.entry, .int .i64 D.vals, .int .i64 D.nums, .slice oa D.ops.length oc, .slice ea D.exits.length ec] 41 (w.heap.size + 1) (by simp)
 go_enter Tryz.func55, Tryz.ntmps55
 go_wp2_with fail
 refine (iAll_any a1 a2 c1 c2 ts fs _ hs (hm.mono hbA) (hm2.mono hbA)).mono ?_
 rintro e w1 ⟨⟨v, c, f, a, ⟨vx, vn, vk, rfl⟩, rfl, hV, hGd⟩, hb⟩
 have hM1 := block_kept hM0 hb
 have hF1 := block_kept hF0 hb
 have hB1 := hbA.trans (hb.mono hbA.size)
 have HG : Hid (c = 0 ↔ Good ts fs) := hV.good
 have HGD : Hid (c = 0 → ∃ G, Value.slice vx vn vk = .slice (some ⟨G, 0, none⟩) fs.length fs.length ∧ Hs w1 ((w.alloc (.cells #[.slice a1 ts.length c1, .slice a2 fs.length c2] 36)).alloc (.cells #[.int .i64 D.fn, .int .i64 D.entry, .int .i64 D.vals, .int .i64 D.nums, .slice oa D.ops.length oc, .slice ea D.exits.length ec] 41)).heap.size G fs.length fs) := hGd
 have HMOD : Hid (Good ts fs → modB ts fs = true) := good_mod
 clear hM0 hF0 hb hbA hV hGd
 obtain ⟨wT, hwT⟩ : ∃ wT, wT = (w1.alloc (.cells #[.int .i64 c, .int .i64 f, .int .i64 a] 168)).alloc (.cells #[.slice a1 ts.length c1, .slice a2 fs.length c2, .slice vx vn vk, .int .i64 D.fn, .int .i64 D.entry, .int .i64 D.vals, .int .i64 D.nums, .slice oa D.ops.length oc, .slice ea D.exits.length ec, .slice a2 fs.length c2, .slice oa D.ops.length oc, .slice ea D.exits.length ec] 175) := ⟨_, rfl⟩
 have hbT : Below w1.heap.size w1 wT := by rw [hwT]; exact ((Below.refl _ _).alloc (Nat.le_refl _) _).alloc (by simp) _
 have hT : wT.heap[w1.heap.size]? = some (.cells #[.int .i64 c, .int .i64 f, .int .i64 a] 168 (0, 0)) := by rw [hwT]; exact block_old (block_new _ _ _) _
 have hL : wT.heap[w1.heap.size + 1]? = some (.cells #[.slice a1 ts.length c1, .slice a2 fs.length c2, .slice vx vn vk, .int .i64 D.fn, .int .i64 D.entry, .int .i64 D.vals, .int .i64 D.nums, .slice oa D.ops.length oc, .slice ea D.exits.length ec, .slice a2 fs.length c2, .slice oa D.ops.length oc, .slice ea D.exits.length ec] 175 (0, 0)) := by rw [hwT]; exact block_new_at _ _ _ _ (by simp)
 have hBT := hB1.trans (hbT.mono hB1.size)
 have m1 := block_cell hM1
 have f1 := block_cell hF1
 have m2 := block_cell (block_old hM1 (.cells #[.int .i64 c, .int .i64 f, .int .i64 a] 168))
 have f2 := block_cell (block_old hF1 (.cells #[.int .i64 c, .int .i64 f, .int .i64 a] 168))
 by_cases hc0 : c = 0
 case neg =>
  have HN : Hid (¬ Good ts fs) := fun q => hc0 (HG.out.2 q)
  have gc : (c == 0) = false := by simpa using hc0
  have t0 := block_cell hT
  clear hc0 hL HG HGD
  go_upto_region 3 with fail
  rw [← hwT]
  clear hwT m1 f1 m2 f2
  go_wp2
  go_ret
  exact ⟨ret_bool (pB_no (fun q => HN.out q.1)).symm, hBT⟩
 subst hc0
 obtain ⟨G, hvG, hHs⟩ := HGD.out rfl
 cases hvG
 have hG : Good ts fs := HG.out.1 rfl
 have hmod := HMOD.out hG
 have lim : Lim fs D := ⟨hs.funcs, hs.code, hd, fun k hk => fine_of hmod hk⟩
 have hLk : Look fs D a1 a2 oa ea ts.length c1 c2 oc ec G _ (w1.heap.size + 1) wT := ⟨hL, hm2.mono hBT, hHs.mono hbT, hf.ops.mono hBT, hf.exits.mono hBT, hsh.mono hBT⟩
 have HLK : Hid (Look fs D a1 a2 oa ea ts.length c1 c2 oc ec G _ (w1.heap.size + 1) wT) := hLk
 have HLIM : Hid (Lim fs D) := lim
 have HDB : Hid (DB wT) := hDB.mono hBT
 have HGG : Hid (Good ts fs) := hG
 have HB : Hid (Below w.heap.size w wT) := hBT
 have t0 := block_cell hT
 clear hLk lim hG hHs hL HG HGD hT hBT hmod hbT hB1 hM1 hF1
 go_upto_region 3 with fail
 rw [← hwT]
 clear hwT m1 f1 m2 f2
 go_wp2_with fail
 refine (entryOk_any HLK.out HDB.out HGG.out).mono ?_
 rintro e w2 ⟨rfl, hb2⟩
 have HLK2 := HLK.out.mono hb2
 have HB2 : Hid (Below w.heap.size w w2) := HB.out.trans (hb2.mono HB.out.size)
 have HLK2' : Hid (Look fs D a1 a2 oa ea ts.length c1 c2 oc ec G _ (w1.heap.size + 1) w2) := HLK2
 clear HLK2 hb2 t0
 by_cases h0 : EntryP fs D
 case neg =>
  rw [pB_no h0]
  have HN : Hid (¬ EntryP fs D) := h0
  clear h0
  go_wp2
  go_ret
  exact ⟨ret_bool (pB_no (fun q => HN.out q.2.1)).symm, HB2.out⟩
 rw [pB_yes h0]
 have H0 : Hid (EntryP fs D) := h0
 clear h0
 go_wp2_with fail
 refine (opsOk_any HLK2'.out HLIM.out).mono ?_
 rintro e w3 ⟨rfl, hb3⟩
 have HLK3 : Hid (Look fs D a1 a2 oa ea ts.length c1 c2 oc ec G _ (w1.heap.size + 1) w3) := HLK2'.out.mono hb3
 have HB3 : Hid (Below w.heap.size w w3) := HB2.out.trans (hb3.mono HB2.out.size)
 clear hb3
 by_cases h1 : OpsP fs D
 case neg =>
  rw [pB_no h1]
  have HN : Hid (¬ OpsP fs D) := h1
  clear h1
  go_wp2
  go_ret
  exact ⟨ret_bool (pB_no (fun q => HN.out q.2.2.1)).symm, HB3.out⟩
 rw [pB_yes h1]
 have H1 : Hid (OpsP fs D) := h1
 clear h1
 go_wp2_with fail
 refine (exitsOk_any HLK3.out HLIM.out).mono ?_
 rintro e w4 ⟨rfl, hb4⟩
 have HB4 : Hid (Below w.heap.size w w4) := HB3.out.trans (hb4.mono HB3.out.size)
 go_wp2
 go_ret
 exact ⟨ret_pB (by rw [pB_iff]; exact ⟨fun q => ⟨HGG.out, H0.out, H1.out, q⟩, fun q => q.2.2.2⟩), HB4.out⟩
end Go.Proofs.YtbjmgmmekmfjhaaGreatDoor
namespace Go.Proofs.YtbjmgmmekmfjhaaGreatDoor
open Go.RowKit
theorem hidl {p : Prop} (h : p) : Hid p := h
def laidE (e : Ex) : List Int := (e.frames.drop 1).map EF.fn
def laidL (D : FastD) : List Int := (D.exits.map laidE).flatten
def laidT (D : FastD) (k : Nat) : List Int := ((D.exits.take k).map laidE).flatten
theorem laidT_all (D : FastD) : laidT D D.exits.length = laidL D := by unfold laidT laidL; rw [List.take_length]
theorem laidT_zero (D : FastD) : laidT D 0 = [] := rfl
theorem laidT_succ (D : FastD) (k : Nat) (h : k < D.exits.length) : laidT D (k + 1) = laidT D k ++ laidE D.exits[k] := by
 unfold laidT
 rw [List.take_succ_eq_append_getElem h, List.map_append, List.flatten_append]
 simp only [List.map_cons, List.map_nil, List.flatten_cons, List.flatten_nil, List.append_nil]
theorem laidE_len (e : Ex) (h : e.frames.length ≤ 4) : (laidE e).length ≤ 4 := by unfold laidE; simp; omega
theorem laidT_len (D : FastD) (h : ∀ i (hi : i < D.exits.length), D.exits[i].frames.length ≤ 4) : ∀ k, k ≤ D.exits.length → (laidT D k).length ≤ 4 * k
 | 0, _ => by simp [laidT_zero]
 | k + 1, hk => by
  rw [laidT_succ D k (by omega), List.length_append]
  have h1 := laidT_len D h k (by omega)
  have h2 := laidE_len _ (h k (by omega))
  omega
def LaidA (ts : List ByteArray) (fs : List Fn) (D : FastD) (S : List Int) : Prop :=
 (FastP ts fs D ∧ S.Pairwise (· < ·) ∧ (∀ x, x ∈ S ↔ x ∈ laidL D) ∧ S.length ≤ 1048576) ∨ (¬ FastP ts fs D ∧ S = [])
theorem LaidA.one {ts : List ByteArray} {fs : List Fn} {D : FastD} {S S' : List Int} (h : LaidA ts fs D S) (h' : LaidA ts fs D S') : S' = S := by
 rcases h with ⟨h1, h2, h3, -⟩ | ⟨h1, rfl⟩
 ·
  rcases h' with ⟨-, k2, k3, -⟩ | ⟨k1, -⟩
  · exact asc_ext (lt := fun (x y : Int) => x < y) (fun x y a b => by omega) _ _ k2 h2 (fun x => (k3 x).trans (h3 x).symm)
  · exact absurd h1 k1
 ·
  rcases h' with ⟨k1, -⟩ | ⟨-, rfl⟩
  · exact absurd k1 h1
  · rfl
theorem LaidA.len {ts : List ByteArray} {fs : List Fn} {D : FastD} {S : List Int} (h : LaidA ts fs D S) : S.length ≤ 1048576 := by
 rcases h with ⟨-, -, -, h⟩ | ⟨-, rfl⟩
 · exact h
 · simp
theorem fast_exit {ts : List ByteArray} {fs : List Fn} {D : FastD} (h : FastP ts fs D) (i : Nat) (hi : i < D.exits.length) : ExitP fs D D.exits[i] := h.2.2.2.2 i hi
set_option maxHeartbeats 4000000 in
theorem iLaid_any (a1 a2 oa : Option Addr) (lo g2 c1 c2 oc ec : Nat) (ts : List ByteArray) (fs : List Fn) (D : FastD) (w : World) (hs : Small ts fs) (hd : FastSmall D) (hm : StrsAt w 0 a1 ts) (hm2 : FnsAt w 0 a2 fs) (hf : FastAt w 0 oa (some ⟨g2, 0, none⟩) D) (hE : ExB w lo g2 D.exits) (hsh : ShAt w) (hDB : DB w) :
  Calls Tryz.prog 21 #[.agg #[.slice a1 ts.length c1, .slice a2 fs.length c2], .agg (fastCells oa (some ⟨g2, 0, none⟩) oc ec D)] w fun e w' => ∃ v S, e = .returned v ∧ LaidA ts fs D S ∧ DSl w' w.heap.size v S ∧ Below w.heap.size w w' := by
 obtain ⟨w0, hw0⟩ : ∃ w0, w0 = (w.alloc (.cells #[.slice a1 ts.length c1, .slice a2 fs.length c2] 36)).alloc (.cells #[.int .i64 D.fn, .int .i64 D.entry, .int .i64 D.vals, .int .i64 D.nums, .slice oa D.ops.length oc, .slice (some ⟨g2, 0, none⟩) D.exits.length ec] 41) := ⟨_, rfl⟩
 have hb0 : Below w.heap.size w w0 := by rw [hw0]; exact ((Below.refl _ _).alloc (Nat.le_refl _) _).alloc (by simp) _
 have hF0 : w0.heap[w.heap.size + 1]? = some (.cells #[.int .i64 D.fn, .int .i64 D.entry, .int .i64 D.vals, .int .i64 D.nums, .slice oa D.ops.length oc, .slice (some ⟨g2, 0, none⟩) D.exits.length ec] 41 (0, 0)) := by rw [hw0]; exact block_new_at _ _ _ _ (by simp)
 have hfo := iFastOk_any a1 a2 oa (some ⟨g2, 0, none⟩) c1 c2 oc ec ts fs D w0 hs hd (hm.mono hb0) (hm2.mono hb0) (hf.mono hb0) (hsh.mono hb0) (hDB.mono hb0)
 unfold fastCells at hfo ⊢
 obtain ⟨i0, hi, hz0, hz1, hz2⟩ := info_parts info3
 go_enter Tryz.func21, Tryz.ntmps21
 go_wp2_with fail
 rw [← hw0]
 refine hfo.mono ?_
 clear hfo hw0
 rintro e w1 ⟨rfl, hb1⟩
 have hB1 := hb0.trans (hb1.mono hb0.size)
 have hF1 := block_kept hF0 hb1
 clear hF0 hb0 hb1 hsh hDB hm hm2
 by_cases hP : FastP ts fs D
 case neg =>
  rw [pB_no hP]
  have HN := hidl hP
  clear hP
  go_wp2
  go_ret
  exact ⟨_, [], rfl, .inr ⟨HN.out, rfl⟩, .inl ⟨rfl, _, _, rfl⟩, hB1⟩
 rw [pB_yes hP]
 have HP : Hid (FastP ts fs D) := hP
 have hel : D.exits.length ≤ 1500 := hP.2.2.2.1
 have HL : Hid (∀ k, k ≤ D.exits.length → (laidT D k).length ≤ 4 * k) := laidT_len D (fun i hi => (fast_exit HP.out i hi).2.2.1.2)
 clear hP
 have y1 := block_cell hF1
 have hO0 : w1.ownsRow w.heap.size 3 1 (.slice none 0 0) 0 (([] : List Int).map (Value.int .i64)) := ⟨rfl, .inl ⟨rfl, rfl⟩⟩
 go_wp2
 clear y1
 go_loopw [5, 17] (fun q i wr => ∃ (k : Nat), k ≤ D.exits.length ∧ i = .int .i64 k ∧ (∃ xa cap, q = .slice xa (laidT D k).length cap) ∧ wr.ownsRow w.heap.size 3 1 q (laidT D k).length ((laidT D k).map (Value.int .i64)) ∧ Hid (Below w.heap.size w wr)) (fun _ i _ => D.exits.length - (intOf i).toNat)
 case atStart => exact ⟨0, by omega, rfl, ⟨_, _, rfl⟩, hO0, hB1⟩
 case round =>
  obtain ⟨k, hk, rfl, ⟨xa, cap, rfl⟩, hown, HB⟩ := hrel
  clear hO0 hB1 hF1
  by_cases hlt : k < D.exits.length
  case neg =>
   obtain rfl : k = D.exits.length := by omega
   have z2 : ¬ (D.exits.length : Int) < (D.exits.length : Int) := by omega
   have hrs := rising_int w.heap.size cap xa (laidT D D.exits.length) wr HB.out.size (by have := HL.out D.exits.length (by omega); omega) hown
   have HL2 : Hid ((laidT D D.exits.length).length ≤ 1048576) := by have := HL.out D.exits.length (by omega); show _ ≤ _; omega
   clear hown hlt hk
   go_wp2_with fail
   refine hrs.mono ?_
   clear hrs
   rintro e w2 ⟨v, S, rfl, h1, h2, h3, h4, h5⟩
   have HR : Hid (LaidA ts fs D S ∧ DSl w2 w.heap.size v S ∧ Below w.heap.size w w2) := ⟨.inl ⟨HP.out, h1, by rw [laidT_all] at h2; exact h2, Nat.le_trans h3 HL2.out⟩, h4, HB.out.trans h5⟩
   clear h1 h2 h3 h4 h5
   go_wp2
   go_ret
   exact ⟨v, S, rfl, HR.out.1, HR.out.2.1, HR.out.2.2⟩
  have zk : (k : Int) < (D.exits.length : Int) := by omega
  obtain ⟨be, oe, xf, xc, ya, yc, hea, -, e0, e1, e2, e3, e4, e5, e6, p0, -⟩ := hf.exits k hlt
  cases hea
  obtain ⟨-, cur, hC, hcs, hcd⟩ := hE
  obtain ⟨-, -, -, -, -, x0, x1, d0, d1, s0, -⟩ := hcd k hlt
  rw [Nat.zero_add, block_cell hC, d0] at e5
  rw [Nat.zero_add, block_cell hC, d1] at e6
  cases e5
  cases e6
  obtain ⟨r, hr⟩ : ∃ r, D.exits[k].frames.length = r + 1 := ⟨D.exits[k].frames.length - 1, by have := (fast_exit HP.out k hlt).2.2.1.1; omega⟩
  have hr4 : r ≤ 3 := by have := (fast_exit HP.out k hlt).2.2.1.2; omega
  have f0 := cell_later HB.out e0
  have f1 := cell_later HB.out e1
  have f2 := cell_later HB.out e2
  have f3 := cell_later HB.out e3
  have f4 := cell_later HB.out e4
  have f5 : wr.cell? ⟨g2, k * 7 + 5, none⟩ = some (.slice (some ⟨x0, 0, none⟩) (r + 1) (r + 1)) := by rw [← hr]; exact cell_later HB.out (by rw [block_cell hC]; exact d0)
  have f6 : wr.cell? ⟨g2, k * 7 + 6, none⟩ = some (.slice (some ⟨x1, 0, none⟩) D.exits[k].recs.length D.exits[k].recs.length) := cell_later HB.out (by rw [block_cell hC]; exact d1)
  rw [Nat.zero_add] at f0 f1 f2 f3 f4
  have HT : Hid (laidT D (k + 1) = laidT D k ++ laidE D.exits[k]) := laidT_succ D k hlt
  have HE : Hid (laidE D.exits[k] = (D.exits[k].frames.drop 1).map EF.fn) := rfl
  have HR : Hid (D.exits[k].frames.length = r + 1) := hr
  have HLK := hidl (HL.out k hk)
  clear e0 e1 e2 e3 e4 hC hcs hcd d0 d1 hr
  by_cases hr0 : r = 0
  case pos =>
   subst hr0
   have HT2 : Hid (laidT D (k + 1) = laidT D k) := by
    show _ = _
    rw [HT.out, HE.out, List.drop_eq_nil_of_le (by rw [HR.out]; omega)]
    simp
   go_wp2
   go_loopw [5, 25] (fun q i wx => q = .slice xa (laidT D k).length cap ∧ i = .int .i64 0 ∧ wx = wr.alloc (.cells #[.int .i64 D.exits[k].kind, .int .i64 D.exits[k].spec.f, .int .i64 D.exits[k].spec.pc, .int .i64 D.exits[k].spec.seen, .int .i64 D.exits[k].spec.target, .slice (some ⟨x0, 0, none⟩) (0 + 1) (0 + 1), .slice (some ⟨x1, 0, none⟩) D.exits[k].recs.length D.exits[k].recs.length] 101)) (fun _ _ _ => 0)
   case atStart => exact ⟨rfl, rfl, rfl⟩
   case round =>
    obtain ⟨rfl, rfl, rfl⟩ := hrel
    have hown2 := World.ownsRow.alloc hown (.cells #[.int .i64 D.exits[k].kind, .int .i64 D.exits[k].spec.f, .int .i64 D.exits[k].spec.pc, .int .i64 D.exits[k].spec.seen, .int .i64 D.exits[k].spec.target, .slice (some ⟨x0, 0, none⟩) (0 + 1) (0 + 1), .slice (some ⟨x1, 0, none⟩) D.exits[k].recs.length D.exits[k].recs.length] 101)
    have HB2 := hidl (HB.out.alloc HB.out.size (.cells #[.int .i64 D.exits[k].kind, .int .i64 D.exits[k].spec.f, .int .i64 D.exits[k].spec.pc, .int .i64 D.exits[k].spec.seen, .int .i64 D.exits[k].spec.target, .slice (some ⟨x0, 0, none⟩) (0 + 1) (0 + 1), .slice (some ⟨x1, 0, none⟩) D.exits[k].recs.length D.exits[k].recs.length] 101))
    clear hown
    go_wp2
    go_roundw
    case rel => exact ⟨k + 1, by omega, by go_num, ⟨xa, cap, by rw [HT2.out]⟩, by rw [HT2.out]; exact hown2, HB2⟩
    case measure => simp [intOf]; omega
  have h1r : 1 < r + 1 := by omega
  have hrm : r ≤ maxLen := by unfold maxLen; omega
  obtain ⟨wb, hwb⟩ : ∃ wb, wb = wr.alloc (.cells #[.int .i64 D.exits[k].kind, .int .i64 D.exits[k].spec.f, .int .i64 D.exits[k].spec.pc, .int .i64 D.exits[k].spec.seen, .int .i64 D.exits[k].spec.target, .slice (some ⟨x0, 0, none⟩) (r + 1) (r + 1), .slice (some ⟨x1, 0, none⟩) D.exits[k].recs.length D.exits[k].recs.length] 101) := ⟨_, rfl⟩
  have hownb : wb.ownsRow w.heap.size 3 1 (.slice xa (laidT D k).length cap) (laidT D k).length ((laidT D k).map (Value.int .i64)) := by rw [hwb]; exact World.ownsRow.alloc hown _
  have HBB : Hid (Below w.heap.size w wb) := by rw [hwb]; exact HB.out.alloc HB.out.size _
  have HD : Hid (∀ j, j < r → ∃ la lc sa sc, w.cell? ⟨x0, (j + 1) * 4, none⟩ = some (.int .i64 (((D.exits[k].frames.drop 1).map EF.fn).getD j 0)) ∧ (∃ pv, w.cell? ⟨x0, (j + 1) * 4 + 1, none⟩ = some (.int .i64 pv)) ∧ (∃ n1, w.cell? ⟨x0, (j + 1) * 4 + 2, none⟩ = some (.slice la n1 lc)) ∧ ∃ n2, w.cell? ⟨x0, (j + 1) * 4 + 3, none⟩ = some (.slice sa n2 sc)) := by
   intro j hj
   obtain ⟨b, off, la, lc, sa, sc, ha, -, q0, q1, q2, q3, -, -⟩ := p0 (j + 1) (by rw [HR.out]; omega)
   cases ha
   rw [Nat.zero_add] at q0 q1 q2 q3
   refine ⟨la, lc, sa, sc, ?_, ⟨_, q1⟩, ⟨_, q2⟩, _, q3⟩
   rw [q0]
   have := HR.out
   simp [List.getD, List.getElem?_eq_getElem (show j + 1 < D.exits[k].frames.length by omega)]
  have HEL : Hid (((D.exits[k].frames.drop 1).map EF.fn).length = r) := by show _ = _; simp [HR.out]
  go_wp2
  rw [← hwb]
  clear hwb f0 f1 f2 f3 f4 f5 f6 hown p0
  go_loopw [5, 25] (fun q i wx => ∃ (j : Nat), j ≤ r ∧ i = .int .i64 j ∧ (∃ ya yc, q = .slice ya (laidT D k ++ (laidE D.exits[k]).take j).length yc) ∧ wx.ownsRow w.heap.size 3 1 q (laidT D k ++ (laidE D.exits[k]).take j).length ((laidT D k ++ (laidE D.exits[k]).take j).map (Value.int .i64)) ∧ Hid (Below w.heap.size w wx)) (fun _ i _ => r - (intOf i).toNat)
  case atStart => exact ⟨0, by omega, rfl, ⟨xa, cap, by simp⟩, by simpa using hownb, HBB⟩
  case round =>
   obtain ⟨j, hj, rfl, ⟨ya, yc, rfl⟩, hown, HB2⟩ := hrel
   clear hownb
   by_cases hjl : j < r
   case neg =>
    obtain rfl : j = r := by omega
    have HT2 : Hid (laidT D (k + 1) = laidT D k ++ (laidE D.exits[k]).take j) := by
     show _ = _
     rw [HT.out, List.take_of_length_le (by rw [HE.out, HEL.out]; omega)]
    have z3 : ¬ (j : Int) < (j : Int) := by omega
    go_wp2
    go_roundw
    case rel => exact ⟨k + 1, by omega, by go_num, ⟨ya, yc, by rw [HT2.out]⟩, by rw [HT2.out]; exact hown, HB2⟩
    case measure => simp [intOf]; omega
   have zj : (j : Int) < (r : Int) := by omega
   obtain ⟨la, lc, sa, sc, q0, ⟨pv, q1⟩, ⟨n1, q2⟩, n2, q3⟩ := HD.out j hjl
   obtain ⟨fv, hfv⟩ : ∃ fv, fv = ((D.exits[k].frames.drop 1).map EF.fn).getD j 0 := ⟨_, rfl⟩
   rw [← hfv] at q0
   have HT2 : Hid ((laidE D.exits[k]).take (j + 1) = (laidE D.exits[k]).take j ++ [fv]) := by
    show _ = _
    have hjj : j < (laidE D.exits[k]).length := by rw [HE.out, HEL.out]; exact hjl
    rw [List.take_succ_eq_append_getElem hjj, hfv]
    congr 2
    rw [List.getD_eq_getElem?_getD, List.getElem?_eq_getElem (by rw [HEL.out]; exact hjl)]
    rfl
   have HLN : Hid ((laidT D k ++ (laidE D.exits[k]).take j).length ≤ 8000) := by
    have h1 := HLK.out
    show _ ≤ _
    rw [List.length_append, List.length_take]
    omega
   obtain ⟨Pl, hPl⟩ : ∃ Pl, Pl = laidT D k ++ (laidE D.exits[k]).take j := ⟨_, rfl⟩
   have HT3 : Hid (laidT D k ++ (laidE D.exits[k]).take (j + 1) = Pl ++ [fv]) := by show _ = _; rw [HT2.out, hPl, List.append_assoc]
   rw [← hPl] at hown HLN ⊢
   clear hPl HT2
   have q0' := cell_later HB2.out q0
   have q1' := cell_later HB2.out q1
   have q2' := cell_later HB2.out q2
   have q3' := cell_later HB2.out q3
   have e4 : (j + 1) * 4 = 1 * 4 + j * 4 := by omega
   rw [e4] at q0' q1' q2' q3'
   clear q0 q1 q2 q3 hfv e4
   obtain ⟨wx, hwx⟩ : ∃ wx, wx = wr.alloc (.cells #[.int .i64 fv, .int .i64 pv, .slice la n1 lc, .slice sa n2 sc] 114) := ⟨_, rfl⟩
   have hownx : wx.ownsRow w.heap.size 3 1 (.slice ya Pl.length yc) Pl.length (Pl.map (Value.int .i64)) := by rw [hwx]; exact World.ownsRow.alloc hown _
   have HBX : Hid (Below w.heap.size w wx) := by rw [hwx]; exact HB2.out.alloc HB2.out.size _
   have zx : wx.cell? ⟨wr.heap.size, 0, none⟩ = some (.int .i64 fv) := by rw [hwx]; exact cell_new _ _ _ 0
   have hlx : wr.heap.size < wx.heap.size := by rw [hwx]; simp
   have hln := HLN.out
   have hszr := HBX.out.size
   go_upto_region 10 with fail
   rw [← hwx]
   clear hwx q0' q1' q2' q3' hown HB2
   go_wp2_with (first | (at_builtin; refine wpList_append_lies _ rfl _ _ 50 rfl w.heap.size 3 i0 (.int .i64 0) 1 8 Tryz.underlying50 hi hz0 hz1 hz2 rfl (by decide) _ _ _ rfl (World.ownsRow.alloc hownx _) ⟨wx.heap.size, 0, none⟩ 1 1 [.int .i64 fv] rfl rfl (cell_one_new _ _ _) (by intro u hu; simp at hu; subst hu; rfl) (by decide) (by unfold maxLen; omega) (by omega) (by simp; omega) _ rfl ?_; intro g1 cap1 w1 hown1 hgrow1 hat1 hlt1))
   have hk1 := Keeps.grown (ts := [3]) (World.ownsRow.alloc hownx _) hgrow1 (by simp)
   have HB1 : Hid (Below w.heap.size w w1) := (HBX.out.alloc HBX.out.size _).trans (hk1.toBelow (by simp; omega))
   go_roundw
   case rel => exact ⟨j + 1, by omega, by go_num, ⟨some ⟨g1, 0, none⟩, cap1, by rw [HT3.out]; simp⟩, by rw [HT3.out]; simpa using hown1, HB1⟩
   case measure => simp [intOf]; omega
end Go.Proofs.YtbjmgmmekmfjhaaGreatDoor
