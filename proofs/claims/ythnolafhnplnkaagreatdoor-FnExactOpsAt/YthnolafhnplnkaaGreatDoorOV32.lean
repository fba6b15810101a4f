/-
The look at code (the program): what a field of an op names, and its constant.
-/
import Derived.Test.YthnolafhnplnkaaGreatDoorOV31
import Derived.Test.YthnolafhnplnkaaGreatDoorOV4
set_option maxRecDepth 100000
namespace Go.Proofs.YthnolafhnplnkaaGreatDoor
open Go.RowKit
def lookCells (a1 a2 oa ea : Option Addr) (nt c1 c2 oc ec G nf : Nat) (D : FastD) : Array Value :=
 #[.slice a1 nt c1, .slice a2 nf c2, .slice (some ⟨G, 0, none⟩) nf nf, .int .i64 D.fn, .int .i64 D.entry, .int .i64 D.vals, .int .i64 D.nums, .slice oa D.ops.length oc, .slice ea D.exits.length ec, .slice a2 nf c2, .slice oa D.ops.length oc, .slice ea D.exits.length ec]
structure Look (fs : List Fn) (D : FastD) (a1 a2 oa ea : Option Addr) (nt c1 c2 oc ec G base K : Nat) (w : World) : Prop where
 blk : w.heap[K]? = some (Obj.cells (lookCells a1 a2 oa ea nt c1 c2 oc ec G fs.length D) 109 (0, 0))
 fns : FnsAt w 0 a2 fs
 hts : Hs w base G fs.length fs
 ops : FosAt w 0 oa D.ops
 exits : ExsAt w 0 ea D.exits
 shp : ShAt w
structure Lim (fs : List Fn) (D : FastD) : Prop where
 nf : fs.length ≤ 1048576
 code : ∀ f ∈ fs, f.code.length ≤ 1048576
 fast : FastSmall D
 fine : ∀ k (hk : k < fs.length), Fine fs fs[k].code
section
variable {fs : List Fn} {D : FastD} {a1 a2 oa ea : Option Addr} {nt c1 c2 oc ec G base K : Nat} {w : World}
theorem Look.mono {w' : World} (h : Look fs D a1 a2 oa ea nt c1 c2 oc ec G base K w) (hb : Below w.heap.size w w') : Look fs D a1 a2 oa ea nt c1 c2 oc ec G base K w' :=
 ⟨block_kept h.blk hb, h.fns.mono hb, h.hts.mono hb, h.ops.mono hb, h.exits.mono hb, h.shp.mono hb⟩
theorem Look.cells (h : Look fs D a1 a2 oa ea nt c1 c2 oc ec G base K w) (i : Nat) : w.cell? ⟨K, i, none⟩ = (#[.slice a1 nt c1, .slice a2 fs.length c2, .slice (some ⟨G, 0, none⟩) fs.length fs.length, .int .i64 D.fn, .int .i64 D.entry, .int .i64 D.vals, .int .i64 D.nums, .slice oa D.ops.length oc, .slice ea D.exits.length ec, .slice a2 fs.length c2, .slice oa D.ops.length oc, .slice ea D.exits.length ec] : Array Value)[i]? := block_cell h.blk i
set_option maxHeartbeats 1000000 in
theorem part0_any (at' n : Int) (h : Look fs D a1 a2 oa ea nt c1 c2 oc ec G base K w) :
  Calls Tryz.prog 121 #[.pointer (some ⟨K, 0, none⟩), .int .i64 at', .int .i64 0, .int .i64 n] w fun e w' => e = .returned (.bool (pB (PartP fs.length D at' 0 n))) ∧ Below w.heap.size w w' := by
 have c := h.cells
 by_cases hn : n = 0
 ·
  subst hn
  go_enter Tryz.func121, Tryz.ntmps121
  go_wp2
  go_ret
  exact ⟨ret_bool (pB_yes (show (0 : Int) = 0 from rfl)).symm, Below.refl _ _⟩
 ·
  have hn' : (n == 0) = false := by simpa using hn
  have HN : Hid (¬ n = 0) := hn
  clear hn
  go_enter Tryz.func121, Tryz.ntmps121
  go_wp2
  go_ret
  exact ⟨ret_bool (pB_no (show ¬ n = 0 from HN.out)).symm, Below.refl _ _⟩
set_option maxHeartbeats 1000000 in
theorem part1_any (at' n : Int) (h : Look fs D a1 a2 oa ea nt c1 c2 oc ec G base K w) :
  Calls Tryz.prog 121 #[.pointer (some ⟨K, 0, none⟩), .int .i64 at', .int .i64 1, .int .i64 n] w fun e w' => e = .returned (.bool (pB (PartP fs.length D at' 1 n))) ∧ Below w.heap.size w w' := by
 have c := h.cells
 go_enter Tryz.func121, Tryz.ntmps121
 go_wp2_with (go_at_call 147; refine (isInV_any _ _ _ _ D _ _).mono ?_; rintro e w1 ⟨rfl, hb⟩)
 go_ret
 exact ⟨rfl, hb⟩
set_option maxHeartbeats 1000000 in
theorem part2_any (at' n : Int) (h : Look fs D a1 a2 oa ea nt c1 c2 oc ec G base K w) :
  Calls Tryz.prog 121 #[.pointer (some ⟨K, 0, none⟩), .int .i64 at', .int .i64 2, .int .i64 n] w fun e w' => e = .returned (.bool (pB (PartP fs.length D at' 2 n))) ∧ Below w.heap.size w w' := by
 have c := h.cells
 go_enter Tryz.func121, Tryz.ntmps121
 go_wp2_with (go_at_call 148; refine (isInN_any _ _ _ _ D _ _).mono ?_; rintro e w1 ⟨rfl, hb⟩)
 go_ret
 exact ⟨rfl, hb⟩
set_option maxHeartbeats 1000000 in
theorem part3_any (at' n : Int) (h : Look fs D a1 a2 oa ea nt c1 c2 oc ec G base K w) :
  Calls Tryz.prog 121 #[.pointer (some ⟨K, 0, none⟩), .int .i64 at', .int .i64 3, .int .i64 n] w fun e w' => e = .returned (.bool (pB (PartP fs.length D at' 3 n))) ∧ Below w.heap.size w w' := by
 have c := h.cells
 go_enter Tryz.func121, Tryz.ntmps121
 go_wp2_with (go_at_call 78; refine (iBetween_any _ _ _ _).mono ?_; rintro e w1 ⟨rfl, hw⟩; rw [hw]; clear hw w1)
 go_ret
 exact ⟨rfl, Below.refl _ _⟩
set_option maxHeartbeats 1000000 in
theorem part4_any (at' n : Int) (h : Look fs D a1 a2 oa ea nt c1 c2 oc ec G base K w) :
  Calls Tryz.prog 121 #[.pointer (some ⟨K, 0, none⟩), .int .i64 at', .int .i64 4, .int .i64 n] w fun e w' => e = .returned (.bool (pB (PartP fs.length D at' 4 n))) ∧ Below w.heap.size w w' := by
 have c := h.cells
 go_enter Tryz.func121, Tryz.ntmps121
 go_wp2_with (go_at_call 78; refine (iBetween_any _ _ _ _).mono ?_; rintro e w1 ⟨rfl, hw⟩; rw [hw]; clear hw w1)
 go_ret
 exact ⟨rfl, Below.refl _ _⟩
set_option maxHeartbeats 1000000 in
theorem part5_any (at' n : Int) (h : Look fs D a1 a2 oa ea nt c1 c2 oc ec G base K w) :
  Calls Tryz.prog 121 #[.pointer (some ⟨K, 0, none⟩), .int .i64 at', .int .i64 5, .int .i64 n] w fun e w' => e = .returned (.bool (pB (PartP fs.length D at' 5 n))) ∧ Below w.heap.size w w' := by
 have c := h.cells
 go_enter Tryz.func121, Tryz.ntmps121
 go_wp2_with (go_at_call 73; refine (hasFunc_any _ _ _ _ _).mono ?_; rintro e w1 ⟨rfl, hw⟩; rw [hw]; clear hw w1)
 go_ret
 exact ⟨rfl, Below.refl _ _⟩
set_option maxHeartbeats 1000000 in
theorem part7_any (at' n : Int) (h : Look fs D a1 a2 oa ea nt c1 c2 oc ec G base K w) :
  Calls Tryz.prog 121 #[.pointer (some ⟨K, 0, none⟩), .int .i64 at', .int .i64 7, .int .i64 n] w fun e w' => e = .returned (.bool (pB (PartP fs.length D at' 7 n))) ∧ Below w.heap.size w w' := by
 have c := h.cells
 go_enter Tryz.func121, Tryz.ntmps121
 go_wp2_with (go_at_call 78; refine (iBetween_any _ _ _ _).mono ?_; rintro e w1 ⟨rfl, hw⟩; rw [hw]; clear hw w1)
 go_ret
 exact ⟨rfl, Below.refl _ _⟩
set_option maxHeartbeats 1000000 in
theorem part8_any (at' n : Int) (h : Look fs D a1 a2 oa ea nt c1 c2 oc ec G base K w) :
  Calls Tryz.prog 121 #[.pointer (some ⟨K, 0, none⟩), .int .i64 at', .int .i64 8, .int .i64 n] w fun e w' => e = .returned (.bool (pB (PartP fs.length D at' 8 n))) ∧ Below w.heap.size w w' := by
 have c := h.cells
 go_enter Tryz.func121, Tryz.ntmps121
 go_wp2_with (go_at_call 150; refine (hasExit_any _ _ _ _ _).mono ?_; rintro e w1 ⟨rfl, hw⟩; rw [hw]; clear hw w1)
 go_ret
 exact ⟨rfl, Below.refl _ _⟩
set_option maxHeartbeats 1000000 in
theorem part6_any (at' n : Int) (h : Look fs D a1 a2 oa ea nt c1 c2 oc ec G base K w) :
  Calls Tryz.prog 121 #[.pointer (some ⟨K, 0, none⟩), .int .i64 at', .int .i64 6, .int .i64 n] w fun e w' => e = .returned (.bool (pB (PartP fs.length D at' 6 n))) ∧ Below w.heap.size w w' := by
 have c := h.cells
 by_cases hr : Reg n D.ops.length
 case neg =>
  have HB : pB (Reg n D.ops.length) = false := pB_no hr
  have HR : Hid (¬ Reg n D.ops.length) := hr
  clear hr
  go_enter Tryz.func121, Tryz.ntmps121
  go_wp2_with (go_at_call 149; refine (hasFOp_any _ _ _ _ _).mono ?_; rintro e w1 ⟨rfl, hw⟩; rw [hw, HB]; clear hw w1)
  go_ret
  exact ⟨ret_bool (pB_no (fun q => HR.out ⟨q.1, by obtain ⟨q1, q2, -⟩ := q; omega⟩)).symm, Below.refl _ _⟩
 have HB : pB (Reg n D.ops.length) = true := pB_yes hr
 obtain ⟨i, rfl⟩ : ∃ i : Nat, n = i := ⟨n.toNat, by have := hr.1; omega⟩
 have hi : i < D.ops.length := by have := hr.2; omega
 clear hr
 obtain ⟨b, off, rfl, -, d0, -⟩ := h.ops i hi
 by_cases ha : at' < (i : Int)
 case pos =>
  go_enter Tryz.func121, Tryz.ntmps121
  go_wp2_with (go_at_call 149; refine (hasFOp_any _ _ _ _ _).mono ?_; rintro e w1 ⟨rfl, hw⟩; rw [hw, HB]; clear hw w1)
  go_ret
  exact ⟨ret_bool (pB_yes ⟨by omega, by simpa using hi, .inl ha⟩).symm, Below.refl _ _⟩
 by_cases ho : D.ops[i].op = 25
 case pos =>
  rw [ho] at d0
  have HO : Hid (D.ops[i].op = 25) := ho
  clear ho
  go_enter Tryz.func121, Tryz.ntmps121
  go_wp2_with (go_at_call 149; refine (hasFOp_any _ _ _ _ _).mono ?_; rintro e w1 ⟨rfl, hw⟩; rw [hw, HB]; clear hw w1)
  go_ret
  exact ⟨ret_bool (pB_yes ⟨by omega, by simpa using hi, .inr (by simpa using HO.out)⟩).symm, Below.refl _ _⟩
 case neg =>
  have ho' : (D.ops[i].op == 25) = false := by simpa using ho
  have HO : Hid (¬ D.ops[i].op = 25) := ho
  clear ho
  go_enter Tryz.func121, Tryz.ntmps121
  go_wp2_with (go_at_call 149; refine (hasFOp_any _ _ _ _ _).mono ?_; rintro e w1 ⟨rfl, hw⟩; rw [hw, HB]; clear hw w1)
  go_ret
  refine ⟨ret_pB ⟨fun q => absurd (of_decide_eq_true q) (by omega), fun q => ?_⟩, Below.refl _ _⟩
  obtain ⟨_, _, q | q⟩ := q
  · exact decide_eq_true q
  · exact absurd (by simpa using q) HO.out
theorem partOk_any (at' n : Int) (p : Nat) (hp : p ≤ 8) (h : Look fs D a1 a2 oa ea nt c1 c2 oc ec G base K w) :
  Calls Tryz.prog 121 #[.pointer (some ⟨K, 0, none⟩), .int .i64 at', .int .i64 (p : Nat), .int .i64 n] w fun e w' => e = .returned (.bool (pB (PartP fs.length D at' p n))) ∧ Below w.heap.size w w' := by
 match p, hp with
 | 0, _ => exact part0_any at' n h
 | 1, _ => exact part1_any at' n h
 | 2, _ => exact part2_any at' n h
 | 3, _ => exact part3_any at' n h
 | 4, _ => exact part4_any at' n h
 | 5, _ => exact part5_any at' n h
 | 6, _ => exact part6_any at' n h
 | 7, _ => exact part7_any at' n h
 | 8, _ => exact part8_any at' n h
set_option maxHeartbeats 1000000 in
theorem const1_any (v : Vl) (hs : v.s.size ≤ 1048576) (h : Look fs D a1 a2 oa ea nt c1 c2 oc ec G base K w) :
  Calls Tryz.prog 122 #[.pointer (some ⟨K, 0, none⟩), .int .i64 1, .agg #[.int .i64 v.k, .int .i64 v.n, .string v.s]] w fun e w' => e = .returned (.bool (pB (ConstP fs.length 1 v))) ∧ Below w.heap.size w w' := by
 obtain ⟨wA, hwA⟩ : ∃ wA, wA = w.alloc (.cells #[.int .i64 v.k, .int .i64 v.n, .string v.s] 56) := ⟨_, rfl⟩
 have hbA : Below w.heap.size w wA := by rw [hwA]; exact (Below.refl _ _).alloc (Nat.le_refl _) _
 have hV : wA.heap[w.heap.size]? = some (.cells #[.int .i64 v.k, .int .i64 v.n, .string v.s] 56 (0, 0)) := by rw [hwA]; exact block_new _ _ _
 have hk := h.mono hbA
 have v0 := block_cell hV
 have c := hk.cells
 go_enter Tryz.func122, Tryz.ntmps122
 go_upto_region 3 with fail
 rw [← hwA]
 clear hwA
 have HS : Hid (∀ w', Below wA.heap.size wA w' → w'.cell? ⟨K, 0, none⟩ = some (.slice a1 nt c1) ∧ w'.cell? ⟨K, 1, none⟩ = some (.slice a2 fs.length c2) ∧ w'.cell? ⟨w.heap.size, 0, none⟩ = some (.int .i64 v.k) ∧ w'.cell? ⟨w.heap.size, 1, none⟩ = some (.int .i64 v.n) ∧ w'.cell? ⟨w.heap.size, 2, none⟩ = some (.string v.s)) := fun w' q => ⟨(hk.mono q).cells 0, (hk.mono q).cells 1, block_cell (block_kept hV q) 0, block_cell (block_kept hV q) 1, block_cell (block_kept hV q) 2⟩
 have HB : Hid (Below w.heap.size w wA) := hbA
 clear hbA hk v0 c h hV
 refine wp_below (by kernel_rfl) (by kernel_rfl) ?_
 iterate 5
  refine q_want (v := ?_) (by kernel_rfl) ?_ ?_
  rotate_left
  ·
   intro w' hC
   obtain ⟨j0, j1, j2, j3, j4⟩ := HS.out w' hC
   go_simp
   try with_reducible rfl
  try simp only [Act.put, sAr, sZe, sSu]
 refine q_want (v := .bool (valB v.k v.n v.s fs.length 0)) (by kernel_rfl) ?_ ?_
 ·
  intro w' hC
  go_simp
  refine (iIn_any v.k v.n v.s 0 _ _ _ _ fs.length _ _ hs).mono ?_
  rintro e w'' ⟨rfl, hb2⟩
  exact ⟨rfl, hC.trans (hb2.mono hC.size)⟩
 try simp only [Act.put, sAr, sZe, sSu]
 refine q_want (v := ?_) (by kernel_rfl) ?_ ?_
 rotate_left
 ·
  intro w' hC
  obtain ⟨j0, j1, j2, j3, j4⟩ := HS.out w' hC
  go_simp
  try with_reducible rfl
 try simp only [Act.put, sAr, sZe, sSu]
 refine wpQuiet_nil ?_
 intro w2 q2
 go_wp2
 go_ret
 exact ⟨ret_pB Iff.rfl, HB.out.trans (q2.mono HB.out.size)⟩
set_option maxHeartbeats 1000000 in
theorem const2_any (v : Vl) (hs : v.s.size ≤ 1048576) (h : Look fs D a1 a2 oa ea nt c1 c2 oc ec G base K w) :
  Calls Tryz.prog 122 #[.pointer (some ⟨K, 0, none⟩), .int .i64 2, .agg #[.int .i64 v.k, .int .i64 v.n, .string v.s]] w fun e w' => e = .returned (.bool (pB (ConstP fs.length 2 v))) ∧ Below w.heap.size w w' := by
 obtain ⟨wA, hwA⟩ : ∃ wA, wA = w.alloc (.cells #[.int .i64 v.k, .int .i64 v.n, .string v.s] 56) := ⟨_, rfl⟩
 have hbA : Below w.heap.size w wA := by rw [hwA]; exact (Below.refl _ _).alloc (Nat.le_refl _) _
 have hV : wA.heap[w.heap.size]? = some (.cells #[.int .i64 v.k, .int .i64 v.n, .string v.s] 56 (0, 0)) := by rw [hwA]; exact block_new _ _ _
 have hk := h.mono hbA
 have v0 := block_cell hV
 have c := hk.cells
 by_cases hk1 : v.k = 1
 case neg =>
  have hk2 : (v.k == 1) = false := by simpa using hk1
  have HK : Hid (¬ v.k = 1) := hk1
  clear hk1
  go_enter Tryz.func122, Tryz.ntmps122
  go_upto_region 5 with fail
  rw [← hwA]
  clear hwA
  have HS : Hid (∀ w', Below wA.heap.size wA w' → w'.cell? ⟨K, 0, none⟩ = some (.slice a1 nt c1) ∧ w'.cell? ⟨K, 1, none⟩ = some (.slice a2 fs.length c2) ∧ w'.cell? ⟨w.heap.size, 0, none⟩ = some (.int .i64 v.k) ∧ w'.cell? ⟨w.heap.size, 1, none⟩ = some (.int .i64 v.n) ∧ w'.cell? ⟨w.heap.size, 2, none⟩ = some (.string v.s)) := fun w' q => ⟨(hk.mono q).cells 0, (hk.mono q).cells 1, block_cell (block_kept hV q) 0, block_cell (block_kept hV q) 1, block_cell (block_kept hV q) 2⟩
  have HB : Hid (Below w.heap.size w wA) := hbA
  clear hbA hk v0 c h hV
  refine wp_below (by kernel_rfl) (by kernel_rfl) ?_
  iterate 4
   refine q_want (v := ?_) (by kernel_rfl) ?_ ?_
   rotate_left
   ·
    intro w' hC
    obtain ⟨j0, j1, j2, j3, j4⟩ := HS.out w' hC
    go_simp
    try with_reducible rfl
   try simp only [Act.put, sAr, sZe, sSu]
  iterate 6 go_big_quiet_skip
  iterate 2
   refine q_want (v := ?_) (by kernel_rfl) ?_ ?_
   rotate_left
   ·
    intro w' hC
    obtain ⟨j0, j1, j2, j3, j4⟩ := HS.out w' hC
    go_simp
    try with_reducible rfl
   try simp only [Act.put, sAr, sZe, sSu]
  refine wpQuiet_nil ?_
  intro w2 q2
  go_wp2
  go_ret
  exact ⟨ret_bool (pB_no (fun q => HK.out q.1)).symm, HB.out.trans (q2.mono HB.out.size)⟩
 have hk2 : (v.k == 1) = true := by simpa using hk1
 have HK : Hid (v.k = 1) := hk1
 clear hk1
 go_enter Tryz.func122, Tryz.ntmps122
 go_upto_region 5 with fail
 rw [← hwA]
 clear hwA
 have HS : Hid (∀ w', Below wA.heap.size wA w' → w'.cell? ⟨K, 0, none⟩ = some (.slice a1 nt c1) ∧ w'.cell? ⟨K, 1, none⟩ = some (.slice a2 fs.length c2) ∧ w'.cell? ⟨w.heap.size, 0, none⟩ = some (.int .i64 v.k) ∧ w'.cell? ⟨w.heap.size, 1, none⟩ = some (.int .i64 v.n) ∧ w'.cell? ⟨w.heap.size, 2, none⟩ = some (.string v.s)) := fun w' q => ⟨(hk.mono q).cells 0, (hk.mono q).cells 1, block_cell (block_kept hV q) 0, block_cell (block_kept hV q) 1, block_cell (block_kept hV q) 2⟩
 have HB : Hid (Below w.heap.size w wA) := hbA
 clear hbA hk v0 c h hV
 refine wp_below (by kernel_rfl) (by kernel_rfl) ?_
 iterate 9
  refine q_want (v := ?_) (by kernel_rfl) ?_ ?_
  rotate_left
  ·
   intro w' hC
   obtain ⟨j0, j1, j2, j3, j4⟩ := HS.out w' hC
   go_simp
   try with_reducible rfl
  try simp only [Act.put, sAr, sZe, sSu]
 refine q_want (v := .bool (valB v.k v.n v.s fs.length 0)) (by kernel_rfl) ?_ ?_
 ·
  intro w' hC
  go_simp
  refine (iIn_any v.k v.n v.s 0 _ _ _ _ fs.length _ _ hs).mono ?_
  rintro e w'' ⟨rfl, hb2⟩
  exact ⟨rfl, hC.trans (hb2.mono hC.size)⟩
 try simp only [Act.put, sAr, sZe, sSu]
 iterate 2
  refine q_want (v := ?_) (by kernel_rfl) ?_ ?_
  rotate_left
  ·
   intro w' hC
   obtain ⟨j0, j1, j2, j3, j4⟩ := HS.out w' hC
   go_simp
   try with_reducible rfl
  try simp only [Act.put, sAr, sZe, sSu]
 refine wpQuiet_nil ?_
 intro w2 q2
 go_wp2
 go_ret
 exact ⟨ret_pB ⟨fun q => ⟨HK.out, q⟩, fun q => q.2⟩, HB.out.trans (q2.mono HB.out.size)⟩
set_option maxHeartbeats 1000000 in
theorem constO_any (v : Vl) (h : Look fs D a1 a2 oa ea nt c1 c2 oc ec G base K w) (p : Nat) (hp1 : p ≠ 1) (hp2 : p ≠ 2) :
  Calls Tryz.prog 122 #[.pointer (some ⟨K, 0, none⟩), .int .i64 (p : Nat), .agg #[.int .i64 v.k, .int .i64 v.n, .string v.s]] w fun e w' => e = .returned (.bool (pB (ConstP fs.length p v))) ∧ Below w.heap.size w w' := by
 obtain ⟨wA, hwA⟩ : ∃ wA, wA = w.alloc (.cells #[.int .i64 v.k, .int .i64 v.n, .string v.s] 56) := ⟨_, rfl⟩
 have hbA : Below w.heap.size w wA := by rw [hwA]; exact (Below.refl _ _).alloc (Nat.le_refl _) _
 have hV : wA.heap[w.heap.size]? = some (.cells #[.int .i64 v.k, .int .i64 v.n, .string v.s] 56 (0, 0)) := by rw [hwA]; exact block_new _ _ _
 have hk := h.mono hbA
 have v0 := block_cell hV
 have c := hk.cells
 have g36 := guard36
 have e36 := eqIn36 v zeroV
 have HP : Hid (ConstP fs.length p v ↔ v = zeroV) := by
  match p, hp1, hp2 with
  | 0, _, _ => exact Iff.rfl
  | p + 3, _, _ => exact Iff.rfl
 have q1 : ((p : Int) == 1) = false := by simp; omega
 have q2 : ((p : Int) == 2) = false := by simp; omega
 have q1' : ¬ (p : Int) = 1 := by omega
 have q2' : ¬ (p : Int) = 2 := by omega
 unfold zeroV at e36
 dsimp only at e36
 have HB : Hid (Below w.heap.size w wA) := hbA
 clear hbA h hp1 hp2
 go_enter Tryz.func122, Tryz.ntmps122
 go_upto_region 6 with fail
 rw [← hwA]
 clear hwA
 go_wp2
 go_ret
 refine ⟨ret_pB ?_, HB.out⟩
 rw [HP.out]
 simp [pB, zeroV]
theorem constantOk_any (v : Vl) (p : Nat) (hs : v.s.size ≤ 1048576) (h : Look fs D a1 a2 oa ea nt c1 c2 oc ec G base K w) :
  Calls Tryz.prog 122 #[.pointer (some ⟨K, 0, none⟩), .int .i64 (p : Nat), .agg #[.int .i64 v.k, .int .i64 v.n, .string v.s]] w fun e w' => e = .returned (.bool (pB (ConstP fs.length p v))) ∧ Below w.heap.size w w' := by
 match p with
 | 0 => exact constO_any v h 0 (by decide) (by decide)
 | 1 => exact const1_any v hs h
 | 2 => exact const2_any v hs h
 | p + 3 => exact constO_any v h (p + 3) (by omega) (by omega)
end
end Go.Proofs.YthnolafhnplnkaaGreatDoor
