/-
The look at code (the program): what a field of an op names, and its constant.
The look at code (the program): an op.
-/
import Derived.Test.YtoimokjohmhnaaaGreatDoorHJ
import Derived.Test.YtoimokjohmhnaaaGreatDoorHK1
import Derived.Test.YtoimokjohmhnaaaGreatDoorHB
import Derived.Deep.RegionHeld3
import Derived.Deep.CutRange
namespace Go.Proofs.YtoimokjohmhnaaaGreatDoor
set_option maxRecDepth 100000
open Go.RowKit
def lookCells (a1 a2 oa ea : Option Addr) (nt c1 c2 oc ec G nf : Nat) (D : FastD) : Array Value :=
 #[.slice a1 nt c1, .slice a2 nf c2, .slice (some ⟨G, 0, none⟩) nf nf, .int .i64 D.fn, .int .i64 D.entry, .int .i64 D.vals, .int .i64 D.nums, .slice oa D.ops.length oc, .slice ea D.exits.length ec, .slice a2 nf c2, .slice oa D.ops.length oc, .slice ea D.exits.length ec]
structure Look (fs : List Fn) (D : FastD) (a1 a2 oa ea : Option Addr) (nt c1 c2 oc ec G base K : Nat) (w : World) : Prop where
 blk : w.heap[K]? = some (Obj.cells (lookCells a1 a2 oa ea nt c1 c2 oc ec G fs.length D) 100 (0, 0))
 fns : FnsAt w 0 a2 fs
 hts : Hs w base G fs.length fs
 ops : FosAt w 0 oa D.ops
 exits : ExsAt w 0 ea D.exits
 shp : ShAt w
structure Lim (fs : List Fn) (D : FastD) : Prop where
 nf : fs.length ≤ 1048576
 code : ∀ f ∈ fs, f.code.length ≤ 1048576
 fast : FastSmall D
 fine : ∀ k (hk : k < fs.length), Fine fs fs[k].code
section
variable {fs : List Fn} {D : FastD} {a1 a2 oa ea : Option Addr} {nt c1 c2 oc ec G base K : Nat} {w : World}
theorem Look.mono {w' : World} (h : Look fs D a1 a2 oa ea nt c1 c2 oc ec G base K w) (hb : Below w.heap.size w w') : Look fs D a1 a2 oa ea nt c1 c2 oc ec G base K w' :=
 ⟨block_kept h.blk hb, h.fns.mono hb, h.hts.mono hb, h.ops.mono hb, h.exits.mono hb, h.shp.mono hb⟩
theorem Look.cells (h : Look fs D a1 a2 oa ea nt c1 c2 oc ec G base K w) (i : Nat) : w.cell? ⟨K, i, none⟩ = (#[.slice a1 nt c1, .slice a2 fs.length c2, .slice (some ⟨G, 0, none⟩) fs.length fs.length, .int .i64 D.fn, .int .i64 D.entry, .int .i64 D.vals, .int .i64 D.nums, .slice oa D.ops.length oc, .slice ea D.exits.length ec, .slice a2 fs.length c2, .slice oa D.ops.length oc, .slice ea D.exits.length ec] : Array Value)[i]? := block_cell h.blk i
set_option maxHeartbeats 1000000 in
theorem part0_any (at' n : Int) (h : Look fs D a1 a2 oa ea nt c1 c2 oc ec G base K w) :
  Calls Tryz.prog 169 #[.pointer (some ⟨K, 0, none⟩), .int .i64 at', .int .i64 0, .int .i64 n] w fun e w' => e = .returned (.bool (pB (PartP fs.length D at' 0 n))) ∧ Below w.heap.size w w' := by
 have c := h.cells
 by_cases hn : n = 0
 ·
  subst hn
  go_enter Tryz.func169, Tryz.ntmps169
  go_wp2
  go_ret
  exact ⟨ret_bool (pB_yes (show (0 : Int) = 0 from rfl)).symm, Below.refl _ _⟩
 ·
  have hn' : (n == 0) = false := by simpa using hn
  have HN : Hid (¬ n = 0) := hn
  clear hn
  go_enter Tryz.func169, Tryz.ntmps169
  go_wp2
  go_ret
  exact ⟨ret_bool (pB_no (show ¬ n = 0 from HN.out)).symm, Below.refl _ _⟩
set_option maxHeartbeats 1000000 in
theorem part1_any (at' n : Int) (h : Look fs D a1 a2 oa ea nt c1 c2 oc ec G base K w) :
  Calls Tryz.prog 169 #[.pointer (some ⟨K, 0, none⟩), .int .i64 at', .int .i64 1, .int .i64 n] w fun e w' => e = .returned (.bool (pB (PartP fs.length D at' 1 n))) ∧ Below w.heap.size w w' := by
 have c := h.cells
 go_enter Tryz.func169, Tryz.ntmps169
 go_wp2_with (go_at_call 213; refine (isInV_any _ _ _ _ D _ _).mono ?_; rintro e w1 ⟨rfl, hb⟩)
 go_ret
 exact ⟨rfl, hb⟩
set_option maxHeartbeats 1000000 in
theorem part2_any (at' n : Int) (h : Look fs D a1 a2 oa ea nt c1 c2 oc ec G base K w) :
  Calls Tryz.prog 169 #[.pointer (some ⟨K, 0, none⟩), .int .i64 at', .int .i64 2, .int .i64 n] w fun e w' => e = .returned (.bool (pB (PartP fs.length D at' 2 n))) ∧ Below w.heap.size w w' := by
 have c := h.cells
 go_enter Tryz.func169, Tryz.ntmps169
 go_wp2_with (go_at_call 214; refine (isInN_any _ _ _ _ D _ _).mono ?_; rintro e w1 ⟨rfl, hb⟩)
 go_ret
 exact ⟨rfl, hb⟩
set_option maxHeartbeats 1000000 in
theorem part3_any (at' n : Int) (h : Look fs D a1 a2 oa ea nt c1 c2 oc ec G base K w) :
  Calls Tryz.prog 169 #[.pointer (some ⟨K, 0, none⟩), .int .i64 at', .int .i64 3, .int .i64 n] w fun e w' => e = .returned (.bool (pB (PartP fs.length D at' 3 n))) ∧ Below w.heap.size w w' := by
 have c := h.cells
 go_enter Tryz.func169, Tryz.ntmps169
 go_wp2_with (go_at_call 102; refine (iBetween_any _ _ _ _).mono ?_; rintro e w1 ⟨rfl, hw⟩; rw [hw]; clear hw w1)
 go_ret
 exact ⟨rfl, Below.refl _ _⟩
set_option maxHeartbeats 1000000 in
theorem part4_any (at' n : Int) (h : Look fs D a1 a2 oa ea nt c1 c2 oc ec G base K w) :
  Calls Tryz.prog 169 #[.pointer (some ⟨K, 0, none⟩), .int .i64 at', .int .i64 4, .int .i64 n] w fun e w' => e = .returned (.bool (pB (PartP fs.length D at' 4 n))) ∧ Below w.heap.size w w' := by
 have c := h.cells
 go_enter Tryz.func169, Tryz.ntmps169
 go_wp2_with (go_at_call 102; refine (iBetween_any _ _ _ _).mono ?_; rintro e w1 ⟨rfl, hw⟩; rw [hw]; clear hw w1)
 go_ret
 exact ⟨rfl, Below.refl _ _⟩
set_option maxHeartbeats 1000000 in
theorem part5_any (at' n : Int) (h : Look fs D a1 a2 oa ea nt c1 c2 oc ec G base K w) :
  Calls Tryz.prog 169 #[.pointer (some ⟨K, 0, none⟩), .int .i64 at', .int .i64 5, .int .i64 n] w fun e w' => e = .returned (.bool (pB (PartP fs.length D at' 5 n))) ∧ Below w.heap.size w w' := by
 have c := h.cells
 go_enter Tryz.func169, Tryz.ntmps169
 go_wp2_with (go_at_call 97; refine (hasFunc_any _ _ _ _ _).mono ?_; rintro e w1 ⟨rfl, hw⟩; rw [hw]; clear hw w1)
 go_ret
 exact ⟨rfl, Below.refl _ _⟩
set_option maxHeartbeats 1000000 in
theorem part7_any (at' n : Int) (h : Look fs D a1 a2 oa ea nt c1 c2 oc ec G base K w) :
  Calls Tryz.prog 169 #[.pointer (some ⟨K, 0, none⟩), .int .i64 at', .int .i64 7, .int .i64 n] w fun e w' => e = .returned (.bool (pB (PartP fs.length D at' 7 n))) ∧ Below w.heap.size w w' := by
 have c := h.cells
 go_enter Tryz.func169, Tryz.ntmps169
 go_wp2_with (go_at_call 102; refine (iBetween_any _ _ _ _).mono ?_; rintro e w1 ⟨rfl, hw⟩; rw [hw]; clear hw w1)
 go_ret
 exact ⟨rfl, Below.refl _ _⟩
set_option maxHeartbeats 1000000 in
theorem part8_any (at' n : Int) (h : Look fs D a1 a2 oa ea nt c1 c2 oc ec G base K w) :
  Calls Tryz.prog 169 #[.pointer (some ⟨K, 0, none⟩), .int .i64 at', .int .i64 8, .int .i64 n] w fun e w' => e = .returned (.bool (pB (PartP fs.length D at' 8 n))) ∧ Below w.heap.size w w' := by
 have c := h.cells
 go_enter Tryz.func169, Tryz.ntmps169
 go_wp2_with (go_at_call 114; refine (hasExit_any _ _ _ _ _).mono ?_; rintro e w1 ⟨rfl, hw⟩; rw [hw]; clear hw w1)
 go_ret
 exact ⟨rfl, Below.refl _ _⟩
set_option maxHeartbeats 1000000 in
theorem part6_any (at' n : Int) (h : Look fs D a1 a2 oa ea nt c1 c2 oc ec G base K w) :
  Calls Tryz.prog 169 #[.pointer (some ⟨K, 0, none⟩), .int .i64 at', .int .i64 6, .int .i64 n] w fun e w' => e = .returned (.bool (pB (PartP fs.length D at' 6 n))) ∧ Below w.heap.size w w' := by
 have c := h.cells
 by_cases hr : Reg n D.ops.length
 case neg =>
  have HB : pB (Reg n D.ops.length) = false := pB_no hr
  have HR : Hid (¬ Reg n D.ops.length) := hr
  clear hr
  go_enter Tryz.func169, Tryz.ntmps169
  go_wp2_with (go_at_call 215; refine (hasFOp_any _ _ _ _ _).mono ?_; rintro e w1 ⟨rfl, hw⟩; rw [hw, HB]; clear hw w1)
  go_ret
  exact ⟨ret_bool (pB_no (fun q => HR.out ⟨q.1, by obtain ⟨q1, q2, -⟩ := q; omega⟩)).symm, Below.refl _ _⟩
 have HB : pB (Reg n D.ops.length) = true := pB_yes hr
 obtain ⟨i, rfl⟩ : ∃ i : Nat, n = i := ⟨n.toNat, by have := hr.1; omega⟩
 have hi : i < D.ops.length := by have := hr.2; omega
 clear hr
 obtain ⟨b, off, rfl, -, d0, -⟩ := h.ops i hi
 by_cases ha : at' < (i : Int)
 case pos =>
  go_enter Tryz.func169, Tryz.ntmps169
  go_wp2_with (go_at_call 215; refine (hasFOp_any _ _ _ _ _).mono ?_; rintro e w1 ⟨rfl, hw⟩; rw [hw, HB]; clear hw w1)
  go_ret
  exact ⟨ret_bool (pB_yes ⟨by omega, by simpa using hi, .inl ha⟩).symm, Below.refl _ _⟩
 by_cases ho : D.ops[i].op = 25
 case pos =>
  rw [ho] at d0
  have HO : Hid (D.ops[i].op = 25) := ho
  clear ho
  go_enter Tryz.func169, Tryz.ntmps169
  go_wp2_with (go_at_call 215; refine (hasFOp_any _ _ _ _ _).mono ?_; rintro e w1 ⟨rfl, hw⟩; rw [hw, HB]; clear hw w1)
  go_ret
  exact ⟨ret_bool (pB_yes ⟨by omega, by simpa using hi, .inr (by simpa using HO.out)⟩).symm, Below.refl _ _⟩
 case neg =>
  have ho' : (D.ops[i].op == 25) = false := by simpa using ho
  have HO : Hid (¬ D.ops[i].op = 25) := ho
  clear ho
  go_enter Tryz.func169, Tryz.ntmps169
  go_wp2_with (go_at_call 215; refine (hasFOp_any _ _ _ _ _).mono ?_; rintro e w1 ⟨rfl, hw⟩; rw [hw, HB]; clear hw w1)
  go_ret
  refine ⟨ret_pB ⟨fun q => absurd (of_decide_eq_true q) (by omega), fun q => ?_⟩, Below.refl _ _⟩
  obtain ⟨_, _, q | q⟩ := q
  · exact decide_eq_true q
  · exact absurd (by simpa using q) HO.out
theorem partOk_any (at' n : Int) (p : Nat) (hp : p ≤ 8) (h : Look fs D a1 a2 oa ea nt c1 c2 oc ec G base K w) :
  Calls Tryz.prog 169 #[.pointer (some ⟨K, 0, none⟩), .int .i64 at', .int .i64 (p : Nat), .int .i64 n] w fun e w' => e = .returned (.bool (pB (PartP fs.length D at' p n))) ∧ Below w.heap.size w w' := by
 match p, hp with
 | 0, _ => exact part0_any at' n h
 | 1, _ => exact part1_any at' n h
 | 2, _ => exact part2_any at' n h
 | 3, _ => exact part3_any at' n h
 | 4, _ => exact part4_any at' n h
 | 5, _ => exact part5_any at' n h
 | 6, _ => exact part6_any at' n h
 | 7, _ => exact part7_any at' n h
 | 8, _ => exact part8_any at' n h
set_option maxHeartbeats 1000000 in
theorem const1_any (v : Vl) (hs : v.s.size ≤ 1048576) (h : Look fs D a1 a2 oa ea nt c1 c2 oc ec G base K w) :
  Calls Tryz.prog 170 #[.pointer (some ⟨K, 0, none⟩), .int .i64 1, .agg #[.int .i64 v.k, .int .i64 v.n, .string v.s]] w fun e w' => e = .returned (.bool (pB (ConstP fs.length 1 v))) ∧ Below w.heap.size w w' := by
 obtain ⟨wA, hwA⟩ : ∃ wA, wA = w.alloc (.cells #[.int .i64 v.k, .int .i64 v.n, .string v.s] 76) := ⟨_, rfl⟩
 have hbA : Below w.heap.size w wA := by rw [hwA]; exact (Below.refl _ _).alloc (Nat.le_refl _) _
 have hV : wA.heap[w.heap.size]? = some (.cells #[.int .i64 v.k, .int .i64 v.n, .string v.s] 76 (0, 0)) := by rw [hwA]; exact block_new _ _ _
 have hk := h.mono hbA
 have v0 := block_cell hV
 have c := hk.cells
 go_enter Tryz.func170, Tryz.ntmps170
 go_upto_region 3 with fail
 rw [← hwA]
 clear hwA
 have HS : Hid (∀ w', Below wA.heap.size wA w' → w'.cell? ⟨K, 0, none⟩ = some (.slice a1 nt c1) ∧ w'.cell? ⟨K, 1, none⟩ = some (.slice a2 fs.length c2) ∧ w'.cell? ⟨w.heap.size, 0, none⟩ = some (.int .i64 v.k) ∧ w'.cell? ⟨w.heap.size, 1, none⟩ = some (.int .i64 v.n) ∧ w'.cell? ⟨w.heap.size, 2, none⟩ = some (.string v.s)) := fun w' q => ⟨(hk.mono q).cells 0, (hk.mono q).cells 1, block_cell (block_kept hV q) 0, block_cell (block_kept hV q) 1, block_cell (block_kept hV q) 2⟩
 have HB : Hid (Below w.heap.size w wA) := hbA
 clear hbA hk v0 c h hV
 refine wp_below (by kernel_rfl) (by kernel_rfl) ?_
 iterate 5
  refine q_want (v := ?_) (by kernel_rfl) ?_ ?_
  rotate_left
  ·
   intro w' hC
   obtain ⟨j0, j1, j2, j3, j4⟩ := HS.out w' hC
   go_simp
   try with_reducible rfl
  try simp only [Act.put, sAr, sZe, sSu]
 refine q_want (v := .bool (valB v.k v.n v.s fs.length 0)) (by kernel_rfl) ?_ ?_
 ·
  intro w' hC
  go_simp
  refine (iIn_any v.k v.n v.s 0 _ _ _ _ fs.length _ _ hs).mono ?_
  rintro e w'' ⟨rfl, hb2⟩
  exact ⟨rfl, hC.trans (hb2.mono hC.size)⟩
 try simp only [Act.put, sAr, sZe, sSu]
 refine q_want (v := ?_) (by kernel_rfl) ?_ ?_
 rotate_left
 ·
  intro w' hC
  obtain ⟨j0, j1, j2, j3, j4⟩ := HS.out w' hC
  go_simp
  try with_reducible rfl
 try simp only [Act.put, sAr, sZe, sSu]
 refine wpQuiet_nil ?_
 intro w2 q2
 go_wp2
 go_ret
 exact ⟨ret_pB Iff.rfl, HB.out.trans (q2.mono HB.out.size)⟩
set_option maxHeartbeats 1000000 in
theorem const2_any (v : Vl) (hs : v.s.size ≤ 1048576) (h : Look fs D a1 a2 oa ea nt c1 c2 oc ec G base K w) :
  Calls Tryz.prog 170 #[.pointer (some ⟨K, 0, none⟩), .int .i64 2, .agg #[.int .i64 v.k, .int .i64 v.n, .string v.s]] w fun e w' => e = .returned (.bool (pB (ConstP fs.length 2 v))) ∧ Below w.heap.size w w' := by
 obtain ⟨wA, hwA⟩ : ∃ wA, wA = w.alloc (.cells #[.int .i64 v.k, .int .i64 v.n, .string v.s] 76) := ⟨_, rfl⟩
 have hbA : Below w.heap.size w wA := by rw [hwA]; exact (Below.refl _ _).alloc (Nat.le_refl _) _
 have hV : wA.heap[w.heap.size]? = some (.cells #[.int .i64 v.k, .int .i64 v.n, .string v.s] 76 (0, 0)) := by rw [hwA]; exact block_new _ _ _
 have hk := h.mono hbA
 have v0 := block_cell hV
 have c := hk.cells
 by_cases hk1 : v.k = 1
 case neg =>
  have hk2 : (v.k == 1) = false := by simpa using hk1
  have HK : Hid (¬ v.k = 1) := hk1
  clear hk1
  go_enter Tryz.func170, Tryz.ntmps170
  go_upto_region 5 with fail
  rw [← hwA]
  clear hwA
  have HS : Hid (∀ w', Below wA.heap.size wA w' → w'.cell? ⟨K, 0, none⟩ = some (.slice a1 nt c1) ∧ w'.cell? ⟨K, 1, none⟩ = some (.slice a2 fs.length c2) ∧ w'.cell? ⟨w.heap.size, 0, none⟩ = some (.int .i64 v.k) ∧ w'.cell? ⟨w.heap.size, 1, none⟩ = some (.int .i64 v.n) ∧ w'.cell? ⟨w.heap.size, 2, none⟩ = some (.string v.s)) := fun w' q => ⟨(hk.mono q).cells 0, (hk.mono q).cells 1, block_cell (block_kept hV q) 0, block_cell (block_kept hV q) 1, block_cell (block_kept hV q) 2⟩
  have HB : Hid (Below w.heap.size w wA) := hbA
  clear hbA hk v0 c h hV
  refine wp_below (by kernel_rfl) (by kernel_rfl) ?_
  iterate 4
   refine q_want (v := ?_) (by kernel_rfl) ?_ ?_
   rotate_left
   ·
    intro w' hC
    obtain ⟨j0, j1, j2, j3, j4⟩ := HS.out w' hC
    go_simp
    try with_reducible rfl
   try simp only [Act.put, sAr, sZe, sSu]
  iterate 6 go_big_quiet_skip
  iterate 2
   refine q_want (v := ?_) (by kernel_rfl) ?_ ?_
   rotate_left
   ·
    intro w' hC
    obtain ⟨j0, j1, j2, j3, j4⟩ := HS.out w' hC
    go_simp
    try with_reducible rfl
   try simp only [Act.put, sAr, sZe, sSu]
  refine wpQuiet_nil ?_
  intro w2 q2
  go_wp2
  go_ret
  exact ⟨ret_bool (pB_no (fun q => HK.out q.1)).symm, HB.out.trans (q2.mono HB.out.size)⟩
 have hk2 : (v.k == 1) = true := by simpa using hk1
 have HK : Hid (v.k = 1) := hk1
 clear hk1
 go_enter Tryz.func170, Tryz.ntmps170
 go_upto_region 5 with fail
 rw [← hwA]
 clear hwA
 have HS : Hid (∀ w', Below wA.heap.size wA w' → w'.cell? ⟨K, 0, none⟩ = some (.slice a1 nt c1) ∧ w'.cell? ⟨K, 1, none⟩ = some (.slice a2 fs.length c2) ∧ w'.cell? ⟨w.heap.size, 0, none⟩ = some (.int .i64 v.k) ∧ w'.cell? ⟨w.heap.size, 1, none⟩ = some (.int .i64 v.n) ∧ w'.cell? ⟨w.heap.size, 2, none⟩ = some (.string v.s)) := fun w' q => ⟨(hk.mono q).cells 0, (hk.mono q).cells 1, block_cell (block_kept hV q) 0, block_cell (block_kept hV q) 1, block_cell (block_kept hV q) 2⟩
 have HB : Hid (Below w.heap.size w wA) := hbA
 clear hbA hk v0 c h hV
 refine wp_below (by kernel_rfl) (by kernel_rfl) ?_
 iterate 9
  refine q_want (v := ?_) (by kernel_rfl) ?_ ?_
  rotate_left
  ·
   intro w' hC
   obtain ⟨j0, j1, j2, j3, j4⟩ := HS.out w' hC
   go_simp
   try with_reducible rfl
  try simp only [Act.put, sAr, sZe, sSu]
 refine q_want (v := .bool (valB v.k v.n v.s fs.length 0)) (by kernel_rfl) ?_ ?_
 ·
  intro w' hC
  go_simp
  refine (iIn_any v.k v.n v.s 0 _ _ _ _ fs.length _ _ hs).mono ?_
  rintro e w'' ⟨rfl, hb2⟩
  exact ⟨rfl, hC.trans (hb2.mono hC.size)⟩
 try simp only [Act.put, sAr, sZe, sSu]
 iterate 2
  refine q_want (v := ?_) (by kernel_rfl) ?_ ?_
  rotate_left
  ·
   intro w' hC
   obtain ⟨j0, j1, j2, j3, j4⟩ := HS.out w' hC
   go_simp
   try with_reducible rfl
  try simp only [Act.put, sAr, sZe, sSu]
 refine wpQuiet_nil ?_
 intro w2 q2
 go_wp2
 go_ret
 exact ⟨ret_pB ⟨fun q => ⟨HK.out, q⟩, fun q => q.2⟩, HB.out.trans (q2.mono HB.out.size)⟩
set_option maxHeartbeats 1000000 in
theorem constO_any (v : Vl) (h : Look fs D a1 a2 oa ea nt c1 c2 oc ec G base K w) (p : Nat) (hp1 : p ≠ 1) (hp2 : p ≠ 2) :
  Calls Tryz.prog 170 #[.pointer (some ⟨K, 0, none⟩), .int .i64 (p : Nat), .agg #[.int .i64 v.k, .int .i64 v.n, .string v.s]] w fun e w' => e = .returned (.bool (pB (ConstP fs.length p v))) ∧ Below w.heap.size w w' := by
 obtain ⟨wA, hwA⟩ : ∃ wA, wA = w.alloc (.cells #[.int .i64 v.k, .int .i64 v.n, .string v.s] 76) := ⟨_, rfl⟩
 have hbA : Below w.heap.size w wA := by rw [hwA]; exact (Below.refl _ _).alloc (Nat.le_refl _) _
 have hV : wA.heap[w.heap.size]? = some (.cells #[.int .i64 v.k, .int .i64 v.n, .string v.s] 76 (0, 0)) := by rw [hwA]; exact block_new _ _ _
 have hk := h.mono hbA
 have v0 := block_cell hV
 have c := hk.cells
 have g36 := guard36
 have e36 := eqIn36 v zeroV
 have HP : Hid (ConstP fs.length p v ↔ v = zeroV) := by
  match p, hp1, hp2 with
  | 0, _, _ => exact Iff.rfl
  | p + 3, _, _ => exact Iff.rfl
 have q1 : ((p : Int) == 1) = false := by simp; omega
 have q2 : ((p : Int) == 2) = false := by simp; omega
 have q1' : ¬ (p : Int) = 1 := by omega
 have q2' : ¬ (p : Int) = 2 := by omega
 unfold zeroV at e36
 dsimp only at e36
 have HB : Hid (Below w.heap.size w wA) := hbA
 clear hbA h hp1 hp2
 go_enter Tryz.func170, Tryz.ntmps170
 go_upto_region 6 with fail
 rw [← hwA]
 clear hwA
 go_wp2
 go_ret
 refine ⟨ret_pB ?_, HB.out⟩
 rw [HP.out]
 simp [pB, zeroV]
theorem constantOk_any (v : Vl) (p : Nat) (hs : v.s.size ≤ 1048576) (h : Look fs D a1 a2 oa ea nt c1 c2 oc ec G base K w) :
  Calls Tryz.prog 170 #[.pointer (some ⟨K, 0, none⟩), .int .i64 (p : Nat), .agg #[.int .i64 v.k, .int .i64 v.n, .string v.s]] w fun e w' => e = .returned (.bool (pB (ConstP fs.length p v))) ∧ Below w.heap.size w w' := by
 match p with
 | 0 => exact constO_any v h 0 (by decide) (by decide)
 | 1 => exact const1_any v hs h
 | 2 => exact const2_any v hs h
 | p + 3 => exact constO_any v h (p + 3) (by omega) (by omega)
end
end Go.Proofs.YtoimokjohmhnaaaGreatDoor
namespace Go.Proofs.YtoimokjohmhnaaaGreatDoor
open Go.RowKit
section
variable {fs : List Fn} {D : FastD} {a1 a2 oa ea : Option Addr} {nt c1 c2 oc ec G base K : Nat} {w : World}
theorem at_sh {w : World} (h : ShAt w) {o : Nat} (ho : o < 30) : w.cell? ⟨0, o * 5, none⟩ = some (.int .i64 (sh o 0 : Nat)) ∧ w.cell? ⟨0, o * 5 + 1, none⟩ = some (.int .i64 (sh o 1 : Nat)) ∧ w.cell? ⟨0, o * 5 + 2, none⟩ = some (.int .i64 (sh o 2 : Nat)) ∧ w.cell? ⟨0, o * 5 + 3, none⟩ = some (.int .i64 (sh o 3 : Nat)) ∧ w.cell? ⟨0, o * 5 + 4, none⟩ = some (.int .i64 (sh o 4 : Nat)) :=
 ⟨h o 0 ho (by decide), h o 1 ho (by decide), h o 2 ho (by decide), h o 3 ho (by decide), h o 4 ho (by decide)⟩
set_option maxHeartbeats 8000000 in
theorem opOk_any (at' : Int) (x : Fo) (hs : x.v.s.size ≤ 1048576) (h : Look fs D a1 a2 oa ea nt c1 c2 oc ec G base K w) (lim : Lim fs D) :
  Calls Tryz.prog 105 #[.pointer (some ⟨K, 0, none⟩), .int .i64 at', .agg #[.int .i64 x.op, .int .i64 x.d, .int .i64 x.a, .int .i64 x.b, .int .i64 x.x, .int .i64 x.f, .int .i64 x.p, .int .i64 x.v.k, .int .i64 x.v.n, .string x.v.s]] w fun e w' => e = .returned (.bool (pB (FopP fs D at' x))) ∧ Below w.heap.size w w' := by
 obtain ⟨wA, hwA⟩ : ∃ wA, wA = w.alloc (.cells #[.int .i64 x.op, .int .i64 x.d, .int .i64 x.a, .int .i64 x.b, .int .i64 x.x, .int .i64 x.f, .int .i64 x.p, .int .i64 x.v.k, .int .i64 x.v.n, .string x.v.s] 170) := ⟨_, rfl⟩
 have hbA : Below w.heap.size w wA := by rw [hwA]; exact (Below.refl _ _).alloc (Nat.le_refl _) _
 have hX : wA.heap[w.heap.size]? = some (.cells #[.int .i64 x.op, .int .i64 x.d, .int .i64 x.a, .int .i64 x.b, .int .i64 x.x, .int .i64 x.f, .int .i64 x.p, .int .i64 x.v.k, .int .i64 x.v.n, .string x.v.s] 170 (0, 0)) := by rw [hwA]; exact block_new _ _ _
 have hk := h.mono hbA
 have HL := lim.code
 have HB : Hid (Below w.heap.size w wA) := hbA
 by_cases hop : Btw x.op 1 29
 case neg =>
  have hB : pB (Btw x.op 1 29) = false := pB_no hop
  have HN : Hid (¬ Btw x.op 1 29) := hop
  clear hop
  go_enter Tryz.func105, Tryz.ntmps105
  go_wp2_with (go_at_call 102; refine (iBetween_any _ _ _ _).mono ?_; rintro e w1 ⟨rfl, hw⟩; rw [hw, hB]; clear hw w1)
  go_ret
  exact ⟨ret_bool (pB_no (fun q => HN.out q.1)).symm, (Below.refl _ _).alloc (Nat.le_refl _) _⟩
 have hB : pB (Btw x.op 1 29) = true := pB_yes hop
 obtain ⟨o, ho⟩ : ∃ o : Nat, x.op = o := ⟨x.op.toNat, by have := hop.1; omega⟩
 have ho1 : o < 30 := by have := hop.2; omega
 have ho2 : (o : Int) < 30 := by omega
 have HOP : Hid (Btw x.op 1 29) := hop
 have HO : Hid (x.op.toNat = o) := by show _ = _; omega
 have HOE : Hid (x.op = (o : Int)) := ho
 clear hop ho
 have HS : Hid (∀ w', Below wA.heap.size wA w' → w'.cell? ⟨K, 0, none⟩ = some (.slice a1 nt c1) ∧ w'.cell? ⟨K, 1, none⟩ = some (.slice a2 fs.length c2) ∧ w'.cell? ⟨w.heap.size, 5, none⟩ = some (.int .i64 x.f) ∧ w'.cell? ⟨w.heap.size, 6, none⟩ = some (.int .i64 x.p)) := fun w' q => ⟨(hk.mono q).cells 0, (hk.mono q).cells 1, block_cell (block_kept hX q) 5, block_cell (block_kept hX q) 6⟩
 obtain ⟨j0, j1, j2, j3⟩ := HS.out wA (Below.refl _ _)
 have q : Below wA.heap.size wA wA.drew := (Below.refl _ _).drew
 have HI : Hid (∀ w', Below wA.heap.size wA w' → Calls Tryz.prog 168 #[.agg #[.slice a1 nt c1, .slice a2 fs.length c2], .agg #[.int .i64 x.f, .int .i64 x.p]] w' fun e w'' => e = .returned (.tuple #[.agg #[.int .i64 ((insD fs x.f x.p).getD (0, 0)).1, .int .i64 ((insD fs x.f x.p).getD (0, 0)).2], .bool (insD fs x.f x.p).isSome]) ∧ Below w'.heap.size w' w'') := fun w' q => insAt_any a1 a2 nt c1 c2 fs x.f x.p w' HL (hk.fns.mono q)
 have HK : Hid (Look fs D a1 a2 oa ea nt c1 c2 oc ec G base K wA) := hk
 have HX : Hid (wA.heap[w.heap.size]? = some (.cells #[.int .i64 x.op, .int .i64 x.d, .int .i64 x.a, .int .i64 x.b, .int .i64 x.x, .int .i64 x.f, .int .i64 x.p, .int .i64 x.v.k, .int .i64 x.v.n, .string x.v.s] 170 (0, 0))) := hX
 clear hk hX hbA h HL
 obtain ⟨u1, hu1⟩ : ∃ u1, u1 = ((insD fs x.f x.p).getD (0, 0)).1 := ⟨_, rfl⟩
 obtain ⟨u2, hu2⟩ : ∃ u2, u2 = ((insD fs x.f x.p).getD (0, 0)).2 := ⟨_, rfl⟩
 obtain ⟨ib, hib⟩ : ∃ ib, ib = (insD fs x.f x.p).isSome := ⟨_, rfl⟩
 rw [← hu1, ← hu2, ← hib] at HI
 have HIB : Hid (ib = (insD fs x.f x.p).isSome) := hib
 clear hu1 hu2 hib
 go_enter Tryz.func105, Tryz.ntmps105
 go_upto_region 3 with (go_at_call 102; refine (iBetween_any _ _ _ _).mono ?_; rintro e w1 ⟨rfl, hw⟩; rw [hw, hB]; clear hw w1)
 rw [← hwA]
 clear hwA hB
 go_cut [8] from 14 to 26 (fun s8 wx => s8 = .bool ib ∧ Below wA.heap.size wA wx)
 case first =>
  go_region_held3 (fun w' => w'.cell? ⟨K, 0, none⟩ = some (.slice a1 nt c1) ∧ w'.cell? ⟨K, 1, none⟩ = some (.slice a2 fs.length c2) ∧ w'.cell? ⟨w.heap.size, 5, none⟩ = some (.int .i64 x.f) ∧ w'.cell? ⟨w.heap.size, 6, none⟩ = some (.int .i64 x.p))
   (first
    | exact ⟨j0, j1, j2, j3⟩
    | exact HS.out _ q
    | exact HS.out _ (q.alloc q.size _)
    | exact HS.out _ ((q.setCell hg _).setCell hg _)
    | exact HS.out _ (((q.alloc q.size _).setCell q.size _).setCell q.size _))
   (first
    | (go_at_call 168; refine (HI.out _ (by first | exact q | exact q.alloc q.size _)).mono ?_; rintro e wb ⟨rfl, kd⟩; (first | (have hk := block_kept hk kd; have hc := block_cell hk; have hf := block_free hk) | (have hk := block_kept (block_new_drew _ _ _) kd; have hg := Nat.le_refl wA.heap.size; have hc := block_cell hk; have hf := block_free hk) | (have hk := block_kept (block_new _ _ _) kd; have hg := q.size; have hc := block_cell hk; have hf := block_free hk) | skip); (first | (have q := q.trans (kd.mono q.size)) | (have q := (q.alloc q.size _).trans (kd.mono (by have := q.size; simp <;> omega))))))
  all_goals
   go_wp2_with fail
   go_meet
   case rel =>
    first
     | exact ⟨rfl, (q.setCell hg _).setCell hg _⟩
     | exact ⟨rfl, q.alloc q.size _⟩
 case rest =>
  obtain ⟨rfl, hq⟩ := hcut
  have HB2 : Hid (Below w.heap.size w wc) := HB.out.trans (hq.mono HB.out.size)
  have HK2 : Hid (Look fs D a1 a2 oa ea nt c1 c2 oc ec G base K wc) := HK.out.mono hq
  have hX2 := block_kept HX.out hq
  clear HS HI HK HX j0 j1 j2 j3 q hq HB
  cases ib
  ·
   go_wp2
   go_ret
   exact ⟨ret_bool (pB_no (fun q => by have := HIB.out; rw [q.2.1] at this; cases this)).symm, HB2.out⟩
  obtain ⟨s0, s1, s2, s3, s4⟩ := at_sh HK2.out.shp ho1
  have l0 := sh_le o ho1 0 (by decide)
  have l1 := sh_le o ho1 1 (by decide)
  have l2 := sh_le o ho1 2 (by decide)
  have l3 := sh_le o ho1 3 (by decide)
  have HP : Hid (FopP fs D at' x ↔ PartP fs.length D at' (sh o 0) x.d ∧ PartP fs.length D at' (sh o 1) x.a ∧ PartP fs.length D at' (sh o 2) x.b ∧ PartP fs.length D at' (sh o 3) x.x ∧ ConstP fs.length (sh o 4) x.v) := by
   show _ ↔ _
   unfold FopP
   rw [HO.out]
   exact ⟨fun q => q.2.2, fun q => ⟨HOP.out, HIB.out.symm, q⟩⟩
  obtain ⟨wS, hwS⟩ : ∃ wS, wS = wc.alloc (.cells #[.int .i64 (sh o 0 : Nat), .int .i64 (sh o 1 : Nat), .int .i64 (sh o 2 : Nat), .int .i64 (sh o 3 : Nat), .int .i64 (sh o 4 : Nat)] 263) := ⟨_, rfl⟩
  have hS1 : wS.heap[wc.heap.size]? = some (.cells #[.int .i64 (sh o 0 : Nat), .int .i64 (sh o 1 : Nat), .int .i64 (sh o 2 : Nat), .int .i64 (sh o 3 : Nat), .int .i64 (sh o 4 : Nat)] 263 (0, 0)) := by rw [hwS]; exact block_new _ _ _
  have hbS : Below wc.heap.size wc wS := by rw [hwS]; exact (Below.refl _ _).alloc (Nat.le_refl _) _
  have hX3 := block_kept hX2 hbS
  have HK3 : Hid (Look fs D a1 a2 oa ea nt c1 c2 oc ec G base K wS) := HK2.out.mono hbS
  have HB3 : Hid (Below w.heap.size w wS) := HB2.out.trans (hbS.mono HB2.out.size)
  have x2 := block_cell hX2
  rw [HOE.out] at x2
  have x3 := block_cell (block_old hX2 (.cells #[.int .i64 (sh o 0 : Nat), .int .i64 (sh o 1 : Nat), .int .i64 (sh o 2 : Nat), .int .i64 (sh o 3 : Nat), .int .i64 (sh o 4 : Nat)] 263))
  clear HIB HOP HO
  go_wp2_with fail
  rw [← hwS]
  clear hwS s0 s1 s2 s3 s4 x2 x3 hX2 HK2 hbS HB2
  refine (partOk_any at' x.d (sh o 0) l0 HK3.out).mono ?_
  rintro e w0 ⟨rfl, hb⟩
  have HK4 : Hid (Look fs D a1 a2 oa ea nt c1 c2 oc ec G base K w0) := HK3.out.mono hb
  have HB4 : Hid (Below w.heap.size w w0) := HB3.out.trans (hb.mono HB3.out.size)
  have hX4 := block_kept hX3 hb
  have hS2 := block_kept hS1 hb
  clear HK3 HB3 hX3 hS1 hb
  by_cases hp0 : PartP fs.length D at' (sh o 0) x.d
  case neg =>
   rw [pB_no hp0]
   have HN : Hid (¬ PartP fs.length D at' (sh o 0) x.d) := hp0
   clear hp0
   go_wp2
   go_ret
   exact ⟨ret_bool (pB_no (fun q => HN.out (HP.out.1 q).1)).symm, HB4.out⟩
  rw [pB_yes hp0]
  have HP0 : Hid (PartP fs.length D at' (sh o 0) x.d) := hp0
  clear hp0
  have y4 := block_cell hX4
  have z4 := block_cell hS2
  go_wp2_with fail
  clear y4 z4
  refine (partOk_any at' x.a (sh o 1) l1 HK4.out).mono ?_
  rintro e w1 ⟨rfl, hb⟩
  have HK5 : Hid (Look fs D a1 a2 oa ea nt c1 c2 oc ec G base K w1) := HK4.out.mono hb
  have HB5 : Hid (Below w.heap.size w w1) := HB4.out.trans (hb.mono HB4.out.size)
  have hX5 := block_kept hX4 hb
  have hS3 := block_kept hS2 hb
  clear HK4 HB4 hX4 hS2 hb
  by_cases hp1 : PartP fs.length D at' (sh o 1) x.a
  case neg =>
   rw [pB_no hp1]
   have HN : Hid (¬ PartP fs.length D at' (sh o 1) x.a) := hp1
   clear hp1
   go_wp2
   go_ret
   exact ⟨ret_bool (pB_no (fun q => HN.out (HP.out.1 q).2.1)).symm, HB5.out⟩
  rw [pB_yes hp1]
  have HP1 : Hid (PartP fs.length D at' (sh o 1) x.a) := hp1
  clear hp1
  have y5 := block_cell hX5
  have z5 := block_cell hS3
  go_wp2_with fail
  clear y5 z5
  refine (partOk_any at' x.b (sh o 2) l2 HK5.out).mono ?_
  rintro e w2 ⟨rfl, hb⟩
  have HK6 : Hid (Look fs D a1 a2 oa ea nt c1 c2 oc ec G base K w2) := HK5.out.mono hb
  have HB6 : Hid (Below w.heap.size w w2) := HB5.out.trans (hb.mono HB5.out.size)
  have hX6 := block_kept hX5 hb
  have hS4 := block_kept hS3 hb
  clear HK5 HB5 hX5 hS3 hb
  by_cases hp2 : PartP fs.length D at' (sh o 2) x.b
  case neg =>
   rw [pB_no hp2]
   have HN : Hid (¬ PartP fs.length D at' (sh o 2) x.b) := hp2
   clear hp2
   go_wp2
   go_ret
   exact ⟨ret_bool (pB_no (fun q => HN.out (HP.out.1 q).2.2.1)).symm, HB6.out⟩
  rw [pB_yes hp2]
  have HP2 : Hid (PartP fs.length D at' (sh o 2) x.b) := hp2
  clear hp2
  have y6 := block_cell hX6
  have z6 := block_cell hS4
  go_wp2_with fail
  clear y6 z6
  refine (partOk_any at' x.x (sh o 3) l3 HK6.out).mono ?_
  rintro e w3 ⟨rfl, hb⟩
  have HK7 : Hid (Look fs D a1 a2 oa ea nt c1 c2 oc ec G base K w3) := HK6.out.mono hb
  have HB7 : Hid (Below w.heap.size w w3) := HB6.out.trans (hb.mono HB6.out.size)
  have hX7 := block_kept hX6 hb
  have hS5 := block_kept hS4 hb
  clear HK6 HB6 hX6 hS4 hb
  by_cases hp3 : PartP fs.length D at' (sh o 3) x.x
  case neg =>
   rw [pB_no hp3]
   have HN : Hid (¬ PartP fs.length D at' (sh o 3) x.x) := hp3
   clear hp3
   go_wp2
   go_ret
   exact ⟨ret_bool (pB_no (fun q => HN.out (HP.out.1 q).2.2.2.1)).symm, HB7.out⟩
  rw [pB_yes hp3]
  have HP3 : Hid (PartP fs.length D at' (sh o 3) x.x) := hp3
  clear hp3
  have y7 := block_cell hX7
  have z7 := block_cell hS5
  go_wp2_with fail
  clear y7 z7
  refine (constantOk_any x.v (sh o 4) hs HK7.out).mono ?_
  rintro e w5 ⟨rfl, hb⟩
  have HB9 : Hid (Below w.heap.size w w5) := HB7.out.trans (hb.mono HB7.out.size)
  go_wp2
  go_ret
  refine ⟨ret_pB ?_, HB9.out⟩
  rw [HP.out]
  constructor
  ·
   intro q
   exact ⟨HP0.out, HP1.out, HP2.out, HP3.out, Classical.byContradiction (fun q' => by rw [pB_no q'] at q; cases q)⟩
  ·
   intro q
   exact pB_yes q.2.2.2.2
end
end Go.Proofs.YtoimokjohmhnaaaGreatDoor
