/-
The document's look at a source, and at a list of them.
-/
import Derived.Test.YthnolafhnplnkaaGreatDoorOV40
import Derived.Test.YthnolafhnplnkaaGreatDoorOV34
import Derived.Test.YthnolafhnplnkaaGreatDoorOV16
import Derived.Test.YthnolafhnplnkaaGreatDoorOV4
import Derived.Deep.RegionHeld3
set_option maxRecDepth 100000
namespace Go.Proofs.YthnolafhnplnkaaGreatDoor
open Go.RowKit
theorem src2 {nf : Nat} {D : FastD} {nr : Nat} {n : Int} {v : Vl} : SrcP nf D nr ⟨2, n, v⟩ ↔ v = zeroV ∧ Reg n D.vals := by simp [SrcP]
theorem src3 {nf : Nat} {D : FastD} {nr : Nat} {n : Int} {v : Vl} : SrcP nf D nr ⟨3, n, v⟩ ↔ v = zeroV ∧ Reg n D.nums := by simp [SrcP]
theorem src4 {nf : Nat} {D : FastD} {nr : Nat} {n : Int} {v : Vl} : SrcP nf D nr ⟨4, n, v⟩ ↔ v = zeroV ∧ Reg n nr := by simp [SrcP]
theorem srcNo {nf : Nat} {D : FastD} {nr : Nat} {k n : Int} {v : Vl} (h1 : ¬ k = 1) (h2 : ¬ k = 2) (h3 : ¬ k = 3) (h4 : ¬ k = 4) : ¬ SrcP nf D nr ⟨k, n, v⟩ := by simp [SrcP, h1, h2, h3, h4]
section
variable {fs : List Fn} {a1 a2 oa ea : Option Addr} {nt c1 c2 oc ec K : Nat} {D : FastD} {wK w : World} {b : Bool}
set_option maxHeartbeats 4000000 in
theorem kSrc1 (n vk vn : Int) (vs : ByteArray) (nr : Nat) (hs : vs.size ≤ 1048576) (l : SLim fs D K wK a2 oa ea) (h : Chk a1 a2 oa ea nt c1 c2 oc ec fs.length K D wK b w) :
  Calls Tryz.prog 137 #[.pointer (some ⟨K, 0, none⟩), .agg #[.int .i64 1, .int .i64 n, .int .i64 vk, .int .i64 vn, .string vs], .int .i64 (nr : Nat)] w fun e w' => e = .returned (.tuple #[]) ∧ Chk a1 a2 oa ea nt c1 c2 oc ec fs.length K D wK (b || !pB (SrcP fs.length D nr ⟨1, n, vk, vn, vs⟩)) w' ∧ Rk K w w' := by
 have hwk : K < w.heap.size := lt_block h.blk
 have hne : w.heap.size ≠ K := by omega
 obtain ⟨wA, hwA⟩ : ∃ wA, wA = w.alloc (.cells #[.int .i64 1, .int .i64 n, .int .i64 vk, .int .i64 vn, .string vs] 223) := ⟨_, rfl⟩
 have hbA : Below w.heap.size w wA := by rw [hwA]; exact (Below.refl _ _).alloc (Nat.le_refl _) _
 have hX1 : wA.heap[w.heap.size]? = some (.cells #[.int .i64 1, .int .i64 n, .int .i64 vk, .int .i64 vn, .string vs] 223 (0, 0)) := by rw [hwA]; exact block_new _ _ _
 have hC1 := h.mono hbA
 have R1 : Rk K w wA := Rk.of hbA
 have x0 := block_cell (block_new w #[.int .i64 1, .int .i64 n, .int .i64 vk, .int .i64 vn, .string vs] 223)
 have x1 := block_cell hX1
 clear h hbA
 go_enter Tryz.func137, Tryz.ntmps137
 go_wp2_with fail
 rw [← hwA]
 clear hwA x0
 refine (kZero_any n hC1).mono ?_
 rintro e w11 ⟨rfl, hC2, hr⟩
 have hX2 := block_rk hX1 hne hr
 have R2 := R1.trans hr
 clear x1 hX1 R1 hC1 hr
 have x2 := block_cell hX2
 go_wp2_with fail
 have hnf := l.nf
 have HC : Hid (Chk a1 a2 oa ea nt c1 c2 oc ec fs.length K D wK _ w11) := hC2
 have HXX := hX2
 have HS : Hid (∀ w', Below w11.heap.size w11 w' → w'.cell? ⟨K, 0, none⟩ = some (.slice a1 nt c1) ∧ w'.cell? ⟨K, 1, none⟩ = some (.slice a2 fs.length c2) ∧ w'.cell? ⟨w.heap.size, 2, none⟩ = some (.int .i64 vk) ∧ w'.cell? ⟨w.heap.size, 3, none⟩ = some (.int .i64 vn) ∧ w'.cell? ⟨w.heap.size, 4, none⟩ = some (.string vs)) := fun w' q => ⟨(HC.out.mono q).cells 0, (HC.out.mono q).cells 1, block_cell (block_kept HXX q) 2, block_cell (block_kept HXX q) 3, block_cell (block_kept HXX q) 4⟩
 obtain ⟨j0, j1, j2, j3, j4⟩ := HS.out _ (Below.refl _ _)
 have q : Below w11.heap.size w11 w11.drew := (Below.refl _ _).drew
 clear x2 hC2
 go_region_held3 (fun w' => w'.cell? ⟨K, 0, none⟩ = some (.slice a1 nt c1) ∧ w'.cell? ⟨K, 1, none⟩ = some (.slice a2 fs.length c2) ∧ w'.cell? ⟨w.heap.size, 2, none⟩ = some (.int .i64 vk) ∧ w'.cell? ⟨w.heap.size, 3, none⟩ = some (.int .i64 vn) ∧ w'.cell? ⟨w.heap.size, 4, none⟩ = some (.string vs))
  (first | exact ⟨j0, j1, j2, j3, j4⟩ | exact HS.out _ q | exact ⟨hc.cells 0, hc.cells 1, block_cell (block_rk (block_kept HXX q) hne hr) 2, block_cell (block_rk (block_kept HXX q) hne hr) 3, block_cell (block_rk (block_kept HXX q) hne hr) 4⟩)
  (first
   | (go_at_call 102; refine (sOk_any vk vn vs 0 _ _ _ _ fs.length _ _ hnf hs).mono ?_; rintro e wz ⟨rfl, kd⟩; have q := q.trans (kd.mono q.size))
   | (go_at_call 101; refine (need_any _ (HC.out.mono q)).mono ?_; rintro e wy ⟨rfl, hc, hr⟩))
 have hC3 : Chk a1 a2 oa ea nt c1 c2 oc ec fs.length K D wK ((b || !pB (n = 0)) || !pB (valB vk vn vs fs.length 0 = true)) wy := by
  rw [show pB (valB vk vn vs fs.length 0 = true) = valB vk vn vs fs.length 0 by simp [pB]]
  exact hc
 have R3 := (R2.trans (Rk.of q)).trans hr
 clear HS HC j0 j1 j2 j3 j4
 go_wp2
 go_end0
 exact ⟨rfl, hC3.both.iff (src1 (v := ⟨vk, vn, vs⟩)).symm, R3⟩
set_option maxHeartbeats 4000000 in
theorem kSrc2 (n vk vn : Int) (vs : ByteArray) (nr : Nat) (l : SLim fs D K wK a2 oa ea) (h : Chk a1 a2 oa ea nt c1 c2 oc ec fs.length K D wK b w) :
  Calls Tryz.prog 137 #[.pointer (some ⟨K, 0, none⟩), .agg #[.int .i64 2, .int .i64 n, .int .i64 vk, .int .i64 vn, .string vs], .int .i64 (nr : Nat)] w fun e w' => e = .returned (.tuple #[]) ∧ Chk a1 a2 oa ea nt c1 c2 oc ec fs.length K D wK (b || !pB (SrcP fs.length D nr ⟨2, n, vk, vn, vs⟩)) w' ∧ Rk K w w' := by
 have hwk : K < w.heap.size := lt_block h.blk
 have hne : w.heap.size ≠ K := by omega
 obtain ⟨wA, hwA⟩ : ∃ wA, wA = w.alloc (.cells #[.int .i64 2, .int .i64 n, .int .i64 vk, .int .i64 vn, .string vs] 223) := ⟨_, rfl⟩
 have hbA : Below w.heap.size w wA := by rw [hwA]; exact (Below.refl _ _).alloc (Nat.le_refl _) _
 have hX1 : wA.heap[w.heap.size]? = some (.cells #[.int .i64 2, .int .i64 n, .int .i64 vk, .int .i64 vn, .string vs] 223 (0, 0)) := by rw [hwA]; exact block_new _ _ _
 have hC1 := h.mono hbA
 have R1 : Rk K w wA := Rk.of hbA
 have x0 := block_cell (block_new w #[.int .i64 2, .int .i64 n, .int .i64 vk, .int .i64 vn, .string vs] 223)
 have x1 := block_cell hX1
 clear h hbA
 go_enter Tryz.func137, Tryz.ntmps137
 go_wp2_with fail
 rw [← hwA]
 clear hwA x0
 refine (kNone_any ⟨vk, vn, vs⟩ hC1).mono ?_
 rintro e w11 ⟨rfl, hC2, hr⟩
 have hX2 := block_rk hX1 hne hr
 have R2 := R1.trans hr
 clear x1 hX1 R1 hC1 hr
 have x2 := block_cell hX2
 go_wp2_with fail
 refine (kVal_any n l.vals hC2).mono ?_
 rintro e w12 ⟨rfl, hC3, hr⟩
 have hX3 := block_rk hX2 hne hr
 have R3 := R2.trans hr
 clear x2 hX2 R2 hC2 hr
 have x3 := block_cell hX3
 go_wp2
 go_end0
 exact ⟨rfl, hC3.both.iff src2.symm, R3⟩
set_option maxHeartbeats 4000000 in
theorem kSrc3 (n vk vn : Int) (vs : ByteArray) (nr : Nat) (l : SLim fs D K wK a2 oa ea) (h : Chk a1 a2 oa ea nt c1 c2 oc ec fs.length K D wK b w) :
  Calls Tryz.prog 137 #[.pointer (some ⟨K, 0, none⟩), .agg #[.int .i64 3, .int .i64 n, .int .i64 vk, .int .i64 vn, .string vs], .int .i64 (nr : Nat)] w fun e w' => e = .returned (.tuple #[]) ∧ Chk a1 a2 oa ea nt c1 c2 oc ec fs.length K D wK (b || !pB (SrcP fs.length D nr ⟨3, n, vk, vn, vs⟩)) w' ∧ Rk K w w' := by
 have hwk : K < w.heap.size := lt_block h.blk
 have hne : w.heap.size ≠ K := by omega
 obtain ⟨wA, hwA⟩ : ∃ wA, wA = w.alloc (.cells #[.int .i64 3, .int .i64 n, .int .i64 vk, .int .i64 vn, .string vs] 223) := ⟨_, rfl⟩
 have hbA : Below w.heap.size w wA := by rw [hwA]; exact (Below.refl _ _).alloc (Nat.le_refl _) _
 have hX1 : wA.heap[w.heap.size]? = some (.cells #[.int .i64 3, .int .i64 n, .int .i64 vk, .int .i64 vn, .string vs] 223 (0, 0)) := by rw [hwA]; exact block_new _ _ _
 have hC1 := h.mono hbA
 have R1 : Rk K w wA := Rk.of hbA
 have x0 := block_cell (block_new w #[.int .i64 3, .int .i64 n, .int .i64 vk, .int .i64 vn, .string vs] 223)
 have x1 := block_cell hX1
 clear h hbA
 go_enter Tryz.func137, Tryz.ntmps137
 go_wp2_with fail
 rw [← hwA]
 clear hwA x0
 refine (kNone_any ⟨vk, vn, vs⟩ hC1).mono ?_
 rintro e w11 ⟨rfl, hC2, hr⟩
 have hX2 := block_rk hX1 hne hr
 have R2 := R1.trans hr
 clear x1 hX1 R1 hC1 hr
 have x2 := block_cell hX2
 go_wp2_with fail
 refine (kNum_any n l.nums hC2).mono ?_
 rintro e w12 ⟨rfl, hC3, hr⟩
 have hX3 := block_rk hX2 hne hr
 have R3 := R2.trans hr
 clear x2 hX2 R2 hC2 hr
 have x3 := block_cell hX3
 go_wp2
 go_end0
 exact ⟨rfl, hC3.both.iff src3.symm, R3⟩
set_option maxHeartbeats 4000000 in
theorem kSrc4 (n vk vn : Int) (vs : ByteArray) (nr : Nat) (h : Chk a1 a2 oa ea nt c1 c2 oc ec fs.length K D wK b w) :
  Calls Tryz.prog 137 #[.pointer (some ⟨K, 0, none⟩), .agg #[.int .i64 4, .int .i64 n, .int .i64 vk, .int .i64 vn, .string vs], .int .i64 (nr : Nat)] w fun e w' => e = .returned (.tuple #[]) ∧ Chk a1 a2 oa ea nt c1 c2 oc ec fs.length K D wK (b || !pB (SrcP fs.length D nr ⟨4, n, vk, vn, vs⟩)) w' ∧ Rk K w w' := by
 have hwk : K < w.heap.size := lt_block h.blk
 have hne : w.heap.size ≠ K := by omega
 obtain ⟨wA, hwA⟩ : ∃ wA, wA = w.alloc (.cells #[.int .i64 4, .int .i64 n, .int .i64 vk, .int .i64 vn, .string vs] 223) := ⟨_, rfl⟩
 have hbA : Below w.heap.size w wA := by rw [hwA]; exact (Below.refl _ _).alloc (Nat.le_refl _) _
 have hX1 : wA.heap[w.heap.size]? = some (.cells #[.int .i64 4, .int .i64 n, .int .i64 vk, .int .i64 vn, .string vs] 223 (0, 0)) := by rw [hwA]; exact block_new _ _ _
 have hC1 := h.mono hbA
 have R1 : Rk K w wA := Rk.of hbA
 have x0 := block_cell (block_new w #[.int .i64 4, .int .i64 n, .int .i64 vk, .int .i64 vn, .string vs] 223)
 have x1 := block_cell hX1
 clear h hbA
 by_cases hp : Reg n nr
 case pos =>
  have g1 : (0 : Int) ≤ n := hp.1
  have g2 : n < (nr : Int) := hp.2
  have HP : Hid (Reg n nr) := hp
  clear hp
  go_enter Tryz.func137, Tryz.ntmps137
  go_wp2_with fail
  rw [← hwA]
  clear hwA x0
  refine (kNone_any ⟨vk, vn, vs⟩ hC1).mono ?_
  rintro e w11 ⟨rfl, hC2, hr⟩
  have hX2 := block_rk hX1 hne hr
  have R2 := R1.trans hr
  clear x1 hX1 R1 hC1 hr
  have x2 := block_cell hX2
  go_wp2_with fail
  refine (need_any true hC2).mono ?_
  rintro e w20 ⟨rfl, hc, hr⟩
  clear x2
  go_wp2
  go_end0
  refine ⟨rfl, ?_, R2.trans hr⟩
  rw [pB_congr (src4 (nf := fs.length) (D := D) (nr := nr) (n := n) (v := ⟨vk, vn, vs⟩)), pB_and, pB_yes HP.out]
  simpa using hc
 have HP : Hid (¬ Reg n nr) := hp
 by_cases g1 : (0 : Int) ≤ n
 case pos =>
  have g2 : ¬ n < (nr : Int) := fun q => hp ⟨g1, q⟩
  clear hp
  go_enter Tryz.func137, Tryz.ntmps137
  go_wp2_with fail
  rw [← hwA]
  clear hwA x0
  refine (kNone_any ⟨vk, vn, vs⟩ hC1).mono ?_
  rintro e w11 ⟨rfl, hC2, hr⟩
  have hX2 := block_rk hX1 hne hr
  have R2 := R1.trans hr
  clear x1 hX1 R1 hC1 hr
  have x2 := block_cell hX2
  go_wp2_with fail
  (try rw [show decide (n < (nr : Int)) = false by simp; omega])
  refine (need_any false hC2).mono ?_
  rintro e w20 ⟨rfl, hc, hr⟩
  clear x2
  go_wp2
  go_end0
  refine ⟨rfl, ?_, R2.trans hr⟩
  rw [pB_no (fun q => HP.out (src4.1 q).2)]
  simpa using hc
 case neg =>
  clear hp
  go_enter Tryz.func137, Tryz.ntmps137
  go_wp2_with fail
  rw [← hwA]
  clear hwA x0
  refine (kNone_any ⟨vk, vn, vs⟩ hC1).mono ?_
  rintro e w11 ⟨rfl, hC2, hr⟩
  have hX2 := block_rk hX1 hne hr
  have R2 := R1.trans hr
  clear x1 hX1 R1 hC1 hr
  have x2 := block_cell hX2
  go_wp2_with fail
  (try rw [show decide ((0 : Int) ≤ n) = false by simp; omega])
  refine (need_any false hC2).mono ?_
  rintro e w20 ⟨rfl, hc, hr⟩
  clear x2
  go_wp2
  go_end0
  refine ⟨rfl, ?_, R2.trans hr⟩
  rw [pB_no (fun q => HP.out (src4.1 q).2)]
  simpa using hc
set_option maxHeartbeats 4000000 in
theorem kSrcNo (k n vk vn : Int) (vs : ByteArray) (nr : Nat) (h1 : ¬ k = 1) (h2 : ¬ k = 2) (h3 : ¬ k = 3) (h4 : ¬ k = 4) (h : Chk a1 a2 oa ea nt c1 c2 oc ec fs.length K D wK b w) :
  Calls Tryz.prog 137 #[.pointer (some ⟨K, 0, none⟩), .agg #[.int .i64 k, .int .i64 n, .int .i64 vk, .int .i64 vn, .string vs], .int .i64 (nr : Nat)] w fun e w' => e = .returned (.tuple #[]) ∧ Chk a1 a2 oa ea nt c1 c2 oc ec fs.length K D wK (b || !pB (SrcP fs.length D nr ⟨k, n, vk, vn, vs⟩)) w' ∧ Rk K w w' := by
 have hwk : K < w.heap.size := lt_block h.blk
 have hne : w.heap.size ≠ K := by omega
 obtain ⟨wA, hwA⟩ : ∃ wA, wA = w.alloc (.cells #[.int .i64 k, .int .i64 n, .int .i64 vk, .int .i64 vn, .string vs] 223) := ⟨_, rfl⟩
 have hbA : Below w.heap.size w wA := by rw [hwA]; exact (Below.refl _ _).alloc (Nat.le_refl _) _
 have hX1 : wA.heap[w.heap.size]? = some (.cells #[.int .i64 k, .int .i64 n, .int .i64 vk, .int .i64 vn, .string vs] 223 (0, 0)) := by rw [hwA]; exact block_new _ _ _
 have hC1 := h.mono hbA
 have R1 : Rk K w wA := Rk.of hbA
 have x0 := block_cell (block_new w #[.int .i64 k, .int .i64 n, .int .i64 vk, .int .i64 vn, .string vs] 223)
 have x1 := block_cell hX1
 clear h hbA
 have n1 : (k != 1) = true := by simpa using h1
 go_enter Tryz.func137, Tryz.ntmps137
 go_wp2_with fail
 rw [← hwA]
 clear hwA x0
 refine (kNone_any ⟨vk, vn, vs⟩ hC1).mono ?_
 rintro e w11 ⟨rfl, hC2, hr⟩
 have hX2 := block_rk hX1 hne hr
 have R2 := R1.trans hr
 clear x1 hX1 R1 hC1 hr
 have x2 := block_cell hX2
 have k3 := hC2.cells
 have k4 := hC2.free
 have g1 : (k == 1) = false := by simpa using h1
 have g2 : (k == 2) = false := by simpa using h2
 have g3 : (k == 3) = false := by simpa using h3
 have g4 : (k == 4) = false := by simpa using h4
 have HN : Hid (¬ SrcP fs.length D nr ⟨k, n, vk, vn, vs⟩) := srcNo h1 h2 h3 h4
 clear h1 h2 h3 h4
 go_wp2
 go_end0
 exact ⟨rfl, (hC2.set true).no HN.out, R2.set _⟩
theorem kSrc_any (s : Sr) (nr : Nat) (hs : s.v.s.size ≤ 1048576) (l : SLim fs D K wK a2 oa ea) (h : Chk a1 a2 oa ea nt c1 c2 oc ec fs.length K D wK b w) :
  Calls Tryz.prog 137 #[.pointer (some ⟨K, 0, none⟩), .agg #[.int .i64 s.k, .int .i64 s.n, .int .i64 s.v.k, .int .i64 s.v.n, .string s.v.s], .int .i64 (nr : Nat)] w fun e w' => e = .returned (.tuple #[]) ∧ Chk a1 a2 oa ea nt c1 c2 oc ec fs.length K D wK (b || !pB (SrcP fs.length D nr s)) w' ∧ Rk K w w' := by
 obtain ⟨k, n, vk, vn, vs⟩ := s
 by_cases h1 : k = 1
 · subst h1; exact kSrc1 n vk vn vs nr hs l h
 by_cases h2 : k = 2
 · subst h2; exact kSrc2 n vk vn vs nr l h
 by_cases h3 : k = 3
 · subst h3; exact kSrc3 n vk vn vs nr l h
 by_cases h4 : k = 4
 · subst h4; exact kSrc4 n vk vn vs nr h
 exact kSrcNo k n vk vn vs nr h1 h2 h3 h4 h
def SrcsTo (nf : Nat) (D : FastD) (nr : Nat) (ls : List Sr) (k : Nat) : Prop := ∀ i (h : i < ls.length), i < k → SrcP nf D nr ls[i]
theorem SrcsTo.more {nf : Nat} {D : FastD} {nr k : Nat} {ls : List Sr} (hk : k < ls.length) : SrcsTo nf D nr ls k ∧ SrcP nf D nr ls[k] ↔ SrcsTo nf D nr ls (k + 1) :=
 ⟨fun q i h hi => by
  by_cases e : i = k
  · subst e; exact q.2
  · exact q.1 i h (by omega), fun q => ⟨fun i h hi => q i h (by omega), q k hk (by omega)⟩⟩
theorem SrcsTo.all {nf : Nat} {D : FastD} {nr : Nat} {ls : List Sr} : SrcsTo nf D nr ls ls.length ↔ SrcsP nf D nr ls := ⟨fun q i h => q i h h, fun q i h _ => q i h⟩
theorem SrcsTo.zero {nf : Nat} {D : FastD} {nr : Nat} {ls : List Sr} : SrcsTo nf D nr ls 0 := fun _ _ h => absurd h (Nat.not_lt_zero _)
set_option maxHeartbeats 4000000 in
theorem kSrcs_any (a : Option Addr) (ls : List Sr) (cap nr : Nat) (hl : LSmall SrSmall ls) (hm : SrsAt wK 0 a ls) (l : SLim fs D K wK a2 oa ea) (h : Chk a1 a2 oa ea nt c1 c2 oc ec fs.length K D wK b w) :
  Calls Tryz.prog 106 #[.pointer (some ⟨K, 0, none⟩), .slice a ls.length cap, .int .i64 (nr : Nat)] w fun e w' => e = .returned (.tuple #[]) ∧ Chk a1 a2 oa ea nt c1 c2 oc ec fs.length K D wK (b || !pB (SrcsP fs.length D nr ls)) w' ∧ Rk K w w' := by
 have hn := hl.1
 go_enter Tryz.func106, Tryz.ntmps106
 go_wp2
 go_loopw [6] (fun i wr => ∃ (k : Nat), k ≤ ls.length ∧ i = .int .i64 k ∧ Chk a1 a2 oa ea nt c1 c2 oc ec fs.length K D wK (b || !pB (SrcsTo fs.length D nr ls k)) wr ∧ Rk K w wr) (fun i _ => ls.length - (intOf i).toNat)
 case atStart => exact ⟨0, by omega, rfl, by rw [pB_yes SrcsTo.zero]; simpa using h, Rk.refl _ _⟩
 case round =>
  obtain ⟨k, hk, rfl, hC, hR⟩ := hrel
  by_cases hlt : k < ls.length
  case neg =>
   obtain rfl : k = ls.length := by omega
   go_wp2
   go_end0
   exact ⟨rfl, hC.iff SrcsTo.all, hR⟩
  have hbel := hC.bel
  rw [l.size] at hbel
  obtain ⟨b', off, rfl, -, d0, d1, d2, d3, d4⟩ := (hm.mono hbel) k hlt
  have hsk := hl.2 _ (List.getElem_mem hlt)
  clear hbel
  go_wp2_with fail
  refine (kSrc_any ls[k] nr hsk l hC).mono ?_
  rintro e w2 ⟨rfl, hC2, hr⟩
  clear d0 d1 d2 d3 d4
  go_wp2
  go_roundw
  case rel => exact ⟨k + 1, by omega, by go_num, hC2.both.iff (SrcsTo.more hlt), hR.trans hr⟩
  case measure => simp [intOf]; omega
end
end Go.Proofs.YthnolafhnplnkaaGreatDoor
