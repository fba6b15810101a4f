/-
  The document's look at a source, and at a list of them.
  What spec.l05FrameOk returns.
  The document's look at an exit: what is said of it on plain data; makes in a drawn region; l05FrameOk of nils.
  A make in a region that draws its order.
-/
import Derived.Test.YtcbknjjnphknbaaGreatDoorZOQ25
import Derived.Test.YtcbknjjnphknbaaGreatDoorZOQ23
import Derived.Test.YtcbknjjnphknbaaGreatDoorZOQ15
import Derived.Test.YtcbknjjnphknbaaGreatDoorZOQ5
import Derived.Deep.RegionHeld3
import Derived.Test.YtcbknjjnphknbaaGreatDoorZOQ16
import Derived.Test.YtcbknjjnphknbaaGreatDoorZOQ10
import Derived.Deep.QuietTactic
import Derived.BigQuiet
import Derived.Test.YtcbknjjnphknbaaGreatDoorZJ8
import Derived.Deep.RegionLaw
import Derived.Deep.CutRange
import Derived.Test.YtcbknjjnphknbaaGreatDoorZOQ27
namespace Go.Proofs.YtcbknjjnphknbaaGreatDoor
open Go.RowKit

theorem src2 {nf : Nat} {D : FastD} {nr : Nat} {n : Int} {v : Vl} : SrcP nf D nr ⟨2, n, v⟩ ↔ v = zeroV ∧ Reg n D.vals := by simp [SrcP]
theorem src3 {nf : Nat} {D : FastD} {nr : Nat} {n : Int} {v : Vl} : SrcP nf D nr ⟨3, n, v⟩ ↔ v = zeroV ∧ Reg n D.nums := by simp [SrcP]
theorem src4 {nf : Nat} {D : FastD} {nr : Nat} {n : Int} {v : Vl} : SrcP nf D nr ⟨4, n, v⟩ ↔ v = zeroV ∧ Reg n nr := by simp [SrcP]
theorem srcNo {nf : Nat} {D : FastD} {nr : Nat} {k n : Int} {v : Vl} (h1 : ¬ k = 1) (h2 : ¬ k = 2) (h3 : ¬ k = 3) (h4 : ¬ k = 4) : ¬ SrcP nf D nr ⟨k, n, v⟩ := by simp [SrcP, h1, h2, h3, h4]
section
variable {fs : List Fn} {a1 a2 oa ea : Option Addr} {nt c1 c2 oc ec K : Nat} {D : FastD} {wK w : World} {b : Bool}
set_option maxRecDepth 100000 in
set_option maxHeartbeats 4000000 in
theorem kSrc1 (n vk vn : Int) (vs : ByteArray) (nr : Nat) (hs : vs.size ≤ 1048576) (l : SLim fs D K wK a2 oa ea) (h : Chk a1 a2 oa ea nt c1 c2 oc ec fs.length K D wK b w) :
    Calls Tryz.prog 114 #[.pointer (some ⟨K, 0, none⟩), .agg #[.int .i64 1, .int .i64 n, .int .i64 vk, .int .i64 vn, .string vs], .int .i64 (nr : Nat)] w fun e w' => e = .returned (.tuple #[]) ∧ Chk a1 a2 oa ea nt c1 c2 oc ec fs.length K D wK (b || !pB (SrcP fs.length D nr ⟨1, n, vk, vn, vs⟩)) w' ∧ Rk K w w' := by
  have hwk : K < w.heap.size := lt_block h.blk
  have hne : w.heap.size ≠ K := by omega
  obtain ⟨wA, hwA⟩ : ∃ wA, wA = w.alloc (.cells #[.int .i64 1, .int .i64 n, .int .i64 vk, .int .i64 vn, .string vs] 207) := ⟨_, rfl⟩
  have hbA : Below w.heap.size w wA := by rw [hwA]; exact (Below.refl _ _).alloc (Nat.le_refl _) _
  have hX1 : wA.heap[w.heap.size]? = some (.cells #[.int .i64 1, .int .i64 n, .int .i64 vk, .int .i64 vn, .string vs] 207 (0, 0)) := by rw [hwA]; exact block_new _ _ _
  have hC1 := h.mono hbA
  have R1 : Rk K w wA := Rk.of hbA
  have x0 := block_cell (block_new w #[.int .i64 1, .int .i64 n, .int .i64 vk, .int .i64 vn, .string vs] 207)
  have x1 := block_cell hX1
  clear h hbA
  go_enter Tryz.func114, Tryz.ntmps114
  go_wp2_with fail
  rw [← hwA]
  clear hwA x0
  refine (kZero_any n hC1).mono ?_
  rintro e w11 ⟨rfl, hC2, hr⟩
  have hX2 := block_rk hX1 hne hr
  have R2 := R1.trans hr
  clear x1 hX1 R1 hC1 hr
  have x2 := block_cell hX2
  go_wp2_with fail
  have hnf := l.nf
  have HC : Hid (Chk a1 a2 oa ea nt c1 c2 oc ec fs.length K D wK _ w11) := hC2
  have HXX := hX2
  have HS : Hid (∀ w', Below w11.heap.size w11 w' → w'.cell? ⟨K, 0, none⟩ = some (.slice a1 nt c1) ∧ w'.cell? ⟨K, 1, none⟩ = some (.slice a2 fs.length c2) ∧ w'.cell? ⟨w.heap.size, 2, none⟩ = some (.int .i64 vk) ∧ w'.cell? ⟨w.heap.size, 3, none⟩ = some (.int .i64 vn) ∧ w'.cell? ⟨w.heap.size, 4, none⟩ = some (.string vs)) := fun w' q => ⟨(HC.out.mono q).cells 0, (HC.out.mono q).cells 1, block_cell (block_kept HXX q) 2, block_cell (block_kept HXX q) 3, block_cell (block_kept HXX q) 4⟩
  obtain ⟨j0, j1, j2, j3, j4⟩ := HS.out _ (Below.refl _ _)
  have q : Below w11.heap.size w11 w11.drew := (Below.refl _ _).drew
  clear x2 hC2
  go_region_held3 (fun w' => w'.cell? ⟨K, 0, none⟩ = some (.slice a1 nt c1) ∧ w'.cell? ⟨K, 1, none⟩ = some (.slice a2 fs.length c2) ∧ w'.cell? ⟨w.heap.size, 2, none⟩ = some (.int .i64 vk) ∧ w'.cell? ⟨w.heap.size, 3, none⟩ = some (.int .i64 vn) ∧ w'.cell? ⟨w.heap.size, 4, none⟩ = some (.string vs))
    (first | exact ⟨j0, j1, j2, j3, j4⟩ | exact HS.out _ q | exact ⟨hc.cells 0, hc.cells 1, block_cell (block_rk (block_kept HXX q) hne hr) 2, block_cell (block_rk (block_kept HXX q) hne hr) 3, block_cell (block_rk (block_kept HXX q) hne hr) 4⟩)
    (first
      | (go_at_call 73; refine (sOk_any vk vn vs 0 _ _ _ _ fs.length _ _ hnf hs).mono ?_; rintro e wz ⟨rfl, kd⟩; have q := q.trans (kd.mono q.size))
      | (go_at_call 72; refine (need_any _ (HC.out.mono q)).mono ?_; rintro e wy ⟨rfl, hc, hr⟩))
  have hC3 : Chk a1 a2 oa ea nt c1 c2 oc ec fs.length K D wK ((b || !pB (n = 0)) || !pB (valB vk vn vs fs.length 0 = true)) wy := by
    rw [show pB (valB vk vn vs fs.length 0 = true) = valB vk vn vs fs.length 0 by simp [pB]]
    exact hc
  have R3 := (R2.trans (Rk.of q)).trans hr
  clear HS HC j0 j1 j2 j3 j4
  go_wp2
  go_end0
  exact ⟨rfl, hC3.both.iff (src1 (v := ⟨vk, vn, vs⟩)).symm, R3⟩

set_option maxRecDepth 100000 in
set_option maxHeartbeats 4000000 in
theorem kSrc2 (n vk vn : Int) (vs : ByteArray) (nr : Nat) (l : SLim fs D K wK a2 oa ea) (h : Chk a1 a2 oa ea nt c1 c2 oc ec fs.length K D wK b w) :
    Calls Tryz.prog 114 #[.pointer (some ⟨K, 0, none⟩), .agg #[.int .i64 2, .int .i64 n, .int .i64 vk, .int .i64 vn, .string vs], .int .i64 (nr : Nat)] w fun e w' => e = .returned (.tuple #[]) ∧ Chk a1 a2 oa ea nt c1 c2 oc ec fs.length K D wK (b || !pB (SrcP fs.length D nr ⟨2, n, vk, vn, vs⟩)) w' ∧ Rk K w w' := by
  have hwk : K < w.heap.size := lt_block h.blk
  have hne : w.heap.size ≠ K := by omega
  obtain ⟨wA, hwA⟩ : ∃ wA, wA = w.alloc (.cells #[.int .i64 2, .int .i64 n, .int .i64 vk, .int .i64 vn, .string vs] 207) := ⟨_, rfl⟩
  have hbA : Below w.heap.size w wA := by rw [hwA]; exact (Below.refl _ _).alloc (Nat.le_refl _) _
  have hX1 : wA.heap[w.heap.size]? = some (.cells #[.int .i64 2, .int .i64 n, .int .i64 vk, .int .i64 vn, .string vs] 207 (0, 0)) := by rw [hwA]; exact block_new _ _ _
  have hC1 := h.mono hbA
  have R1 : Rk K w wA := Rk.of hbA
  have x0 := block_cell (block_new w #[.int .i64 2, .int .i64 n, .int .i64 vk, .int .i64 vn, .string vs] 207)
  have x1 := block_cell hX1
  clear h hbA
  go_enter Tryz.func114, Tryz.ntmps114
  go_wp2_with fail
  rw [← hwA]
  clear hwA x0
  refine (kNone_any ⟨vk, vn, vs⟩ hC1).mono ?_
  rintro e w11 ⟨rfl, hC2, hr⟩
  have hX2 := block_rk hX1 hne hr
  have R2 := R1.trans hr
  clear x1 hX1 R1 hC1 hr
  have x2 := block_cell hX2
  go_wp2_with fail
  refine (kVal_any n l.vals hC2).mono ?_
  rintro e w12 ⟨rfl, hC3, hr⟩
  have hX3 := block_rk hX2 hne hr
  have R3 := R2.trans hr
  clear x2 hX2 R2 hC2 hr
  have x3 := block_cell hX3
  go_wp2
  go_end0
  exact ⟨rfl, hC3.both.iff src2.symm, R3⟩

set_option maxRecDepth 100000 in
set_option maxHeartbeats 4000000 in
theorem kSrc3 (n vk vn : Int) (vs : ByteArray) (nr : Nat) (l : SLim fs D K wK a2 oa ea) (h : Chk a1 a2 oa ea nt c1 c2 oc ec fs.length K D wK b w) :
    Calls Tryz.prog 114 #[.pointer (some ⟨K, 0, none⟩), .agg #[.int .i64 3, .int .i64 n, .int .i64 vk, .int .i64 vn, .string vs], .int .i64 (nr : Nat)] w fun e w' => e = .returned (.tuple #[]) ∧ Chk a1 a2 oa ea nt c1 c2 oc ec fs.length K D wK (b || !pB (SrcP fs.length D nr ⟨3, n, vk, vn, vs⟩)) w' ∧ Rk K w w' := by
  have hwk : K < w.heap.size := lt_block h.blk
  have hne : w.heap.size ≠ K := by omega
  obtain ⟨wA, hwA⟩ : ∃ wA, wA = w.alloc (.cells #[.int .i64 3, .int .i64 n, .int .i64 vk, .int .i64 vn, .string vs] 207) := ⟨_, rfl⟩
  have hbA : Below w.heap.size w wA := by rw [hwA]; exact (Below.refl _ _).alloc (Nat.le_refl _) _
  have hX1 : wA.heap[w.heap.size]? = some (.cells #[.int .i64 3, .int .i64 n, .int .i64 vk, .int .i64 vn, .string vs] 207 (0, 0)) := by rw [hwA]; exact block_new _ _ _
  have hC1 := h.mono hbA
  have R1 : Rk K w wA := Rk.of hbA
  have x0 := block_cell (block_new w #[.int .i64 3, .int .i64 n, .int .i64 vk, .int .i64 vn, .string vs] 207)
  have x1 := block_cell hX1
  clear h hbA
  go_enter Tryz.func114, Tryz.ntmps114
  go_wp2_with fail
  rw [← hwA]
  clear hwA x0
  refine (kNone_any ⟨vk, vn, vs⟩ hC1).mono ?_
  rintro e w11 ⟨rfl, hC2, hr⟩
  have hX2 := block_rk hX1 hne hr
  have R2 := R1.trans hr
  clear x1 hX1 R1 hC1 hr
  have x2 := block_cell hX2
  go_wp2_with fail
  refine (kNum_any n l.nums hC2).mono ?_
  rintro e w12 ⟨rfl, hC3, hr⟩
  have hX3 := block_rk hX2 hne hr
  have R3 := R2.trans hr
  clear x2 hX2 R2 hC2 hr
  have x3 := block_cell hX3
  go_wp2
  go_end0
  exact ⟨rfl, hC3.both.iff src3.symm, R3⟩

set_option maxRecDepth 100000 in
set_option maxHeartbeats 4000000 in
theorem kSrc4 (n vk vn : Int) (vs : ByteArray) (nr : Nat) (h : Chk a1 a2 oa ea nt c1 c2 oc ec fs.length K D wK b w) :
    Calls Tryz.prog 114 #[.pointer (some ⟨K, 0, none⟩), .agg #[.int .i64 4, .int .i64 n, .int .i64 vk, .int .i64 vn, .string vs], .int .i64 (nr : Nat)] w fun e w' => e = .returned (.tuple #[]) ∧ Chk a1 a2 oa ea nt c1 c2 oc ec fs.length K D wK (b || !pB (SrcP fs.length D nr ⟨4, n, vk, vn, vs⟩)) w' ∧ Rk K w w' := by
  have hwk : K < w.heap.size := lt_block h.blk
  have hne : w.heap.size ≠ K := by omega
  obtain ⟨wA, hwA⟩ : ∃ wA, wA = w.alloc (.cells #[.int .i64 4, .int .i64 n, .int .i64 vk, .int .i64 vn, .string vs] 207) := ⟨_, rfl⟩
  have hbA : Below w.heap.size w wA := by rw [hwA]; exact (Below.refl _ _).alloc (Nat.le_refl _) _
  have hX1 : wA.heap[w.heap.size]? = some (.cells #[.int .i64 4, .int .i64 n, .int .i64 vk, .int .i64 vn, .string vs] 207 (0, 0)) := by rw [hwA]; exact block_new _ _ _
  have hC1 := h.mono hbA
  have R1 : Rk K w wA := Rk.of hbA
  have x0 := block_cell (block_new w #[.int .i64 4, .int .i64 n, .int .i64 vk, .int .i64 vn, .string vs] 207)
  have x1 := block_cell hX1
  clear h hbA
  by_cases hp : Reg n nr
  case pos =>
    have g1 : (0 : Int) ≤ n := hp.1
    have g2 : n < (nr : Int) := hp.2
    have HP : Hid (Reg n nr) := hp
    clear hp
    go_enter Tryz.func114, Tryz.ntmps114
    go_wp2_with fail
    rw [← hwA]
    clear hwA x0
    refine (kNone_any ⟨vk, vn, vs⟩ hC1).mono ?_
    rintro e w11 ⟨rfl, hC2, hr⟩
    have hX2 := block_rk hX1 hne hr
    have R2 := R1.trans hr
    clear x1 hX1 R1 hC1 hr
    have x2 := block_cell hX2
    go_wp2_with fail
    refine (need_any true hC2).mono ?_
    rintro e w20 ⟨rfl, hc, hr⟩
    clear x2
    go_wp2
    go_end0
    refine ⟨rfl, ?_, R2.trans hr⟩
    rw [pB_congr (src4 (nf := fs.length) (D := D) (nr := nr) (n := n) (v := ⟨vk, vn, vs⟩)), pB_and, pB_yes HP.out]
    simpa using hc
  have HP : Hid (¬ Reg n nr) := hp
  by_cases g1 : (0 : Int) ≤ n
  case pos =>
    have g2 : ¬ n < (nr : Int) := fun q => hp ⟨g1, q⟩
    clear hp
    go_enter Tryz.func114, Tryz.ntmps114
    go_wp2_with fail
    rw [← hwA]
    clear hwA x0
    refine (kNone_any ⟨vk, vn, vs⟩ hC1).mono ?_
    rintro e w11 ⟨rfl, hC2, hr⟩
    have hX2 := block_rk hX1 hne hr
    have R2 := R1.trans hr
    clear x1 hX1 R1 hC1 hr
    have x2 := block_cell hX2
    go_wp2_with fail
    (try rw [show decide (n < (nr : Int)) = false by simp; omega])
    refine (need_any false hC2).mono ?_
    rintro e w20 ⟨rfl, hc, hr⟩
    clear x2
    go_wp2
    go_end0
    refine ⟨rfl, ?_, R2.trans hr⟩
    rw [pB_no (fun q => HP.out (src4.1 q).2)]
    simpa using hc
  case neg =>
    clear hp
    go_enter Tryz.func114, Tryz.ntmps114
    go_wp2_with fail
    rw [← hwA]
    clear hwA x0
    refine (kNone_any ⟨vk, vn, vs⟩ hC1).mono ?_
    rintro e w11 ⟨rfl, hC2, hr⟩
    have hX2 := block_rk hX1 hne hr
    have R2 := R1.trans hr
    clear x1 hX1 R1 hC1 hr
    have x2 := block_cell hX2
    go_wp2_with fail
    (try rw [show decide ((0 : Int) ≤ n) = false by simp; omega])
    refine (need_any false hC2).mono ?_
    rintro e w20 ⟨rfl, hc, hr⟩
    clear x2
    go_wp2
    go_end0
    refine ⟨rfl, ?_, R2.trans hr⟩
    rw [pB_no (fun q => HP.out (src4.1 q).2)]
    simpa using hc

set_option maxRecDepth 100000 in
set_option maxHeartbeats 4000000 in
theorem kSrcNo (k n vk vn : Int) (vs : ByteArray) (nr : Nat) (h1 : ¬ k = 1) (h2 : ¬ k = 2) (h3 : ¬ k = 3) (h4 : ¬ k = 4) (h : Chk a1 a2 oa ea nt c1 c2 oc ec fs.length K D wK b w) :
    Calls Tryz.prog 114 #[.pointer (some ⟨K, 0, none⟩), .agg #[.int .i64 k, .int .i64 n, .int .i64 vk, .int .i64 vn, .string vs], .int .i64 (nr : Nat)] w fun e w' => e = .returned (.tuple #[]) ∧ Chk a1 a2 oa ea nt c1 c2 oc ec fs.length K D wK (b || !pB (SrcP fs.length D nr ⟨k, n, vk, vn, vs⟩)) w' ∧ Rk K w w' := by
  have hwk : K < w.heap.size := lt_block h.blk
  have hne : w.heap.size ≠ K := by omega
  obtain ⟨wA, hwA⟩ : ∃ wA, wA = w.alloc (.cells #[.int .i64 k, .int .i64 n, .int .i64 vk, .int .i64 vn, .string vs] 207) := ⟨_, rfl⟩
  have hbA : Below w.heap.size w wA := by rw [hwA]; exact (Below.refl _ _).alloc (Nat.le_refl _) _
  have hX1 : wA.heap[w.heap.size]? = some (.cells #[.int .i64 k, .int .i64 n, .int .i64 vk, .int .i64 vn, .string vs] 207 (0, 0)) := by rw [hwA]; exact block_new _ _ _
  have hC1 := h.mono hbA
  have R1 : Rk K w wA := Rk.of hbA
  have x0 := block_cell (block_new w #[.int .i64 k, .int .i64 n, .int .i64 vk, .int .i64 vn, .string vs] 207)
  have x1 := block_cell hX1
  clear h hbA
  have n1 : (k != 1) = true := by simpa using h1
  go_enter Tryz.func114, Tryz.ntmps114
  go_wp2_with fail
  rw [← hwA]
  clear hwA x0
  refine (kNone_any ⟨vk, vn, vs⟩ hC1).mono ?_
  rintro e w11 ⟨rfl, hC2, hr⟩
  have hX2 := block_rk hX1 hne hr
  have R2 := R1.trans hr
  clear x1 hX1 R1 hC1 hr
  have x2 := block_cell hX2
  have k3 := hC2.cells
  have k4 := hC2.free
  have g1 : (k == 1) = false := by simpa using h1
  have g2 : (k == 2) = false := by simpa using h2
  have g3 : (k == 3) = false := by simpa using h3
  have g4 : (k == 4) = false := by simpa using h4
  have HN : Hid (¬ SrcP fs.length D nr ⟨k, n, vk, vn, vs⟩) := srcNo h1 h2 h3 h4
  clear h1 h2 h3 h4
  go_wp2
  go_end0
  exact ⟨rfl, (hC2.set true).no HN.out, R2.set _⟩

theorem kSrc_any (s : Sr) (nr : Nat) (hs : s.v.s.size ≤ 1048576) (l : SLim fs D K wK a2 oa ea) (h : Chk a1 a2 oa ea nt c1 c2 oc ec fs.length K D wK b w) :
    Calls Tryz.prog 114 #[.pointer (some ⟨K, 0, none⟩), .agg #[.int .i64 s.k, .int .i64 s.n, .int .i64 s.v.k, .int .i64 s.v.n, .string s.v.s], .int .i64 (nr : Nat)] w fun e w' => e = .returned (.tuple #[]) ∧ Chk a1 a2 oa ea nt c1 c2 oc ec fs.length K D wK (b || !pB (SrcP fs.length D nr s)) w' ∧ Rk K w w' := by
  obtain ⟨k, n, vk, vn, vs⟩ := s
  by_cases h1 : k = 1
  · subst h1; exact kSrc1 n vk vn vs nr hs l h
  by_cases h2 : k = 2
  · subst h2; exact kSrc2 n vk vn vs nr l h
  by_cases h3 : k = 3
  · subst h3; exact kSrc3 n vk vn vs nr l h
  by_cases h4 : k = 4
  · subst h4; exact kSrc4 n vk vn vs nr h
  exact kSrcNo k n vk vn vs nr h1 h2 h3 h4 h

/-- The first k of a list are as asked. -/
def SrcsTo (nf : Nat) (D : FastD) (nr : Nat) (ls : List Sr) (k : Nat) : Prop := ∀ i (h : i < ls.length), i < k → SrcP nf D nr ls[i]
theorem SrcsTo.more {nf : Nat} {D : FastD} {nr k : Nat} {ls : List Sr} (hk : k < ls.length) : SrcsTo nf D nr ls k ∧ SrcP nf D nr ls[k] ↔ SrcsTo nf D nr ls (k + 1) :=
  ⟨fun q i h hi => by
    by_cases e : i = k
    · subst e; exact q.2
    · exact q.1 i h (by omega), fun q => ⟨fun i h hi => q i h (by omega), q k hk (by omega)⟩⟩
theorem SrcsTo.all {nf : Nat} {D : FastD} {nr : Nat} {ls : List Sr} : SrcsTo nf D nr ls ls.length ↔ SrcsP nf D nr ls := ⟨fun q i h => q i h h, fun q i h _ => q i h⟩
theorem SrcsTo.zero {nf : Nat} {D : FastD} {nr : Nat} {ls : List Sr} : SrcsTo nf D nr ls 0 := fun _ _ h => absurd h (Nat.not_lt_zero _)

set_option maxRecDepth 100000 in
set_option maxHeartbeats 4000000 in
theorem kSrcs_any (a : Option Addr) (ls : List Sr) (cap nr : Nat) (hl : LSmall SrSmall ls) (hm : SrsAt wK 0 a ls) (l : SLim fs D K wK a2 oa ea) (h : Chk a1 a2 oa ea nt c1 c2 oc ec fs.length K D wK b w) :
    Calls Tryz.prog 77 #[.pointer (some ⟨K, 0, none⟩), .slice a ls.length cap, .int .i64 (nr : Nat)] w fun e w' => e = .returned (.tuple #[]) ∧ Chk a1 a2 oa ea nt c1 c2 oc ec fs.length K D wK (b || !pB (SrcsP fs.length D nr ls)) w' ∧ Rk K w w' := by
  have hn := hl.1
  go_enter Tryz.func77, Tryz.ntmps77
  go_wp2
  go_loopw [6] (fun i wr => ∃ (k : Nat), k ≤ ls.length ∧ i = .int .i64 k ∧ Chk a1 a2 oa ea nt c1 c2 oc ec fs.length K D wK (b || !pB (SrcsTo fs.length D nr ls k)) wr ∧ Rk K w wr) (fun i _ => ls.length - (intOf i).toNat)
  case atStart => exact ⟨0, by omega, rfl, by rw [pB_yes SrcsTo.zero]; simpa using h, Rk.refl _ _⟩
  case round =>
    obtain ⟨k, hk, rfl, hC, hR⟩ := hrel
    by_cases hlt : k < ls.length
    case neg =>
      obtain rfl : k = ls.length := by omega
      go_wp2
      go_end0
      exact ⟨rfl, hC.iff SrcsTo.all, hR⟩
    have hbel := hC.bel
    rw [l.size] at hbel
    obtain ⟨b', off, rfl, -, d0, d1, d2, d3, d4⟩ := (hm.mono hbel) k hlt
    have hsk := hl.2 _ (List.getElem_mem hlt)
    clear hbel
    go_wp2_with fail
    refine (kSrc_any ls[k] nr hsk l hC).mono ?_
    rintro e w2 ⟨rfl, hC2, hr⟩
    clear d0 d1 d2 d3 d4
    go_wp2
    go_roundw
    case rel => exact ⟨k + 1, by omega, by go_num, hC2.both.iff (SrcsTo.more hlt), hR.trans hr⟩
    case measure => simp [intOf]; omega
end
end Go.Proofs.YtcbknjjnphknbaaGreatDoor

namespace Go.Proofs.YtcbknjjnphknbaaGreatDoor
open Go.RowKit

def FrOk (fs : List Fn) (x : Fr) (r : Int) (last : Bool) : Prop := Fits fs x.fn x.pc x.locals.length x.stack.length last ∧ valsB x.locals fs.length r = true ∧ valsB x.stack fs.length r = true

set_option maxRecDepth 100000 in
set_option maxHeartbeats 4000000 in
theorem frameOk_any (a1 a2 la sa : Option Addr) (nt c1 c2 lc sc : Nat) (fs : List Fn) (x : Fr) (r : Int) (last : Bool) (w : World) (hn : fs.length ≤ 1048576) (hm : FnsAt w 0 a2 fs) (FF : ∀ k (hk : k < fs.length), Fine fs fs[k].code)
    (hsl : ValsSmall x.locals) (hss : ValsSmall x.stack) (hvl : ValsAt w 0 la x.locals) (hvs : ValsAt w 0 sa x.stack) :
    Calls Tryz.prog 78 #[.agg #[.slice a1 nt c1, .slice a2 fs.length c2], .agg #[.int .i64 x.fn, .int .i64 x.pc, .slice la x.locals.length lc, .slice sa x.stack.length sc], .int .i64 r, .bool last] w fun e w' => Says (FrOk fs x r last) e ∧ Below w.heap.size w w' := by
  have hbA : Below w.heap.size w ((w.alloc (.cells #[.slice a1 nt c1, .slice a2 fs.length c2] 35)).alloc (.cells #[.int .i64 x.fn, .int .i64 x.pc, .slice la x.locals.length lc, .slice sa x.stack.length sc] 148)) := ((Below.refl _ _).alloc (Nat.le_refl _) _).alloc (by simp) _
  have hll := hsl.1
  have hsl1 := hss.1
  by_cases hf : 0 ≤ x.fn ∧ x.fn < (fs.length : Int)
  case neg =>
    have hf' : (decide (0 ≤ x.fn) && decide (x.fn ≤ (fs.length : Int) - 1)) = false := by rw [Bool.eq_false_iff]; simp; omega
    go_enter Tryz.func78, Tryz.ntmps78
    go_wp2_with (go_at_call 34; refine (between_any _ _ _ _).mono ?_; rintro e w' ⟨rfl, hw⟩; rw [hw, hf']; clear hw w')
    go_ret
    exact ⟨Says.no rfl (fun h => absurd h.1 (fits_fn (by omega))), hbA⟩
  have hf' : (decide (0 ≤ x.fn) && decide (x.fn ≤ (fs.length : Int) - 1)) = true := by simp; omega
  obtain ⟨i, hxi⟩ : ∃ i : Nat, x.fn = i := ⟨x.fn.toNat, by omega⟩
  have hi : i < fs.length := by omega
  clear hf
  obtain ⟨b, off, ca, cc, rfl, -, d1, d2, d3, d4⟩ := hm i hi
  have d1' := cell_later hbA d1
  have d2' := cell_later hbA d2
  have d3' := cell_later hbA d3
  clear d1 d2 d3
  have F := FF i hi
  have hmost := F.most
  rw [hxi] at hf' hbA d1' d2' d3' ⊢
  have HXI : Hid (x.fn = (i : Int)) := hxi
  clear hxi
  obtain ⟨wx, hwx⟩ : ∃ wx, wx = ((w.alloc (.cells #[.slice a1 nt c1, .slice (some ⟨b, off, none⟩) fs.length c2] 35)).alloc (.cells #[.int .i64 (i : Int), .int .i64 x.pc, .slice la x.locals.length lc, .slice sa x.stack.length sc] 148)).alloc (.cells #[.int .i64 fs[i].params, .int .i64 fs[i].locals, .slice ca fs[i].code.length cc] 91) := ⟨_, rfl⟩
  have hMx : wx.heap[w.heap.size]? = some (.cells #[.slice a1 nt c1, .slice (some ⟨b, off, none⟩) fs.length c2] 35 (0, 0)) := by rw [hwx]; exact block_old (block_old (block_new _ _ _) _) _
  have hFx : wx.heap[w.heap.size + 1]? = some (.cells #[.int .i64 (i : Int), .int .i64 x.pc, .slice la x.locals.length lc, .slice sa x.stack.length sc] 148 (0, 0)) := by rw [hwx]; exact block_old (block_new_at _ _ _ _ (by simp)) _
  have hXx : wx.heap[w.heap.size + 1 + 1]? = some (.cells #[.int .i64 fs[i].params, .int .i64 fs[i].locals, .slice ca fs[i].code.length cc] 91 (0, 0)) := by rw [hwx]; exact block_new_at _ _ _ _ (by simp)
  have hbx : Below w.heap.size w wx := by rw [hwx]; exact hbA.alloc hbA.size _
  go_enter Tryz.func78, Tryz.ntmps78
  go_wp2_with (go_at_call 34; refine (between_any _ _ _ _).mono ?_; rintro e w' ⟨rfl, hw⟩; rw [hw, hf']; clear hw w')
  rw [← hwx]
  clear hwx d1' d2' d3' hf' hbA
  refine (sDepths_any _ _ _ _ _ fs i _ hi hn (hm.mono hbx) F).mono ?_
  rintro e w1 ⟨g, cap, d, rfl, -, hD, hH, hb1⟩
  have P := hD.hts F
  have hdl : Hid (d.length = fs[i].code.length) := P.len
  have hM1 := block_kept hMx hb1
  have hF1 := block_kept hFx hb1
  have hX1 := block_kept hXx hb1
  have hB1 := hbx.trans (hb1.mono hbx.size)
  have y1 := block_cell hM1
  have z1 := block_cell hF1
  have x1 := block_cell hX1
  clear hMx hFx hXx hb1 hbx
  by_cases hl : (x.locals.length : Int) = fs[i].locals
  case neg =>
    have hl' : ((x.locals.length : Int) != fs[i].locals) = true := by simpa using hl
    have HL : Hid ((x.locals.length : Int) ≠ fs[i].locals) := hl
    clear hl
    go_wp2
    go_ret
    exact ⟨Says.no rfl (fun h => absurd h.1 (by rw [HXI.out]; exact fits_locals hi HL.out)), hB1⟩
  have HL : Hid ((x.locals.length : Int) = fs[i].locals) := hl
  have hl' : ((x.locals.length : Int) != fs[i].locals) = false := by simpa using hl
  clear hl
  by_cases hp : 0 ≤ x.pc ∧ x.pc < (fs[i].code.length : Int)
  case neg =>
    have hp' : (decide (0 ≤ x.pc) && decide (x.pc ≤ (fs[i].code.length : Int) - 1)) = false := by rw [Bool.eq_false_iff]; simp; omega
    go_wp2_with (go_at_call 34; refine (between_any _ _ _ _).mono ?_; rintro e w' ⟨rfl, hw⟩; rw [hw, hp']; clear hw w')
    go_ret
    exact ⟨Says.no rfl (fun h => absurd h.1 (by rw [HXI.out]; exact fits_pc hi (by omega))), hB1⟩
  have hp' : (decide (0 ≤ x.pc) && decide (x.pc ≤ (fs[i].code.length : Int) - 1)) = true := by simp; omega
  obtain ⟨p, hxp⟩ : ∃ p : Nat, x.pc = p := ⟨x.pc.toNat, by omega⟩
  have hpl : p < fs[i].code.length := by omega
  have hpd : p < d.length := by rw [hdl.out]; exact hpl
  rw [hxp] at hp' hF1 z1 ⊢
  have HXP : Hid (x.pc = (p : Int)) := hxp
  clear hp hxp
  have hc0 := hH.cell hpd
  have hlow := P.low p hpd
  have hhigh := P.high p hpd
  by_cases hm1 : d[p] < 0
  · have HM : Hid (d[p] < 0) := hm1
    go_wp2_with (go_at_call 34; refine (between_any _ _ _ _).mono ?_; rintro e w' ⟨rfl, hw⟩; rw [hw, hp']; clear hw w')
    go_ret
    exact ⟨Says.no rfl (fun h => absurd h.1 (by rw [HXI.out, HXP.out]; exact fits_none hi hD hpd HM.out)), hB1⟩
  have HM : Hid (0 ≤ d[p]) := by show 0 ≤ d[p]; omega
  go_wp2_with (first | (go_at_call 34; refine (between_any _ _ _ _).mono ?_; rintro e w' ⟨rfl, hw⟩; rw [hw, hp']; clear hw w'))
  refine (sValues_any _ _ _ _ _ _ _ _ _ _ _ hn hsl (hvl.mono hB1)).mono ?_
  rintro e w2 ⟨rfl, hb2⟩
  have hM2 := block_kept hM1 hb2
  have hF2 := block_kept hF1 hb2
  have hX2 := block_kept hX1 hb2
  have hH2 := hH.mono hb2
  have hB2 := hB1.trans (hb2.mono hB1.size)
  have y2 := block_cell hM2
  have z2 := block_cell hF2
  have x2 := block_cell hX2
  clear y1 z1 x1 hM1 hF1 hX1 hB1 hb2 hc0 hH hp' hl'
  by_cases hv : valsB x.locals fs.length r = true
  case neg =>
    have HV : Hid (¬ valsB x.locals fs.length r = true) := hv
    have hv' : valsB x.locals fs.length r = false := by simpa using hv
    clear hv
    go_wp2
    go_ret
    exact ⟨Says.no rfl (fun h => HV.out h.2.1), hB2⟩
  have HV : Hid (valsB x.locals fs.length r = true) := hv
  go_wp2_with fail
  refine (sValues_any _ _ _ _ _ _ _ _ _ _ _ hn hss (hvs.mono hB2)).mono ?_
  rintro e w3 ⟨rfl, hb3⟩
  have hF3 := block_kept hF2 hb3
  have hX3 := block_kept hX2 hb3
  have hH3 := hH2.mono hb3
  have hB3 := hB2.trans (hb3.mono hB2.size)
  have z3 := block_cell hF3
  have x3 := block_cell hX3
  have hc3 := hH3.cell hpd
  clear y2 z2 x2 hM2 hF2 hX2 hb3 hH2 hv
  by_cases hu : valsB x.stack fs.length r = true
  case neg =>
    have HU : Hid (¬ valsB x.stack fs.length r = true) := hu
    have hu' : valsB x.stack fs.length r = false := by simpa using hu
    clear hu
    go_wp2
    go_ret
    exact ⟨Says.no rfl (fun h => HU.out h.2.2), hB3⟩
  have HU : Hid (valsB x.stack fs.length r = true) := hu
  have d4' := d4.mono hB3
  cases last with
  | true =>
    go_wp2
    go_quiet (fail)
    go_wp2
    go_ret
    refine ⟨⟨_, rfl, ?_⟩, below_draws hB3 _⟩
    unfold FrOk
    rw [HXI.out, HXP.out, fits_last hi hD hpd hdl.out HL.out HM.out]
    constructor
    · intro h
      exact ⟨by simpa using h, HV.out, HU.out⟩
    · rintro ⟨h, -⟩
      simpa using h
  | false =>
    cases p with
    | zero =>
      go_wp2
      go_ret
      exact ⟨Says.no rfl (fun h => absurd h.1 (by rw [HXI.out, HXP.out]; exact fits_first)), hB3⟩
    | succ p =>
      have hpd0 : p < d.length := by omega
      have hpl0 : p < fs[i].code.length := by omega
      obtain ⟨cb, coff, rfl, -, e1, -⟩ := d4' p hpl0
      have hc1 := hH3.cell hpd0
      have hlow0 := P.low p hpd0
      by_cases hm0 : d[p] < 0
      · have HM0 : Hid (d[p] < 0) := hm0
        go_wp2
        go_ret
        refine ⟨Says.no rfl (fun h => ?_), hB3⟩
        have h1 := h.1
        rw [HXI.out, HXP.out, fits_other hi hD hpd hdl.out HL.out HM.out] at h1
        exact absurd h1.1 (by have := HM0.out; omega)
      have HM0 : Hid (0 ≤ d[p]) := by show 0 ≤ d[p]; omega
      by_cases ho3 : fs[i].code[p].1 = 23
      · have HO : Hid (fs[i].code[p].1 = 23 ∨ fs[i].code[p].1 = 24) := .inl ho3
        have b3 : (fs[i].code[p].1 == 23) = true := by simpa using ho3
        clear ho3
        go_wp2
        go_quiet (fail)
        go_wp2
        go_ret
        refine ⟨⟨_, rfl, ?_⟩, below_draws hB3 _⟩
        unfold FrOk
        rw [HXI.out, HXP.out, fits_other hi hD hpd hdl.out HL.out HM.out]
        constructor
        · intro h
          exact ⟨⟨HM0.out, HO.out, by simpa using h⟩, HV.out, HU.out⟩
        · rintro ⟨⟨-, -, h⟩, -⟩
          simpa using h
      have b3 : (fs[i].code[p].1 == 23) = false := by simpa using ho3
      by_cases ho4 : fs[i].code[p].1 = 24
      · have HO : Hid (fs[i].code[p].1 = 23 ∨ fs[i].code[p].1 = 24) := .inr ho4
        have b4 : (fs[i].code[p].1 == 24) = true := by simpa using ho4
        clear ho3 ho4
        go_wp2
        go_quiet (fail)
        go_wp2
        go_ret
        refine ⟨⟨_, rfl, ?_⟩, below_draws hB3 _⟩
        unfold FrOk
        rw [HXI.out, HXP.out, fits_other hi hD hpd hdl.out HL.out HM.out]
        constructor
        · intro h
          exact ⟨⟨HM0.out, HO.out, by simpa using h⟩, HV.out, HU.out⟩
        · rintro ⟨⟨-, -, h⟩, -⟩
          simpa using h
      · have b4 : (fs[i].code[p].1 == 24) = false := by simpa using ho4
        have HO : Hid (¬ (fs[i].code[p].1 = 23 ∨ fs[i].code[p].1 = 24)) := fun h => h.elim ho3 ho4
        clear ho3 ho4
        go_wp2
        go_quiet (fail)
        go_wp2
        go_ret
        refine ⟨Says.no rfl (fun h => ?_), below_draws hB3 _⟩
        have h1 := h.1
        rw [HXI.out, HXP.out, fits_other hi hD hpd hdl.out HL.out HM.out] at h1
        exact HO.out h1.2.1
end Go.Proofs.YtcbknjjnphknbaaGreatDoor

namespace Go.Proofs.YtcbknjjnphknbaaGreatDoor
open Go.RowKit

theorem step_make {P : Program} {w : World} {ops : Array Oper} {o : Oper} {a : Act} {K : Act → World → Prop} {Q : Exit → Act → World → Prop} {E : Prop} (hgd : o.guard = none) (l c : Operand) (t : TypeId) (hop : o.op = Op.makeSlice t l c)
    (base : Nat) (e : TypeId) (i : TypeInfo) (z : Value) (size : Nat) (h1 : P.underlying t = some (.slice e)) (h2 : P.info? e = some i) (h3 : i.zero = some z) (h4 : i.size = size)
    (kl kc : IntKind) (L C : Int) (n : Nat) (hl : a.eval l = .int kl L) (hc : a.eval c = .int kc C) (hL : L = (n : Int)) (hC : C = (n : Int)) (b2 : i.bytes * n ≤ 281474976710656) (b3 : n ≤ maxLen) (b4 : base ≤ w.heap.size)
    (h : ∀ w', w'.ownsRow base e size (.slice (some ⟨w.heap.size, 0, none⟩) n n) n (madeCells z.cells (n * size)).toList → w.grownBy w' none → K (a.put o.dst (.slice (some ⟨w.heap.size, 0, none⟩) n n)) w') :
    if Region.wanted o (yielded ops a.tmps) = true then Oper.wp P o a w K Q else E := by
  have hw : Region.wanted o (yielded ops a.tmps) = true := by simp [Region.wanted, hgd]
  rw [if_pos hw]
  obtain ⟨w', hrun, r1, r2⟩ := run_make_full (P := P) w base t e i z size h1 h2 h3 h4 kl kc n b2 b3 b4
  subst hL
  subst hC
  unfold Oper.wp
  simp [execOp, hop, hl, hc, hrun, Result.andThen]
  exact h w' r1 r2
/-- So many nils. -/
def nils (n : Nat) : List Vl := List.replicate n zeroV
theorem nils_small (n : Nat) (h : n ≤ 1048576) : ValsSmall (nils n) := ⟨by simpa [nils] using h, fun v hv => by rw [List.eq_of_mem_replicate hv]; decide⟩
theorem nils_ok (n nf : Nat) : valsB (nils n) nf 0 = true := by
  unfold valsB nils
  rw [List.all_eq_true]
  intro v hv
  rw [List.eq_of_mem_replicate hv]
  rfl
theorem made_get {z : Array Value} {n j : Nat} (h : j < n) : (madeCells z n).toList[j]? = some (z[j % z.size]!) := by simp [madeCells, h]
theorem made3 {w1 : World} {base g n : Nat} (h : w1.ownsRow base 102 3 (.slice (some ⟨g, 0, none⟩) n n) n (madeCells #[.int .i64 0, .int .i64 0, .string ByteArray.empty] (n * 3)).toList) :
    ∃ cur, w1.heap[g]? = some (.cells cur 102 (0, 0)) ∧ cur.size = n * 3 ∧ ∀ i, i < n → cur[i * 3]? = some (.int .i64 0) ∧ cur[i * 3 + 1]? = some (.int .i64 0) ∧ cur[i * 3 + 2]? = some (.string ⟨#[]⟩) := by
  rcases h.2 with ⟨hv, -⟩ | ⟨g', cap, cur, hv, -, hh, -, -, hs, ht⟩
  · cases hv
  · cases hv
    refine ⟨cur, hh, hs, fun i hi => ?_⟩
    have get : ∀ j, j < n * 3 → cur[j]? = some ((#[.int .i64 0, .int .i64 0, .string ByteArray.empty] : Array Value)[j % 3]!) := fun j hj => by
      have e := made_get (z := #[.int .i64 0, .int .i64 0, .string ByteArray.empty]) hj
      rw [← ht, List.getElem?_take_of_lt hj] at e
      simpa using e
    refine ⟨?_, ?_, ?_⟩
    · rw [get _ (by omega), show i * 3 % 3 = 0 by omega]; rfl
    · rw [get _ (by omega), show (i * 3 + 1) % 3 = 1 by omega]; rfl
    · rw [get _ (by omega), show (i * 3 + 2) % 3 = 2 by omega]; rfl
theorem nils_at {w : World} {base g n : Nat} (h : w.ownsRow base 102 3 (.slice (some ⟨g, 0, none⟩) n n) n (madeCells (Value.agg #[.int .i64 0, .int .i64 0, .string ByteArray.empty]).cells (n * 3)).toList) : ValsAt w 0 (some ⟨g, 0, none⟩) (nils n) := by
  obtain ⟨cur, h1, -, h3⟩ := made3 h
  intro i hi
  have hi' : i < n := by simpa [nils] using hi
  obtain ⟨c1, c2, c3⟩ := h3 i hi'
  have e : (nils n)[i] = zeroV := by simp [nils]
  rw [e]
  exact ⟨g, 0, rfl, Nat.zero_le _, by rw [block_cell h1, Nat.zero_add]; exact c1, by rw [block_cell h1, Nat.zero_add]; exact c2, by rw [block_cell h1, Nat.zero_add]; exact c3⟩
theorem frOk_nils {fs : List Fn} {f pc : Int} {nl ns : Nat} {last : Bool} : FrOk fs ⟨f, pc, nils nl, nils ns⟩ 0 last ↔ Fits fs f pc nl ns last := by
  unfold FrOk
  simp only [nils_ok, and_true]
  simp [nils]
def FramesTo (fs : List Fn) (D : FastD) (nr : Nat) (fr : List EF) (k : Nat) : Prop := ∀ i (h : i < fr.length), i < k → EFrameP fs D nr fr[i] (decide ((i : Int) = (fr.length : Int) - 1))
def RecsTo (nf : Nat) (D : FastD) (nr : Nat) (rs : List ER) (k : Nat) : Prop := ∀ i (h : i < rs.length), i < k → ERecP nf D nr rs[i]
theorem FramesTo.more {fs : List Fn} {D : FastD} {nr k : Nat} {fr : List EF} (hk : k < fr.length) : FramesTo fs D nr fr k ∧ EFrameP fs D nr fr[k] (decide ((k : Int) = (fr.length : Int) - 1)) ↔ FramesTo fs D nr fr (k + 1) :=
  ⟨fun q i h hi => by
    by_cases e : i = k
    · subst e; exact q.2
    · exact q.1 i h (by omega), fun q => ⟨fun i h hi => q i h (by omega), q k hk (by omega)⟩⟩
theorem RecsTo.more {nf : Nat} {D : FastD} {nr k : Nat} {rs : List ER} (hk : k < rs.length) : RecsTo nf D nr rs k ∧ ERecP nf D nr rs[k] ↔ RecsTo nf D nr rs (k + 1) :=
  ⟨fun q i h hi => by
    by_cases e : i = k
    · subst e; exact q.2
    · exact q.1 i h (by omega), fun q => ⟨fun i h hi => q i h (by omega), q k hk (by omega)⟩⟩
theorem FramesTo.zero {fs : List Fn} {D : FastD} {nr : Nat} {fr : List EF} : FramesTo fs D nr fr 0 := fun _ _ h => absurd h (Nat.not_lt_zero _)
theorem RecsTo.zero {nf : Nat} {D : FastD} {nr : Nat} {rs : List ER} : RecsTo nf D nr rs 0 := fun _ _ h => absurd h (Nat.not_lt_zero _)
section
variable {fs : List Fn} {a1 a2 : Option Addr} {nt c1 c2 : Nat} {w : World}
theorem frB_any (f pc : Int) (gl gs : Nat) (nl ns : Nat) (last : Bool) (hn : fs.length ≤ 1048576) (hm : FnsAt w 0 a2 fs) (FF : ∀ k (hk : k < fs.length), Fine fs fs[k].code) (h1 : nl ≤ 1048576) (h2 : ns ≤ 1048576)
    (hvl : ValsAt w 0 (some ⟨gl, 0, none⟩) (nils nl)) (hvs : ValsAt w 0 (some ⟨gs, 0, none⟩) (nils ns)) :
    Calls Tryz.prog 78 #[.agg #[.slice a1 nt c1, .slice a2 fs.length c2], .agg #[.int .i64 f, .int .i64 pc, .slice (some ⟨gl, 0, none⟩) nl nl, .slice (some ⟨gs, 0, none⟩) ns ns], .int .i64 0, .bool last] w fun e w' => e = .returned (.bool (pB (Fits fs f pc nl ns last))) ∧ Below w.heap.size w w' := by
  have := frameOk_any a1 a2 (some ⟨gl, 0, none⟩) (some ⟨gs, 0, none⟩) nt c1 c2 nl ns fs ⟨f, pc, nils nl, nils ns⟩ 0 last w hn hm FF (nils_small nl h1) (nils_small ns h2) hvl hvs
  simp only [nils, List.length_replicate] at this
  exact this.mono fun _ _ q => ⟨by rw [← pB_congr (frOk_nils (fs := fs) (f := f) (pc := pc) (nl := nl) (ns := ns) (last := last))]; exact Says.pB q.1, q.2⟩
end
end Go.Proofs.YtcbknjjnphknbaaGreatDoor

namespace Go.Proofs.YtcbknjjnphknbaaGreatDoor
open Go.RowKit

section
variable {P : Program} {ops : Array Oper} {Q : Exit → Act → World → Prop} {md : Region.Mode} {S : World → Prop}
/-- A make comes up. -/
theorem h_make {i : Nat} {n : Nat} {listed : Array Bool} {a : Act} {w : World} (l c : Operand) (t : TypeId) (dst : Option Nat)
    (ho : (ops[i]?).map (fun o => (o.op, o.dst, o.guard)) = some (Op.makeSlice t l c, dst, none))
    (base : Nat) (e : TypeId) (ti : TypeInfo) (z : Value) (size : Nat) (h1 : P.underlying t = some (.slice e)) (h2 : P.info? e = some ti) (h3 : ti.zero = some z) (h4 : ti.size = size)
    (m : Nat) (hl : a.eval l = .int .i64 (m : Int)) (hc : a.eval c = .int .i64 (m : Int)) (b2 : ti.bytes * m ≤ 281474976710656) (b3 : m ≤ maxLen) (b4 : base ≤ w.heap.size)
    (h : ∀ w', w'.ownsRow base e size (.slice (some ⟨w.heap.size, 0, none⟩) m m) m (madeCells z.cells (m * size)).toList → w.grownBy w' none → S w' ∧ wpAnyH P md ops Q S n (listed.setIfInBounds i true) (a.put dst (.slice (some ⟨w.heap.size, 0, none⟩) m m)) w') :
    wpOp P ops Q i (fun a' w' => S w' ∧ wpAnyH P md ops Q S n (listed.setIfInBounds i true) a' w') a w := by
  obtain ⟨o, ho1, ho2⟩ := Option.map_eq_some_iff.1 ho
  simp only [Prod.mk.injEq] at ho2
  obtain ⟨e1, e2, e3⟩ := ho2
  refine h_some ho1 (fun K hK => ?_)
  refine step_make e3 l c t e1 base e ti z size h1 h2 h3 h4 .i64 .i64 (m : Int) (m : Int) m hl hc rfl rfl b2 b3 b4 (fun w' k1 k2 => ?_)
  rw [e2]
  exact hK _ _ (h w' k1 k2).1 (h w' k1 k2).2
end
end Go.Proofs.YtcbknjjnphknbaaGreatDoor
