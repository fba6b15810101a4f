/-
  The look at code (the program): an op.
  A list of nodes: something holds of each of them (a function value with one bound argument).
-/
import Derived.Test.YtcbknjjnphknbaaGreatDoorZOQ21
import Derived.Deep.RegionHeld3
import Derived.Deep.CutRange
import Derived.Test.YtcbknjjnphknbaaGreatDoorZOQ20
namespace Go.Proofs.YtcbknjjnphknbaaGreatDoor
open Go.RowKit

set_option maxHeartbeats 400000 in
theorem comes_any (x0 x1 x2 x3 x4 f p x7 x8 : Int) (s : ByteArray) (w : World) :
    Calls Tryz.prog 94 #[.agg #[.int .i64 x0, .int .i64 x1, .int .i64 x2, .int .i64 x3, .int .i64 x4, .int .i64 f, .int .i64 p, .int .i64 x7, .int .i64 x8, .string s]] w fun e w' => e = .returned (.agg #[.int .i64 f, .int .i64 p]) ∧ Below w.heap.size w w' := by
  go_enter Tryz.func94, Tryz.ntmps94
  go_wp2
  refine bodyPost_ret (v := .agg #[.int .i64 f, .int .i64 p]) (by simp [results, Tryz.results94, go_sem]) rfl ⟨rfl, ((Below.refl _ _).alloc (Nat.le_refl _) _).alloc (by simp) _⟩

section
variable {fs : List Fn} {D : FastD} {a1 a2 oa ea : Option Addr} {nt c1 c2 oc ec G base K : Nat} {w : World}
theorem at_sh {w : World} (h : ShAt w) {o : Nat} (ho : o < 30) : w.cell? ⟨0, o * 5, none⟩ = some (.int .i64 (sh o 0 : Nat)) ∧ w.cell? ⟨0, o * 5 + 1, none⟩ = some (.int .i64 (sh o 1 : Nat)) ∧ w.cell? ⟨0, o * 5 + 2, none⟩ = some (.int .i64 (sh o 2 : Nat)) ∧ w.cell? ⟨0, o * 5 + 3, none⟩ = some (.int .i64 (sh o 3 : Nat)) ∧ w.cell? ⟨0, o * 5 + 4, none⟩ = some (.int .i64 (sh o 4 : Nat)) :=
  ⟨h o 0 ho (by decide), h o 1 ho (by decide), h o 2 ho (by decide), h o 3 ho (by decide), h o 4 ho (by decide)⟩

set_option maxRecDepth 100000 in
set_option maxHeartbeats 8000000 in
theorem opOk_any (at' : Int) (x : Fo) (hs : x.v.s.size ≤ 1048576) (h : Look fs D a1 a2 oa ea nt c1 c2 oc ec G base K w) (lim : Lim fs D) :
    Calls Tryz.prog 53 #[.pointer (some ⟨K, 0, none⟩), .int .i64 at', .agg #[.int .i64 x.op, .int .i64 x.d, .int .i64 x.a, .int .i64 x.b, .int .i64 x.x, .int .i64 x.f, .int .i64 x.p, .int .i64 x.v.k, .int .i64 x.v.n, .string x.v.s]] w fun e w' => e = .returned (.bool (pB (FopP fs D at' x))) ∧ Below w.heap.size w w' := by
  obtain ⟨wA, hwA⟩ : ∃ wA, wA = w.alloc (.cells #[.int .i64 x.op, .int .i64 x.d, .int .i64 x.a, .int .i64 x.b, .int .i64 x.x, .int .i64 x.f, .int .i64 x.p, .int .i64 x.v.k, .int .i64 x.v.n, .string x.v.s] 104) := ⟨_, rfl⟩
  have hbA : Below w.heap.size w wA := by rw [hwA]; exact (Below.refl _ _).alloc (Nat.le_refl _) _
  have hX : wA.heap[w.heap.size]? = some (.cells #[.int .i64 x.op, .int .i64 x.d, .int .i64 x.a, .int .i64 x.b, .int .i64 x.x, .int .i64 x.f, .int .i64 x.p, .int .i64 x.v.k, .int .i64 x.v.n, .string x.v.s] 104 (0, 0)) := by rw [hwA]; exact block_new _ _ _
  have hk := h.mono hbA
  have HL := lim.code
  have HB : Hid (Below w.heap.size w wA) := hbA
  by_cases hop : Btw x.op 1 29
  case neg =>
    have hB : pB (Btw x.op 1 29) = false := pB_no hop
    have HN : Hid (¬ Btw x.op 1 29) := hop
    clear hop
    go_enter Tryz.func53, Tryz.ntmps53
    go_wp2_with (go_at_call 50; refine (iBetween_any _ _ _ _).mono ?_; rintro e w1 ⟨rfl, hw⟩; rw [hw, hB]; clear hw w1)
    go_ret
    exact ⟨ret_bool (pB_no (fun q => HN.out q.1)).symm, (Below.refl _ _).alloc (Nat.le_refl _) _⟩
  have hB : pB (Btw x.op 1 29) = true := pB_yes hop
  obtain ⟨o, ho⟩ : ∃ o : Nat, x.op = o := ⟨x.op.toNat, by have := hop.1; omega⟩
  have ho1 : o < 30 := by have := hop.2; omega
  have ho2 : (o : Int) < 30 := by omega
  have HOP : Hid (Btw x.op 1 29) := hop
  have HO : Hid (x.op.toNat = o) := by show _ = _; omega
  have HOE : Hid (x.op = (o : Int)) := ho
  clear hop ho
  have HS : Hid (∀ w', Below wA.heap.size wA w' → w'.cell? ⟨K, 0, none⟩ = some (.slice a1 nt c1) ∧ w'.cell? ⟨K, 1, none⟩ = some (.slice a2 fs.length c2) ∧ w'.cell? ⟨w.heap.size, 0, none⟩ = some (.int .i64 x.op) ∧ w'.cell? ⟨w.heap.size, 1, none⟩ = some (.int .i64 x.d) ∧ w'.cell? ⟨w.heap.size, 2, none⟩ = some (.int .i64 x.a) ∧ w'.cell? ⟨w.heap.size, 3, none⟩ = some (.int .i64 x.b) ∧ w'.cell? ⟨w.heap.size, 4, none⟩ = some (.int .i64 x.x) ∧ w'.cell? ⟨w.heap.size, 5, none⟩ = some (.int .i64 x.f) ∧ w'.cell? ⟨w.heap.size, 6, none⟩ = some (.int .i64 x.p) ∧ w'.cell? ⟨w.heap.size, 7, none⟩ = some (.int .i64 x.v.k) ∧ w'.cell? ⟨w.heap.size, 8, none⟩ = some (.int .i64 x.v.n) ∧ w'.cell? ⟨w.heap.size, 9, none⟩ = some (.string x.v.s)) := fun w' q => ⟨(hk.mono q).cells 0, (hk.mono q).cells 1, block_cell (block_kept hX q) 0, block_cell (block_kept hX q) 1, block_cell (block_kept hX q) 2, block_cell (block_kept hX q) 3, block_cell (block_kept hX q) 4, block_cell (block_kept hX q) 5, block_cell (block_kept hX q) 6, block_cell (block_kept hX q) 7, block_cell (block_kept hX q) 8, block_cell (block_kept hX q) 9⟩
  obtain ⟨j0, j1, j2, j3, j4, j5, j6, j7, j8, j9, j10, j11⟩ := HS.out wA (Below.refl _ _)
  have q : Below wA.heap.size wA wA.drew := (Below.refl _ _).drew
  have HI : Hid (∀ w', Below wA.heap.size wA w' → Calls Tryz.prog 93 #[.agg #[.slice a1 nt c1, .slice a2 fs.length c2], .agg #[.int .i64 x.f, .int .i64 x.p]] w' fun e w'' => e = .returned (.tuple #[.agg #[.int .i64 ((insD fs x.f x.p).getD (0, 0)).1, .int .i64 ((insD fs x.f x.p).getD (0, 0)).2], .bool (insD fs x.f x.p).isSome]) ∧ Below w'.heap.size w' w'') := fun w' q => insAt_any a1 a2 nt c1 c2 fs x.f x.p w' HL (hk.fns.mono q)
  have HC : Hid (∀ w' : World, Calls Tryz.prog 94 #[.agg #[.int .i64 x.op, .int .i64 x.d, .int .i64 x.a, .int .i64 x.b, .int .i64 x.x, .int .i64 x.f, .int .i64 x.p, .int .i64 x.v.k, .int .i64 x.v.n, .string x.v.s]] w' fun e w'' => e = .returned (.agg #[.int .i64 x.f, .int .i64 x.p]) ∧ Below w'.heap.size w' w'') := fun w' => comes_any _ _ _ _ _ _ _ _ _ _ w'
  have HK : Hid (Look fs D a1 a2 oa ea nt c1 c2 oc ec G base K wA) := hk
  have HX : Hid (wA.heap[w.heap.size]? = some (.cells #[.int .i64 x.op, .int .i64 x.d, .int .i64 x.a, .int .i64 x.b, .int .i64 x.x, .int .i64 x.f, .int .i64 x.p, .int .i64 x.v.k, .int .i64 x.v.n, .string x.v.s] 104 (0, 0))) := hX
  clear hk hX hbA h HL
  obtain ⟨u1, hu1⟩ : ∃ u1, u1 = ((insD fs x.f x.p).getD (0, 0)).1 := ⟨_, rfl⟩
  obtain ⟨u2, hu2⟩ : ∃ u2, u2 = ((insD fs x.f x.p).getD (0, 0)).2 := ⟨_, rfl⟩
  obtain ⟨ib, hib⟩ : ∃ ib, ib = (insD fs x.f x.p).isSome := ⟨_, rfl⟩
  rw [← hu1, ← hu2, ← hib] at HI
  have HIB : Hid (ib = (insD fs x.f x.p).isSome) := hib
  clear hu1 hu2 hib
  go_enter Tryz.func53, Tryz.ntmps53
  go_upto_region 3 with (go_at_call 50; refine (iBetween_any _ _ _ _).mono ?_; rintro e w1 ⟨rfl, hw⟩; rw [hw, hB]; clear hw w1)
  rw [← hwA]
  clear hwA hB
  go_cut [8] from 14 to 26 (fun s8 wx => s8 = .bool ib ∧ Below wA.heap.size wA wx)
  case first =>
    go_region_held3 (fun w' => w'.cell? ⟨K, 0, none⟩ = some (.slice a1 nt c1) ∧ w'.cell? ⟨K, 1, none⟩ = some (.slice a2 fs.length c2) ∧ w'.cell? ⟨w.heap.size, 0, none⟩ = some (.int .i64 x.op) ∧ w'.cell? ⟨w.heap.size, 1, none⟩ = some (.int .i64 x.d) ∧ w'.cell? ⟨w.heap.size, 2, none⟩ = some (.int .i64 x.a) ∧ w'.cell? ⟨w.heap.size, 3, none⟩ = some (.int .i64 x.b) ∧ w'.cell? ⟨w.heap.size, 4, none⟩ = some (.int .i64 x.x) ∧ w'.cell? ⟨w.heap.size, 5, none⟩ = some (.int .i64 x.f) ∧ w'.cell? ⟨w.heap.size, 6, none⟩ = some (.int .i64 x.p) ∧ w'.cell? ⟨w.heap.size, 7, none⟩ = some (.int .i64 x.v.k) ∧ w'.cell? ⟨w.heap.size, 8, none⟩ = some (.int .i64 x.v.n) ∧ w'.cell? ⟨w.heap.size, 9, none⟩ = some (.string x.v.s))
      (first
        | exact ⟨j0, j1, j2, j3, j4, j5, j6, j7, j8, j9, j10, j11⟩
        | exact HS.out _ q
        | exact HS.out _ (q.alloc q.size _)
        | exact HS.out _ ((q.setCell hg _).setCell hg _)
        | exact HS.out _ (((q.alloc q.size _).setCell q.size _).setCell q.size _))
      (first
        | (go_at_call 94; refine (HC.out _).mono ?_; rintro e wb ⟨rfl, kd⟩; (first | (have hk := block_kept hk kd; have hc := block_cell hk; have hf := block_free hk) | (have hk := block_kept (block_new_drew _ _ _) kd; have hg := Nat.le_refl wA.heap.size; have hc := block_cell hk; have hf := block_free hk) | (have hk := block_kept (block_new _ _ _) kd; have hg := q.size; have hc := block_cell hk; have hf := block_free hk) | skip); (first | (have q := q.trans (kd.mono q.size)) | (have q := (q.alloc q.size _).trans (kd.mono (by have := q.size; simp <;> omega)))))
        | (go_at_call 93; refine (HI.out _ (by first | exact q | exact q.alloc q.size _)).mono ?_; rintro e wb ⟨rfl, kd⟩; (first | (have hk := block_kept hk kd; have hc := block_cell hk; have hf := block_free hk) | (have hk := block_kept (block_new_drew _ _ _) kd; have hg := Nat.le_refl wA.heap.size; have hc := block_cell hk; have hf := block_free hk) | (have hk := block_kept (block_new _ _ _) kd; have hg := q.size; have hc := block_cell hk; have hf := block_free hk) | skip); (first | (have q := q.trans (kd.mono q.size)) | (have q := (q.alloc q.size _).trans (kd.mono (by have := q.size; simp <;> omega))))))
    all_goals
      go_wp2_with fail
      go_meet
      case rel =>
        first
          | exact ⟨rfl, (q.setCell hg _).setCell hg _⟩
          | exact ⟨rfl, q.alloc q.size _⟩
  case rest =>
    obtain ⟨rfl, hq⟩ := hcut
    have HB2 : Hid (Below w.heap.size w wc) := HB.out.trans (hq.mono HB.out.size)
    have HK2 : Hid (Look fs D a1 a2 oa ea nt c1 c2 oc ec G base K wc) := HK.out.mono hq
    have hX2 := block_kept HX.out hq
    clear HS HI HK HX HC j0 j1 j2 j3 j4 j5 j6 j7 j8 j9 j10 j11 q hq HB
    cases ib
    · go_wp2
      go_ret
      exact ⟨ret_bool (pB_no (fun q => by have := HIB.out; rw [q.2.1] at this; cases this)).symm, HB2.out⟩
    obtain ⟨s0, s1, s2, s3, s4⟩ := at_sh HK2.out.shp ho1
    have l0 := sh_le o ho1 0 (by decide)
    have l1 := sh_le o ho1 1 (by decide)
    have l2 := sh_le o ho1 2 (by decide)
    have l3 := sh_le o ho1 3 (by decide)
    have HP : Hid (FopP fs D at' x ↔ PartP fs.length D at' (sh o 0) x.d ∧ PartP fs.length D at' (sh o 1) x.a ∧ PartP fs.length D at' (sh o 2) x.b ∧ PartP fs.length D at' (sh o 3) x.x ∧ ConstP fs.length (sh o 4) x.v) := by
      show _ ↔ _
      unfold FopP
      rw [HO.out]
      exact ⟨fun q => q.2.2, fun q => ⟨HOP.out, HIB.out.symm, q⟩⟩
    obtain ⟨wS, hwS⟩ : ∃ wS, wS = wc.alloc (.cells #[.int .i64 (sh o 0 : Nat), .int .i64 (sh o 1 : Nat), .int .i64 (sh o 2 : Nat), .int .i64 (sh o 3 : Nat), .int .i64 (sh o 4 : Nat)] 177) := ⟨_, rfl⟩
    have hS1 : wS.heap[wc.heap.size]? = some (.cells #[.int .i64 (sh o 0 : Nat), .int .i64 (sh o 1 : Nat), .int .i64 (sh o 2 : Nat), .int .i64 (sh o 3 : Nat), .int .i64 (sh o 4 : Nat)] 177 (0, 0)) := by rw [hwS]; exact block_new _ _ _
    have hbS : Below wc.heap.size wc wS := by rw [hwS]; exact (Below.refl _ _).alloc (Nat.le_refl _) _
    have hX3 := block_kept hX2 hbS
    have HK3 : Hid (Look fs D a1 a2 oa ea nt c1 c2 oc ec G base K wS) := HK2.out.mono hbS
    have HB3 : Hid (Below w.heap.size w wS) := HB2.out.trans (hbS.mono HB2.out.size)
    have x2 := block_cell hX2
    rw [HOE.out] at x2
    have x3 := block_cell (block_old hX2 (.cells #[.int .i64 (sh o 0 : Nat), .int .i64 (sh o 1 : Nat), .int .i64 (sh o 2 : Nat), .int .i64 (sh o 3 : Nat), .int .i64 (sh o 4 : Nat)] 177))
    clear HIB HOP HO
    go_wp2_with fail
    rw [← hwS]
    clear hwS s0 s1 s2 s3 s4 x2 x3 hX2 HK2 hbS HB2
    refine (partOk_any at' x.d (sh o 0) l0 HK3.out).mono ?_
    rintro e w0 ⟨rfl, hb⟩
    have HK4 : Hid (Look fs D a1 a2 oa ea nt c1 c2 oc ec G base K w0) := HK3.out.mono hb
    have HB4 : Hid (Below w.heap.size w w0) := HB3.out.trans (hb.mono HB3.out.size)
    have hX4 := block_kept hX3 hb
    have hS2 := block_kept hS1 hb
    clear HK3 HB3 hX3 hS1 hb
    by_cases hp0 : PartP fs.length D at' (sh o 0) x.d
    case neg =>
      rw [pB_no hp0]
      have HN : Hid (¬ PartP fs.length D at' (sh o 0) x.d) := hp0
      clear hp0
      go_wp2
      go_ret
      exact ⟨ret_bool (pB_no (fun q => HN.out (HP.out.1 q).1)).symm, HB4.out⟩
    rw [pB_yes hp0]
    have HP0 : Hid (PartP fs.length D at' (sh o 0) x.d) := hp0
    clear hp0
    have y4 := block_cell hX4
    have z4 := block_cell hS2
    go_wp2_with fail
    clear y4 z4
    refine (partOk_any at' x.a (sh o 1) l1 HK4.out).mono ?_
    rintro e w1 ⟨rfl, hb⟩
    have HK5 : Hid (Look fs D a1 a2 oa ea nt c1 c2 oc ec G base K w1) := HK4.out.mono hb
    have HB5 : Hid (Below w.heap.size w w1) := HB4.out.trans (hb.mono HB4.out.size)
    have hX5 := block_kept hX4 hb
    have hS3 := block_kept hS2 hb
    clear HK4 HB4 hX4 hS2 hb
    by_cases hp1 : PartP fs.length D at' (sh o 1) x.a
    case neg =>
      rw [pB_no hp1]
      have HN : Hid (¬ PartP fs.length D at' (sh o 1) x.a) := hp1
      clear hp1
      go_wp2
      go_ret
      exact ⟨ret_bool (pB_no (fun q => HN.out (HP.out.1 q).2.1)).symm, HB5.out⟩
    rw [pB_yes hp1]
    have HP1 : Hid (PartP fs.length D at' (sh o 1) x.a) := hp1
    clear hp1
    have y5 := block_cell hX5
    have z5 := block_cell hS3
    go_wp2_with fail
    clear y5 z5
    refine (partOk_any at' x.b (sh o 2) l2 HK5.out).mono ?_
    rintro e w2 ⟨rfl, hb⟩
    have HK6 : Hid (Look fs D a1 a2 oa ea nt c1 c2 oc ec G base K w2) := HK5.out.mono hb
    have HB6 : Hid (Below w.heap.size w w2) := HB5.out.trans (hb.mono HB5.out.size)
    have hX6 := block_kept hX5 hb
    have hS4 := block_kept hS3 hb
    clear HK5 HB5 hX5 hS3 hb
    by_cases hp2 : PartP fs.length D at' (sh o 2) x.b
    case neg =>
      rw [pB_no hp2]
      have HN : Hid (¬ PartP fs.length D at' (sh o 2) x.b) := hp2
      clear hp2
      go_wp2
      go_ret
      exact ⟨ret_bool (pB_no (fun q => HN.out (HP.out.1 q).2.2.1)).symm, HB6.out⟩
    rw [pB_yes hp2]
    have HP2 : Hid (PartP fs.length D at' (sh o 2) x.b) := hp2
    clear hp2
    have y6 := block_cell hX6
    have z6 := block_cell hS4
    go_wp2_with fail
    clear y6 z6
    refine (partOk_any at' x.x (sh o 3) l3 HK6.out).mono ?_
    rintro e w3 ⟨rfl, hb⟩
    have HK7 : Hid (Look fs D a1 a2 oa ea nt c1 c2 oc ec G base K w3) := HK6.out.mono hb
    have HB7 : Hid (Below w.heap.size w w3) := HB6.out.trans (hb.mono HB6.out.size)
    have hX7 := block_kept hX6 hb
    have hS5 := block_kept hS4 hb
    clear HK6 HB6 hX6 hS4 hb
    by_cases hp3 : PartP fs.length D at' (sh o 3) x.x
    case neg =>
      rw [pB_no hp3]
      have HN : Hid (¬ PartP fs.length D at' (sh o 3) x.x) := hp3
      clear hp3
      go_wp2
      go_ret
      exact ⟨ret_bool (pB_no (fun q => HN.out (HP.out.1 q).2.2.2.1)).symm, HB7.out⟩
    rw [pB_yes hp3]
    have HP3 : Hid (PartP fs.length D at' (sh o 3) x.x) := hp3
    clear hp3
    have y7 := block_cell hX7
    have z7 := block_cell hS5
    go_wp2_with fail
    clear y7 z7
    refine (constantOk_any x.v (sh o 4) hs HK7.out).mono ?_
    rintro e w5 ⟨rfl, hb⟩
    have HB9 : Hid (Below w.heap.size w w5) := HB7.out.trans (hb.mono HB7.out.size)
    go_wp2
    go_ret
    refine ⟨ret_pB ?_, HB9.out⟩
    rw [HP.out]
    constructor
    · intro q
      exact ⟨HP0.out, HP1.out, HP2.out, HP3.out, Classical.byContradiction (fun q' => by rw [pB_no q'] at q; cases q)⟩
    · intro q
      exact pB_yes q.2.2.2.2
end
end Go.Proofs.YtcbknjjnphknbaaGreatDoor

namespace Go.Proofs.YtcbknjjnphknbaaGreatDoor
open Go.RowKit

set_option maxRecDepth 100000 in
set_option maxHeartbeats 1000000 in
theorem allSrc_any (b : Value) (P : Nat → Sr → Prop) (a : Option Addr) (xs : List Sr) (cap : Nat) (w : World) (hn : xs.length ≤ 1048576) (hm : SrsAt w 0 a xs) (HC : Hid (∀ i (h : i < xs.length) w', Below w.heap.size w w' → Calls Tryz.prog 148 #[b, .int .i64 (i : Nat), .agg #[.int .i64 xs[i].k, .int .i64 xs[i].n, .int .i64 xs[i].v.k, .int .i64 xs[i].v.n, .string xs[i].v.s]] w' fun e w'' => e = .returned (.bool (pB (P i xs[i]))) ∧ Below w'.heap.size w' w'')) :
    Calls Tryz.prog 147 #[.slice a xs.length cap, .func (.func 148) #[b] #[]] w fun e w' => e = .returned (.bool (pB (∀ i (h : i < xs.length), P i xs[i]))) ∧ Below w.heap.size w w' := by
  go_enter Tryz.func147, Tryz.ntmps147
  go_wp2
  go_loopw [9] (fun i wr => ∃ (k : Nat), k ≤ xs.length ∧ i = .int .i64 k ∧ Hid (∀ i (h : i < xs.length), i < k → P i xs[i]) ∧ Below w.heap.size w wr) (fun i _ => xs.length - (intOf i).toNat)
  case atStart => exact ⟨0, by omega, rfl, fun _ _ h => absurd h (Nat.not_lt_zero _), Below.refl _ _⟩
  case round =>
    obtain ⟨k, hk, rfl, hdone, hb⟩ := hrel
    by_cases hlt : k < xs.length
    case neg =>
      have HD : Hid (∀ i (h : i < xs.length), P i xs[i]) := fun i hi => hdone.out i hi (by omega)
      clear hdone
      go_wp2
      go_ret
      exact ⟨ret_bool (pB_yes HD.out).symm, hb⟩
    case pos =>
      obtain ⟨b', off, rfl, -, d0, d1, d2, d3, d4⟩ := hm k hlt
      have e0 := cell_later hb d0
      have e1 := cell_later hb d1
      have e2 := cell_later hb d2
      have e3 := cell_later hb d3
      have e4 := cell_later hb d4
      clear d0 d1 d2 d3 d4
      have hbA : Below w.heap.size w (wr.alloc (.cells #[.int .i64 xs[k].k, .int .i64 xs[k].n, .int .i64 xs[k].v.k, .int .i64 xs[k].v.n, .string xs[k].v.s] 207)) := hb.alloc hb.size _
      have HCk := HC.out k hlt _ hbA
      obtain ⟨wA, hwA⟩ : ∃ wA, wA = wr.alloc (.cells #[.int .i64 xs[k].k, .int .i64 xs[k].n, .int .i64 xs[k].v.k, .int .i64 xs[k].v.n, .string xs[k].v.s] 207) := ⟨_, rfl⟩
      rw [← hwA] at HCk hbA
      by_cases hp : P k xs[k]
      case neg =>
        rw [pB_no hp] at HCk
        have HCK := HCk
        have HN : Hid (¬ P k xs[k]) := hp
        clear hp hdone HCk
        go_wp2_with fail
        rw [← hwA]
        clear hwA
        refine HCK.mono ?_
        rintro e w2 ⟨rfl, hb2⟩
        go_wp2
        go_ret
        exact ⟨ret_bool (pB_no (fun h => HN.out (h k hlt))).symm, hbA.trans (hb2.mono hbA.size)⟩
      rw [pB_yes hp] at HCk
      have HP : Hid (P k xs[k]) := hp
      clear hp
      go_wp2_with fail
      rw [← hwA]
      clear hwA
      refine HCk.mono ?_
      rintro e w2 ⟨rfl, hb2⟩
      go_wp2
      go_roundw
      case rel =>
        refine ⟨k + 1, by omega, by go_num, ?_, hbA.trans (hb2.mono hbA.size)⟩
        intro j hj hjk
        by_cases e : j = k
        · subst e; exact HP.out
        · exact hdone.out j hj (by omega)
      case measure => simp [intOf]; omega

set_option maxRecDepth 100000 in
set_option maxHeartbeats 1000000 in
theorem allExFrame_any (b : Value) (P : Nat → EF → Prop) (a : Option Addr) (xs : List EF) (cap : Nat) (w : World) (hn : xs.length ≤ 1048576) (hm : EFsAt w 0 a xs) (HC : Hid (∀ i (h : i < xs.length) (a0 : Option Addr) (c0 : Nat) (a1 : Option Addr) (c1 : Nat) w', Below w.heap.size w w' → SrsAt w' 0 a0 xs[i].locals → SrsAt w' 0 a1 xs[i].stack → Calls Tryz.prog 99 #[b, .int .i64 (i : Nat), .agg #[.int .i64 xs[i].fn, .int .i64 xs[i].pc, .slice a0 xs[i].locals.length c0, .slice a1 xs[i].stack.length c1]] w' fun e w'' => e = .returned (.bool (pB (P i xs[i]))) ∧ Below w'.heap.size w' w'')) :
    Calls Tryz.prog 98 #[.slice a xs.length cap, .func (.func 99) #[b] #[]] w fun e w' => e = .returned (.bool (pB (∀ i (h : i < xs.length), P i xs[i]))) ∧ Below w.heap.size w w' := by
  go_enter Tryz.func98, Tryz.ntmps98
  go_wp2
  go_loopw [9] (fun i wr => ∃ (k : Nat), k ≤ xs.length ∧ i = .int .i64 k ∧ Hid (∀ i (h : i < xs.length), i < k → P i xs[i]) ∧ Below w.heap.size w wr) (fun i _ => xs.length - (intOf i).toNat)
  case atStart => exact ⟨0, by omega, rfl, fun _ _ h => absurd h (Nat.not_lt_zero _), Below.refl _ _⟩
  case round =>
    obtain ⟨k, hk, rfl, hdone, hb⟩ := hrel
    by_cases hlt : k < xs.length
    case neg =>
      have HD : Hid (∀ i (h : i < xs.length), P i xs[i]) := fun i hi => hdone.out i hi (by omega)
      clear hdone
      go_wp2
      go_ret
      exact ⟨ret_bool (pB_yes HD.out).symm, hb⟩
    case pos =>
      obtain ⟨b', off, a0, c0, a1, c1, rfl, -, d0, d1, d2, d3, p0, p1⟩ := hm k hlt
      have e0 := cell_later hb d0
      have e1 := cell_later hb d1
      have e2 := cell_later hb d2
      have e3 := cell_later hb d3
      clear d0 d1 d2 d3
      have hbA : Below w.heap.size w (wr.alloc (.cells #[.int .i64 xs[k].fn, .int .i64 xs[k].pc, .slice a0 xs[k].locals.length c0, .slice a1 xs[k].stack.length c1] 144)) := hb.alloc hb.size _
      have HCk := HC.out k hlt a0 c0 a1 c1 _ hbA (p0.mono hbA) (p1.mono hbA)
      obtain ⟨wA, hwA⟩ : ∃ wA, wA = wr.alloc (.cells #[.int .i64 xs[k].fn, .int .i64 xs[k].pc, .slice a0 xs[k].locals.length c0, .slice a1 xs[k].stack.length c1] 144) := ⟨_, rfl⟩
      rw [← hwA] at HCk hbA
      by_cases hp : P k xs[k]
      case neg =>
        rw [pB_no hp] at HCk
        have HCK := HCk
        have HN : Hid (¬ P k xs[k]) := hp
        clear hp hdone HCk
        go_wp2_with fail
        rw [← hwA]
        clear hwA
        refine HCK.mono ?_
        rintro e w2 ⟨rfl, hb2⟩
        go_wp2
        go_ret
        exact ⟨ret_bool (pB_no (fun h => HN.out (h k hlt))).symm, hbA.trans (hb2.mono hbA.size)⟩
      rw [pB_yes hp] at HCk
      have HP : Hid (P k xs[k]) := hp
      clear hp
      go_wp2_with fail
      rw [← hwA]
      clear hwA
      refine HCk.mono ?_
      rintro e w2 ⟨rfl, hb2⟩
      go_wp2
      go_roundw
      case rel =>
        refine ⟨k + 1, by omega, by go_num, ?_, hbA.trans (hb2.mono hbA.size)⟩
        intro j hj hjk
        by_cases e : j = k
        · subst e; exact HP.out
        · exact hdone.out j hj (by omega)
      case measure => simp [intOf]; omega

set_option maxRecDepth 100000 in
set_option maxHeartbeats 1000000 in
theorem allExRec_any (b : Value) (P : Nat → ER → Prop) (a : Option Addr) (xs : List ER) (cap : Nat) (w : World) (hn : xs.length ≤ 1048576) (hm : ERsAt w 0 a xs) (HC : Hid (∀ i (h : i < xs.length) (a0 : Option Addr) (c0 : Nat) w', Below w.heap.size w w' → SrsAt w' 0 a0 xs[i].fields → Calls Tryz.prog 101 #[b, .int .i64 (i : Nat), .agg #[.slice a0 xs[i].fields.length c0]] w' fun e w'' => e = .returned (.bool (pB (P i xs[i]))) ∧ Below w'.heap.size w' w'')) :
    Calls Tryz.prog 100 #[.slice a xs.length cap, .func (.func 101) #[b] #[]] w fun e w' => e = .returned (.bool (pB (∀ i (h : i < xs.length), P i xs[i]))) ∧ Below w.heap.size w w' := by
  go_enter Tryz.func100, Tryz.ntmps100
  go_wp2
  go_loopw [9] (fun i wr => ∃ (k : Nat), k ≤ xs.length ∧ i = .int .i64 k ∧ Hid (∀ i (h : i < xs.length), i < k → P i xs[i]) ∧ Below w.heap.size w wr) (fun i _ => xs.length - (intOf i).toNat)
  case atStart => exact ⟨0, by omega, rfl, fun _ _ h => absurd h (Nat.not_lt_zero _), Below.refl _ _⟩
  case round =>
    obtain ⟨k, hk, rfl, hdone, hb⟩ := hrel
    by_cases hlt : k < xs.length
    case neg =>
      have HD : Hid (∀ i (h : i < xs.length), P i xs[i]) := fun i hi => hdone.out i hi (by omega)
      clear hdone
      go_wp2
      go_ret
      exact ⟨ret_bool (pB_yes HD.out).symm, hb⟩
    case pos =>
      obtain ⟨b', off, a0, c0, rfl, -, d0, p0⟩ := hm k hlt
      have e0 := cell_later hb d0
      clear d0
      have hbA : Below w.heap.size w (wr.alloc (.cells #[.slice a0 xs[k].fields.length c0] 151)) := hb.alloc hb.size _
      have HCk := HC.out k hlt a0 c0 _ hbA (p0.mono hbA)
      obtain ⟨wA, hwA⟩ : ∃ wA, wA = wr.alloc (.cells #[.slice a0 xs[k].fields.length c0] 151) := ⟨_, rfl⟩
      rw [← hwA] at HCk hbA
      by_cases hp : P k xs[k]
      case neg =>
        rw [pB_no hp] at HCk
        have HCK := HCk
        have HN : Hid (¬ P k xs[k]) := hp
        clear hp hdone HCk
        go_wp2_with fail
        rw [← hwA]
        clear hwA
        refine HCK.mono ?_
        rintro e w2 ⟨rfl, hb2⟩
        go_wp2
        go_ret
        exact ⟨ret_bool (pB_no (fun h => HN.out (h k hlt))).symm, hbA.trans (hb2.mono hbA.size)⟩
      rw [pB_yes hp] at HCk
      have HP : Hid (P k xs[k]) := hp
      clear hp
      go_wp2_with fail
      rw [← hwA]
      clear hwA
      refine HCk.mono ?_
      rintro e w2 ⟨rfl, hb2⟩
      go_wp2
      go_roundw
      case rel =>
        refine ⟨k + 1, by omega, by go_num, ?_, hbA.trans (hb2.mono hbA.size)⟩
        intro j hj hjk
        by_cases e : j = k
        · subst e; exact HP.out
        · exact hdone.out j hj (by omega)
      case measure => simp [intOf]; omega

set_option maxRecDepth 100000 in
set_option maxHeartbeats 1000000 in
theorem allExit_any (b : Value) (P : Nat → Ex → Prop) (a : Option Addr) (xs : List Ex) (cap : Nat) (w : World) (hn : xs.length ≤ 1048576) (hm : ExsAt w 0 a xs) (HC : Hid (∀ i (h : i < xs.length) (a0 : Option Addr) (c0 : Nat) (a1 : Option Addr) (c1 : Nat) w', Below w.heap.size w w' → EFsAt w' 0 a0 xs[i].frames → ERsAt w' 0 a1 xs[i].recs → Calls Tryz.prog 55 #[b, .int .i64 (i : Nat), .agg #[.int .i64 xs[i].kind, .int .i64 xs[i].spec.f, .int .i64 xs[i].spec.pc, .int .i64 xs[i].spec.seen, .int .i64 xs[i].spec.target, .slice a0 xs[i].frames.length c0, .slice a1 xs[i].recs.length c1]] w' fun e w'' => e = .returned (.bool (pB (P i xs[i]))) ∧ Below w'.heap.size w' w'')) :
    Calls Tryz.prog 54 #[.slice a xs.length cap, .func (.func 55) #[b] #[]] w fun e w' => e = .returned (.bool (pB (∀ i (h : i < xs.length), P i xs[i]))) ∧ Below w.heap.size w w' := by
  go_enter Tryz.func54, Tryz.ntmps54
  go_wp2
  go_loopw [9] (fun i wr => ∃ (k : Nat), k ≤ xs.length ∧ i = .int .i64 k ∧ Hid (∀ i (h : i < xs.length), i < k → P i xs[i]) ∧ Below w.heap.size w wr) (fun i _ => xs.length - (intOf i).toNat)
  case atStart => exact ⟨0, by omega, rfl, fun _ _ h => absurd h (Nat.not_lt_zero _), Below.refl _ _⟩
  case round =>
    obtain ⟨k, hk, rfl, hdone, hb⟩ := hrel
    by_cases hlt : k < xs.length
    case neg =>
      have HD : Hid (∀ i (h : i < xs.length), P i xs[i]) := fun i hi => hdone.out i hi (by omega)
      clear hdone
      go_wp2
      go_ret
      exact ⟨ret_bool (pB_yes HD.out).symm, hb⟩
    case pos =>
      obtain ⟨b', off, a0, c0, a1, c1, rfl, -, d0, d1, d2, d3, d4, d5, d6, p0, p1⟩ := hm k hlt
      have e0 := cell_later hb d0
      have e1 := cell_later hb d1
      have e2 := cell_later hb d2
      have e3 := cell_later hb d3
      have e4 := cell_later hb d4
      have e5 := cell_later hb d5
      have e6 := cell_later hb d6
      clear d0 d1 d2 d3 d4 d5 d6
      have hbA : Below w.heap.size w (wr.alloc (.cells #[.int .i64 xs[k].kind, .int .i64 xs[k].spec.f, .int .i64 xs[k].spec.pc, .int .i64 xs[k].spec.seen, .int .i64 xs[k].spec.target, .slice a0 xs[k].frames.length c0, .slice a1 xs[k].recs.length c1] 101)) := hb.alloc hb.size _
      have HCk := HC.out k hlt a0 c0 a1 c1 _ hbA (p0.mono hbA) (p1.mono hbA)
      obtain ⟨wA, hwA⟩ : ∃ wA, wA = wr.alloc (.cells #[.int .i64 xs[k].kind, .int .i64 xs[k].spec.f, .int .i64 xs[k].spec.pc, .int .i64 xs[k].spec.seen, .int .i64 xs[k].spec.target, .slice a0 xs[k].frames.length c0, .slice a1 xs[k].recs.length c1] 101) := ⟨_, rfl⟩
      rw [← hwA] at HCk hbA
      by_cases hp : P k xs[k]
      case neg =>
        rw [pB_no hp] at HCk
        have HCK := HCk
        have HN : Hid (¬ P k xs[k]) := hp
        clear hp hdone HCk
        go_wp2_with fail
        rw [← hwA]
        clear hwA
        refine HCK.mono ?_
        rintro e w2 ⟨rfl, hb2⟩
        go_wp2
        go_ret
        exact ⟨ret_bool (pB_no (fun h => HN.out (h k hlt))).symm, hbA.trans (hb2.mono hbA.size)⟩
      rw [pB_yes hp] at HCk
      have HP : Hid (P k xs[k]) := hp
      clear hp
      go_wp2_with fail
      rw [← hwA]
      clear hwA
      refine HCk.mono ?_
      rintro e w2 ⟨rfl, hb2⟩
      go_wp2
      go_roundw
      case rel =>
        refine ⟨k + 1, by omega, by go_num, ?_, hbA.trans (hb2.mono hbA.size)⟩
        intro j hj hjk
        by_cases e : j = k
        · subst e; exact HP.out
        · exact hdone.out j hj (by omega)
      case measure => simp [intOf]; omega

set_option maxRecDepth 100000 in
set_option maxHeartbeats 1000000 in
theorem allFOp_any (b : Value) (P : Nat → Fo → Prop) (a : Option Addr) (xs : List Fo) (cap : Nat) (w : World) (hn : xs.length ≤ 1048576) (hm : FosAt w 0 a xs) (HC : Hid (∀ i (h : i < xs.length) w', Below w.heap.size w w' → Calls Tryz.prog 53 #[b, .int .i64 (i : Nat), .agg #[.int .i64 xs[i].op, .int .i64 xs[i].d, .int .i64 xs[i].a, .int .i64 xs[i].b, .int .i64 xs[i].x, .int .i64 xs[i].f, .int .i64 xs[i].p, .int .i64 xs[i].v.k, .int .i64 xs[i].v.n, .string xs[i].v.s]] w' fun e w'' => e = .returned (.bool (pB (P i xs[i]))) ∧ Below w'.heap.size w' w'')) :
    Calls Tryz.prog 52 #[.slice a xs.length cap, .func (.func 53) #[b] #[]] w fun e w' => e = .returned (.bool (pB (∀ i (h : i < xs.length), P i xs[i]))) ∧ Below w.heap.size w w' := by
  go_enter Tryz.func52, Tryz.ntmps52
  go_wp2
  go_loopw [9] (fun i wr => ∃ (k : Nat), k ≤ xs.length ∧ i = .int .i64 k ∧ Hid (∀ i (h : i < xs.length), i < k → P i xs[i]) ∧ Below w.heap.size w wr) (fun i _ => xs.length - (intOf i).toNat)
  case atStart => exact ⟨0, by omega, rfl, fun _ _ h => absurd h (Nat.not_lt_zero _), Below.refl _ _⟩
  case round =>
    obtain ⟨k, hk, rfl, hdone, hb⟩ := hrel
    by_cases hlt : k < xs.length
    case neg =>
      have HD : Hid (∀ i (h : i < xs.length), P i xs[i]) := fun i hi => hdone.out i hi (by omega)
      clear hdone
      go_wp2
      go_ret
      exact ⟨ret_bool (pB_yes HD.out).symm, hb⟩
    case pos =>
      obtain ⟨b', off, rfl, -, d0, d1, d2, d3, d4, d5, d6, d7, d8, d9⟩ := hm k hlt
      have e0 := cell_later hb d0
      have e1 := cell_later hb d1
      have e2 := cell_later hb d2
      have e3 := cell_later hb d3
      have e4 := cell_later hb d4
      have e5 := cell_later hb d5
      have e6 := cell_later hb d6
      have e7 := cell_later hb d7
      have e8 := cell_later hb d8
      have e9 := cell_later hb d9
      clear d0 d1 d2 d3 d4 d5 d6 d7 d8 d9
      have hbA : Below w.heap.size w (wr.alloc (.cells #[.int .i64 xs[k].op, .int .i64 xs[k].d, .int .i64 xs[k].a, .int .i64 xs[k].b, .int .i64 xs[k].x, .int .i64 xs[k].f, .int .i64 xs[k].p, .int .i64 xs[k].v.k, .int .i64 xs[k].v.n, .string xs[k].v.s] 104)) := hb.alloc hb.size _
      have HCk := HC.out k hlt _ hbA
      obtain ⟨wA, hwA⟩ : ∃ wA, wA = wr.alloc (.cells #[.int .i64 xs[k].op, .int .i64 xs[k].d, .int .i64 xs[k].a, .int .i64 xs[k].b, .int .i64 xs[k].x, .int .i64 xs[k].f, .int .i64 xs[k].p, .int .i64 xs[k].v.k, .int .i64 xs[k].v.n, .string xs[k].v.s] 104) := ⟨_, rfl⟩
      rw [← hwA] at HCk hbA
      by_cases hp : P k xs[k]
      case neg =>
        rw [pB_no hp] at HCk
        have HCK := HCk
        have HN : Hid (¬ P k xs[k]) := hp
        clear hp hdone HCk
        go_wp2_with fail
        rw [← hwA]
        clear hwA
        refine HCK.mono ?_
        rintro e w2 ⟨rfl, hb2⟩
        go_wp2
        go_ret
        exact ⟨ret_bool (pB_no (fun h => HN.out (h k hlt))).symm, hbA.trans (hb2.mono hbA.size)⟩
      rw [pB_yes hp] at HCk
      have HP : Hid (P k xs[k]) := hp
      clear hp
      go_wp2_with fail
      rw [← hwA]
      clear hwA
      refine HCk.mono ?_
      rintro e w2 ⟨rfl, hb2⟩
      go_wp2
      go_roundw
      case rel =>
        refine ⟨k + 1, by omega, by go_num, ?_, hbA.trans (hb2.mono hbA.size)⟩
        intro j hj hjk
        by_cases e : j = k
        · subst e; exact HP.out
        · exact hdone.out j hj (by omega)
      case measure => simp [intOf]; omega

end Go.Proofs.YtcbknjjnphknbaaGreatDoor
