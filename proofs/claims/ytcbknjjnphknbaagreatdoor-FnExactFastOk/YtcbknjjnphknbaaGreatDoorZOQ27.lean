/-
  The document's look at an op with a constant: FConst, FNum.
  A region that draws its order, walked operation by operation: what reads cells that every operation keeps is taken in the order of the text, by hand.
  The document's look at an op with a constant: FNum.
-/
import Derived.Test.YtcbknjjnphknbaaGreatDoorZOQ25
import Derived.Test.YtcbknjjnphknbaaGreatDoorZOQ15
import Derived.Test.YtcbknjjnphknbaaGreatDoorZOQ5
import Derived.Deep.RegionHeld3
import Derived.Deep.RegionWith
import Derived.Test.YtcbknjjnphknbaaGreatDoorZOQ2
import Derived.Deep.RegionLaw
namespace Go.Proofs.YtcbknjjnphknbaaGreatDoor
open Go.RowKit

section
variable {fs : List Fn} {a1 a2 oa ea : Option Addr} {nt c1 c2 oc ec K : Nat} {D : FastD} {wK w : World} {b : Bool}
set_option maxRecDepth 100000 in
set_option maxHeartbeats 8000000 in
theorem sOp1_any (i : Nat) (hi : i < D.ops.length) (hop : D.ops[i].op = 1) (his : (insD fs D.ops[i].f D.ops[i].p).isSome = true) (l : SLim fs D K wK a2 oa ea) (h : Chk a1 a2 oa ea nt c1 c2 oc ec fs.length K D wK b w) :
    Calls Tryz.prog 37 #[.pointer (some ⟨K, 0, none⟩), .int .i64 (i : Nat)] w fun e w' => e = .returned (.tuple #[]) ∧ Chk a1 a2 oa ea nt c1 c2 oc ec fs.length K D wK (b || !pB (FopP fs D i D.ops[i])) w' ∧ Rk K w w' := by
  obtain ⟨hmf, hmo, -⟩ := l.at h
  obtain ⟨fi, pi, hfi, hfe, hpe, hpi⟩ := ins_at his
  obtain ⟨bf, of, ca, cc, rfl, -, -, -, f3, -⟩ := hmf fi hfi
  obtain ⟨bo, oo, rfl, -, d0, d1, d2, d3, d4, d5, d6, d7, d8, d9⟩ := hmo i hi
  have hsz := l.fast.1.2 _ (List.getElem_mem hi)
  obtain ⟨x, hx⟩ : ∃ x, x = D.ops[i] := ⟨_, rfl⟩
  have HF : Hid (FopP fs D i D.ops[i] ↔ PartP fs.length D i (sh 1 0) x.d ∧ PartP fs.length D i (sh 1 1) x.a ∧ PartP fs.length D i (sh 1 2) x.b ∧ PartP fs.length D i (sh 1 3) x.x ∧ ConstP fs.length (sh 1 4) x.v) := by rw [hx]; exact fop_at 1 hop (by decide) (by decide) his
  rw [hop] at d0
  rw [← hx] at d1 d2 d3 d4 d5 d6 d7 d8 d9 hfe hpe hsz
  have HX : Hid (x = D.ops[i]) := hx
  have hsz' : x.v.s.size ≤ 1048576 := hsz
  have z1 : (i : Int) < (D.ops.length : Int) := by omega
  have k1 := h.cells
  have hwk : K < w.heap.size := lt_block h.blk
  obtain ⟨wA, hwA⟩ : ∃ wA, wA = w.alloc (.cells #[.int .i64 1, .int .i64 x.d, .int .i64 x.a, .int .i64 x.b, .int .i64 x.x, .int .i64 x.f, .int .i64 x.p, .int .i64 x.v.k, .int .i64 x.v.n, .string x.v.s] 104) := ⟨_, rfl⟩
  have hbA : Below w.heap.size w wA := by rw [hwA]; exact (Below.refl _ _).alloc (Nat.le_refl _) _
  have hX0 : wA.heap[w.heap.size]? = some (.cells #[.int .i64 1, .int .i64 x.d, .int .i64 x.a, .int .i64 x.b, .int .i64 x.x, .int .i64 x.f, .int .i64 x.p, .int .i64 x.v.k, .int .i64 x.v.n, .string x.v.s] 104 (0, 0)) := by rw [hwA]; exact block_new _ _ _
  have hC0 := h.mono hbA
  have hne : w.heap.size ≠ K := by omega
  have HFE : Hid (x.f = (fi : Int)) := hfe
  have HPE : Hid (x.p = (pi : Int)) := hpe
  have f3A := cell_later hbA f3
  have HS : Hid (∀ w', Below wA.heap.size wA w' → w'.cell? ⟨K, 1, none⟩ = some (.slice (some ⟨bf, of, none⟩) fs.length c2) ∧ w'.cell? ⟨w.heap.size, 5, none⟩ = some (.int .i64 (fi : Int)) ∧ w'.cell? ⟨w.heap.size, 6, none⟩ = some (.int .i64 (pi : Int)) ∧ w'.cell? ⟨bf, of + fi * 3 + 2, none⟩ = some (.slice ca fs[fi].code.length cc)) := fun w' q => by
    have t5 := block_cell (block_kept hX0 q) 5
    have t6 := block_cell (block_kept hX0 q) 6
    rw [HFE.out] at t5
    rw [HPE.out] at t6
    exact ⟨(hC0.mono q).cells 1, t5, t6, cell_later q f3A⟩
  have hcl := l.code _ (List.getElem_mem hfi)
  have hnf := l.nf
  have hw1 : IntKind.i64.wrap ((fs.length : Int) - 1) = (fs.length : Int) - 1 := by rw [IntKind.wrap_i64]; omega
  have hw2 : IntKind.i64.wrap ((fs[fi].code.length : Int) - 1) = (fs[fi].code.length : Int) - 1 := by rw [IntKind.wrap_i64]; omega
  have y0 : (0 : Int) ≤ (fi : Int) := by omega
  have y1 : (fi : Int) < (fs.length : Int) := by omega
  have HC0 : Hid (∀ w', Below wA.heap.size wA w' → Calls Tryz.prog 34 #[.int .i64 (fi : Int), .int .i64 0, .int .i64 ((fs.length : Int) - 1)] w' fun e w'' => e = .returned (.bool true) ∧ Below w'.heap.size w' w'') := fun w' _ => (btw_any _ _ _ _).mono fun _ _ q => ⟨by rw [q.1, pB_yes ⟨by omega, by omega⟩], by rw [q.2]; exact Below.refl _ _⟩
  have HC1 : Hid (∀ w', Below wA.heap.size wA w' → Calls Tryz.prog 34 #[.int .i64 (pi : Int), .int .i64 0, .int .i64 ((fs[fi].code.length : Int) - 1)] w' fun e w'' => e = .returned (.bool true) ∧ Below w'.heap.size w' w'') := fun w' _ => (btw_any _ _ _ _).mono fun _ _ q => ⟨by rw [q.1, pB_yes ⟨by omega, by omega⟩], by rw [q.2]; exact Below.refl _ _⟩
  have HL : Hid (SLim fs D K wK (some ⟨bf, of, none⟩) (some ⟨bo, oo, none⟩) ea) := l
  clear hfe hpe hx f3 f3A hop his hmf hmo hsz h
  go_enter Tryz.func37, Tryz.ntmps37
  go_upto_region 1 with fail
  rw [← hwA]
  clear hwA d0 d1 d2 d3 d4 d5 d6 d7 d8 d9 k1
  refine wp_below (by kernel_rfl) (by kernel_rfl) ?_
  iterate 9
    refine q_want (v := ?_) (by kernel_rfl) ?_ ?_
    rotate_left
    · intro w' hC
      obtain ⟨j0, j1, j2, j3⟩ := HS.out w' hC
      go_simp
      try with_reducible rfl
    try simp only [Act.put, List.setIfInBounds_toArray, List.set_cons_zero, List.set_cons_succ]
  refine q_want (v := .bool true) (by kernel_rfl) ?_ ?_
  · intro w' hC
    go_simp
    refine (HC0.out _ hC).mono ?_
    rintro e w'' ⟨rfl, hb2⟩
    exact ⟨rfl, hC.trans (hb2.mono hC.size)⟩
  try simp only [Act.put, List.setIfInBounds_toArray, List.set_cons_zero, List.set_cons_succ]
  iterate 16
    refine q_want (v := ?_) (by kernel_rfl) ?_ ?_
    rotate_left
    · intro w' hC
      obtain ⟨j0, j1, j2, j3⟩ := HS.out w' hC
      go_simp
      try with_reducible rfl
    try simp only [Act.put, List.setIfInBounds_toArray, List.set_cons_zero, List.set_cons_succ]
  refine q_want (v := .bool true) (by kernel_rfl) ?_ ?_
  · intro w' hC
    go_simp
    refine (HC1.out _ hC).mono ?_
    rintro e w'' ⟨rfl, hb2⟩
    exact ⟨rfl, hC.trans (hb2.mono hC.size)⟩
  try simp only [Act.put, List.setIfInBounds_toArray, List.set_cons_zero, List.set_cons_succ]
  iterate 2
    refine q_want (v := ?_) (by kernel_rfl) ?_ ?_
    rotate_left
    · intro w' hC
      obtain ⟨j0, j1, j2, j3⟩ := HS.out w' hC
      go_simp
      try with_reducible rfl
    try simp only [Act.put, List.setIfInBounds_toArray, List.set_cons_zero, List.set_cons_succ]
  refine wpQuiet_nil ?_
  intro w2 q2
  have hC1 := hC0.mono q2
  have hX1 := block_kept hX0 q2
  have R1 : Rk K w w2 := (Rk.of hbA).trans (Rk.of q2)
  clear HS HC0 HC1 hC0 hX0 hbA q2 hw2 y0 y1
  have x1 := block_cell hX1
  go_wp2_with fail
  refine (exits1_any _).mono ?_
  rintro e w3 ⟨rfl, hw⟩
  rw [hw]
  clear hw w3
  go_wp2_with fail
  refine (kZero_any x.x hC1).mono ?_
  rintro e w11 ⟨rfl, hC2, hr⟩
  have hX2 := block_rk hX1 hne hr
  have R2 := R1.trans hr
  clear x1 hX1 R1 hC1 hr
  have x2 := block_cell hX2
  go_wp2_with fail
  refine (kVal_any x.d HL.out.vals hC2).mono ?_
  rintro e w12 ⟨rfl, hC3, hr⟩
  have hX3 := block_rk hX2 hne hr
  have R3 := R2.trans hr
  clear x2 hX2 R2 hC2 hr
  have x3 := block_cell hX3
  go_wp2_with fail
  refine (kZero_any x.a hC3).mono ?_
  rintro e w13 ⟨rfl, hC4, hr⟩
  have hX4 := block_rk hX3 hne hr
  have R4 := R3.trans hr
  clear x3 hX3 R3 hC3 hr
  have x4 := block_cell hX4
  go_wp2_with fail
  refine (kZero_any x.b hC4).mono ?_
  rintro e w14 ⟨rfl, hC5, hr⟩
  have hX5 := block_rk hX4 hne hr
  have R5 := R4.trans hr
  clear x4 hX4 R4 hC4 hr
  have x5 := block_cell hX5
  go_wp2_with fail
  have HC : Hid (Chk a1 (some ⟨bf, of, none⟩) (some ⟨bo, oo, none⟩) ea nt c1 c2 oc ec fs.length K D wK _ w14) := hC5
  have HXX := hX5
  have HS : Hid (∀ w', Below w14.heap.size w14 w' → w'.cell? ⟨K, 0, none⟩ = some (.slice a1 nt c1) ∧ w'.cell? ⟨K, 1, none⟩ = some (.slice (some ⟨bf, of, none⟩) fs.length c2) ∧ w'.cell? ⟨w.heap.size, 7, none⟩ = some (.int .i64 x.v.k) ∧ w'.cell? ⟨w.heap.size, 8, none⟩ = some (.int .i64 x.v.n) ∧ w'.cell? ⟨w.heap.size, 9, none⟩ = some (.string x.v.s)) := fun w' q => ⟨(HC.out.mono q).cells 0, (HC.out.mono q).cells 1, block_cell (block_kept HXX q) 7, block_cell (block_kept HXX q) 8, block_cell (block_kept HXX q) 9⟩
  obtain ⟨j0, j1, j2, j3, j4⟩ := HS.out _ (Below.refl _ _)
  have q : Below w14.heap.size w14 w14.drew := (Below.refl _ _).drew
  clear x5 hC5
  go_region_held3 (fun w' => w'.cell? ⟨K, 0, none⟩ = some (.slice a1 nt c1) ∧ w'.cell? ⟨K, 1, none⟩ = some (.slice (some ⟨bf, of, none⟩) fs.length c2) ∧ w'.cell? ⟨w.heap.size, 7, none⟩ = some (.int .i64 x.v.k) ∧ w'.cell? ⟨w.heap.size, 8, none⟩ = some (.int .i64 x.v.n) ∧ w'.cell? ⟨w.heap.size, 9, none⟩ = some (.string x.v.s))
    (first | exact ⟨j0, j1, j2, j3, j4⟩ | exact HS.out _ q | exact ⟨hc.cells 0, hc.cells 1, block_cell (block_rk (block_kept HXX q) hne hr) 7, block_cell (block_rk (block_kept HXX q) hne hr) 8, block_cell (block_rk (block_kept HXX q) hne hr) 9⟩)
    (first
      | (go_at_call 73; refine (sOk_any x.v.k x.v.n x.v.s 0 _ _ _ _ fs.length _ _ hnf hsz').mono ?_; rintro e wz ⟨rfl, kd⟩; have q := q.trans (kd.mono q.size))
      | (go_at_call 72; refine (need_any _ (HC.out.mono q)).mono ?_; rintro e wy ⟨rfl, hc, hr⟩))
  have hC6' := hc
  have R6 := (R5.trans (Rk.of q)).trans hr
  clear HS HC j0 j1 j2 j3 j4
  have hC6 : Chk a1 (some ⟨bf, of, none⟩) (some ⟨bo, oo, none⟩) ea nt c1 c2 oc ec fs.length K D wK ((((( b || !pB (x.x = 0)) || !pB (Reg x.d D.vals)) || !pB (x.a = 0)) || !pB (x.b = 0)) || !pB (valB x.v.k x.v.n x.v.s fs.length 0 = true)) wy := by
    rw [show pB (valB x.v.k x.v.n x.v.s fs.length 0 = true) = valB x.v.k x.v.n x.v.s fs.length 0 by simp [pB]]
    exact hC6'
  clear hC6'
  go_wp2
  go_end0
  refine ⟨rfl, ?_, R6⟩
  refine (hC6.both.both.both.both).iff ?_
  rw [HF.out]
  exact ⟨fun ⟨s0, s1, s2, s3, s4⟩ => ⟨s1, s2, s3, s0, s4⟩, fun ⟨s1, s2, s3, s0, s4⟩ => ⟨s0, s1, s2, s3, s4⟩⟩

end
end Go.Proofs.YtcbknjjnphknbaaGreatDoor

namespace Go.Proofs.YtcbknjjnphknbaaGreatDoor
open Go.RowKit

section
variable {P : Program} {ops : Array Oper} {Q : Exit → Act → World → Prop} {md : Region.Mode} {S : World → Prop}
theorem h_take {i : Nat} {oi : Oper} {v : Value} {n : Nat} {listed : Array Bool} {a : Act} {w : World} (hi : ops[i]? = some oi)
    (hs : Region.noSelect ops = true) (hf : Region.free md ops listed i = true) (hr : (Region.ready md ops listed).contains i = true)
    (hQ : ∀ c a w, Q (.panic c) (a.put oi.dst v) w → Q (.panic c) a w) (hw : Region.wanted oi (yielded ops a.tmps) = true)
    (hy : ∀ w, S w → (execOp a.eval oi).run P w = .ok (.value v) w) (hS : S w)
    (h : wpAnyH P md ops Q S n (listed.setIfInBounds i true) (a.put oi.dst v) w) : wpAnyH P md ops Q S (n + 1) listed a w :=
  wpAnyH_take hi hs hf hr hQ (.inl ⟨hw, hy⟩) hS h
theorem h_skip {i : Nat} {oi : Oper} {n : Nat} {listed : Array Bool} {a : Act} {w : World} (hi : ops[i]? = some oi)
    (hs : Region.noSelect ops = true) (hf : Region.free md ops listed i = true) (hr : (Region.ready md ops listed).contains i = true)
    (hQ : ∀ c a w, Q (.panic c) (a.put oi.dst undef) w → Q (.panic c) a w) (hw : Region.wanted oi (yielded ops a.tmps) = false) (hS : S w)
    (h : wpAnyH P md ops Q S n (listed.setIfInBounds i true) (a.put oi.dst undef) w) : wpAnyH P md ops Q S (n + 1) listed a w :=
  wpAnyH_take hi hs hf hr hQ (.inr ⟨hw, rfl⟩) hS h
/-- One alone may come up. -/
theorem h_one {i : Nat} {o : Oper} {n : Nat} {listed : Array Bool} {a : Act} {w : World} (hr : Region.ready md ops listed = [i]) (ho : ops[i]? = some o)
    (h : ∀ K' : Act → World → Prop, Shut (∀ a w', S w' → wpAnyH P md ops Q S n (listed.setIfInBounds i true) a w' → K' a w') → if Region.wanted o (yielded ops a.tmps) = true then Oper.wp P o a w K' Q else K' (a.put o.dst undef) w) :
    wpAnyH P md ops Q S (n + 1) listed a w := by
  refine ⟨fun h0 => (by rw [hr] at h0; cases h0), fun j hj => ?_⟩
  rw [hr] at hj
  obtain rfl := List.mem_singleton.1 hj
  exact wpOp_step ho (fun K' hK => h K' (fun a w hS hW => hK a w ⟨hS, hW⟩))
/-- One of several comes up. -/
theorem h_some {i : Nat} {o : Oper} {n : Nat} {listed : Array Bool} {a : Act} {w : World} (ho : ops[i]? = some o)
    (h : ∀ K' : Act → World → Prop, Shut (∀ a w', S w' → wpAnyH P md ops Q S n (listed.setIfInBounds i true) a w' → K' a w') → if Region.wanted o (yielded ops a.tmps) = true then Oper.wp P o a w K' Q else K' (a.put o.dst undef) w) :
    wpOp P ops Q i (fun a' w' => S w' ∧ wpAnyH P md ops Q S n (listed.setIfInBounds i true) a' w') a w :=
  wpOp_step ho (fun K' hK => h K' (fun a w hS hW => hK a w ⟨hS, hW⟩))
theorem h_begin {id : Nat} {a : Act} {w : World} (S : World → Prop) (hm : P.follows .mixedOrders = true) (h : wpAnyH P .any ops Q S ops.size (Array.replicate ops.size false) a w.drew) : (Code.region id ops true).wp P Q a w :=
  wp_region_held hm h
end
end Go.Proofs.YtcbknjjnphknbaaGreatDoor

namespace Go.Proofs.YtcbknjjnphknbaaGreatDoor
open Go.RowKit

section
variable {fs : List Fn} {a1 a2 oa ea : Option Addr} {nt c1 c2 oc ec K : Nat} {D : FastD} {wK w : World} {b : Bool}
set_option maxRecDepth 100000 in
set_option maxHeartbeats 8000000 in
theorem sOp3_any (i : Nat) (hi : i < D.ops.length) (hop : D.ops[i].op = 3) (his : (insD fs D.ops[i].f D.ops[i].p).isSome = true) (l : SLim fs D K wK a2 oa ea) (h : Chk a1 a2 oa ea nt c1 c2 oc ec fs.length K D wK b w) :
    Calls Tryz.prog 37 #[.pointer (some ⟨K, 0, none⟩), .int .i64 (i : Nat)] w fun e w' => e = .returned (.tuple #[]) ∧ Chk a1 a2 oa ea nt c1 c2 oc ec fs.length K D wK (b || !pB (FopP fs D i D.ops[i])) w' ∧ Rk K w w' := by
  obtain ⟨hmf, hmo, -⟩ := l.at h
  obtain ⟨fi, pi, hfi, hfe, hpe, hpi⟩ := ins_at his
  obtain ⟨bf, of, ca, cc, rfl, -, -, -, f3, -⟩ := hmf fi hfi
  obtain ⟨bo, oo, rfl, -, d0, d1, d2, d3, d4, d5, d6, d7, d8, d9⟩ := hmo i hi
  have hsz := l.fast.1.2 _ (List.getElem_mem hi)
  obtain ⟨x, hx⟩ : ∃ x, x = D.ops[i] := ⟨_, rfl⟩
  have HF : Hid (FopP fs D i D.ops[i] ↔ PartP fs.length D i (sh 3 0) x.d ∧ PartP fs.length D i (sh 3 1) x.a ∧ PartP fs.length D i (sh 3 2) x.b ∧ PartP fs.length D i (sh 3 3) x.x ∧ ConstP fs.length (sh 3 4) x.v) := by rw [hx]; exact fop_at 3 hop (by decide) (by decide) his
  rw [hop] at d0
  rw [← hx] at d1 d2 d3 d4 d5 d6 d7 d8 d9 hfe hpe hsz
  have HX : Hid (x = D.ops[i]) := hx
  have hsz' : x.v.s.size ≤ 1048576 := hsz
  have z1 : (i : Int) < (D.ops.length : Int) := by omega
  have k1 := h.cells
  have hwk : K < w.heap.size := lt_block h.blk
  obtain ⟨wA, hwA⟩ : ∃ wA, wA = w.alloc (.cells #[.int .i64 3, .int .i64 x.d, .int .i64 x.a, .int .i64 x.b, .int .i64 x.x, .int .i64 x.f, .int .i64 x.p, .int .i64 x.v.k, .int .i64 x.v.n, .string x.v.s] 104) := ⟨_, rfl⟩
  have hbA : Below w.heap.size w wA := by rw [hwA]; exact (Below.refl _ _).alloc (Nat.le_refl _) _
  have hX0 : wA.heap[w.heap.size]? = some (.cells #[.int .i64 3, .int .i64 x.d, .int .i64 x.a, .int .i64 x.b, .int .i64 x.x, .int .i64 x.f, .int .i64 x.p, .int .i64 x.v.k, .int .i64 x.v.n, .string x.v.s] 104 (0, 0)) := by rw [hwA]; exact block_new _ _ _
  have hC0 := h.mono hbA
  have hne : w.heap.size ≠ K := by omega
  have HFE : Hid (x.f = (fi : Int)) := hfe
  have HPE : Hid (x.p = (pi : Int)) := hpe
  have f3A := cell_later hbA f3
  have HS : Hid (∀ w', Below wA.heap.size wA w' → w'.cell? ⟨K, 1, none⟩ = some (.slice (some ⟨bf, of, none⟩) fs.length c2) ∧ w'.cell? ⟨w.heap.size, 5, none⟩ = some (.int .i64 (fi : Int)) ∧ w'.cell? ⟨w.heap.size, 6, none⟩ = some (.int .i64 (pi : Int)) ∧ w'.cell? ⟨bf, of + fi * 3 + 2, none⟩ = some (.slice ca fs[fi].code.length cc)) := fun w' q => by
    have t5 := block_cell (block_kept hX0 q) 5
    have t6 := block_cell (block_kept hX0 q) 6
    rw [HFE.out] at t5
    rw [HPE.out] at t6
    exact ⟨(hC0.mono q).cells 1, t5, t6, cell_later q f3A⟩
  have hcl := l.code _ (List.getElem_mem hfi)
  have hnf := l.nf
  have hw1 : IntKind.i64.wrap ((fs.length : Int) - 1) = (fs.length : Int) - 1 := by rw [IntKind.wrap_i64]; omega
  have hw2 : IntKind.i64.wrap ((fs[fi].code.length : Int) - 1) = (fs[fi].code.length : Int) - 1 := by rw [IntKind.wrap_i64]; omega
  have y0 : (0 : Int) ≤ (fi : Int) := by omega
  have y1 : (fi : Int) < (fs.length : Int) := by omega
  have HC0 : Hid (∀ w', Below wA.heap.size wA w' → Calls Tryz.prog 34 #[.int .i64 (fi : Int), .int .i64 0, .int .i64 ((fs.length : Int) - 1)] w' fun e w'' => e = .returned (.bool true) ∧ Below w'.heap.size w' w'') := fun w' _ => (btw_any _ _ _ _).mono fun _ _ q => ⟨by rw [q.1, pB_yes ⟨by omega, by omega⟩], by rw [q.2]; exact Below.refl _ _⟩
  have HC1 : Hid (∀ w', Below wA.heap.size wA w' → Calls Tryz.prog 34 #[.int .i64 (pi : Int), .int .i64 0, .int .i64 ((fs[fi].code.length : Int) - 1)] w' fun e w'' => e = .returned (.bool true) ∧ Below w'.heap.size w' w'') := fun w' _ => (btw_any _ _ _ _).mono fun _ _ q => ⟨by rw [q.1, pB_yes ⟨by omega, by omega⟩], by rw [q.2]; exact Below.refl _ _⟩
  have HL : Hid (SLim fs D K wK (some ⟨bf, of, none⟩) (some ⟨bo, oo, none⟩) ea) := l
  clear hfe hpe hx f3 f3A hop his hmf hmo hsz h
  go_enter Tryz.func37, Tryz.ntmps37
  go_upto_region 1 with fail
  rw [← hwA]
  clear hwA d0 d1 d2 d3 d4 d5 d6 d7 d8 d9 k1
  refine wp_below (by kernel_rfl) (by kernel_rfl) ?_
  iterate 9
    refine q_want (v := ?_) (by kernel_rfl) ?_ ?_
    rotate_left
    · intro w' hC
      obtain ⟨j0, j1, j2, j3⟩ := HS.out w' hC
      go_simp
      try with_reducible rfl
    try simp only [Act.put, List.setIfInBounds_toArray, List.set_cons_zero, List.set_cons_succ]
  refine q_want (v := .bool true) (by kernel_rfl) ?_ ?_
  · intro w' hC
    go_simp
    refine (HC0.out _ hC).mono ?_
    rintro e w'' ⟨rfl, hb2⟩
    exact ⟨rfl, hC.trans (hb2.mono hC.size)⟩
  try simp only [Act.put, List.setIfInBounds_toArray, List.set_cons_zero, List.set_cons_succ]
  iterate 16
    refine q_want (v := ?_) (by kernel_rfl) ?_ ?_
    rotate_left
    · intro w' hC
      obtain ⟨j0, j1, j2, j3⟩ := HS.out w' hC
      go_simp
      try with_reducible rfl
    try simp only [Act.put, List.setIfInBounds_toArray, List.set_cons_zero, List.set_cons_succ]
  refine q_want (v := .bool true) (by kernel_rfl) ?_ ?_
  · intro w' hC
    go_simp
    refine (HC1.out _ hC).mono ?_
    rintro e w'' ⟨rfl, hb2⟩
    exact ⟨rfl, hC.trans (hb2.mono hC.size)⟩
  try simp only [Act.put, List.setIfInBounds_toArray, List.set_cons_zero, List.set_cons_succ]
  iterate 2
    refine q_want (v := ?_) (by kernel_rfl) ?_ ?_
    rotate_left
    · intro w' hC
      obtain ⟨j0, j1, j2, j3⟩ := HS.out w' hC
      go_simp
      try with_reducible rfl
    try simp only [Act.put, List.setIfInBounds_toArray, List.set_cons_zero, List.set_cons_succ]
  refine wpQuiet_nil ?_
  intro w2 q2
  have hC1 := hC0.mono q2
  have hX1 := block_kept hX0 q2
  have R1 : Rk K w w2 := (Rk.of hbA).trans (Rk.of q2)
  clear HS HC0 HC1 hC0 hX0 hbA q2 hw2 y0 y1
  have x1 := block_cell hX1
  go_wp2_with fail
  refine (exits3_any _).mono ?_
  rintro e w3 ⟨rfl, hw⟩
  rw [hw]
  clear hw w3
  go_wp2_with fail
  refine (kZero_any x.x hC1).mono ?_
  rintro e w11 ⟨rfl, hC2, hr⟩
  have hX2 := block_rk hX1 hne hr
  have R2 := R1.trans hr
  clear x1 hX1 R1 hC1 hr
  have x2 := block_cell hX2
  go_wp2_with fail
  refine (kNum_any x.d HL.out.nums hC2).mono ?_
  rintro e w12 ⟨rfl, hC3, hr⟩
  have hX3 := block_rk hX2 hne hr
  have R3 := R2.trans hr
  clear x2 hX2 R2 hC2 hr
  have x3 := block_cell hX3
  go_wp2_with fail
  refine (kZero_any x.a hC3).mono ?_
  rintro e w13 ⟨rfl, hC4, hr⟩
  have hX4 := block_rk hX3 hne hr
  have R4 := R3.trans hr
  clear x3 hX3 R3 hC3 hr
  have x4 := block_cell hX4
  go_wp2_with fail
  refine (kZero_any x.b hC4).mono ?_
  rintro e w14 ⟨rfl, hC5, hr⟩
  have hX5 := block_rk hX4 hne hr
  have R5 := R4.trans hr
  clear x4 hX4 R4 hC4 hr
  have x5 := block_cell hX5
  go_wp2_with fail
  by_cases hk1 : x.v.k = 1
  case neg =>
    have hk2 : (x.v.k == 1) = false := by simpa using hk1
    have HK1 : Hid (¬ x.v.k = 1) := hk1
    have HC : Hid (Chk a1 (some ⟨bf, of, none⟩) (some ⟨bo, oo, none⟩) ea nt c1 c2 oc ec fs.length K D wK _ w14) := hC5
    have hX6 := block_kept hX5 (Below.refl _ _).drew
    clear hk1 hC5 x5
    have hh : (fun w' : World => w'.cell? ⟨w.heap.size, 7, none⟩ = some (.int .i64 x.v.k)) _ := block_cell hX6 7
    refine h_begin (fun w' : World => w'.cell? ⟨w.heap.size, 7, none⟩ = some (.int .i64 x.v.k)) (by kernel_rfl) ?_
    refine h_take (i := 0) (oi := _) (v := ?_) rfl (by kernel_rfl) (by kernel_rfl) (by kernel_rfl) (fun _ _ _ h => h) (by kernel_rfl) ?_ hh ?_
    rotate_left
    · intro w' hSw
      have s0 := hSw
      go_simp
      try with_reducible rfl
    simp only [Act.put, List.setIfInBounds_toArray]
    refine h_take (i := 1) (oi := _) (v := ?_) rfl (by kernel_rfl) (by kernel_rfl) (by kernel_rfl) (fun _ _ _ h => h) (by kernel_rfl) ?_ hh ?_
    rotate_left
    · intro w' hSw
      have s0 := hSw
      go_simp
      try with_reducible rfl
    simp only [Act.put]
    refine h_take (i := 2) (oi := _) (v := ?_) rfl (by kernel_rfl) (by kernel_rfl) (by kernel_rfl) (fun _ _ _ h => h) (by kernel_rfl) ?_ hh ?_
    rotate_left
    · intro w' hSw
      have s0 := hSw
      go_simp
      try with_reducible rfl
    simp only [Act.put]
    refine h_take (i := 3) (oi := _) (v := ?_) rfl (by kernel_rfl) (by kernel_rfl) (by kernel_rfl) (fun _ _ _ h => h) (by kernel_rfl) ?_ hh ?_
    rotate_left
    · intro w' hSw
      have s0 := hSw
      go_simp
      try with_reducible rfl
    simp only [Act.put]
    refine h_take (i := 4) (oi := _) (v := .bool false) rfl (by kernel_rfl) (by kernel_rfl) (by kernel_rfl) (fun _ _ _ h => h) (by kernel_rfl) ?_ hh ?_
    · intro w' hSw
      have s0 := hSw
      go_simp
      try simp only [hk2]
    simp only [Act.put]
    refine h_take (i := 5) (oi := _) (v := ?_) rfl (by kernel_rfl) (by kernel_rfl) (by kernel_rfl) (fun _ _ _ h => h) (by kernel_rfl) ?_ hh ?_
    rotate_left
    · intro w' hSw
      have s0 := hSw
      go_simp
      try with_reducible rfl
    simp only [Act.put]
    refine h_skip (i := 6) (oi := _) rfl (by kernel_rfl) (by kernel_rfl) (by kernel_rfl) (fun _ _ _ h => h) (by kernel_rfl) hh ?_
    simp only [Act.put]
    refine h_skip (i := 7) (oi := _) rfl (by kernel_rfl) (by kernel_rfl) (by kernel_rfl) (fun _ _ _ h => h) (by kernel_rfl) hh ?_
    simp only [Act.put]
    refine h_skip (i := 8) (oi := _) rfl (by kernel_rfl) (by kernel_rfl) (by kernel_rfl) (fun _ _ _ h => h) (by kernel_rfl) hh ?_
    simp only [Act.put]
    refine h_skip (i := 9) (oi := _) rfl (by kernel_rfl) (by kernel_rfl) (by kernel_rfl) (fun _ _ _ h => h) (by kernel_rfl) hh ?_
    simp only [Act.put]
    refine h_skip (i := 10) (oi := _) rfl (by kernel_rfl) (by kernel_rfl) (by kernel_rfl) (fun _ _ _ h => h) (by kernel_rfl) hh ?_
    simp only [Act.put]
    refine h_skip (i := 11) (oi := _) rfl (by kernel_rfl) (by kernel_rfl) (by kernel_rfl) (fun _ _ _ h => h) (by kernel_rfl) hh ?_
    simp only [Act.put]
    refine h_skip (i := 12) (oi := _) rfl (by kernel_rfl) (by kernel_rfl) (by kernel_rfl) (fun _ _ _ h => h) (by kernel_rfl) hh ?_
    simp only [Act.put]
    refine h_take (i := 13) (oi := _) (v := ?_) rfl (by kernel_rfl) (by kernel_rfl) (by kernel_rfl) (fun _ _ _ h => h) (by kernel_rfl) ?_ hh ?_
    rotate_left
    · intro w' hSw
      have s0 := hSw
      go_simp
      try with_reducible rfl
    simp only [Act.put]
    refine h_one (i := 14) (o := _) (by kernel_rfl) rfl (fun K hK => ?_)
    go_simp
    go_at_call 72
    refine (need_any false (HC.out.mono (Below.refl _ _).drew)).mono ?_
    rintro e wy ⟨rfl, hc, hr⟩
    have hh : (fun w' : World => w'.cell? ⟨w.heap.size, 7, none⟩ = some (.int .i64 x.v.k)) _ := block_cell (block_rk hX6 hne hr) 7
    refine hK.out _ _ hh ?_
    clear hK K
    try simp only [Act.put]
    refine wpAnyH_done (by kernel_rfl) ?_ _
    go_wp2
    go_end0
    refine ⟨rfl, ?_, (R5.trans (Rk.of (Below.refl _ _).drew)).trans hr⟩
    rw [pB_no (fun q => by have := (HF.out.1 q).2.2.2.2; exact HK1.out this.1)]
    simpa using hc
  have HK1 : Hid (x.v.k = 1) := hk1
  rw [hk1] at x5 hX5
  clear hk1
  have HC : Hid (Chk a1 (some ⟨bf, of, none⟩) (some ⟨bo, oo, none⟩) ea nt c1 c2 oc ec fs.length K D wK _ w14) := hC5
  have kc := HC.out.cells
  clear hC5
  go_region_with (first
    | (go_at_call 73; refine (sOk_any 1 x.v.n x.v.s 0 _ _ _ _ fs.length _ _ hnf hsz').mono ?_; rintro e wz ⟨rfl, kd⟩)
    | (go_at_call 72; refine (need_any _ (HC.out.mono ((Below.refl w14.heap.size w14).drew.trans (kd.mono (Nat.le_refl _))))).mono ?_; rintro e wy ⟨rfl, hc, hr⟩))
  all_goals
    have hC6' := hc
    have R6 := (R5.trans (Rk.of ((Below.refl w14.heap.size w14).drew.trans (kd.mono (Nat.le_refl _))))).trans hr
    clear HC kc x5
    have hC6 : Chk a1 (some ⟨bf, of, none⟩) (some ⟨bo, oo, none⟩) ea nt c1 c2 oc ec fs.length K D wK ((((( b || !pB (x.x = 0)) || !pB (Reg x.d D.nums)) || !pB (x.a = 0)) || !pB (x.b = 0)) || !pB (x.v.k = 1 ∧ valB x.v.k x.v.n x.v.s fs.length 0 = true)) wy := by
      rw [show pB (x.v.k = 1 ∧ valB x.v.k x.v.n x.v.s fs.length 0 = true) = valB 1 x.v.n x.v.s fs.length 0 by rw [HK1.out]; simp [pB]]
      exact hC6'
    clear hC6'
    go_wp2
    go_end0
    refine ⟨rfl, ?_, R6⟩
    refine (hC6.both.both.both.both).iff ?_
    rw [HF.out]
    exact ⟨fun ⟨s0, s1, s2, s3, s4⟩ => ⟨s1, s2, s3, s0, s4⟩, fun ⟨s1, s2, s3, s0, s4⟩ => ⟨s0, s1, s2, s3, s4⟩⟩

end
end Go.Proofs.YtcbknjjnphknbaaGreatDoor
