/-
  The document's look at an op: F and P that are none, an Op that is none.
  The document's look at an op.
-/
import Derived.Test.YtcbknjjnphknbaaGreatDoorZOQ25
import Derived.Test.YtcbknjjnphknbaaGreatDoorZOQ5
import Derived.Test.YtcbknjjnphknbaaGreatDoorZS4b
import Derived.Test.YtcbknjjnphknbaaGreatDoorZS4c
import Derived.Test.YtcbknjjnphknbaaGreatDoorZS4d
import Derived.Test.YtcbknjjnphknbaaGreatDoorZS4e
import Derived.Test.YtcbknjjnphknbaaGreatDoorZOQ26
import Derived.Test.YtcbknjjnphknbaaGreatDoorZS4z
import Derived.Test.YtcbknjjnphknbaaGreatDoorZOQ27
namespace Go.Proofs.YtcbknjjnphknbaaGreatDoor
open Go.RowKit

section
variable {fs : List Fn} {a1 a2 oa ea : Option Addr} {nt c1 c2 oc ec K : Nat} {D : FastD} {wK w : World} {b : Bool}
set_option maxRecDepth 100000 in
set_option maxHeartbeats 8000000 in
theorem sOpNo_any (i : Nat) (hi : i < D.ops.length) (hop : D.ops[i].op < 1 ∨ 29 < D.ops[i].op) (his : (insD fs D.ops[i].f D.ops[i].p).isSome = true) (l : SLim fs D K wK a2 oa ea) (h : Chk a1 a2 oa ea nt c1 c2 oc ec fs.length K D wK b w) :
    Calls Tryz.prog 37 #[.pointer (some ⟨K, 0, none⟩), .int .i64 (i : Nat)] w fun e w' => e = .returned (.tuple #[]) ∧ Chk a1 a2 oa ea nt c1 c2 oc ec fs.length K D wK (b || !pB (FopP fs D i D.ops[i])) w' ∧ Rk K w w' := by
  obtain ⟨hmf, hmo, -⟩ := l.at h
  obtain ⟨fi, pi, hfi, hfe, hpe, hpi⟩ := ins_at his
  obtain ⟨bf, of, ca, cc, rfl, -, -, -, f3, -⟩ := hmf fi hfi
  obtain ⟨bo, oo, rfl, -, d0, d1, d2, d3, d4, d5, d6, d7, d8, d9⟩ := hmo i hi
  have hsz := l.fast.1.2 _ (List.getElem_mem hi)
  obtain ⟨x, hx⟩ : ∃ x, x = D.ops[i] := ⟨_, rfl⟩
  have HF : Hid (¬ FopP fs D i D.ops[i]) := fun q => by have := q.1; omega
  rw [← hx] at d0 hop
  rw [← hx] at d1 d2 d3 d4 d5 d6 d7 d8 d9 hfe hpe hsz
  have HX : Hid (x = D.ops[i]) := hx
  have hsz' : x.v.s.size ≤ 1048576 := hsz
  have z1 : (i : Int) < (D.ops.length : Int) := by omega
  have k1 := h.cells
  have hwk : K < w.heap.size := lt_block h.blk
  obtain ⟨wA, hwA⟩ : ∃ wA, wA = w.alloc (.cells #[.int .i64 x.op, .int .i64 x.d, .int .i64 x.a, .int .i64 x.b, .int .i64 x.x, .int .i64 x.f, .int .i64 x.p, .int .i64 x.v.k, .int .i64 x.v.n, .string x.v.s] 104) := ⟨_, rfl⟩
  have hbA : Below w.heap.size w wA := by rw [hwA]; exact (Below.refl _ _).alloc (Nat.le_refl _) _
  have hX0 : wA.heap[w.heap.size]? = some (.cells #[.int .i64 x.op, .int .i64 x.d, .int .i64 x.a, .int .i64 x.b, .int .i64 x.x, .int .i64 x.f, .int .i64 x.p, .int .i64 x.v.k, .int .i64 x.v.n, .string x.v.s] 104 (0, 0)) := by rw [hwA]; exact block_new _ _ _
  have hC0 := h.mono hbA
  have hne : w.heap.size ≠ K := by omega
  have HFE : Hid (x.f = (fi : Int)) := hfe
  have HPE : Hid (x.p = (pi : Int)) := hpe
  have f3A := cell_later hbA f3
  have HS : Hid (∀ w', Below wA.heap.size wA w' → w'.cell? ⟨K, 1, none⟩ = some (.slice (some ⟨bf, of, none⟩) fs.length c2) ∧ w'.cell? ⟨w.heap.size, 5, none⟩ = some (.int .i64 (fi : Int)) ∧ w'.cell? ⟨w.heap.size, 6, none⟩ = some (.int .i64 (pi : Int)) ∧ w'.cell? ⟨bf, of + fi * 3 + 2, none⟩ = some (.slice ca fs[fi].code.length cc)) := fun w' q => by
    have t5 := block_cell (block_kept hX0 q) 5
    have t6 := block_cell (block_kept hX0 q) 6
    rw [HFE.out] at t5
    rw [HPE.out] at t6
    exact ⟨(hC0.mono q).cells 1, t5, t6, cell_later q f3A⟩
  have hcl := l.code _ (List.getElem_mem hfi)
  have hnf := l.nf
  have hw1 : IntKind.i64.wrap ((fs.length : Int) - 1) = (fs.length : Int) - 1 := by rw [IntKind.wrap_i64]; omega
  have hw2 : IntKind.i64.wrap ((fs[fi].code.length : Int) - 1) = (fs[fi].code.length : Int) - 1 := by rw [IntKind.wrap_i64]; omega
  have y0 : (0 : Int) ≤ (fi : Int) := by omega
  have y1 : (fi : Int) < (fs.length : Int) := by omega
  have HC0 : Hid (∀ w', Below wA.heap.size wA w' → Calls Tryz.prog 34 #[.int .i64 (fi : Int), .int .i64 0, .int .i64 ((fs.length : Int) - 1)] w' fun e w'' => e = .returned (.bool true) ∧ Below w'.heap.size w' w'') := fun w' _ => (btw_any _ _ _ _).mono fun _ _ q => ⟨by rw [q.1, pB_yes ⟨by omega, by omega⟩], by rw [q.2]; exact Below.refl _ _⟩
  have HC1 : Hid (∀ w', Below wA.heap.size wA w' → Calls Tryz.prog 34 #[.int .i64 (pi : Int), .int .i64 0, .int .i64 ((fs[fi].code.length : Int) - 1)] w' fun e w'' => e = .returned (.bool true) ∧ Below w'.heap.size w' w'') := fun w' _ => (btw_any _ _ _ _).mono fun _ _ q => ⟨by rw [q.1, pB_yes ⟨by omega, by omega⟩], by rw [q.2]; exact Below.refl _ _⟩
  have HL : Hid (SLim fs D K wK (some ⟨bf, of, none⟩) (some ⟨bo, oo, none⟩) ea) := l
  have HOP : Hid (x.op < 1 ∨ 29 < x.op) := hop
  clear hfe hpe hx f3 f3A hop his hmf hmo hsz h
  go_enter Tryz.func37, Tryz.ntmps37
  go_upto_region 1 with fail
  rw [← hwA]
  clear hwA d0 d1 d2 d3 d4 d5 d6 d7 d8 d9 k1
  refine wp_below (by kernel_rfl) (by kernel_rfl) ?_
  iterate 9
    refine q_want (v := ?_) (by kernel_rfl) ?_ ?_
    rotate_left
    · intro w' hC
      obtain ⟨j0, j1, j2, j3⟩ := HS.out w' hC
      go_simp
      try with_reducible rfl
    try simp only [Act.put, List.setIfInBounds_toArray, List.set_cons_zero, List.set_cons_succ]
  refine q_want (v := .bool true) (by kernel_rfl) ?_ ?_
  · intro w' hC
    go_simp
    refine (HC0.out _ hC).mono ?_
    rintro e w'' ⟨rfl, hb2⟩
    exact ⟨rfl, hC.trans (hb2.mono hC.size)⟩
  try simp only [Act.put, List.setIfInBounds_toArray, List.set_cons_zero, List.set_cons_succ]
  iterate 16
    refine q_want (v := ?_) (by kernel_rfl) ?_ ?_
    rotate_left
    · intro w' hC
      obtain ⟨j0, j1, j2, j3⟩ := HS.out w' hC
      go_simp
      try with_reducible rfl
    try simp only [Act.put, List.setIfInBounds_toArray, List.set_cons_zero, List.set_cons_succ]
  refine q_want (v := .bool true) (by kernel_rfl) ?_ ?_
  · intro w' hC
    go_simp
    refine (HC1.out _ hC).mono ?_
    rintro e w'' ⟨rfl, hb2⟩
    exact ⟨rfl, hC.trans (hb2.mono hC.size)⟩
  try simp only [Act.put, List.setIfInBounds_toArray, List.set_cons_zero, List.set_cons_succ]
  iterate 2
    refine q_want (v := ?_) (by kernel_rfl) ?_ ?_
    rotate_left
    · intro w' hC
      obtain ⟨j0, j1, j2, j3⟩ := HS.out w' hC
      go_simp
      try with_reducible rfl
    try simp only [Act.put, List.setIfInBounds_toArray, List.set_cons_zero, List.set_cons_succ]
  refine wpQuiet_nil ?_
  intro w2 q2
  have hC1 := hC0.mono q2
  have hX1 := block_kept hX0 q2
  have R1 : Rk K w w2 := (Rk.of hbA).trans (Rk.of q2)
  clear HS HC0 HC1 hC0 hX0 hbA q2 hw2 y0 y1
  have x1 := block_cell hX1
  go_wp2_with fail
  refine (exitsNo_any _ _ HOP.out).mono ?_
  rintro e w3 ⟨rfl, hw⟩
  rw [hw]
  clear hw w3
  go_wp2_with fail
  refine (kZero_any x.x hC1).mono ?_
  rintro e w11 ⟨rfl, hC2, hr⟩
  have hX2 := block_rk hX1 hne hr
  have R2 := R1.trans hr
  clear x1 hX1 R1 hC1 hr
  have x2 := block_cell hX2
  have hop := HOP.out
  have n1 : (x.op != 1) = true := by simp; omega
  have n3 : (x.op != 3) = true := by simp; omega
  clear hop
  go_wp2_with fail
  refine (kNone_any x.v hC2).mono ?_
  rintro e w12 ⟨rfl, hC3, hr⟩
  have hX3 := block_rk hX2 hne hr
  have R3 := R2.trans hr
  clear x2 hX2 R2 hC2 hr n1 n3
  have x3 := block_cell hX3
  have k3 := hC3.cells
  have k4 := hC3.free
  have hop := HOP.out
  have g1 : (x.op == 1) = false := by simp; omega
  have g2 : (x.op == 2) = false := by simp; omega
  have g3 : (x.op == 3) = false := by simp; omega
  have g4 : (x.op == 4) = false := by simp; omega
  have g5 : (x.op == 5) = false := by simp; omega
  have g6 : (x.op == 6) = false := by simp; omega
  have g7 : (x.op == 7) = false := by simp; omega
  have g8 : (x.op == 8) = false := by simp; omega
  have g9 : (x.op == 9) = false := by simp; omega
  have g10 : (x.op == 10) = false := by simp; omega
  have g11 : (x.op == 11) = false := by simp; omega
  have g12 : (x.op == 12) = false := by simp; omega
  have g13 : (x.op == 13) = false := by simp; omega
  have g14 : (x.op == 14) = false := by simp; omega
  have g15 : (x.op == 15) = false := by simp; omega
  have g16 : (x.op == 16) = false := by simp; omega
  have g17 : (x.op == 17) = false := by simp; omega
  have g18 : (x.op == 18) = false := by simp; omega
  have g19 : (x.op == 19) = false := by simp; omega
  have g20 : (x.op == 20) = false := by simp; omega
  have g21 : (x.op == 21) = false := by simp; omega
  have g22 : (x.op == 22) = false := by simp; omega
  have g23 : (x.op == 23) = false := by simp; omega
  have g24 : (x.op == 24) = false := by simp; omega
  have g25 : (x.op == 25) = false := by simp; omega
  have g26 : (x.op == 26) = false := by simp; omega
  have g27 : (x.op == 27) = false := by simp; omega
  have g28 : (x.op == 28) = false := by simp; omega
  have g29 : (x.op == 29) = false := by simp; omega
  clear hop
  go_wp2
  go_end0
  exact ⟨rfl, (hC3.set true).no HF.out, R3.set _⟩

set_option maxRecDepth 100000 in
set_option maxHeartbeats 8000000 in
theorem sOpBad_any (i : Nat) (hi : i < D.ops.length) (his : ¬ (insD fs D.ops[i].f D.ops[i].p).isSome = true) (l : SLim fs D K wK a2 oa ea) (h : Chk a1 a2 oa ea nt c1 c2 oc ec fs.length K D wK b w) :
    Calls Tryz.prog 37 #[.pointer (some ⟨K, 0, none⟩), .int .i64 (i : Nat)] w fun e w' => e = .returned (.tuple #[]) ∧ Chk a1 a2 oa ea nt c1 c2 oc ec fs.length K D wK (b || !pB (FopP fs D i D.ops[i])) w' ∧ Rk K w w' := by
  obtain ⟨hmf, hmo, -⟩ := l.at h
  obtain ⟨bo, oo, rfl, -, d0, d1, d2, d3, d4, d5, d6, d7, d8, d9⟩ := hmo i hi
  have HF : Hid (¬ FopP fs D i D.ops[i]) := fun q => his q.2.1
  obtain ⟨x, hx⟩ : ∃ x, x = D.ops[i] := ⟨_, rfl⟩
  rw [← hx] at d0 d1 d2 d3 d4 d5 d6 d7 d8 d9 his
  have HX : Hid (x = D.ops[i]) := hx
  have z1 : (i : Int) < (D.ops.length : Int) := by omega
  have k1 := h.cells
  obtain ⟨wA, hwA⟩ : ∃ wA, wA = w.alloc (.cells #[.int .i64 x.op, .int .i64 x.d, .int .i64 x.a, .int .i64 x.b, .int .i64 x.x, .int .i64 x.f, .int .i64 x.p, .int .i64 x.v.k, .int .i64 x.v.n, .string x.v.s] 104) := ⟨_, rfl⟩
  have hbA : Below w.heap.size w wA := by rw [hwA]; exact (Below.refl _ _).alloc (Nat.le_refl _) _
  have hX0 : wA.heap[w.heap.size]? = some (.cells #[.int .i64 x.op, .int .i64 x.d, .int .i64 x.a, .int .i64 x.b, .int .i64 x.x, .int .i64 x.f, .int .i64 x.p, .int .i64 x.v.k, .int .i64 x.v.n, .string x.v.s] 104 (0, 0)) := by rw [hwA]; exact block_new _ _ _
  have hC0 := h.mono hbA
  have hnf := l.nf
  have hw1 : IntKind.i64.wrap ((fs.length : Int) - 1) = (fs.length : Int) - 1 := by rw [IntKind.wrap_i64]; omega
  by_cases hf : Reg x.f fs.length
  case neg =>
    have HS : Hid (∀ w', Below wA.heap.size wA w' → w'.cell? ⟨K, 1, none⟩ = some (.slice a2 fs.length c2) ∧ w'.cell? ⟨w.heap.size, 5, none⟩ = some (.int .i64 x.f)) := fun w' q => ⟨(hC0.mono q).cells 1, block_cell (block_kept hX0 q) 5⟩
    have HC0 : Hid (∀ w', Below wA.heap.size wA w' → Calls Tryz.prog 34 #[.int .i64 x.f, .int .i64 0, .int .i64 ((fs.length : Int) - 1)] w' fun e w'' => e = .returned (.bool false) ∧ Below w'.heap.size w' w'') := fun w' _ => (btw_any _ _ _ _).mono fun _ _ q => ⟨by rw [q.1, btw_reg, pB_no hf], by rw [q.2]; exact Below.refl _ _⟩
    clear hx hmf hmo h his hf
    go_enter Tryz.func37, Tryz.ntmps37
    go_upto_region 1 with fail
    rw [← hwA]
    clear hwA d0 d1 d2 d3 d4 d5 d6 d7 d8 d9 k1
    refine wp_below (by kernel_rfl) (by kernel_rfl) ?_
    iterate 9
      refine q_want (v := ?_) (by kernel_rfl) ?_ ?_
      rotate_left
      · intro w' hC
        obtain ⟨j0, j1⟩ := HS.out w' hC
        go_simp
        try with_reducible rfl
      try simp only [Act.put, List.setIfInBounds_toArray, List.set_cons_zero, List.set_cons_succ]
    refine q_want (v := .bool false) (by kernel_rfl) ?_ ?_
    · intro w' hC
      go_simp
      refine (HC0.out _ hC).mono ?_
      rintro e w'' ⟨rfl, hb2⟩
      exact ⟨rfl, hC.trans (hb2.mono hC.size)⟩
    try simp only [Act.put, List.setIfInBounds_toArray, List.set_cons_zero, List.set_cons_succ]
    iterate 2
      refine q_want (v := ?_) (by kernel_rfl) ?_ ?_
      rotate_left
      · intro w' hC
        obtain ⟨j0, j1⟩ := HS.out w' hC
        go_simp
        try with_reducible rfl
      try simp only [Act.put, List.setIfInBounds_toArray, List.set_cons_zero, List.set_cons_succ]
    iterate 16 go_big_quiet_skip
    refine q_want (v := ?_) (by kernel_rfl) ?_ ?_
    rotate_left
    · intro w' hC
      obtain ⟨j0, j1⟩ := HS.out w' hC
      go_simp
      try with_reducible rfl
    try simp only [Act.put, List.setIfInBounds_toArray, List.set_cons_zero, List.set_cons_succ]
    refine wpQuiet_nil ?_
    intro w2 q2
    have hC1 := hC0.mono q2
    have k3 := hC1.cells
    have k4 := hC1.free
    go_wp2
    (try simp only [Exit.inBlock, Exit.then])
    refine bodyPost_ret (results_none rfl _ _ _) rfl ?_
    exact ⟨rfl, (hC1.set true).no HF.out, ((Rk.of hbA).trans (Rk.of q2)).set _⟩
  obtain ⟨fi, hfe⟩ : ∃ fi : Nat, x.f = fi := ⟨x.f.toNat, by have := hf.1; omega⟩
  have hfi : fi < fs.length := by have := hf.2; omega
  obtain ⟨bf, of, ca, cc, rfl, -, -, -, f3, -⟩ := hmf fi hfi
  have hpn : ¬ Reg x.p fs[fi].code.length := fun q => by
    obtain ⟨pj, hpj⟩ : ∃ pj : Nat, x.p = pj := ⟨x.p.toNat, by have := q.1; omega⟩
    have hj : pj < fs[fi].code.length := by have := q.2; omega
    rw [hfe, hpj, insD_hit hfi hj] at his
    exact his rfl
  have HFE : Hid (x.f = (fi : Int)) := hfe
  have f3A := cell_later hbA f3
  have HS : Hid (∀ w', Below wA.heap.size wA w' → w'.cell? ⟨K, 1, none⟩ = some (.slice (some ⟨bf, of, none⟩) fs.length c2) ∧ w'.cell? ⟨w.heap.size, 5, none⟩ = some (.int .i64 (fi : Int)) ∧ w'.cell? ⟨w.heap.size, 6, none⟩ = some (.int .i64 x.p) ∧ w'.cell? ⟨bf, of + fi * 3 + 2, none⟩ = some (.slice ca fs[fi].code.length cc)) := fun w' q => by
    have t5 := block_cell (block_kept hX0 q) 5
    rw [HFE.out] at t5
    exact ⟨(hC0.mono q).cells 1, t5, block_cell (block_kept hX0 q) 6, cell_later q f3A⟩
  have hcl := l.code _ (List.getElem_mem hfi)
  have hw2 : IntKind.i64.wrap ((fs[fi].code.length : Int) - 1) = (fs[fi].code.length : Int) - 1 := by rw [IntKind.wrap_i64]; omega
  have y0 : (0 : Int) ≤ (fi : Int) := by omega
  have y1 : (fi : Int) < (fs.length : Int) := by omega
  have HC0 : Hid (∀ w', Below wA.heap.size wA w' → Calls Tryz.prog 34 #[.int .i64 (fi : Int), .int .i64 0, .int .i64 ((fs.length : Int) - 1)] w' fun e w'' => e = .returned (.bool true) ∧ Below w'.heap.size w' w'') := fun w' _ => (btw_any _ _ _ _).mono fun _ _ q => ⟨by rw [q.1, pB_yes ⟨by omega, by omega⟩], by rw [q.2]; exact Below.refl _ _⟩
  have HC1 : Hid (∀ w', Below wA.heap.size wA w' → Calls Tryz.prog 34 #[.int .i64 x.p, .int .i64 0, .int .i64 ((fs[fi].code.length : Int) - 1)] w' fun e w'' => e = .returned (.bool false) ∧ Below w'.heap.size w' w'') := fun w' _ => (btw_any _ _ _ _).mono fun _ _ q => ⟨by rw [q.1, btw_reg, pB_no hpn], by rw [q.2]; exact Below.refl _ _⟩
  clear hfe hx f3 f3A his hmf hmo h hf hpn
  go_enter Tryz.func37, Tryz.ntmps37
  go_upto_region 1 with fail
  rw [← hwA]
  clear hwA d0 d1 d2 d3 d4 d5 d6 d7 d8 d9 k1
  refine wp_below (by kernel_rfl) (by kernel_rfl) ?_
  iterate 9
    refine q_want (v := ?_) (by kernel_rfl) ?_ ?_
    rotate_left
    · intro w' hC
      obtain ⟨j0, j1, j2, j3⟩ := HS.out w' hC
      go_simp
      try with_reducible rfl
    try simp only [Act.put, List.setIfInBounds_toArray, List.set_cons_zero, List.set_cons_succ]
  refine q_want (v := .bool true) (by kernel_rfl) ?_ ?_
  · intro w' hC
    go_simp
    refine (HC0.out _ hC).mono ?_
    rintro e w'' ⟨rfl, hb2⟩
    exact ⟨rfl, hC.trans (hb2.mono hC.size)⟩
  try simp only [Act.put, List.setIfInBounds_toArray, List.set_cons_zero, List.set_cons_succ]
  iterate 16
    refine q_want (v := ?_) (by kernel_rfl) ?_ ?_
    rotate_left
    · intro w' hC
      obtain ⟨j0, j1, j2, j3⟩ := HS.out w' hC
      go_simp
      try with_reducible rfl
    try simp only [Act.put, List.setIfInBounds_toArray, List.set_cons_zero, List.set_cons_succ]
  refine q_want (v := .bool false) (by kernel_rfl) ?_ ?_
  · intro w' hC
    go_simp
    refine (HC1.out _ hC).mono ?_
    rintro e w'' ⟨rfl, hb2⟩
    exact ⟨rfl, hC.trans (hb2.mono hC.size)⟩
  try simp only [Act.put, List.setIfInBounds_toArray, List.set_cons_zero, List.set_cons_succ]
  iterate 2
    refine q_want (v := ?_) (by kernel_rfl) ?_ ?_
    rotate_left
    · intro w' hC
      obtain ⟨j0, j1, j2, j3⟩ := HS.out w' hC
      go_simp
      try with_reducible rfl
    try simp only [Act.put, List.setIfInBounds_toArray, List.set_cons_zero, List.set_cons_succ]
  refine wpQuiet_nil ?_
  intro w2 q2
  have hC1 := hC0.mono q2
  have k3 := hC1.cells
  have k4 := hC1.free
  go_wp2
  (try simp only [Exit.inBlock, Exit.then])
  refine bodyPost_ret (results_none rfl _ _ _) rfl ?_
  exact ⟨rfl, (hC1.set true).no HF.out, ((Rk.of hbA).trans (Rk.of q2)).set _⟩
end
end Go.Proofs.YtcbknjjnphknbaaGreatDoor

namespace Go.Proofs.YtcbknjjnphknbaaGreatDoor
open Go.RowKit

section
variable {fs : List Fn} {a1 a2 oa ea : Option Addr} {nt c1 c2 oc ec K : Nat} {D : FastD} {wK w : World} {b : Bool}
theorem sOp_any (i : Nat) (hi : i < D.ops.length) (l : SLim fs D K wK a2 oa ea) (h : Chk a1 a2 oa ea nt c1 c2 oc ec fs.length K D wK b w) :
    Calls Tryz.prog 37 #[.pointer (some ⟨K, 0, none⟩), .int .i64 (i : Nat)] w fun e w' => e = .returned (.tuple #[]) ∧ Chk a1 a2 oa ea nt c1 c2 oc ec fs.length K D wK (b || !pB (FopP fs D i D.ops[i])) w' ∧ Rk K w w' := by
  by_cases his : (insD fs D.ops[i].f D.ops[i].p).isSome = true
  case neg => exact sOpBad_any i hi his l h
  by_cases hno : D.ops[i].op < 1 ∨ 29 < D.ops[i].op
  case pos => exact sOpNo_any i hi hno his l h
  obtain ⟨v, hv⟩ : ∃ v : Nat, D.ops[i].op = v := ⟨D.ops[i].op.toNat, by omega⟩
  have h1 : 1 ≤ v := by omega
  have h2 : v ≤ 29 := by omega
  match v, hv, h1, h2 with
  | 1, hv, _, _ => exact sOp1_any i hi hv his l h
  | 2, hv, _, _ => exact sOp2_any i hi hv his l h
  | 3, hv, _, _ => exact sOp3_any i hi hv his l h
  | 4, hv, _, _ => exact sOp4_any i hi hv his l h
  | 5, hv, _, _ => exact sOp5_any i hi hv his l h
  | 6, hv, _, _ => exact sOp6_any i hi hv his l h
  | 7, hv, _, _ => exact sOp7_any i hi hv his l h
  | 8, hv, _, _ => exact sOp8_any i hi hv his l h
  | 9, hv, _, _ => exact sOp9_any i hi hv his l h
  | 10, hv, _, _ => exact sOp10_any i hi hv his l h
  | 11, hv, _, _ => exact sOp11_any i hi hv his l h
  | 12, hv, _, _ => exact sOp12_any i hi hv his l h
  | 13, hv, _, _ => exact sOp13_any i hi hv his l h
  | 14, hv, _, _ => exact sOp14_any i hi hv his l h
  | 15, hv, _, _ => exact sOp15_any i hi hv his l h
  | 16, hv, _, _ => exact sOp16_any i hi hv his l h
  | 17, hv, _, _ => exact sOp17_any i hi hv his l h
  | 18, hv, _, _ => exact sOp18_any i hi hv his l h
  | 19, hv, _, _ => exact sOp19_any i hi hv his l h
  | 20, hv, _, _ => exact sOp20_any i hi hv his l h
  | 21, hv, _, _ => exact sOp21_any i hi hv his l h
  | 22, hv, _, _ => exact sOp22_any i hi hv his l h
  | 23, hv, _, _ => exact sOp23_any i hi hv his l h
  | 24, hv, _, _ => exact sOp24_any i hi hv his l h
  | 25, hv, _, _ => exact sOp25_any i hi hv his l h
  | 26, hv, _, _ => exact sOp26_any i hi hv his l h
  | 27, hv, _, _ => exact sOp27_any i hi hv his l h
  | 28, hv, _, _ => exact sOp28_any i hi hv his l h
  | 29, hv, _, _ => exact sOp29_any i hi hv his l h
  | n + 30, _, _, h2 => omega
end
end Go.Proofs.YtcbknjjnphknbaaGreatDoor
