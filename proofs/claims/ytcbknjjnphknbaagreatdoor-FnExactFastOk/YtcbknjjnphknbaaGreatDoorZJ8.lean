/-
  The document's l09SpecOk.
-/
import Derived.Test.YtcbknjjnphknbaaGreatDoorZOQ6
namespace Go.Proofs.YtcbknjjnphknbaaGreatDoor
open Go.RowKit

theorem specP_iff {fs : List Fn} {f p : Nat} {kd tg : Int} (hf : f < fs.length) (hp : p < fs[f].code.length) : SpecP fs ⟨f, p, kd, tg⟩ ↔ (kd = 1 ∧ (11 ≤ fs[f].code[p].1 ∧ fs[f].code[p].1 ≤ 14) ∧ tg = 0) ∨ (kd = 2 ∧ fs[f].code[p].1 = 23 ∧ Takes fs tg fs[f].code[p].2) := by
  unfold SpecP guessD
  rw [insD_hit hf hp]
  simp only [Option.getD_some, Option.some.injEq, Si.mk.injEq, true_and, reduceCtorEq, and_false, or_false]
  constructor
  · rintro (⟨h1, h2, h3, h4⟩ | ⟨h1, h2, h3⟩)
    · exact .inl ⟨h3, ⟨h1, h2⟩, h4⟩
    · exact .inr ⟨h3.1, h1, h2⟩
  · rintro (⟨h1, ⟨h2, h3⟩, h4⟩ | ⟨h1, h2, h3⟩)
    · exact .inl ⟨h2, h3, h1, h4⟩
    · exact .inr ⟨h2, h3, h1, trivial⟩
theorem specP_none {fs : List Fn} {s : Si} (h : insD fs s.f s.pc = none) : ¬ SpecP fs s := by
  unfold SpecP guessD
  rw [h]
  simp

set_option maxRecDepth 100000 in
set_option maxHeartbeats 8000000 in
theorem specOk_any (a1 a2 : Option Addr) (nt c1 c2 : Nat) (fs : List Fn) (s : Si) (w : World) (hc : ∀ f ∈ fs, f.code.length ≤ 1048576) (hn : fs.length ≤ 1048576) (hm : FnsAt w 0 a2 fs) :
    Calls Tryz.prog 76 #[.agg #[.slice a1 nt c1, .slice a2 fs.length c2], .agg #[.int .i64 s.f, .int .i64 s.pc, .int .i64 s.seen, .int .i64 s.target]] w fun e w' => e = .returned (.bool (pB (SpecP fs s))) ∧ Below w.heap.size w w' := by
  obtain ⟨sf, sp, kd, tg⟩ := s
  dsimp only
  obtain ⟨r, hr⟩ : ∃ r, r = pB (SpecP fs ⟨sf, sp, kd, tg⟩) := ⟨_, rfl⟩
  rw [← hr]
  have HR : Hid (r = pB (SpecP fs ⟨sf, sp, kd, tg⟩)) := hr
  clear hr
  obtain ⟨nf, hnf⟩ : ∃ nf, nf = fs.length := ⟨_, rfl⟩
  rw [← hnf] at hn ⊢
  have HNF : Hid (nf = fs.length) := hnf
  clear hnf
  obtain ⟨w0, hw0⟩ : ∃ w0, w0 = (w.alloc (.cells #[.slice a1 nt c1, .slice a2 nf c2] 35)).alloc (.cells #[.int .i64 sf, .int .i64 sp, .int .i64 kd, .int .i64 tg] 97) := ⟨_, rfl⟩
  have hB : Below w.heap.size w w0 := by rw [hw0]; exact ((Below.refl _ _).alloc (Nat.le_refl _) _).alloc (by simp) _
  have hX : w0.heap[w.heap.size]? = some (.cells #[.slice a1 nt c1, .slice a2 nf c2] 35 (0, 0)) := by rw [hw0]; exact block_old (block_new _ _ _) _
  have hY : w0.heap[w.heap.size + 1]? = some (.cells #[.int .i64 sf, .int .i64 sp, .int .i64 kd, .int .i64 tg] 97 (0, 0)) := by rw [hw0]; simpa using block_new (w.alloc (.cells #[.slice a1 nt c1, .slice a2 nf c2] 35)) #[.int .i64 sf, .int .i64 sp, .int .i64 kd, .int .i64 tg] 97
  have HZ0 : Hid (w.heap.size + 2 ≤ w0.heap.size) := by rw [hw0]; show _ ≤ _; simp
  have HS : Hid (∀ w', Below w0.heap.size w0 w' → w'.cell? ⟨w.heap.size, 0, none⟩ = some (.slice a1 nt c1) ∧ w'.cell? ⟨w.heap.size, 1, none⟩ = some (.slice a2 nf c2) ∧ w'.cell? ⟨w.heap.size + 1, 0, none⟩ = some (.int .i64 sf) ∧ w'.cell? ⟨w.heap.size + 1, 1, none⟩ = some (.int .i64 sp) ∧ w'.cell? ⟨w.heap.size + 1, 2, none⟩ = some (.int .i64 kd) ∧ w'.cell? ⟨w.heap.size + 1, 3, none⟩ = some (.int .i64 tg)) := fun w' hb =>
    ⟨by rw [block_cell (block_kept hX hb)]; rfl, by rw [block_cell (block_kept hX hb)]; rfl, by rw [block_cell (block_kept hY hb)]; rfl, by rw [block_cell (block_kept hY hb)]; rfl, by rw [block_cell (block_kept hY hb)]; rfl, by rw [block_cell (block_kept hY hb)]; rfl⟩
  have HS2 : Hid (∀ w', Below (w.heap.size + 2) w0 w' → w'.cell? ⟨w.heap.size, 0, none⟩ = some (.slice a1 nt c1) ∧ w'.cell? ⟨w.heap.size, 1, none⟩ = some (.slice a2 nf c2) ∧ w'.cell? ⟨w.heap.size + 1, 0, none⟩ = some (.int .i64 sf) ∧ w'.cell? ⟨w.heap.size + 1, 1, none⟩ = some (.int .i64 sp) ∧ w'.cell? ⟨w.heap.size + 1, 2, none⟩ = some (.int .i64 kd) ∧ w'.cell? ⟨w.heap.size + 1, 3, none⟩ = some (.int .i64 tg)) := fun w' hb =>
    ⟨by rw [hb.cell (by simp), block_cell hX]; rfl, by rw [hb.cell (by simp), block_cell hX]; rfl, by rw [hb.cell (by simp), block_cell hY]; rfl, by rw [hb.cell (by simp), block_cell hY]; rfl, by rw [hb.cell (by simp), block_cell hY]; rfl, by rw [hb.cell (by simp), block_cell hY]; rfl⟩
  clear hX hY
  go_enter Tryz.func76, Tryz.ntmps76
  go_upto_region 1 with fail
  rw [← hw0]
  clear hw0
  refine wp_below (by kernel_rfl) (by kernel_rfl) ?_
  iterate 5
    refine q_want (v := ?_) (by kernel_rfl) ?_ ?_
    rotate_left
    · intro w' hC
      obtain ⟨j0, j1, j2, j3, j4, j5⟩ := HS.out w' hC
      go_simp
      try with_reducible rfl
    try simp only [Act.put, List.setIfInBounds_toArray, List.set_cons_zero, List.set_cons_succ]
  refine q_want (v := .int .i64 ((nf : Int) - 1)) (by kernel_rfl) ?_ ?_
  · intro w' hC
    go_simp
    (rw [IntKind.wrap_i64]; omega)
  try simp only [Act.put, List.setIfInBounds_toArray, List.set_cons_zero, List.set_cons_succ]
  by_cases h1 : 0 ≤ sf ∧ sf ≤ (nf : Int) - 1
  case neg =>
    have HX : Hid (r = false) := by show r = false; rw [HR.out]; exact pB_no (specP_none (by
      cases e : insD fs sf sp with
      | none => rfl
      | some x => obtain ⟨f', p', hf, hp, rfl, rfl, rfl⟩ := insD_some e; exact absurd ⟨by omega, by have := HNF.out; omega⟩ h1))
    refine q_want (v := .bool false) (by kernel_rfl) ?_ ?_
    · intro w' hC
      go_simp
      refine (between_no (lo := 0) (hi := (nf : Int) - 1) h1 w').mono ?_
      rintro e w'' ⟨rfl, rfl⟩
      exact ⟨rfl, hC⟩
    try simp only [Act.put, List.setIfInBounds_toArray, List.set_cons_zero, List.set_cons_succ]
    iterate 2
      refine q_want (v := ?_) (by kernel_rfl) ?_ ?_
      rotate_left
      · intro w' hC
        go_simp
        try with_reducible rfl
      try simp only [Act.put, List.setIfInBounds_toArray, List.set_cons_zero, List.set_cons_succ]
    iterate 13 go_big_quiet_skip
    refine q_want (v := ?_) (by kernel_rfl) ?_ ?_
    rotate_left
    · intro w' hC
      go_simp
      try with_reducible rfl
    try simp only [Act.put, List.setIfInBounds_toArray, List.set_cons_zero, List.set_cons_succ]
    refine wpQuiet_nil ?_
    intro w2 q2
    obtain rfl := HX.out
    clear h1
    go_wp2
    go_ret
    exact ⟨rfl, hB.trans (q2.mono hB.size)⟩
  refine q_want (v := .bool true) (by kernel_rfl) ?_ ?_
  · intro w' hC
    go_simp
    refine (between_yes (lo := 0) (hi := (nf : Int) - 1) h1 w').mono ?_
    rintro e w'' ⟨rfl, rfl⟩
    exact ⟨rfl, hC⟩
  try simp only [Act.put, List.setIfInBounds_toArray, List.set_cons_zero, List.set_cons_succ]
  obtain ⟨f, rfl⟩ : ∃ f : Nat, sf = f := ⟨sf.toNat, by omega⟩
  have hf : f < fs.length := by have := HNF.out; omega
  have hf2 : f < nf := by omega
  obtain ⟨b, off, ca, cc, rfl, -, d1, d2, d3, hcode⟩ := hm f hf
  have hcl := hc _ (List.getElem_mem hf)
  obtain ⟨nc, hnc⟩ : ∃ nc, nc = fs[f].code.length := ⟨_, rfl⟩
  rw [← hnc] at d3 hcl
  have HNC : Hid (nc = fs[f].code.length) := hnc
  clear hnc
  have d3' := cell_later hB d3
  have HD : Hid (∀ w', Below w0.heap.size w0 w' → w'.cell? ⟨b, off + f * 3 + 2, none⟩ = some (.slice ca nc cc)) := fun w' q => cell_later q d3'
  clear h1 d1 d2
  have hi1 : (0 : Int) ≤ (f : Int) := by omega
  have hi2 : (f : Int) < (nf : Int) := by omega
  iterate 2
    refine q_want (v := ?_) (by kernel_rfl) ?_ ?_
    rotate_left
    · intro w' hC
      go_simp
      try with_reducible rfl
    try simp only [Act.put, List.setIfInBounds_toArray, List.set_cons_zero, List.set_cons_succ]
  iterate 8
    refine q_want (v := ?_) (by kernel_rfl) ?_ ?_
    rotate_left
    · intro w' hC
      obtain ⟨j0, j1, j2, j3, j4, j5⟩ := HS.out w' hC
      have d := HD.out w' hC; go_simp
      try with_reducible rfl
    try simp only [Act.put, List.setIfInBounds_toArray, List.set_cons_zero, List.set_cons_succ]
  refine q_want (v := ?_) (by kernel_rfl) ?_ ?_
  rotate_left
  · intro w' hC
    obtain ⟨j0, j1, j2, j3, j4, j5⟩ := HS.out w' hC
    have d := HD.out w' hC; go_simp
    try with_reducible rfl
  try simp only [Act.put, List.setIfInBounds_toArray, List.set_cons_zero, List.set_cons_succ]
  refine q_want (v := ?_) (by kernel_rfl) ?_ ?_
  rotate_left
  · intro w' hC
    go_simp
    try with_reducible rfl
  try simp only [Act.put, List.setIfInBounds_toArray, List.set_cons_zero, List.set_cons_succ]
  refine q_want (v := .int .i64 ((nc : Int) - 1)) (by kernel_rfl) ?_ ?_
  · intro w' hC
    go_simp
    (rw [IntKind.wrap_i64]; omega)
  try simp only [Act.put, List.setIfInBounds_toArray, List.set_cons_zero, List.set_cons_succ]
  by_cases h2 : 0 ≤ sp ∧ sp ≤ (nc : Int) - 1
  case neg =>
    have HX : Hid (r = false) := by show r = false; rw [HR.out]; exact pB_no (specP_none (by
      cases e : insD fs f sp with
      | none => rfl
      | some x => obtain ⟨f', p', hf', hp', e1, rfl, rfl⟩ := insD_some e; obtain rfl : f = f' := by omega
                  exact absurd ⟨by omega, by have := HNC.out; omega⟩ h2))
    refine q_want (v := .bool false) (by kernel_rfl) ?_ ?_
    · intro w' hC
      go_simp
      refine (between_no (lo := 0) (hi := (nc : Int) - 1) h2 w').mono ?_
      rintro e w'' ⟨rfl, rfl⟩
      exact ⟨rfl, hC⟩
    try simp only [Act.put, List.setIfInBounds_toArray, List.set_cons_zero, List.set_cons_succ]
    iterate 2
      refine q_want (v := ?_) (by kernel_rfl) ?_ ?_
      rotate_left
      · intro w' hC
        go_simp
        try with_reducible rfl
      try simp only [Act.put, List.setIfInBounds_toArray, List.set_cons_zero, List.set_cons_succ]
    refine wpQuiet_nil ?_
    intro w2 q2
    obtain rfl := HX.out
    clear h2 d3 d3' hcode hi1 hi2
    go_wp2
    go_ret
    exact ⟨rfl, hB.trans (q2.mono hB.size)⟩
  refine q_want (v := .bool true) (by kernel_rfl) ?_ ?_
  · intro w' hC
    go_simp
    refine (between_yes (lo := 0) (hi := (nc : Int) - 1) h2 w').mono ?_
    rintro e w'' ⟨rfl, rfl⟩
    exact ⟨rfl, hC⟩
  try simp only [Act.put, List.setIfInBounds_toArray, List.set_cons_zero, List.set_cons_succ]
  iterate 2
    refine q_want (v := ?_) (by kernel_rfl) ?_ ?_
    rotate_left
    · intro w' hC
      go_simp
      try with_reducible rfl
    try simp only [Act.put, List.setIfInBounds_toArray, List.set_cons_zero, List.set_cons_succ]
  refine wpQuiet_nil ?_
  intro w2 q2
  obtain ⟨p, rfl⟩ : ∃ p : Nat, sp = p := ⟨sp.toNat, by omega⟩
  have hp : p < fs[f].code.length := by have := HNC.out; omega
  have hp2 : p < nc := by omega
  obtain ⟨b2, off2, rfl, -, e1, e2⟩ := hcode p hp
  have HI : Hid (SpecP fs ⟨f, p, kd, tg⟩ ↔ _) := specP_iff hf hp
  obtain ⟨op, hop⟩ : ∃ op, op = fs[f].code[p].1 := ⟨_, rfl⟩
  obtain ⟨ar, har⟩ : ∃ ar, ar = fs[f].code[p].2 := ⟨_, rfl⟩
  rw [← hop] at e1 HI
  rw [← har] at e2 HI
  have HB2 : Hid (Below w.heap.size w w2) := hB.trans (q2.mono hB.size)
  have HZ : Hid (w.heap.size + 2 ≤ w2.heap.size) := Nat.le_trans HZ0.out q2.size
  have HS3 : Hid (∀ w', Below (w.heap.size + 2) w2 w' → w'.cell? ⟨w.heap.size, 0, none⟩ = some (.slice a1 nt c1) ∧ w'.cell? ⟨w.heap.size, 1, none⟩ = some (.slice (some ⟨b, off, none⟩) nf c2) ∧ w'.cell? ⟨w.heap.size + 1, 0, none⟩ = some (.int .i64 f) ∧ w'.cell? ⟨w.heap.size + 1, 1, none⟩ = some (.int .i64 p) ∧ w'.cell? ⟨w.heap.size + 1, 2, none⟩ = some (.int .i64 kd) ∧ w'.cell? ⟨w.heap.size + 1, 3, none⟩ = some (.int .i64 tg)) := fun w' q => HS2.out w' ((q2.mono HZ0.out).trans q)
  have HE : Hid (∀ w', Below w.heap.size w2 w' → w'.cell? ⟨b, off + f * 3 + 2, none⟩ = some (.slice (some ⟨b2, off2, none⟩) nc cc) ∧ w'.cell? ⟨b2, off2 + p * 2, none⟩ = some (.int .i64 op) ∧ w'.cell? ⟨b2, off2 + p * 2 + 1, none⟩ = some (.int .i64 ar)) := fun w' q => by
    have q' := HB2.out.trans q
    exact ⟨cell_later q' d3, cell_later q' e1, cell_later q' e2⟩
  have HPAR : Hid (∀ (t : Nat) (h : t < fs.length) w', Below w.heap.size w2 w' → w'.cell? ⟨b, off + t * 3, none⟩ = some (.int .i64 fs[t].params)) := fun t h w' q => by
    obtain ⟨b', off', ca', cc', he, -, x1, -⟩ := hm t h
    cases he
    exact cell_later (HB2.out.trans q) x1
  clear hop har h2 d3 d3' e1 e2 hcode hm hc HD q2 HS HS2 HZ0 hcl hp HNC hf
  obtain ⟨j0, j1, j2, j3, j4, j5⟩ := HS3.out w2 (Below.refl _ _)
  obtain ⟨k0, k1, k2⟩ := HE.out w2 (Below.refl _ _)
  have q : Below w2.heap.size w2 w2.drew := (Below.refl _ _).drew
  go_upto_region 3 with fail
  go_cut [5] from 29 to 40 (fun s5 wx => ∃ g, s5 = .pointer (some ⟨g, 0, none⟩) ∧ wx.heap[g]? = some (.cells #[.int .i64 op, .int .i64 ar] 135 (0, 0)) ∧ Below w2.heap.size w2 wx)
  case first =>
    go_region_held3 (fun w' => (w'.cell? ⟨w.heap.size, 0, none⟩ = some (.slice a1 nt c1) ∧ w'.cell? ⟨w.heap.size, 1, none⟩ = some (.slice (some ⟨b, off, none⟩) nf c2) ∧ w'.cell? ⟨w.heap.size + 1, 0, none⟩ = some (.int .i64 f) ∧ w'.cell? ⟨w.heap.size + 1, 1, none⟩ = some (.int .i64 p) ∧ w'.cell? ⟨w.heap.size + 1, 2, none⟩ = some (.int .i64 kd) ∧ w'.cell? ⟨w.heap.size + 1, 3, none⟩ = some (.int .i64 tg)) ∧ w'.cell? ⟨b, off + f * 3 + 2, none⟩ = some (.slice (some ⟨b2, off2, none⟩) nc cc) ∧ w'.cell? ⟨b2, off2 + p * 2, none⟩ = some (.int .i64 op) ∧ w'.cell? ⟨b2, off2 + p * 2 + 1, none⟩ = some (.int .i64 ar))
      (first
        | exact ⟨⟨j0, j1, j2, j3, j4, j5⟩, k0, k1, k2⟩
        | exact ⟨HS3.out _ (q.mono HZ.out), HE.out _ (q.mono HB2.out.size)⟩
        | exact ⟨HS3.out _ ((q.mono HZ.out).alloc (Nat.le_trans HZ.out q.size) _), HE.out _ ((q.mono HB2.out.size).alloc (Nat.le_trans HB2.out.size q.size) _)⟩
        | exact ⟨HS3.out _ ((((q.mono HZ.out).alloc (Nat.le_trans HZ.out q.size) _).setCell (Nat.le_trans HZ.out q.size) _).setCell (Nat.le_trans HZ.out q.size) _), HE.out _ ((((q.mono HB2.out.size).alloc (Nat.le_trans HB2.out.size q.size) _).setCell (Nat.le_trans HB2.out.size q.size) _).setCell (Nat.le_trans HB2.out.size q.size) _)⟩)
      (fail)
    all_goals
      go_wp2_with fail
      go_meet
      case rel =>
        first
          | exact ⟨_, rfl, block_new _ _ _, q.alloc q.size _⟩
          | trace_state
  case rest =>
    obtain ⟨g, rfl, hG, hq⟩ := hcut
    have HB3 : Hid (Below w.heap.size w wc) := HB2.out.trans (hq.mono HB2.out.size)
    have c0 := block_cell hG
    clear j0 j1 j2 j3 j4 j5 q k0 k1 k2
    have HS4 : Hid (∀ w', Below wc.heap.size wc w' → (w'.cell? ⟨w.heap.size, 0, none⟩ = some (.slice a1 nt c1) ∧ w'.cell? ⟨w.heap.size, 1, none⟩ = some (.slice (some ⟨b, off, none⟩) nf c2) ∧ w'.cell? ⟨w.heap.size + 1, 0, none⟩ = some (.int .i64 f) ∧ w'.cell? ⟨w.heap.size + 1, 1, none⟩ = some (.int .i64 p) ∧ w'.cell? ⟨w.heap.size + 1, 2, none⟩ = some (.int .i64 kd) ∧ w'.cell? ⟨w.heap.size + 1, 3, none⟩ = some (.int .i64 tg)) ∧ w'.cell? ⟨g, 0, none⟩ = some (.int .i64 op) ∧ w'.cell? ⟨g, 1, none⟩ = some (.int .i64 ar)) := fun w' q =>
      ⟨HS3.out w' ((hq.mono HZ.out).trans (q.mono (Nat.le_trans HZ.out hq.size))), by rw [block_cell (block_kept hG q)]; rfl, by rw [block_cell (block_kept hG q)]; rfl⟩
    have HP4 : Hid (∀ (t : Nat) (h : t < fs.length) w', Below wc.heap.size wc w' → w'.cell? ⟨b, off + t * 3, none⟩ = some (.int .i64 fs[t].params)) := fun t h w' q => HPAR.out t h w' ((hq.mono HB2.out.size).trans (q.mono (Nat.le_trans HB2.out.size hq.size)))
    obtain ⟨⟨j0, j1, j2, j3, j4, j5⟩, k0, k1⟩ := HS4.out wc (Below.refl _ _)
    clear HS3 HE hq HB2 hG HPAR HZ c0 hB
    have YES : ((kd = 1 ∧ (11 ≤ op ∧ op ≤ 14) ∧ tg = 0) ∨ (kd = 2 ∧ op = 23 ∧ Takes fs tg ar)) → r = true := fun h => by rw [HR.out]; exact pB_yes (HI.out.2 h)
    have NO : ¬ ((kd = 1 ∧ (11 ≤ op ∧ op ≤ 14) ∧ tg = 0) ∨ (kd = 2 ∧ op = 23 ∧ Takes fs tg ar)) → r = false := fun h => by rw [HR.out]; exact pB_no (fun h' => h (HI.out.1 h'))
    have HY : Hid (((kd = 1 ∧ (11 ≤ op ∧ op ≤ 14) ∧ tg = 0) ∨ (kd = 2 ∧ op = 23 ∧ Takes fs tg ar)) → r = true) := YES
    have HN : Hid (¬ ((kd = 1 ∧ (11 ≤ op ∧ op ≤ 14) ∧ tg = 0) ∨ (kd = 2 ∧ op = 23 ∧ Takes fs tg ar)) → r = false) := NO
    clear YES NO HI HR
    by_cases h1 : kd = 1
    case pos =>
      subst h1
      by_cases hA : 11 ≤ op ∧ op ≤ 14 ∨ op = 23
      case neg =>
        obtain rfl := HN.out (fun h => by omega)
        have HA : Hid (¬ (11 ≤ op ∧ op ≤ 14 ∨ op = 23)) := hA
        clear hA HY HN
        go_wp2_with (go_at_call 113; refine (is_no HA.out _).mono ?_; rintro e w' ⟨rfl, rfl⟩)
        go_ret
        exact ⟨rfl, HB3.out⟩
      have HA : Hid (11 ≤ op ∧ op ≤ 14 ∨ op = 23) := hA
      by_cases h23 : op = 23
      · obtain rfl := HN.out (fun h => by omega)
        subst h23
        clear hA HY HN
        go_wp2_with (go_at_call 113; refine (is_yes HA.out _).mono ?_; rintro e w' ⟨rfl, rfl⟩)
        go_ret
        exact ⟨rfl, HB3.out⟩
      have k23 : (op != 23) = true := by simpa using h23
      by_cases ht : tg = 0
      · subst ht
        obtain rfl := HY.out (.inl ⟨rfl, by omega, rfl⟩)
        clear hA HY HN
        go_wp2_with (go_at_call 113; refine (is_yes HA.out _).mono ?_; rintro e w' ⟨rfl, rfl⟩)
        go_ret
        exact ⟨by first | rfl | exact ret_bool (by first | rfl | (simp; done) | (simp; omega) | simp_all), HB3.out⟩
      · obtain rfl := HN.out (fun h => by omega)
        clear hA HY HN
        go_wp2_with (go_at_call 113; refine (is_yes HA.out _).mono ?_; rintro e w' ⟨rfl, rfl⟩)
        go_ret
        exact ⟨by first | rfl | exact ret_bool (by first | rfl | (simp; done) | (simp; omega) | simp_all), HB3.out⟩
    by_cases h2 : kd = 2
    case neg =>
      obtain rfl := HN.out (fun h => by omega)
      go_wp2
      go_ret
      exact ⟨rfl, HB3.out⟩
    subst h2
    go_upto_region 8 with fail
    refine wp_below (by kernel_rfl) (by kernel_rfl) ?_
    iterate 2
      refine q_want (v := ?_) (by kernel_rfl) ?_ ?_
      rotate_left
      · intro w' hC
        obtain ⟨⟨j0, j1, j2, j3, j4, j5⟩, k0, k1⟩ := HS4.out w' hC
        go_simp
        try with_reducible rfl
      try simp only [Act.put, List.setIfInBounds_toArray, List.set_cons_zero, List.set_cons_succ]
    by_cases h23 : op = 23
    case neg =>
      obtain rfl := HN.out (fun h => by omega)
      have k23 : (op == 23) = false := by simpa using h23
      iterate 2
        refine q_want (v := ?_) (by kernel_rfl) ?_ ?_
        rotate_left
        · intro w' hC
          go_simp
          try with_reducible rfl
        try simp only [Act.put, List.setIfInBounds_toArray, List.set_cons_zero, List.set_cons_succ]
      iterate 7 go_big_quiet_skip
      iterate 2
        refine q_want (v := ?_) (by kernel_rfl) ?_ ?_
        rotate_left
        · intro w' hC
          go_simp
          try with_reducible rfl
        try simp only [Act.put, List.setIfInBounds_toArray, List.set_cons_zero, List.set_cons_succ]
      iterate 10 go_big_quiet_skip
      iterate 2
        refine q_want (v := ?_) (by kernel_rfl) ?_ ?_
        rotate_left
        · intro w' hC
          go_simp
          try with_reducible rfl
        try simp only [Act.put, List.setIfInBounds_toArray, List.set_cons_zero, List.set_cons_succ]
      refine wpQuiet_nil ?_
      intro w2 q2
      go_wp2
      go_ret
      exact ⟨rfl, HB3.out.trans (q2.mono HB3.out.size)⟩
    subst h23
    iterate 2
      refine q_want (v := ?_) (by kernel_rfl) ?_ ?_
      rotate_left
      · intro w' hC
        go_simp
        try with_reducible rfl
      try simp only [Act.put, List.setIfInBounds_toArray, List.set_cons_zero, List.set_cons_succ]
    iterate 5
      refine q_want (v := ?_) (by kernel_rfl) ?_ ?_
      rotate_left
      · intro w' hC
        obtain ⟨⟨j0, j1, j2, j3, j4, j5⟩, k0, k1⟩ := HS4.out w' hC
        go_simp
        try with_reducible rfl
      try simp only [Act.put, List.setIfInBounds_toArray, List.set_cons_zero, List.set_cons_succ]
    refine q_want (v := .int .i64 ((nf : Int) - 1)) (by kernel_rfl) ?_ ?_
    · intro w' hC
      go_simp
      (rw [IntKind.wrap_i64]; omega)
    try simp only [Act.put, List.setIfInBounds_toArray, List.set_cons_zero, List.set_cons_succ]
    by_cases hT : 0 ≤ tg ∧ tg ≤ (nf : Int) - 1
    case neg =>
      obtain rfl := HN.out (fun h => by
        rcases h with h | ⟨-, -, h3, hf, -⟩
        · omega
        · have := HNF.out; omega)
      refine q_want (v := .bool false) (by kernel_rfl) ?_ ?_
      · intro w' hC
        go_simp
        refine (between_no (lo := 0) (hi := (nf : Int) - 1) hT w').mono ?_
        rintro e w'' ⟨rfl, rfl⟩
        exact ⟨rfl, hC⟩
      try simp only [Act.put, List.setIfInBounds_toArray, List.set_cons_zero, List.set_cons_succ]
      iterate 2
        refine q_want (v := ?_) (by kernel_rfl) ?_ ?_
        rotate_left
        · intro w' hC
          go_simp
          try with_reducible rfl
        try simp only [Act.put, List.setIfInBounds_toArray, List.set_cons_zero, List.set_cons_succ]
      iterate 10 go_big_quiet_skip
      iterate 2
        refine q_want (v := ?_) (by kernel_rfl) ?_ ?_
        rotate_left
        · intro w' hC
          go_simp
          try with_reducible rfl
        try simp only [Act.put, List.setIfInBounds_toArray, List.set_cons_zero, List.set_cons_succ]
      refine wpQuiet_nil ?_
      intro w2 q2
      go_wp2
      go_ret
      exact ⟨rfl, HB3.out.trans (q2.mono HB3.out.size)⟩
    refine q_want (v := .bool true) (by kernel_rfl) ?_ ?_
    · intro w' hC
      go_simp
      refine (between_yes (lo := 0) (hi := (nf : Int) - 1) hT w').mono ?_
      rintro e w'' ⟨rfl, rfl⟩
      exact ⟨rfl, hC⟩
    try simp only [Act.put, List.setIfInBounds_toArray, List.set_cons_zero, List.set_cons_succ]
    obtain ⟨t, rfl⟩ : ∃ t : Nat, tg = t := ⟨tg.toNat, by omega⟩
    have ht : t < fs.length := by have := HNF.out; omega
    have hi3 : (0 : Int) ≤ (t : Int) := by omega
    have hi4 : (t : Int) < (nf : Int) := by omega
    clear hT
    have HP5 : Hid (∀ w', Below wc.heap.size wc w' → w'.cell? ⟨b, off + t * 3, none⟩ = some (.int .i64 fs[t].params)) := HP4.out t ht
    have HTK : Hid (Takes fs t ar ↔ fs[t].params = ar) := by
      show _ ↔ _
      exact ⟨fun h => by obtain ⟨-, hf, he⟩ := h; simpa using he, fun h => ⟨by omega, by simpa using ht, by simpa using h⟩⟩
    obtain ⟨pr, hpr⟩ : ∃ pr, pr = fs[t].params := ⟨_, rfl⟩
    rw [← hpr] at HP5 HTK
    clear hpr HP4
    iterate 2
      refine q_want (v := ?_) (by kernel_rfl) ?_ ?_
      rotate_left
      · intro w' hC
        go_simp
        try with_reducible rfl
      try simp only [Act.put, List.setIfInBounds_toArray, List.set_cons_zero, List.set_cons_succ]
    iterate 9
      refine q_want (v := ?_) (by kernel_rfl) ?_ ?_
      rotate_left
      · intro w' hC
        obtain ⟨⟨j0, j1, j2, j3, j4, j5⟩, k0, k1⟩ := HS4.out w' hC
        have d := HP5.out w' hC; go_simp
        try with_reducible rfl
      try simp only [Act.put, List.setIfInBounds_toArray, List.set_cons_zero, List.set_cons_succ]
    by_cases hE : pr = ar
    case pos =>
      obtain rfl := HY.out (.inr ⟨rfl, rfl, HTK.out.2 hE⟩)
      have kE : (pr == ar) = true := by simpa using hE
      clear hE
      refine q_want (v := .bool true) (by kernel_rfl) ?_ ?_
      · intro w' hC
        go_simp
      try simp only [Act.put, List.setIfInBounds_toArray, List.set_cons_zero, List.set_cons_succ]
      iterate 2
        refine q_want (v := ?_) (by kernel_rfl) ?_ ?_
        rotate_left
        · intro w' hC
          go_simp
          try with_reducible rfl
        try simp only [Act.put, List.setIfInBounds_toArray, List.set_cons_zero, List.set_cons_succ]
      refine wpQuiet_nil ?_
      intro w2 q2
      go_wp2
      go_ret
      exact ⟨rfl, HB3.out.trans (q2.mono HB3.out.size)⟩
    obtain rfl := HN.out (fun h => by
      rcases h with h | ⟨-, -, h3⟩
      · omega
      · exact hE (HTK.out.1 h3))
    have kE : (pr == ar) = false := by simpa using hE
    clear hE
    refine q_want (v := .bool false) (by kernel_rfl) ?_ ?_
    · intro w' hC
      go_simp
    try simp only [Act.put, List.setIfInBounds_toArray, List.set_cons_zero, List.set_cons_succ]
    iterate 2
      refine q_want (v := ?_) (by kernel_rfl) ?_ ?_
      rotate_left
      · intro w' hC
        go_simp
        try with_reducible rfl
      try simp only [Act.put, List.setIfInBounds_toArray, List.set_cons_zero, List.set_cons_succ]
    refine wpQuiet_nil ?_
    intro w2 q2
    go_wp2
    go_ret
    exact ⟨rfl, HB3.out.trans (q2.mono HB3.out.size)⟩
end Go.Proofs.YtcbknjjnphknbaaGreatDoor
