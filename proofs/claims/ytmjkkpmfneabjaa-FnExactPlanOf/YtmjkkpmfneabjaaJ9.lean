/-
  PlanOk of both sides.
-/
import Derived.Test.YtmjkkpmfneabjaaJ8
import Derived.Test.YtmjkkpmfneabjaaY8
namespace Go.Proofs.Ytmjkkpmfneabjaa
open Go.RowKit

/-- What is asked of a plan. -/
def PlanP (fs : List Fn) (ss : List Si) (lay : Int) : Prop := ss.length ≤ 150 ∧ (0 ≤ lay ∧ lay ≤ 3) ∧ Specs fs ss

theorem specOk_yes {a1 a2 : Option Addr} {nt c1 c2 : Nat} {fs : List Fn} {s : Si} {w : World} (hc : ∀ f ∈ fs, f.code.length ≤ 1048576) (hn : fs.length ≤ 1048576) (hm : FnsAt w 0 a2 fs) (h : SpecP fs s) :
    Calls Try.prog 54 #[.agg #[.slice a1 nt c1, .slice a2 fs.length c2], .agg #[.int .i64 s.f, .int .i64 s.pc, .int .i64 s.seen, .int .i64 s.target]] w fun e w' => e = .returned (.bool true) ∧ Below w.heap.size w w' := by
  have := specOk_any a1 a2 nt c1 c2 fs s w hc hn hm
  rwa [pB_yes h] at this
theorem specOk_no {a1 a2 : Option Addr} {nt c1 c2 : Nat} {fs : List Fn} {s : Si} {w : World} (hc : ∀ f ∈ fs, f.code.length ≤ 1048576) (hn : fs.length ≤ 1048576) (hm : FnsAt w 0 a2 fs) (h : ¬ SpecP fs s) :
    Calls Try.prog 54 #[.agg #[.slice a1 nt c1, .slice a2 fs.length c2], .agg #[.int .i64 s.f, .int .i64 s.pc, .int .i64 s.seen, .int .i64 s.target]] w fun e w' => e = .returned (.bool false) ∧ Below w.heap.size w w' := by
  have := specOk_any a1 a2 nt c1 c2 fs s w hc hn hm
  rwa [pB_no h] at this

set_option maxRecDepth 100000 in
set_option maxHeartbeats 8000000 in
theorem l09Ok_any (a1 a2 : Option Addr) (nt c1 c2 : Nat) (fs : List Fn) (a : Option Addr) (cap : Nat) (ss : List Si) (lay : Int) (bare : Bool) (w : World) (hn : ss.length ≤ 1048576) (hnf : fs.length ≤ 1048576) (hc : ∀ f ∈ fs, f.code.length ≤ 1048576) (hm : FnsAt w 0 a2 fs) (hs : SitesAt w 0 a ss) :
    Calls Try.prog 33 #[.agg #[.slice a1 nt c1, .slice a2 fs.length c2], .agg #[.slice a ss.length cap, .int .i64 lay, .bool bare]] w fun e w' => e = .returned (.bool (pB (PlanP fs ss lay))) ∧ Below w.heap.size w w' := by
  have hB0 : Below w.heap.size w ((w.alloc (.cells #[.slice a1 nt c1, .slice a2 fs.length c2] 34)).alloc (.cells #[.slice a ss.length cap, .int .i64 lay, .bool bare] 38)) := ((Below.refl _ _).alloc (Nat.le_refl _) _).alloc (by simp) _
  by_cases h150 : ss.length ≤ 150
  case neg =>
    have h150' : (150 : Int) < (ss.length : Int) := by omega
    rw [pB_no (fun h => h150 h.1)]
    go_enter Try.func33, Try.ntmps33
    go_wp2
    go_ret
    exact ⟨rfl, hB0⟩
  have h150' : ¬ (150 : Int) < (ss.length : Int) := by omega
  by_cases hlay : 0 ≤ lay ∧ lay ≤ 3
  case neg =>
    rw [pB_no (fun h => hlay h.2.1)]
    have HL : Hid (¬ (0 ≤ lay ∧ lay ≤ 3)) := hlay
    clear hlay
    go_enter Try.func33, Try.ntmps33
    go_wp2_with (go_at_call 42; refine (between_no HL.out _).mono ?_; rintro e w' ⟨rfl, rfl⟩)
    go_ret
    exact ⟨rfl, hB0⟩
  have HP : Hid (pB (PlanP fs ss lay) = pB (Specs fs ss)) := by
    show _ = _
    by_cases h : Specs fs ss
    · rw [pB_yes h, pB_yes (show PlanP fs ss lay from ⟨h150, hlay, h⟩)]
    · rw [pB_no h, pB_no (fun h' : PlanP fs ss lay => h h'.2.2)]
  have HL : Hid (0 ≤ lay ∧ lay ≤ 3) := hlay
  clear hlay
  go_enter Try.func33, Try.ntmps33
  go_wp2_with (go_at_call 42; refine (between_yes HL.out _).mono ?_; rintro e w' ⟨rfl, rfl⟩)
  clear h150'
  go_loopw [5] (fun i wr => ∃ (k : Nat), k ≤ ss.length ∧ i = .int .i64 k ∧ Hid (∀ j (hj : j < ss.length), j < k → SpecP fs ss[j] ∧ (0 < j → SiteLess ss[j - 1] ss[j])) ∧ wr.heap[w.heap.size]? = some (.cells #[.slice a1 nt c1, .slice a2 fs.length c2] 34 (0, 0)) ∧ wr.heap[w.heap.size + 1]? = some (.cells #[.slice a ss.length cap, .int .i64 lay, .bool bare] 38 (0, 0)) ∧ Below w.heap.size w wr) (fun i _ => ss.length - (intOf i).toNat)
  case atStart => exact ⟨0, by omega, rfl, fun _ _ h => absurd h (Nat.not_lt_zero _), block_old (block_new _ _ _) _, by simpa using block_new (w.alloc (.cells #[.slice a1 nt c1, .slice a2 fs.length c2] 34)) #[.slice a ss.length cap, .int .i64 lay, .bool bare] 38, hB0⟩
  case round =>
    obtain ⟨k, hk, rfl, hdone, hM, hPl, hb⟩ := hrel
    by_cases hlt : k < ss.length
    case neg =>
      have HD : Hid (Specs fs ss) := ⟨fun i hi => (hdone.out i hi (by omega)).1, fun i hi h0 => (hdone.out i hi (by omega)).2 h0⟩
      have p1 := block_cell hPl
      go_wp2
      go_ret
      exact ⟨ret_bool (by rw [HP.out, pB_yes HD.out]), hb⟩
    obtain ⟨b, off, rfl, -, d1, d2, d3, d4⟩ := hs k hlt
    obtain ⟨sk, hsk⟩ : ∃ sk, sk = ss[k] := ⟨_, rfl⟩
    rw [← hsk] at d1 d2 d3 d4
    have HK : Hid (ss[k] = sk) := hsk.symm
    clear hsk
    obtain ⟨sf, sp, kd, tg⟩ := sk
    dsimp only at d1 d2 d3 d4
    obtain ⟨wA, hwA⟩ : ∃ wA, wA = wr.alloc (.cells #[.int .i64 sf, .int .i64 sp, .int .i64 kd, .int .i64 tg] 44) := ⟨_, rfl⟩
    have hX : wA.heap[wr.heap.size]? = some (.cells #[.int .i64 sf, .int .i64 sp, .int .i64 kd, .int .i64 tg] 44 (0, 0)) := by rw [hwA]; exact block_new _ _ _
    have hMA : wA.heap[w.heap.size]? = some (.cells #[.slice a1 nt c1, .slice a2 fs.length c2] 34 (0, 0)) := by rw [hwA]; exact block_old hM _
    have hPA : wA.heap[w.heap.size + 1]? = some (.cells #[.slice (some ⟨b, off, none⟩) ss.length cap, .int .i64 lay, .bool bare] 38 (0, 0)) := by rw [hwA]; exact block_old hPl _
    have hbA : Below w.heap.size w wA := by rw [hwA]; exact hb.alloc hb.size _
    have d1' := cell_later hb d1
    have d2' := cell_later hb d2
    have d3' := cell_later hb d3
    have d4' := cell_later hb d4
    have p1 := block_cell hPl
    clear d1 d2 d3 d4
    go_upto_region 7 with fail
    rw [← hwA]
    clear hwA d1' d2' d3' d4' p1
    have HS : Hid (∀ w', Below wA.heap.size wA w' → w'.cell? ⟨w.heap.size, 0, none⟩ = some (.slice a1 nt c1) ∧ w'.cell? ⟨w.heap.size, 1, none⟩ = some (.slice a2 fs.length c2) ∧ w'.cell? ⟨w.heap.size + 1, 0, none⟩ = some (.slice (some ⟨b, off, none⟩) ss.length cap) ∧ w'.cell? ⟨wr.heap.size, 0, none⟩ = some (.int .i64 sf) ∧ w'.cell? ⟨wr.heap.size, 1, none⟩ = some (.int .i64 sp) ∧ w'.cell? ⟨wr.heap.size, 2, none⟩ = some (.int .i64 kd) ∧ w'.cell? ⟨wr.heap.size, 3, none⟩ = some (.int .i64 tg)) := fun w' q =>
      ⟨by rw [block_cell (block_kept hMA q)]; rfl, by rw [block_cell (block_kept hMA q)]; rfl, by rw [block_cell (block_kept hPA q)]; rfl, by rw [block_cell (block_kept hX q)]; rfl, by rw [block_cell (block_kept hX q)]; rfl, by rw [block_cell (block_kept hX q)]; rfl, by rw [block_cell (block_kept hX q)]; rfl⟩
    refine wp_below (by kernel_rfl) (by kernel_rfl) ?_
    iterate 2
      refine q_want (v := ?_) (by kernel_rfl) ?_ ?_
      rotate_left
      · intro w' hC
        obtain ⟨j0, j1, j2, j3, j4, j5, j6⟩ := HS.out w' hC
        go_simp
        try with_reducible rfl
      try simp only [Act.put, List.setIfInBounds_toArray, List.set_cons_zero, List.set_cons_succ]
    by_cases h1 : SpecP fs ⟨sf, sp, kd, tg⟩
    case neg =>
      refine q_want (v := .bool false) (by kernel_rfl) ?_ ?_
      · intro w' hC
        go_simp
        refine (specOk_no (a1 := a1) (a2 := a2) (nt := nt) (c1 := c1) (c2 := c2) (s := ⟨sf, sp, kd, tg⟩) (w := w') hc hnf (hm.mono (hbA.trans (hC.mono hbA.size))) h1).mono ?_
        rintro e w'' ⟨rfl, hb2⟩
        exact ⟨rfl, hC.trans (hb2.mono hC.size)⟩
      try simp only [Act.put, List.setIfInBounds_toArray, List.set_cons_zero, List.set_cons_succ]
      iterate 2
        refine q_want (v := ?_) (by kernel_rfl) ?_ ?_
        rotate_left
        · intro w' hC
          go_simp
          try with_reducible rfl
        try simp only [Act.put, List.setIfInBounds_toArray, List.set_cons_zero, List.set_cons_succ]
      iterate 38 go_big_quiet_skip
      refine q_want (v := ?_) (by kernel_rfl) ?_ ?_
      rotate_left
      · intro w' hC
        go_simp
        try with_reducible rfl
      try simp only [Act.put, List.setIfInBounds_toArray, List.set_cons_zero, List.set_cons_succ]
      refine wpQuiet_nil ?_
      intro w2 q2
      go_wp2
      go_ret
      exact ⟨ret_bool (by rw [HP.out, pB_no (fun h => h1 (by have := h.1 k hlt; rw [HK.out] at this; exact this))]), hbA.trans (q2.mono hbA.size)⟩
    refine q_want (v := .bool true) (by kernel_rfl) ?_ ?_
    · intro w' hC
      go_simp
      refine (specOk_yes (a1 := a1) (a2 := a2) (nt := nt) (c1 := c1) (c2 := c2) (s := ⟨sf, sp, kd, tg⟩) (w := w') hc hnf (hm.mono (hbA.trans (hC.mono hbA.size))) h1).mono ?_
      rintro e w'' ⟨rfl, hb2⟩
      exact ⟨rfl, hC.trans (hb2.mono hC.size)⟩
    try simp only [Act.put, List.setIfInBounds_toArray, List.set_cons_zero, List.set_cons_succ]
    iterate 2
      refine q_want (v := ?_) (by kernel_rfl) ?_ ?_
      rotate_left
      · intro w' hC
        go_simp
        try with_reducible rfl
      try simp only [Act.put, List.setIfInBounds_toArray, List.set_cons_zero, List.set_cons_succ]
    by_cases hk0 : k = 0
    case pos =>
      subst hk0
      refine q_want (v := ?_) (by kernel_rfl) ?_ ?_
      rotate_left
      · intro w' hC
        go_simp
        try with_reducible rfl
      try simp only [Act.put, List.setIfInBounds_toArray, List.set_cons_zero, List.set_cons_succ]
      refine q_want (v := .bool false) (by kernel_rfl) ?_ ?_
      · intro w' hC
        go_simp
        try simp
      try simp only [Act.put, List.setIfInBounds_toArray, List.set_cons_zero, List.set_cons_succ]
      refine q_want (v := ?_) (by kernel_rfl) ?_ ?_
      rotate_left
      · intro w' hC
        go_simp
        try with_reducible rfl
      try simp only [Act.put, List.setIfInBounds_toArray, List.set_cons_zero, List.set_cons_succ]
      iterate 34 go_big_quiet_skip
      iterate 2
        refine q_want (v := ?_) (by kernel_rfl) ?_ ?_
        rotate_left
        · intro w' hC
          go_simp
          try with_reducible rfl
        try simp only [Act.put, List.setIfInBounds_toArray, List.set_cons_zero, List.set_cons_succ]
      refine wpQuiet_nil ?_
      intro w2 q2
      go_wp2
      go_roundw
      case rel =>
        refine ⟨0 + 1, by omega, by go_num, ?_, block_kept hMA q2, block_kept hPA q2, hbA.trans (q2.mono hbA.size)⟩
        intro i hi hik
        by_cases e : i = 0
        · subst e; exact ⟨by rw [HK.out]; exact h1, fun h => absurd h (by omega)⟩
        · exact hdone.out i hi (by omega)
      case measure => simp [intOf]; omega
    obtain ⟨j, rfl⟩ : ∃ j, k = j + 1 := ⟨k - 1, by omega⟩
    have hj1 : j < ss.length := by omega
    obtain ⟨b', off', hbe, -, d1, d2, d3, d4⟩ := hs j hj1
    cases hbe
    obtain ⟨pj, hpj⟩ : ∃ pj, pj = ss[j] := ⟨_, rfl⟩
    rw [← hpj] at d1 d2 d3 d4
    have HJ : Hid (ss[j] = pj) := hpj.symm
    clear hpj
    obtain ⟨pf, pp, pk, pt⟩ := pj
    dsimp only at d1 d2 d3 d4
    have HE : Hid (∀ w', Below wA.heap.size wA w' → w'.cell? ⟨b, off + j * 4, none⟩ = some (.int .i64 pf) ∧ w'.cell? ⟨b, off + j * 4 + 1, none⟩ = some (.int .i64 pp)) := fun w' q =>
      ⟨cell_later q (cell_later hbA d1), cell_later q (cell_later hbA d2)⟩
    have HLS : Hid (SiteLess ss[j + 1 - 1] ss[j + 1] ↔ pf < sf ∨ pf = sf ∧ pp < sp) := by
      show _ ↔ _
      have e1 : ss[j + 1 - 1] = ⟨pf, pp, pk, pt⟩ := HJ.out
      rw [e1, HK.out]; exact Iff.rfl
    clear d1 d2 d3 d4
    have hj2 : (0 : Int) ≤ (j : Int) := by omega
    have hj3 : (j : Int) < (ss.length : Int) := by omega
    refine q_want (v := ?_) (by kernel_rfl) ?_ ?_
    rotate_left
    · intro w' hC
      go_simp
      try with_reducible rfl
    try simp only [Act.put, List.setIfInBounds_toArray, List.set_cons_zero, List.set_cons_succ]
    refine q_want (v := .bool true) (by kernel_rfl) ?_ ?_
    · intro w' hC
      go_simp
      try omega
    try simp only [Act.put, List.setIfInBounds_toArray, List.set_cons_zero, List.set_cons_succ]
    refine q_want (v := ?_) (by kernel_rfl) ?_ ?_
    rotate_left
    · intro w' hC
      go_simp
      try with_reducible rfl
    try simp only [Act.put, List.setIfInBounds_toArray, List.set_cons_zero, List.set_cons_succ]
    iterate 5
      refine q_want (v := ?_) (by kernel_rfl) ?_ ?_
      rotate_left
      · intro w' hC
        obtain ⟨j0, j1, j2, j3, j4, j5, j6⟩ := HS.out w' hC
        go_simp
        try with_reducible rfl
      try simp only [Act.put, List.setIfInBounds_toArray, List.set_cons_zero, List.set_cons_succ]
    refine q_want (v := .int .i64 (j : Int)) (by kernel_rfl) ?_ ?_
    · intro w' hC
      go_simp
      (rw [IntKind.wrap_i64]; omega)
    try simp only [Act.put, List.setIfInBounds_toArray, List.set_cons_zero, List.set_cons_succ]
    iterate 2
      refine q_want (v := ?_) (by kernel_rfl) ?_ ?_
      rotate_left
      · intro w' hC
        go_simp
        try with_reducible rfl
      try simp only [Act.put, List.setIfInBounds_toArray, List.set_cons_zero, List.set_cons_succ]
    refine q_want (v := ?_) (by kernel_rfl) ?_ ?_
    rotate_left
    · intro w' hC
      obtain ⟨j0, j1⟩ := HE.out w' hC
      go_simp
      try with_reducible rfl
    try simp only [Act.put, List.setIfInBounds_toArray, List.set_cons_zero, List.set_cons_succ]
    by_cases h2 : sf < pf
    case pos =>
      refine q_want (v := .bool true) (by kernel_rfl) ?_ ?_
      · intro w' hC
        go_simp
        try (simp; done)
      try simp only [Act.put, List.setIfInBounds_toArray, List.set_cons_zero, List.set_cons_succ]
      refine q_want (v := ?_) (by kernel_rfl) ?_ ?_
      rotate_left
      · intro w' hC
        go_simp
        try with_reducible rfl
      try simp only [Act.put, List.setIfInBounds_toArray, List.set_cons_zero, List.set_cons_succ]
      iterate 22 go_big_quiet_skip
      iterate 3
        refine q_want (v := ?_) (by kernel_rfl) ?_ ?_
        rotate_left
        · intro w' hC
          go_simp
          try with_reducible rfl
        try simp only [Act.put, List.setIfInBounds_toArray, List.set_cons_zero, List.set_cons_succ]
      refine wpQuiet_nil ?_
      intro w2 q2
      go_wp2
      go_ret
      exact ⟨ret_bool (by rw [HP.out, pB_no (fun h => by have := HLS.out.1 (h.2 (j + 1) hlt (by omega)); omega)]), hbA.trans (q2.mono hbA.size)⟩
    refine q_want (v := .bool false) (by kernel_rfl) ?_ ?_
    · intro w' hC
      go_simp
      try (simp; omega)
    try simp only [Act.put, List.setIfInBounds_toArray, List.set_cons_zero, List.set_cons_succ]
    refine q_want (v := ?_) (by kernel_rfl) ?_ ?_
    rotate_left
    · intro w' hC
      go_simp
      try with_reducible rfl
    try simp only [Act.put, List.setIfInBounds_toArray, List.set_cons_zero, List.set_cons_succ]
    iterate 5
      refine q_want (v := ?_) (by kernel_rfl) ?_ ?_
      rotate_left
      · intro w' hC
        obtain ⟨j0, j1, j2, j3, j4, j5, j6⟩ := HS.out w' hC
        go_simp
        try with_reducible rfl
      try simp only [Act.put, List.setIfInBounds_toArray, List.set_cons_zero, List.set_cons_succ]
    refine q_want (v := .int .i64 (j : Int)) (by kernel_rfl) ?_ ?_
    · intro w' hC
      go_simp
      (rw [IntKind.wrap_i64]; omega)
    try simp only [Act.put, List.setIfInBounds_toArray, List.set_cons_zero, List.set_cons_succ]
    iterate 2
      refine q_want (v := ?_) (by kernel_rfl) ?_ ?_
      rotate_left
      · intro w' hC
        go_simp
        try with_reducible rfl
      try simp only [Act.put, List.setIfInBounds_toArray, List.set_cons_zero, List.set_cons_succ]
    refine q_want (v := ?_) (by kernel_rfl) ?_ ?_
    rotate_left
    · intro w' hC
      obtain ⟨j0, j1⟩ := HE.out w' hC
      go_simp
      try with_reducible rfl
    try simp only [Act.put, List.setIfInBounds_toArray, List.set_cons_zero, List.set_cons_succ]
    by_cases h3 : sf = pf
    case neg =>
      have k3 : (sf == pf) = false := by simpa using h3
      refine q_want (v := .bool false) (by kernel_rfl) ?_ ?_
      · intro w' hC
        go_simp
      try simp only [Act.put, List.setIfInBounds_toArray, List.set_cons_zero, List.set_cons_succ]
      refine q_want (v := ?_) (by kernel_rfl) ?_ ?_
      rotate_left
      · intro w' hC
        go_simp
        try with_reducible rfl
      try simp only [Act.put, List.setIfInBounds_toArray, List.set_cons_zero, List.set_cons_succ]
      iterate 10 go_big_quiet_skip
      iterate 4
        refine q_want (v := ?_) (by kernel_rfl) ?_ ?_
        rotate_left
        · intro w' hC
          go_simp
          try with_reducible rfl
        try simp only [Act.put, List.setIfInBounds_toArray, List.set_cons_zero, List.set_cons_succ]
      refine wpQuiet_nil ?_
      intro w2 q2
      go_wp2
      go_roundw
      case rel =>
        refine ⟨(j + 1) + 1, by omega, by go_num, ?_, block_kept hMA q2, block_kept hPA q2, hbA.trans (q2.mono hbA.size)⟩
        intro i hi hik
        by_cases e : i = (j + 1)
        · subst e; exact ⟨by rw [HK.out]; exact h1, fun _ => HLS.out.2 (by omega)⟩
        · exact hdone.out i hi (by omega)
      case measure => simp [intOf]; omega
    subst h3
    iterate 2
      refine q_want (v := ?_) (by kernel_rfl) ?_ ?_
      rotate_left
      · intro w' hC
        go_simp
        try with_reducible rfl
      try simp only [Act.put, List.setIfInBounds_toArray, List.set_cons_zero, List.set_cons_succ]
    iterate 5
      refine q_want (v := ?_) (by kernel_rfl) ?_ ?_
      rotate_left
      · intro w' hC
        obtain ⟨j0, j1, j2, j3, j4, j5, j6⟩ := HS.out w' hC
        go_simp
        try with_reducible rfl
      try simp only [Act.put, List.setIfInBounds_toArray, List.set_cons_zero, List.set_cons_succ]
    refine q_want (v := .int .i64 (j : Int)) (by kernel_rfl) ?_ ?_
    · intro w' hC
      go_simp
      (rw [IntKind.wrap_i64]; omega)
    try simp only [Act.put, List.setIfInBounds_toArray, List.set_cons_zero, List.set_cons_succ]
    iterate 2
      refine q_want (v := ?_) (by kernel_rfl) ?_ ?_
      rotate_left
      · intro w' hC
        go_simp
        try with_reducible rfl
      try simp only [Act.put, List.setIfInBounds_toArray, List.set_cons_zero, List.set_cons_succ]
    refine q_want (v := ?_) (by kernel_rfl) ?_ ?_
    rotate_left
    · intro w' hC
      obtain ⟨j0, j1⟩ := HE.out w' hC
      go_simp
      try with_reducible rfl
    try simp only [Act.put, List.setIfInBounds_toArray, List.set_cons_zero, List.set_cons_succ]
    by_cases h4 : sp ≤ pp
    case pos =>
      refine q_want (v := .bool true) (by kernel_rfl) ?_ ?_
      · intro w' hC
        go_simp
        try (simp; done)
      try simp only [Act.put, List.setIfInBounds_toArray, List.set_cons_zero, List.set_cons_succ]
      iterate 4
        refine q_want (v := ?_) (by kernel_rfl) ?_ ?_
        rotate_left
        · intro w' hC
          go_simp
          try with_reducible rfl
        try simp only [Act.put, List.setIfInBounds_toArray, List.set_cons_zero, List.set_cons_succ]
      refine wpQuiet_nil ?_
      intro w2 q2
      go_wp2
      go_ret
      exact ⟨ret_bool (by rw [HP.out, pB_no (fun h => by have := HLS.out.1 (h.2 (j + 1) hlt (by omega)); omega)]), hbA.trans (q2.mono hbA.size)⟩
    refine q_want (v := .bool false) (by kernel_rfl) ?_ ?_
    · intro w' hC
      go_simp
      try (simp; omega)
    try simp only [Act.put, List.setIfInBounds_toArray, List.set_cons_zero, List.set_cons_succ]
    iterate 4
      refine q_want (v := ?_) (by kernel_rfl) ?_ ?_
      rotate_left
      · intro w' hC
        go_simp
        try with_reducible rfl
      try simp only [Act.put, List.setIfInBounds_toArray, List.set_cons_zero, List.set_cons_succ]
    refine wpQuiet_nil ?_
    intro w2 q2
    go_wp2
    go_roundw
    case rel =>
      refine ⟨(j + 1) + 1, by omega, by go_num, ?_, block_kept hMA q2, block_kept hPA q2, hbA.trans (q2.mono hbA.size)⟩
      intro i hi hik
      by_cases e : i = (j + 1)
      · subst e; exact ⟨by rw [HK.out]; exact h1, fun _ => HLS.out.2 (by omega)⟩
      · exact hdone.out i hi (by omega)
    case measure => simp [intOf]; omega

set_option maxHeartbeats 400000 in
theorem layOk_any (lay : Int) (w : World) : Calls Try.prog 36 #[.int .i64 lay] w fun e w' => e = .returned (.bool (decide (0 ≤ lay ∧ lay ≤ 3))) ∧ w' = w := by
  by_cases h1 : 0 ≤ lay
  · by_cases h2 : lay ≤ 3
    all_goals
      go_enter Try.func36, Try.ntmps36
      go_wp2
      go_ret
      exact ⟨ret_bool (by simp [h1, h2]), rfl⟩
  · go_enter Try.func36, Try.ntmps36
    go_wp2
    go_ret
    exact ⟨ret_bool (by symm; simp; omega), rfl⟩

set_option maxRecDepth 100000 in
set_option maxHeartbeats 1000000 in
theorem sPlanOk_any (a1 a2 : Option Addr) (c1 c2 : Nat) (ts : List ByteArray) (fs : List Fn) (a : Option Addr) (cap : Nat) (ss : List Si) (lay : Int) (bare : Bool) (w : World) (hs : Small ts fs) (hn : ss.length ≤ 1048576) (hst : StrsAt w 0 a1 ts) (hfn : FnsAt w 0 a2 fs) (hss : SitesAt w 0 a ss) :
    Calls Try.prog 8 #[.agg #[.slice a1 ts.length c1, .slice a2 fs.length c2], .agg #[.slice a ss.length cap, .int .i64 lay, .bool bare]] w fun e w' => e = .returned (.bool (pB (Good ts fs ∧ PlanP fs ss lay))) ∧ Below w.heap.size w w' := by
  have hbA : Below w.heap.size w ((w.alloc (.cells #[.slice a1 ts.length c1, .slice a2 fs.length c2] 34)).alloc (.cells #[.slice a ss.length cap, .int .i64 lay, .bool bare] 38)) := ((Below.refl _ _).alloc (Nat.le_refl _) _).alloc (by simp) _
  have hM0 : ((w.alloc (.cells #[.slice a1 ts.length c1, .slice a2 fs.length c2] 34)).alloc (.cells #[.slice a ss.length cap, .int .i64 lay, .bool bare] 38)).heap[w.heap.size]? = _ := block_old (block_new w #[.slice a1 ts.length c1, .slice a2 fs.length c2] 34) (.cells #[.slice a ss.length cap, .int .i64 lay, .bool bare] 38)
  have hP0 : ((w.alloc (.cells #[.slice a1 ts.length c1, .slice a2 fs.length c2] 34)).alloc (.cells #[.slice a ss.length cap, .int .i64 lay, .bool bare] 38)).heap[w.heap.size + 1]? = some (.cells #[.slice a ss.length cap, .int .i64 lay, .bool bare] 38 (0, 0)) := by simpa using block_new (w.alloc (.cells #[.slice a1 ts.length c1, .slice a2 fs.length c2] 34)) #[.slice a ss.length cap, .int .i64 lay, .bool bare] 38
  go_enter Try.func8, Try.ntmps8
  go_wp2_with fail
  refine (sGood_any _ _ _ _ ts fs _ hs (hst.mono hbA) (hfn.mono hbA)).mono ?_
  rintro e w1 ⟨he, hb1⟩
  have hM1 := block_kept hM0 hb1
  have hP1 := block_kept hP0 hb1
  have hB1 := hbA.trans (hb1.mono hbA.size)
  clear hM0 hP0 hbA hb1
  by_cases hG : Good ts fs
  case neg =>
    rw [pB_no hG] at he
    subst he
    go_wp2
    go_ret
    exact ⟨ret_bool (pB_no (fun h => hG h.1)).symm, hB1⟩
  rw [pB_yes hG] at he
  subst he
  have m1 := block_cell hM1
  have p1 := block_cell hP1
  go_wp2_with fail
  refine (l09Ok_any a1 a2 _ _ _ fs a cap ss lay bare w1 hn hs.funcs hs.code (hfn.mono hB1) (hss.mono hB1)).mono ?_
  rintro e w2 ⟨he, hb2⟩
  have HB2 : Hid (Below w.heap.size w w2) := hB1.trans (hb2.mono hB1.size)
  clear hM1 m1 hb2 hB1 hP1 p1
  by_cases hP : PlanP fs ss lay
  · rw [pB_yes hP] at he
    subst he
    go_wp2
    go_ret
    exact ⟨ret_bool (pB_yes ⟨hG, hP⟩).symm, HB2.out⟩
  · rw [pB_no hP] at he
    subst he
    go_wp2
    go_ret
    exact ⟨ret_bool (pB_no (fun h => hP h.2)).symm, HB2.out⟩

set_option maxRecDepth 100000 in
set_option maxHeartbeats 1000000 in
theorem iPlanOk_any (a1 a2 : Option Addr) (c1 c2 : Nat) (ts : List ByteArray) (fs : List Fn) (a : Option Addr) (cap : Nat) (ss : List Si) (lay : Int) (bare : Bool) (w : World) (hs : Small ts fs) (hst : StrsAt w 0 a1 ts) (hfn : FnsAt w 0 a2 fs) (hss : SitesAt w 0 a ss) :
    Calls Try.prog 11 #[.agg #[.slice a1 ts.length c1, .slice a2 fs.length c2], .agg #[.slice a ss.length cap, .int .i64 lay, .bool bare]] w fun e w' => e = .returned (.bool (pB (Good ts fs ∧ PlanP fs ss lay))) ∧ Below w.heap.size w w' := by
  obtain ⟨w0, hw0⟩ : ∃ w0, w0 = (w.alloc (.cells #[.slice a1 ts.length c1, .slice a2 fs.length c2] 34)).alloc (.cells #[.slice a ss.length cap, .int .i64 lay, .bool bare] 38) := ⟨_, rfl⟩
  have hbA : Below w.heap.size w w0 := by rw [hw0]; exact ((Below.refl _ _).alloc (Nat.le_refl _) _).alloc (by simp) _
  have hM0 : w0.heap[w.heap.size]? = some (.cells #[.slice a1 ts.length c1, .slice a2 fs.length c2] 34 (0, 0)) := by rw [hw0]; exact block_old (block_new _ _ _) _
  have hP0 : w0.heap[w.heap.size + 1]? = some (.cells #[.slice a ss.length cap, .int .i64 lay, .bool bare] 38 (0, 0)) := by rw [hw0]; simpa using block_new (w.alloc (.cells #[.slice a1 ts.length c1, .slice a2 fs.length c2] 34)) #[.slice a ss.length cap, .int .i64 lay, .bool bare] 38
  by_cases h150 : ss.length ≤ 150
  case neg =>
    have h150' : ¬ (ss.length : Int) ≤ 150 := by omega
    rw [pB_no (fun h => h150 h.2.1)]
    subst hw0
    go_enter Try.func11, Try.ntmps11
    go_wp2
    go_ret
    exact ⟨rfl, hbA⟩
  have h150' : (ss.length : Int) ≤ 150 := by omega
  by_cases hlay : 0 ≤ lay ∧ lay ≤ 3
  case neg =>
    rw [pB_no (fun h => hlay h.2.2.1)]
    have HL : Hid (decide (0 ≤ lay ∧ lay ≤ 3) = false) := decide_eq_false hlay
    clear hlay
    subst hw0
    go_enter Try.func11, Try.ntmps11
    go_wp2_with (go_at_call 36; refine (layOk_any _ _).mono ?_; rintro e w' ⟨he, hw'⟩; rw [HL.out] at he; subst he; subst hw')
    go_ret
    exact ⟨rfl, hbA⟩
  have HL : Hid (decide (0 ≤ lay ∧ lay ≤ 3) = true) := decide_eq_true hlay
  have HLL : Hid (0 ≤ lay ∧ lay ≤ 3) := hlay
  clear hlay
  have m0 := block_cell hM0
  go_enter Try.func11, Try.ntmps11
  go_wp2_with (go_at_call 36; refine (layOk_any _ _).mono ?_; rintro e w' ⟨he, hw'⟩; rw [HL.out] at he; subst he; subst hw')
  rw [← hw0]
  clear hw0 m0
  refine (iVerify_any _ _ _ _ ts fs _ hs (hst.mono hbA) (hfn.mono hbA)).mono ?_
  rintro e w1 ⟨c, f, g, rfl, hV, hb1⟩
  have hG := hV.good
  have hM1 := block_kept hM0 hb1
  have hP1 := block_kept hP0 hb1
  have hB1 := hbA.trans (hb1.mono hbA.size)
  clear hV hM0 hP0 hbA hb1 h150'
  have hfld : (Instr.field 69 (.agg #[.int .i64 c, .int .i64 f, .int .i64 g]) 0).run Try.prog w1 = .ok (.int .i64 c) w1 := by kernel_rfl
  by_cases hc0 : c = 0
  case neg =>
    have HG : Hid (¬ Good ts fs) := fun h => hc0 (hG.2 h)
    clear hG
    go_wp2
    go_ret
    exact ⟨ret_bool (pB_no (fun h => HG.out h.1)).symm, hB1⟩
  subst hc0
  have HG : Hid (Good ts fs) := hG.1 rfl
  clear hG
  have m1 := block_cell hM1
  have p1 := block_cell hP1
  go_wp2_with fail
  refine (specsOk_any a1 a2 _ _ _ fs a cap ss w1 h150 hs.code (hfn.mono hB1) (hss.mono hB1)).mono ?_
  rintro e w2 ⟨he, hb2⟩
  have HB2 : Hid (Below w.heap.size w w2) := hB1.trans (hb2.mono hB1.size)
  clear hM1 m1 hb2 hB1 hfld hP1 p1
  by_cases hP : Specs fs ss
  · rw [pB_yes hP] at he
    subst he
    go_wp2
    go_ret
    exact ⟨ret_bool (pB_yes ⟨HG.out, h150, HLL.out, hP⟩).symm, HB2.out⟩
  · rw [pB_no hP] at he
    subst he
    go_wp2
    go_ret
    exact ⟨ret_bool (pB_no (fun h => hP h.2.2.2)).symm, HB2.out⟩
end Go.Proofs.Ytmjkkpmfneabjaa
