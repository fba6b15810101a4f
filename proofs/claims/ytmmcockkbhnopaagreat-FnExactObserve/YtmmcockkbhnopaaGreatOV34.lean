/-
  The document's l07Ok.
-/
import Derived.Test.YtmmcockkbhnopaaGreatOV17
namespace Go.Proofs.YtmmcockkbhnopaaGreat
open Go.RowKit

theorem is_yes {op : Int} (h : 11 ≤ op ∧ op ≤ 14 ∨ op = 23) (w : World) : Calls Tryz.prog 91 #[.int .i64 op] w fun e w' => e = .returned (.bool true) ∧ w' = w := by
  have := is_any op w
  rwa [decide_eq_true h] at this
theorem is_no {op : Int} (h : ¬ (11 ≤ op ∧ op ≤ 14 ∨ op = 23)) (w : World) : Calls Tryz.prog 91 #[.int .i64 op] w fun e w' => e = .returned (.bool false) ∧ w' = w := by
  have := is_any op w
  rwa [decide_eq_false h] at this
theorem between_yes {n lo hi : Int} (h : lo ≤ n ∧ n ≤ hi) (w : World) : Calls Tryz.prog 57 #[.int .i64 n, .int .i64 lo, .int .i64 hi] w fun e w' => e = .returned (.bool true) ∧ w' = w := by
  have := between_any n lo hi w
  rwa [decide_eq_true h.1, decide_eq_true h.2] at this
theorem between_no {n lo hi : Int} (h : ¬ (lo ≤ n ∧ n ≤ hi)) (w : World) : Calls Tryz.prog 57 #[.int .i64 n, .int .i64 lo, .int .i64 hi] w fun e w' => e = .returned (.bool false) ∧ w' = w := by
  have := between_any n lo hi w
  rwa [← Bool.decide_and, decide_eq_false h] at this
theorem less_yes {a b : Si} (h : SiteLess a b) (w : World) :
    Calls Tryz.prog 87 #[.agg #[.int .i64 a.f, .int .i64 a.pc, .int .i64 a.seen, .int .i64 a.target], .agg #[.int .i64 b.f, .int .i64 b.pc, .int .i64 b.seen, .int .i64 b.target]] w fun e w' => e = .returned (.bool true) ∧ Below w.heap.size w w' := by
  have := less_any a b w
  rwa [decide_eq_true h] at this
theorem less_no {a b : Si} (h : ¬ SiteLess a b) (w : World) :
    Calls Tryz.prog 87 #[.agg #[.int .i64 a.f, .int .i64 a.pc, .int .i64 a.seen, .int .i64 a.target], .agg #[.int .i64 b.f, .int .i64 b.pc, .int .i64 b.seen, .int .i64 b.target]] w fun e w' => e = .returned (.bool false) ∧ Below w.heap.size w w' := by
  have := less_any a b w
  rwa [decide_eq_false h] at this

/-- What is asked of a list of sites. -/
def ProfP (fs : List Fn) (ss : List Si) : Prop := ss.length ≤ 150 ∧ Prof fs ss

set_option maxRecDepth 100000 in
set_option maxHeartbeats 4000000 in
theorem l07Ok_any (a1 a2 : Option Addr) (nt c1 c2 : Nat) (fs : List Fn) (a : Option Addr) (cap : Nat) (ss : List Si) (w : World) (hn : ss.length ≤ 1048576) (hnf : fs.length ≤ 1048576) (hc : ∀ f ∈ fs, f.code.length ≤ 1048576) (hm : FnsAt w 0 a2 fs) (hs : SitesAt w 0 a ss) :
    Calls Tryz.prog 56 #[.agg #[.slice a1 nt c1, .slice a2 fs.length c2], .slice a ss.length cap] w fun e w' => e = .returned (.bool (pB (ProfP fs ss))) ∧ Below w.heap.size w w' := by
  by_cases h150 : ss.length ≤ 150
  case neg =>
    have h150' : (150 : Int) < (ss.length : Int) := by omega
    rw [pB_no (fun h => h150 h.1)]
    go_enter Tryz.func56, Tryz.ntmps56
    go_wp2
    go_ret
    exact ⟨rfl, (Below.refl _ _).alloc (Nat.le_refl _) _⟩
  have HP : Hid (pB (ProfP fs ss) = pB (Prof fs ss)) := by
    show _ = _
    by_cases h : Prof fs ss
    · rw [pB_yes h, pB_yes (show ProfP fs ss from ⟨h150, h⟩)]
    · rw [pB_no h, pB_no (fun h' : ProfP fs ss => h h'.2)]
  have h150' : ¬ (150 : Int) < (ss.length : Int) := by omega
  go_enter Tryz.func56, Tryz.ntmps56
  go_wp2
  clear h150'
  go_loopw [5] (fun i wr => ∃ (k : Nat), k ≤ ss.length ∧ i = .int .i64 k ∧ Hid (∀ j (hj : j < ss.length), j < k → At fs ss j hj) ∧ wr.heap[w.heap.size]? = some (.cells #[.slice a1 nt c1, .slice a2 fs.length c2] 40 (0, 0)) ∧ Below w.heap.size w wr) (fun i _ => ss.length - (intOf i).toNat)
  case atStart => exact ⟨0, by omega, rfl, fun _ _ h => absurd h (Nat.not_lt_zero _), block_new _ _ _, (Below.refl _ _).alloc (Nat.le_refl _) _⟩
  case round =>
    obtain ⟨k, hk, rfl, hdone, hM, hb⟩ := hrel
    by_cases hlt : k < ss.length
    case neg =>
      have HD : Hid (Prof fs ss) := fun j hj => hdone.out j hj (by omega)
      go_wp2
      go_ret
      exact ⟨ret_bool (by rw [HP.out, pB_yes HD.out]), hb⟩
    obtain ⟨b, off, rfl, -, d1, d2, d3, d4⟩ := hs k hlt
    obtain ⟨sk, hsk⟩ : ∃ sk, sk = ss[k] := ⟨_, rfl⟩
    rw [← hsk] at d1 d2 d3 d4
    have HK : Hid (ss[k] = sk) := hsk.symm
    clear hsk
    obtain ⟨sf, sp, sn, tg⟩ := sk
    dsimp only at d1 d2 d3 d4
    obtain ⟨wA, hwA⟩ : ∃ wA, wA = wr.alloc (.cells #[.int .i64 sf, .int .i64 sp, .int .i64 sn, .int .i64 tg] 68) := ⟨_, rfl⟩
    have hX : wA.heap[wr.heap.size]? = some (.cells #[.int .i64 sf, .int .i64 sp, .int .i64 sn, .int .i64 tg] 68 (0, 0)) := by rw [hwA]; exact block_new _ _ _
    have hMA : wA.heap[w.heap.size]? = some (.cells #[.slice a1 nt c1, .slice a2 fs.length c2] 40 (0, 0)) := by rw [hwA]; exact block_old hM _
    have hbA : Below w.heap.size w wA := by rw [hwA]; exact hb.alloc hb.size _
    have d1' := cell_later hb d1
    have d2' := cell_later hb d2
    have d3' := cell_later hb d3
    have d4' := cell_later hb d4
    clear d1 d2 d3 d4
    go_upto_region 7 with fail
    rw [← hwA]
    clear hwA d1' d2' d3' d4'
    have HS : Hid (∀ w', Below wA.heap.size wA w' → w'.cell? ⟨w.heap.size, 0, none⟩ = some (.slice a1 nt c1) ∧ w'.cell? ⟨w.heap.size, 1, none⟩ = some (.slice a2 fs.length c2) ∧ w'.cell? ⟨wr.heap.size, 0, none⟩ = some (.int .i64 sf) ∧ w'.cell? ⟨wr.heap.size, 1, none⟩ = some (.int .i64 sp) ∧ w'.cell? ⟨wr.heap.size, 2, none⟩ = some (.int .i64 sn) ∧ w'.cell? ⟨wr.heap.size, 3, none⟩ = some (.int .i64 tg)) := fun w' q =>
      ⟨by rw [block_cell (block_kept hMA q)]; rfl, by rw [block_cell (block_kept hMA q)]; rfl, by rw [block_cell (block_kept hX q)]; rfl, by rw [block_cell (block_kept hX q)]; rfl, by rw [block_cell (block_kept hX q)]; rfl, by rw [block_cell (block_kept hX q)]; rfl⟩
    refine wp_below (by kernel_rfl) (by kernel_rfl) ?_
    by_cases hk0 : k = 0
    case pos =>
      subst hk0
      have HL : Hid (0 < 0 → SiteLess ss[0 - 1] ss[0]) := fun h => absurd h (by omega)
      iterate 3
        refine q_want (v := ?_) (by kernel_rfl) ?_ ?_
        rotate_left
        · intro w' hC
          go_simp
          try with_reducible rfl
        try simp only [Act.put, List.setIfInBounds_toArray, List.set_cons_zero, List.set_cons_succ]
      iterate 8 go_big_quiet_skip
      iterate 2
        refine q_want (v := ?_) (by kernel_rfl) ?_ ?_
        rotate_left
        · intro w' hC
          go_simp
          try with_reducible rfl
        try simp only [Act.put, List.setIfInBounds_toArray, List.set_cons_zero, List.set_cons_succ]
      refine q_want (v := ?_) (by kernel_rfl) ?_ ?_
      rotate_left
      · intro w' hC
        go_simp
        try with_reducible rfl
      try simp only [Act.put, List.setIfInBounds_toArray, List.set_cons_zero, List.set_cons_succ]
      refine q_want (v := ?_) (by kernel_rfl) ?_ ?_
      rotate_left
      · intro w' hC
        obtain ⟨j0, j1, j2, j3, j4, j5⟩ := HS.out w' hC
        go_simp
        try with_reducible rfl
      try simp only [Act.put, List.setIfInBounds_toArray, List.set_cons_zero, List.set_cons_succ]
      refine q_want (v := ?_) (by kernel_rfl) ?_ ?_
      rotate_left
      · intro w' hC
        go_simp
        try with_reducible rfl
      try simp only [Act.put, List.setIfInBounds_toArray, List.set_cons_zero, List.set_cons_succ]
      refine q_want (v := ?_) (by kernel_rfl) ?_ ?_
      rotate_left
      · intro w' hC
        obtain ⟨j0, j1, j2, j3, j4, j5⟩ := HS.out w' hC
        go_simp
        try with_reducible rfl
      try simp only [Act.put, List.setIfInBounds_toArray, List.set_cons_zero, List.set_cons_succ]
      refine q_want (v := ?_) (by kernel_rfl) ?_ ?_
      rotate_left
      · intro w' hC
        go_simp
        try with_reducible rfl
      try simp only [Act.put, List.setIfInBounds_toArray, List.set_cons_zero, List.set_cons_succ]
      refine q_want (v := .int .i64 ((fs.length : Int) - 1)) (by kernel_rfl) ?_ ?_
      · intro w' hC
        go_simp
        first | done | (rw [IntKind.wrap_i64]; omega)
      try simp only [Act.put, List.setIfInBounds_toArray, List.set_cons_zero, List.set_cons_succ]
      by_cases h3 : 0 ≤ sf ∧ sf ≤ (fs.length : Int) - 1
      case neg =>
        have H3 : Hid (¬ (0 ≤ sf ∧ sf ≤ (fs.length : Int) - 1)) := h3
        clear h3
        refine q_want (v := .bool false) (by kernel_rfl) ?_ ?_
        · intro w' hC
          go_simp
          refine (between_no H3.out w').mono ?_
          rintro e w'' ⟨rfl, rfl⟩
          exact ⟨rfl, hC⟩
        try simp only [Act.put, List.setIfInBounds_toArray, List.set_cons_zero, List.set_cons_succ]
        iterate 3
          refine q_want (v := ?_) (by kernel_rfl) ?_ ?_
          rotate_left
          · intro w' hC
            go_simp
            try with_reducible rfl
          try simp only [Act.put, List.setIfInBounds_toArray, List.set_cons_zero, List.set_cons_succ]
        iterate 13 go_big_quiet_skip
        refine q_want (v := ?_) (by kernel_rfl) ?_ ?_
        rotate_left
        · intro w' hC
          go_simp
          try with_reducible rfl
        try simp only [Act.put, List.setIfInBounds_toArray, List.set_cons_zero, List.set_cons_succ]
        refine wpQuiet_nil ?_
        intro w2 q2
        go_wp2
        go_ret
        exact ⟨ret_bool (by rw [HP.out, pB_no (fun h => by have h := (h (0) hlt).1; rw [HK.out] at h; obtain ⟨x1, -, x2, -⟩ := h; have := H3.out; dsimp only at x1 x2; omega)]), hbA.trans (q2.mono hbA.size)⟩
      have H3 : Hid (0 ≤ sf ∧ sf ≤ (fs.length : Int) - 1) := h3
      refine q_want (v := .bool true) (by kernel_rfl) ?_ ?_
      · intro w' hC
        go_simp
        refine (between_yes H3.out w').mono ?_
        rintro e w'' ⟨rfl, rfl⟩
        exact ⟨rfl, hC⟩
      try simp only [Act.put, List.setIfInBounds_toArray, List.set_cons_zero, List.set_cons_succ]
      obtain ⟨f, rfl⟩ : ∃ f : Nat, sf = f := ⟨sf.toNat, by omega⟩
      have hf : f < fs.length := by omega
      clear h3 H3
      obtain ⟨b2, off2, ca, cc, hae, -, -, -, e3, hcode⟩ := hm f hf
      have hcl := hc _ (List.getElem_mem hf)
      have HF : Hid (∀ w', Below wA.heap.size wA w' → w'.cell? ⟨b2, off2 + f * 3 + 2, none⟩ = some (.slice ca fs[f].code.length cc)) := fun w' q => cell_later q (cell_later hbA e3)
      subst hae
      clear e3
      iterate 3
        refine q_want (v := ?_) (by kernel_rfl) ?_ ?_
        rotate_left
        · intro w' hC
          go_simp
          try with_reducible rfl
        try simp only [Act.put, List.setIfInBounds_toArray, List.set_cons_zero, List.set_cons_succ]
      refine q_want (v := ?_) (by kernel_rfl) ?_ ?_
      rotate_left
      · intro w' hC
        go_simp
        try with_reducible rfl
      try simp only [Act.put, List.setIfInBounds_toArray, List.set_cons_zero, List.set_cons_succ]
      refine q_want (v := ?_) (by kernel_rfl) ?_ ?_
      rotate_left
      · intro w' hC
        obtain ⟨j0, j1, j2, j3, j4, j5⟩ := HS.out w' hC
        go_simp
        try with_reducible rfl
      try simp only [Act.put, List.setIfInBounds_toArray, List.set_cons_zero, List.set_cons_succ]
      refine q_want (v := ?_) (by kernel_rfl) ?_ ?_
      rotate_left
      · intro w' hC
        go_simp
        try with_reducible rfl
      try simp only [Act.put, List.setIfInBounds_toArray, List.set_cons_zero, List.set_cons_succ]
      refine q_want (v := ?_) (by kernel_rfl) ?_ ?_
      rotate_left
      · intro w' hC
        obtain ⟨j0, j1, j2, j3, j4, j5⟩ := HS.out w' hC
        go_simp
        try with_reducible rfl
      try simp only [Act.put, List.setIfInBounds_toArray, List.set_cons_zero, List.set_cons_succ]
      refine q_want (v := ?_) (by kernel_rfl) ?_ ?_
      rotate_left
      · intro w' hC
        go_simp
        try with_reducible rfl
      try simp only [Act.put, List.setIfInBounds_toArray, List.set_cons_zero, List.set_cons_succ]
      refine q_want (v := ?_) (by kernel_rfl) ?_ ?_
      rotate_left
      · intro w' hC
        obtain ⟨j0, j1, j2, j3, j4, j5⟩ := HS.out w' hC
        go_simp
        try with_reducible rfl
      try simp only [Act.put, List.setIfInBounds_toArray, List.set_cons_zero, List.set_cons_succ]
      have g1 : (0 : Int) ≤ (f : Int) := by omega
      have g2 : (f : Int) < (fs.length : Int) := by omega
      refine q_want (v := ?_) (by kernel_rfl) ?_ ?_
      rotate_left
      · intro w' hC
        go_simp
        try with_reducible rfl
      try simp only [Act.put, List.setIfInBounds_toArray, List.set_cons_zero, List.set_cons_succ]
      refine q_want (v := ?_) (by kernel_rfl) ?_ ?_
      rotate_left
      · intro w' hC
        go_simp
        try with_reducible rfl
      try simp only [Act.put, List.setIfInBounds_toArray, List.set_cons_zero, List.set_cons_succ]
      refine q_want (v := ?_) (by kernel_rfl) ?_ ?_
      rotate_left
      · intro w' hC
        have j0 := HF.out w' hC
        go_simp
        try with_reducible rfl
      try simp only [Act.put, List.setIfInBounds_toArray, List.set_cons_zero, List.set_cons_succ]
      refine q_want (v := ?_) (by kernel_rfl) ?_ ?_
      rotate_left
      · intro w' hC
        go_simp
        try with_reducible rfl
      try simp only [Act.put, List.setIfInBounds_toArray, List.set_cons_zero, List.set_cons_succ]
      refine q_want (v := .int .i64 ((fs[f].code.length : Int) - 1)) (by kernel_rfl) ?_ ?_
      · intro w' hC
        go_simp
        first | done | (rw [IntKind.wrap_i64]; omega)
      try simp only [Act.put, List.setIfInBounds_toArray, List.set_cons_zero, List.set_cons_succ]
      clear g1 g2
      by_cases h4 : 0 ≤ sp ∧ sp ≤ (fs[f].code.length : Int) - 1
      case neg =>
        have H4 : Hid (¬ (0 ≤ sp ∧ sp ≤ (fs[f].code.length : Int) - 1)) := h4
        clear h4
        refine q_want (v := .bool false) (by kernel_rfl) ?_ ?_
        · intro w' hC
          go_simp
          refine (between_no H4.out w').mono ?_
          rintro e w'' ⟨rfl, rfl⟩
          exact ⟨rfl, hC⟩
        try simp only [Act.put, List.setIfInBounds_toArray, List.set_cons_zero, List.set_cons_succ]
        iterate 2
          refine q_want (v := ?_) (by kernel_rfl) ?_ ?_
          rotate_left
          · intro w' hC
            go_simp
            try with_reducible rfl
          try simp only [Act.put, List.setIfInBounds_toArray, List.set_cons_zero, List.set_cons_succ]
        refine wpQuiet_nil ?_
        intro w2 q2
        go_wp2
        go_ret
        exact ⟨ret_bool (by rw [HP.out, pB_no (fun h => by have h := (h (0) hlt).1; rw [HK.out] at h; obtain ⟨-, x1, x0, x2, -⟩ := h; have := H4.out; dsimp only at x1 x2; simp only [Int.toNat_natCast] at x2; omega)]), hbA.trans (q2.mono hbA.size)⟩
      have H4 : Hid (0 ≤ sp ∧ sp ≤ (fs[f].code.length : Int) - 1) := h4
      refine q_want (v := .bool true) (by kernel_rfl) ?_ ?_
      · intro w' hC
        go_simp
        refine (between_yes H4.out w').mono ?_
        rintro e w'' ⟨rfl, rfl⟩
        exact ⟨rfl, hC⟩
      try simp only [Act.put, List.setIfInBounds_toArray, List.set_cons_zero, List.set_cons_succ]
      obtain ⟨p, rfl⟩ : ∃ p : Nat, sp = p := ⟨sp.toNat, by omega⟩
      have hp : p < fs[f].code.length := by omega
      clear h4 H4
      obtain ⟨b3, off3, hce, -, e1, -⟩ := hcode p hp
      subst hce
      have hiff := site_iff (sn := sn) (tg := tg) hf hp
      obtain ⟨op, hop⟩ : ∃ op, op = fs[f].code[p].1 := ⟨_, rfl⟩
      rw [← hop] at e1 hiff
      have HI : Hid (SiteP fs ⟨f, p, sn, tg⟩ ↔ OpP fs.length op sn tg) := hiff
      have HO : Hid (∀ w', Below wA.heap.size wA w' → w'.cell? ⟨b3, off3 + p * 2, none⟩ = some (.int .i64 op)) := fun w' q => cell_later q (cell_later hbA e1)
      clear hiff hop e1 hcode
      iterate 2
        refine q_want (v := ?_) (by kernel_rfl) ?_ ?_
        rotate_left
        · intro w' hC
          go_simp
          try with_reducible rfl
        try simp only [Act.put, List.setIfInBounds_toArray, List.set_cons_zero, List.set_cons_succ]
      refine wpQuiet_nil ?_
      intro w2 q2
      go_upto_region 9 with fail
      have HS2 : Hid (∀ w', Below w2.heap.size w2 w' → w'.cell? ⟨w.heap.size, 1, none⟩ = some (.slice (some ⟨b2, off2, none⟩) fs.length c2) ∧ w'.cell? ⟨wr.heap.size, 0, none⟩ = some (.int .i64 (f : Int)) ∧ w'.cell? ⟨wr.heap.size, 1, none⟩ = some (.int .i64 (p : Int)) ∧ w'.cell? ⟨b2, off2 + f * 3 + 2, none⟩ = some (.slice (some ⟨b3, off3, none⟩) fs[f].code.length cc) ∧ w'.cell? ⟨b3, off3 + p * 2, none⟩ = some (.int .i64 op)) := fun w' q => by
        have q' := q2.trans (q.mono q2.size)
        obtain ⟨-, j1, j2, j3, -, -⟩ := HS.out w' q'
        exact ⟨j1, j2, j3, HF.out w' q', HO.out w' q'⟩
      refine wp_below (by kernel_rfl) (by kernel_rfl) ?_
      have g1 : (0 : Int) ≤ (f : Int) := by omega
      have g2 : (f : Int) < (fs.length : Int) := by omega
      have g3 : (0 : Int) ≤ (p : Int) := by omega
      have g4 : (p : Int) < (fs[f].code.length : Int) := by omega
      iterate 12
        refine q_want (v := ?_) (by kernel_rfl) ?_ ?_
        rotate_left
        · intro w' hC
          obtain ⟨j1, j2, j3, j4, j5⟩ := HS2.out w' hC
          go_simp
          try with_reducible rfl
        try simp only [Act.put, List.setIfInBounds_toArray, List.set_cons_zero, List.set_cons_succ]
      refine q_want (v := ?_) (by kernel_rfl) ?_ ?_
      rotate_left
      · intro w' hC
        go_simp
        try with_reducible rfl
      try simp only [Act.put, List.setIfInBounds_toArray, List.set_cons_zero, List.set_cons_succ]
      clear g1 g2 g3 g4
      refine wpQuiet_nil ?_
      intro w3 q3
      have Q3 := q2.trans (q3.mono q2.size)
      have HB3 : Hid (Below w.heap.size w w3) := hbA.trans (Q3.mono hbA.size)
      have hM3 := block_kept hMA Q3
      have HM3 : Hid (w3.heap[w.heap.size]? = some (.cells #[.slice a1 nt c1, .slice (some ⟨b2, off2, none⟩) fs.length c2] 40 (0, 0))) := hM3
      obtain ⟨y0, y1, y2, y3, y4, y5⟩ := HS.out w3 Q3
      clear hM3 q2 q3 Q3 hX hMA hbA hM hb HS HS2 HF HO
      by_cases hA : 11 ≤ op ∧ op ≤ 14 ∨ op = 23
      case neg =>
        have HA : Hid (¬ (11 ≤ op ∧ op ≤ 14 ∨ op = 23)) := hA
        go_wp2_with (first | (go_at_call 91; refine (is_no HA.out _).mono ?_; rintro e w' ⟨rfl, rfl⟩))
        go_ret
        exact ⟨ret_bool (by rw [HP.out, pB_no (fun h => by have h := (h (0) hlt).1; rw [HK.out] at h; have h := HI.out.1 h; unfold OpP at h; omega)]), HB3.out⟩
      have HA : Hid (11 ≤ op ∧ op ≤ 14 ∨ op = 23) := hA
      by_cases hN : 1 ≤ sn ∧ sn ≤ 3
      case neg =>
        have HN : Hid (¬ (1 ≤ sn ∧ sn ≤ 3)) := hN
        go_wp2_with (first | (go_at_call 91; refine (is_yes HA.out _).mono ?_; rintro e w' ⟨rfl, rfl⟩) | (go_at_call_of 57 (Value.int IntKind.i64 sn); refine (between_no (lo := 1) (hi := 3) HN.out _).mono ?_; rintro e w' ⟨rfl, rfl⟩))
        go_ret
        exact ⟨ret_bool (by rw [HP.out, pB_no (fun h => by have h := (h (0) hlt).1; rw [HK.out] at h; have h := HI.out.1 h; unfold OpP at h; omega)]), HB3.out⟩
      have HN : Hid (1 ≤ sn ∧ sn ≤ 3) := hN
      by_cases h23 : op = 23
      case pos =>
        subst h23
        by_cases hs1 : sn = 1
        case pos =>
          subst hs1
          by_cases hT : 0 ≤ tg ∧ tg ≤ (fs.length : Int) - 1
          case neg =>
            have HT : Hid (¬ (0 ≤ tg ∧ tg ≤ (fs.length : Int) - 1)) := hT
            go_wp2_with (first | (go_at_call 91; refine (is_yes HA.out _).mono ?_; rintro e w' ⟨rfl, rfl⟩) | (go_at_call_of 57 (Value.int IntKind.i64 tg); refine (between_no (lo := 0) (hi := (fs.length : Int) - 1) HT.out _).mono ?_; rintro e w' ⟨rfl, rfl⟩) | (go_at_call_of 57 (Value.int IntKind.i64 1); refine (between_yes (lo := 1) (hi := 3) HN.out _).mono ?_; rintro e w' ⟨rfl, rfl⟩))
            go_ret
            exact ⟨ret_bool (by rw [HP.out, pB_no (fun h => by have h := (h (0) hlt).1; rw [HK.out] at h; have h := HI.out.1 h; unfold OpP at h; omega)]), HB3.out⟩
          have HT : Hid (0 ≤ tg ∧ tg ≤ (fs.length : Int) - 1) := hT
          have HG : Hid (OpP fs.length 23 1 tg) := .inl ⟨rfl, .inl ⟨rfl, hT.1, by omega⟩⟩
          go_wp2_with (first | (go_at_call 91; refine (is_yes HA.out _).mono ?_; rintro e w' ⟨rfl, rfl⟩) | (go_at_call_of 57 (Value.int IntKind.i64 tg); refine (between_yes (lo := 0) (hi := (fs.length : Int) - 1) HT.out _).mono ?_; rintro e w' ⟨rfl, rfl⟩) | (go_at_call_of 57 (Value.int IntKind.i64 1); refine (between_yes (lo := 1) (hi := 3) HN.out _).mono ?_; rintro e w' ⟨rfl, rfl⟩))
          go_roundw
          case rel => exact ⟨0 + 1, by omega, by go_num, done_more hdone.out hlt ⟨by rw [HK.out]; exact HI.out.2 HG.out, HL.out⟩, HM3.out, HB3.out⟩
          case measure => simp [intOf]; omega
        by_cases ht : tg = 0
        case neg =>
          go_wp2_with (first | (go_at_call 91; refine (is_yes HA.out _).mono ?_; rintro e w' ⟨rfl, rfl⟩) | (go_at_call_of 57 (Value.int IntKind.i64 sn); refine (between_yes (lo := 1) (hi := 3) HN.out _).mono ?_; rintro e w' ⟨rfl, rfl⟩))
          go_ret
          exact ⟨ret_bool (by rw [HP.out, pB_no (fun h => by have h := (h (0) hlt).1; rw [HK.out] at h; have h := HI.out.1 h; unfold OpP at h; omega)]), HB3.out⟩
        subst ht
        by_cases hs3 : sn = 3
        case pos =>
          subst hs3
          go_wp2_with (first | (go_at_call 91; refine (is_yes HA.out _).mono ?_; rintro e w' ⟨rfl, rfl⟩) | (go_at_call_of 57 (Value.int IntKind.i64 3); refine (between_yes (lo := 1) (hi := 3) HN.out _).mono ?_; rintro e w' ⟨rfl, rfl⟩))
          go_ret
          exact ⟨ret_bool (by rw [HP.out, pB_no (fun h => by have h := (h (0) hlt).1; rw [HK.out] at h; have h := HI.out.1 h; unfold OpP at h; omega)]), HB3.out⟩
        have HG : Hid (OpP fs.length 23 sn 0) := .inl ⟨rfl, .inr ⟨by omega, rfl⟩⟩
        go_wp2_with (first | (go_at_call 91; refine (is_yes HA.out _).mono ?_; rintro e w' ⟨rfl, rfl⟩) | (go_at_call_of 57 (Value.int IntKind.i64 sn); refine (between_yes (lo := 1) (hi := 3) HN.out _).mono ?_; rintro e w' ⟨rfl, rfl⟩))
        go_roundw
        case rel => exact ⟨0 + 1, by omega, by go_num, done_more hdone.out hlt ⟨by rw [HK.out]; exact HI.out.2 HG.out, HL.out⟩, HM3.out, HB3.out⟩
        case measure => simp [intOf]; omega
      by_cases ht : tg = 0
      case neg =>
        go_wp2_with (first | (go_at_call 91; refine (is_yes HA.out _).mono ?_; rintro e w' ⟨rfl, rfl⟩) | (go_at_call_of 57 (Value.int IntKind.i64 sn); refine (between_yes (lo := 1) (hi := 3) HN.out _).mono ?_; rintro e w' ⟨rfl, rfl⟩))
        go_ret
        exact ⟨ret_bool (by rw [HP.out, pB_no (fun h => by have h := (h (0) hlt).1; rw [HK.out] at h; have h := HI.out.1 h; unfold OpP at h; omega)]), HB3.out⟩
      subst ht
      have HG : Hid (OpP fs.length op sn 0) := .inr ⟨by omega, by omega, hN.1, hN.2, rfl⟩
      go_wp2_with (first | (go_at_call 91; refine (is_yes HA.out _).mono ?_; rintro e w' ⟨rfl, rfl⟩) | (go_at_call_of 57 (Value.int IntKind.i64 sn); refine (between_yes (lo := 1) (hi := 3) HN.out _).mono ?_; rintro e w' ⟨rfl, rfl⟩))
      go_roundw
      case rel => exact ⟨0 + 1, by omega, by go_num, done_more hdone.out hlt ⟨by rw [HK.out]; exact HI.out.2 HG.out, HL.out⟩, HM3.out, HB3.out⟩
      case measure => simp [intOf]; omega
    obtain ⟨j, rfl⟩ : ∃ j, k = j + 1 := ⟨k - 1, by omega⟩
    have hj1 : j < ss.length := by omega
    obtain ⟨b', off', hbe, -, d1, d2, d3, d4⟩ := hs j hj1
    cases hbe
    have HE : Hid (∀ w', Below wA.heap.size wA w' → w'.cell? ⟨b, off + j * 4, none⟩ = some (.int .i64 ss[j].f) ∧ w'.cell? ⟨b, off + j * 4 + 1, none⟩ = some (.int .i64 ss[j].pc) ∧ w'.cell? ⟨b, off + j * 4 + 2, none⟩ = some (.int .i64 ss[j].seen) ∧ w'.cell? ⟨b, off + j * 4 + 3, none⟩ = some (.int .i64 ss[j].target)) := fun w' q =>
      ⟨cell_later q (cell_later hbA d1), cell_later q (cell_later hbA d2), cell_later q (cell_later hbA d3), cell_later q (cell_later hbA d4)⟩
    clear d1 d2 d3 d4
    refine q_want (v := ?_) (by kernel_rfl) ?_ ?_
    rotate_left
    · intro w' hC
      go_simp
      try with_reducible rfl
    try simp only [Act.put, List.setIfInBounds_toArray, List.set_cons_zero, List.set_cons_succ]
    refine q_want (v := .bool true) (by kernel_rfl) ?_ ?_
    · intro w' hC
      go_simp
      try omega
    try simp only [Act.put, List.setIfInBounds_toArray, List.set_cons_zero, List.set_cons_succ]
    iterate 3
      refine q_want (v := ?_) (by kernel_rfl) ?_ ?_
      rotate_left
      · intro w' hC
        go_simp
        try with_reducible rfl
      try simp only [Act.put, List.setIfInBounds_toArray, List.set_cons_zero, List.set_cons_succ]
    refine q_want (v := .int .i64 (j : Int)) (by kernel_rfl) ?_ ?_
    · intro w' hC
      go_simp
      (rw [IntKind.wrap_i64]; omega)
    try simp only [Act.put, List.setIfInBounds_toArray, List.set_cons_zero, List.set_cons_succ]
    have hj2 : (0 : Int) ≤ (j : Int) := by omega
    have hj3 : (j : Int) < (ss.length : Int) := by omega
    refine q_want (v := ?_) (by kernel_rfl) ?_ ?_
    rotate_left
    · intro w' hC
      go_simp
      try with_reducible rfl
    try simp only [Act.put, List.setIfInBounds_toArray, List.set_cons_zero, List.set_cons_succ]
    refine q_want (v := ?_) (by kernel_rfl) ?_ ?_
    rotate_left
    · intro w' hC
      obtain ⟨j0, j1, j2, j3⟩ := HE.out w' hC
      go_simp
      try with_reducible rfl
    try simp only [Act.put, List.setIfInBounds_toArray, List.set_cons_zero, List.set_cons_succ]
    refine q_want (v := ?_) (by kernel_rfl) ?_ ?_
    rotate_left
    · intro w' hC
      obtain ⟨j0, j1, j2, j3, j4, j5⟩ := HS.out w' hC
      go_simp
      try with_reducible rfl
    try simp only [Act.put, List.setIfInBounds_toArray, List.set_cons_zero, List.set_cons_succ]
    clear hj2 hj3
    by_cases h2 : SiteLess ss[j] ⟨sf, sp, sn, tg⟩
    case neg =>
      refine q_want (v := .bool false) (by kernel_rfl) ?_ ?_
      · intro w' hC
        go_simp
        refine (less_no (a := ss[j]) (b := ⟨sf, sp, sn, tg⟩) h2 w').mono ?_
        rintro e w'' ⟨rfl, hb2⟩
        exact ⟨rfl, hC.trans (hb2.mono hC.size)⟩
      try simp only [Act.put, List.setIfInBounds_toArray, List.set_cons_zero, List.set_cons_succ]
      iterate 3
        refine q_want (v := ?_) (by kernel_rfl) ?_ ?_
        rotate_left
        · intro w' hC
          go_simp
          try with_reducible rfl
        try simp only [Act.put, List.setIfInBounds_toArray, List.set_cons_zero, List.set_cons_succ]
      iterate 8 go_big_quiet_skip
      iterate 2
        refine q_want (v := ?_) (by kernel_rfl) ?_ ?_
        rotate_left
        · intro w' hC
          go_simp
          try with_reducible rfl
        try simp only [Act.put, List.setIfInBounds_toArray, List.set_cons_zero, List.set_cons_succ]
      iterate 13 go_big_quiet_skip
      refine q_want (v := ?_) (by kernel_rfl) ?_ ?_
      rotate_left
      · intro w' hC
        go_simp
        try with_reducible rfl
      try simp only [Act.put, List.setIfInBounds_toArray, List.set_cons_zero, List.set_cons_succ]
      refine wpQuiet_nil ?_
      intro w2 q2
      go_wp2
      go_ret
      exact ⟨ret_bool (by rw [HP.out, pB_no (fun h => h2 (by have := (h (j + 1) hlt).2 (by omega); rw [HK.out] at this; exact this))]), hbA.trans (q2.mono hbA.size)⟩
    refine q_want (v := .bool true) (by kernel_rfl) ?_ ?_
    · intro w' hC
      go_simp
      refine (less_yes (a := ss[j]) (b := ⟨sf, sp, sn, tg⟩) h2 w').mono ?_
      rintro e w'' ⟨rfl, hb2⟩
      exact ⟨rfl, hC.trans (hb2.mono hC.size)⟩
    try simp only [Act.put, List.setIfInBounds_toArray, List.set_cons_zero, List.set_cons_succ]
    have HL : Hid (0 < j + 1 → SiteLess ss[j + 1 - 1] ss[j + 1]) := fun _ => by rw [HK.out]; exact h2
    clear h2
    iterate 3
      refine q_want (v := ?_) (by kernel_rfl) ?_ ?_
      rotate_left
      · intro w' hC
        go_simp
        try with_reducible rfl
      try simp only [Act.put, List.setIfInBounds_toArray, List.set_cons_zero, List.set_cons_succ]
    refine q_want (v := ?_) (by kernel_rfl) ?_ ?_
    rotate_left
    · intro w' hC
      go_simp
      try with_reducible rfl
    try simp only [Act.put, List.setIfInBounds_toArray, List.set_cons_zero, List.set_cons_succ]
    refine q_want (v := ?_) (by kernel_rfl) ?_ ?_
    rotate_left
    · intro w' hC
      obtain ⟨j0, j1, j2, j3, j4, j5⟩ := HS.out w' hC
      go_simp
      try with_reducible rfl
    try simp only [Act.put, List.setIfInBounds_toArray, List.set_cons_zero, List.set_cons_succ]
    refine q_want (v := ?_) (by kernel_rfl) ?_ ?_
    rotate_left
    · intro w' hC
      go_simp
      try with_reducible rfl
    try simp only [Act.put, List.setIfInBounds_toArray, List.set_cons_zero, List.set_cons_succ]
    refine q_want (v := ?_) (by kernel_rfl) ?_ ?_
    rotate_left
    · intro w' hC
      obtain ⟨j0, j1, j2, j3, j4, j5⟩ := HS.out w' hC
      go_simp
      try with_reducible rfl
    try simp only [Act.put, List.setIfInBounds_toArray, List.set_cons_zero, List.set_cons_succ]
    refine q_want (v := ?_) (by kernel_rfl) ?_ ?_
    rotate_left
    · intro w' hC
      go_simp
      try with_reducible rfl
    try simp only [Act.put, List.setIfInBounds_toArray, List.set_cons_zero, List.set_cons_succ]
    refine q_want (v := .int .i64 ((fs.length : Int) - 1)) (by kernel_rfl) ?_ ?_
    · intro w' hC
      go_simp
      first | done | (rw [IntKind.wrap_i64]; omega)
    try simp only [Act.put, List.setIfInBounds_toArray, List.set_cons_zero, List.set_cons_succ]
    by_cases h3 : 0 ≤ sf ∧ sf ≤ (fs.length : Int) - 1
    case neg =>
      have H3 : Hid (¬ (0 ≤ sf ∧ sf ≤ (fs.length : Int) - 1)) := h3
      clear h3
      refine q_want (v := .bool false) (by kernel_rfl) ?_ ?_
      · intro w' hC
        go_simp
        refine (between_no H3.out w').mono ?_
        rintro e w'' ⟨rfl, rfl⟩
        exact ⟨rfl, hC⟩
      try simp only [Act.put, List.setIfInBounds_toArray, List.set_cons_zero, List.set_cons_succ]
      iterate 3
        refine q_want (v := ?_) (by kernel_rfl) ?_ ?_
        rotate_left
        · intro w' hC
          go_simp
          try with_reducible rfl
        try simp only [Act.put, List.setIfInBounds_toArray, List.set_cons_zero, List.set_cons_succ]
      iterate 13 go_big_quiet_skip
      refine q_want (v := ?_) (by kernel_rfl) ?_ ?_
      rotate_left
      · intro w' hC
        go_simp
        try with_reducible rfl
      try simp only [Act.put, List.setIfInBounds_toArray, List.set_cons_zero, List.set_cons_succ]
      refine wpQuiet_nil ?_
      intro w2 q2
      go_wp2
      go_ret
      exact ⟨ret_bool (by rw [HP.out, pB_no (fun h => by have h := (h (j + 1) hlt).1; rw [HK.out] at h; obtain ⟨x1, -, x2, -⟩ := h; have := H3.out; dsimp only at x1 x2; omega)]), hbA.trans (q2.mono hbA.size)⟩
    have H3 : Hid (0 ≤ sf ∧ sf ≤ (fs.length : Int) - 1) := h3
    refine q_want (v := .bool true) (by kernel_rfl) ?_ ?_
    · intro w' hC
      go_simp
      refine (between_yes H3.out w').mono ?_
      rintro e w'' ⟨rfl, rfl⟩
      exact ⟨rfl, hC⟩
    try simp only [Act.put, List.setIfInBounds_toArray, List.set_cons_zero, List.set_cons_succ]
    obtain ⟨f, rfl⟩ : ∃ f : Nat, sf = f := ⟨sf.toNat, by omega⟩
    have hf : f < fs.length := by omega
    clear h3 H3
    obtain ⟨b2, off2, ca, cc, hae, -, -, -, e3, hcode⟩ := hm f hf
    have hcl := hc _ (List.getElem_mem hf)
    have HF : Hid (∀ w', Below wA.heap.size wA w' → w'.cell? ⟨b2, off2 + f * 3 + 2, none⟩ = some (.slice ca fs[f].code.length cc)) := fun w' q => cell_later q (cell_later hbA e3)
    subst hae
    clear e3
    iterate 3
      refine q_want (v := ?_) (by kernel_rfl) ?_ ?_
      rotate_left
      · intro w' hC
        go_simp
        try with_reducible rfl
      try simp only [Act.put, List.setIfInBounds_toArray, List.set_cons_zero, List.set_cons_succ]
    refine q_want (v := ?_) (by kernel_rfl) ?_ ?_
    rotate_left
    · intro w' hC
      go_simp
      try with_reducible rfl
    try simp only [Act.put, List.setIfInBounds_toArray, List.set_cons_zero, List.set_cons_succ]
    refine q_want (v := ?_) (by kernel_rfl) ?_ ?_
    rotate_left
    · intro w' hC
      obtain ⟨j0, j1, j2, j3, j4, j5⟩ := HS.out w' hC
      go_simp
      try with_reducible rfl
    try simp only [Act.put, List.setIfInBounds_toArray, List.set_cons_zero, List.set_cons_succ]
    refine q_want (v := ?_) (by kernel_rfl) ?_ ?_
    rotate_left
    · intro w' hC
      go_simp
      try with_reducible rfl
    try simp only [Act.put, List.setIfInBounds_toArray, List.set_cons_zero, List.set_cons_succ]
    refine q_want (v := ?_) (by kernel_rfl) ?_ ?_
    rotate_left
    · intro w' hC
      obtain ⟨j0, j1, j2, j3, j4, j5⟩ := HS.out w' hC
      go_simp
      try with_reducible rfl
    try simp only [Act.put, List.setIfInBounds_toArray, List.set_cons_zero, List.set_cons_succ]
    refine q_want (v := ?_) (by kernel_rfl) ?_ ?_
    rotate_left
    · intro w' hC
      go_simp
      try with_reducible rfl
    try simp only [Act.put, List.setIfInBounds_toArray, List.set_cons_zero, List.set_cons_succ]
    refine q_want (v := ?_) (by kernel_rfl) ?_ ?_
    rotate_left
    · intro w' hC
      obtain ⟨j0, j1, j2, j3, j4, j5⟩ := HS.out w' hC
      go_simp
      try with_reducible rfl
    try simp only [Act.put, List.setIfInBounds_toArray, List.set_cons_zero, List.set_cons_succ]
    have g1 : (0 : Int) ≤ (f : Int) := by omega
    have g2 : (f : Int) < (fs.length : Int) := by omega
    refine q_want (v := ?_) (by kernel_rfl) ?_ ?_
    rotate_left
    · intro w' hC
      go_simp
      try with_reducible rfl
    try simp only [Act.put, List.setIfInBounds_toArray, List.set_cons_zero, List.set_cons_succ]
    refine q_want (v := ?_) (by kernel_rfl) ?_ ?_
    rotate_left
    · intro w' hC
      go_simp
      try with_reducible rfl
    try simp only [Act.put, List.setIfInBounds_toArray, List.set_cons_zero, List.set_cons_succ]
    refine q_want (v := ?_) (by kernel_rfl) ?_ ?_
    rotate_left
    · intro w' hC
      have j0 := HF.out w' hC
      go_simp
      try with_reducible rfl
    try simp only [Act.put, List.setIfInBounds_toArray, List.set_cons_zero, List.set_cons_succ]
    refine q_want (v := ?_) (by kernel_rfl) ?_ ?_
    rotate_left
    · intro w' hC
      go_simp
      try with_reducible rfl
    try simp only [Act.put, List.setIfInBounds_toArray, List.set_cons_zero, List.set_cons_succ]
    refine q_want (v := .int .i64 ((fs[f].code.length : Int) - 1)) (by kernel_rfl) ?_ ?_
    · intro w' hC
      go_simp
      first | done | (rw [IntKind.wrap_i64]; omega)
    try simp only [Act.put, List.setIfInBounds_toArray, List.set_cons_zero, List.set_cons_succ]
    clear g1 g2
    by_cases h4 : 0 ≤ sp ∧ sp ≤ (fs[f].code.length : Int) - 1
    case neg =>
      have H4 : Hid (¬ (0 ≤ sp ∧ sp ≤ (fs[f].code.length : Int) - 1)) := h4
      clear h4
      refine q_want (v := .bool false) (by kernel_rfl) ?_ ?_
      · intro w' hC
        go_simp
        refine (between_no H4.out w').mono ?_
        rintro e w'' ⟨rfl, rfl⟩
        exact ⟨rfl, hC⟩
      try simp only [Act.put, List.setIfInBounds_toArray, List.set_cons_zero, List.set_cons_succ]
      iterate 2
        refine q_want (v := ?_) (by kernel_rfl) ?_ ?_
        rotate_left
        · intro w' hC
          go_simp
          try with_reducible rfl
        try simp only [Act.put, List.setIfInBounds_toArray, List.set_cons_zero, List.set_cons_succ]
      refine wpQuiet_nil ?_
      intro w2 q2
      go_wp2
      go_ret
      exact ⟨ret_bool (by rw [HP.out, pB_no (fun h => by have h := (h (j + 1) hlt).1; rw [HK.out] at h; obtain ⟨-, x1, x0, x2, -⟩ := h; have := H4.out; dsimp only at x1 x2; simp only [Int.toNat_natCast] at x2; omega)]), hbA.trans (q2.mono hbA.size)⟩
    have H4 : Hid (0 ≤ sp ∧ sp ≤ (fs[f].code.length : Int) - 1) := h4
    refine q_want (v := .bool true) (by kernel_rfl) ?_ ?_
    · intro w' hC
      go_simp
      refine (between_yes H4.out w').mono ?_
      rintro e w'' ⟨rfl, rfl⟩
      exact ⟨rfl, hC⟩
    try simp only [Act.put, List.setIfInBounds_toArray, List.set_cons_zero, List.set_cons_succ]
    obtain ⟨p, rfl⟩ : ∃ p : Nat, sp = p := ⟨sp.toNat, by omega⟩
    have hp : p < fs[f].code.length := by omega
    clear h4 H4
    obtain ⟨b3, off3, hce, -, e1, -⟩ := hcode p hp
    subst hce
    have hiff := site_iff (sn := sn) (tg := tg) hf hp
    obtain ⟨op, hop⟩ : ∃ op, op = fs[f].code[p].1 := ⟨_, rfl⟩
    rw [← hop] at e1 hiff
    have HI : Hid (SiteP fs ⟨f, p, sn, tg⟩ ↔ OpP fs.length op sn tg) := hiff
    have HO : Hid (∀ w', Below wA.heap.size wA w' → w'.cell? ⟨b3, off3 + p * 2, none⟩ = some (.int .i64 op)) := fun w' q => cell_later q (cell_later hbA e1)
    clear hiff hop e1 hcode
    iterate 2
      refine q_want (v := ?_) (by kernel_rfl) ?_ ?_
      rotate_left
      · intro w' hC
        go_simp
        try with_reducible rfl
      try simp only [Act.put, List.setIfInBounds_toArray, List.set_cons_zero, List.set_cons_succ]
    refine wpQuiet_nil ?_
    intro w2 q2
    go_upto_region 9 with fail
    have HS2 : Hid (∀ w', Below w2.heap.size w2 w' → w'.cell? ⟨w.heap.size, 1, none⟩ = some (.slice (some ⟨b2, off2, none⟩) fs.length c2) ∧ w'.cell? ⟨wr.heap.size, 0, none⟩ = some (.int .i64 (f : Int)) ∧ w'.cell? ⟨wr.heap.size, 1, none⟩ = some (.int .i64 (p : Int)) ∧ w'.cell? ⟨b2, off2 + f * 3 + 2, none⟩ = some (.slice (some ⟨b3, off3, none⟩) fs[f].code.length cc) ∧ w'.cell? ⟨b3, off3 + p * 2, none⟩ = some (.int .i64 op)) := fun w' q => by
      have q' := q2.trans (q.mono q2.size)
      obtain ⟨-, j1, j2, j3, -, -⟩ := HS.out w' q'
      exact ⟨j1, j2, j3, HF.out w' q', HO.out w' q'⟩
    refine wp_below (by kernel_rfl) (by kernel_rfl) ?_
    have g1 : (0 : Int) ≤ (f : Int) := by omega
    have g2 : (f : Int) < (fs.length : Int) := by omega
    have g3 : (0 : Int) ≤ (p : Int) := by omega
    have g4 : (p : Int) < (fs[f].code.length : Int) := by omega
    iterate 12
      refine q_want (v := ?_) (by kernel_rfl) ?_ ?_
      rotate_left
      · intro w' hC
        obtain ⟨j1, j2, j3, j4, j5⟩ := HS2.out w' hC
        go_simp
        try with_reducible rfl
      try simp only [Act.put, List.setIfInBounds_toArray, List.set_cons_zero, List.set_cons_succ]
    refine q_want (v := ?_) (by kernel_rfl) ?_ ?_
    rotate_left
    · intro w' hC
      go_simp
      try with_reducible rfl
    try simp only [Act.put, List.setIfInBounds_toArray, List.set_cons_zero, List.set_cons_succ]
    clear g1 g2 g3 g4
    refine wpQuiet_nil ?_
    intro w3 q3
    have Q3 := q2.trans (q3.mono q2.size)
    have HB3 : Hid (Below w.heap.size w w3) := hbA.trans (Q3.mono hbA.size)
    have hM3 := block_kept hMA Q3
    have HM3 : Hid (w3.heap[w.heap.size]? = some (.cells #[.slice a1 nt c1, .slice (some ⟨b2, off2, none⟩) fs.length c2] 40 (0, 0))) := hM3
    obtain ⟨y0, y1, y2, y3, y4, y5⟩ := HS.out w3 Q3
    clear hM3 q2 q3 Q3 hX hMA hbA hM hb HS HS2 HF HO HE
    by_cases hA : 11 ≤ op ∧ op ≤ 14 ∨ op = 23
    case neg =>
      have HA : Hid (¬ (11 ≤ op ∧ op ≤ 14 ∨ op = 23)) := hA
      go_wp2_with (first | (go_at_call 91; refine (is_no HA.out _).mono ?_; rintro e w' ⟨rfl, rfl⟩))
      go_ret
      exact ⟨ret_bool (by rw [HP.out, pB_no (fun h => by have h := (h (j + 1) hlt).1; rw [HK.out] at h; have h := HI.out.1 h; unfold OpP at h; omega)]), HB3.out⟩
    have HA : Hid (11 ≤ op ∧ op ≤ 14 ∨ op = 23) := hA
    by_cases hN : 1 ≤ sn ∧ sn ≤ 3
    case neg =>
      have HN : Hid (¬ (1 ≤ sn ∧ sn ≤ 3)) := hN
      go_wp2_with (first | (go_at_call 91; refine (is_yes HA.out _).mono ?_; rintro e w' ⟨rfl, rfl⟩) | (go_at_call_of 57 (Value.int IntKind.i64 sn); refine (between_no (lo := 1) (hi := 3) HN.out _).mono ?_; rintro e w' ⟨rfl, rfl⟩))
      go_ret
      exact ⟨ret_bool (by rw [HP.out, pB_no (fun h => by have h := (h (j + 1) hlt).1; rw [HK.out] at h; have h := HI.out.1 h; unfold OpP at h; omega)]), HB3.out⟩
    have HN : Hid (1 ≤ sn ∧ sn ≤ 3) := hN
    by_cases h23 : op = 23
    case pos =>
      subst h23
      by_cases hs1 : sn = 1
      case pos =>
        subst hs1
        by_cases hT : 0 ≤ tg ∧ tg ≤ (fs.length : Int) - 1
        case neg =>
          have HT : Hid (¬ (0 ≤ tg ∧ tg ≤ (fs.length : Int) - 1)) := hT
          go_wp2_with (first | (go_at_call 91; refine (is_yes HA.out _).mono ?_; rintro e w' ⟨rfl, rfl⟩) | (go_at_call_of 57 (Value.int IntKind.i64 tg); refine (between_no (lo := 0) (hi := (fs.length : Int) - 1) HT.out _).mono ?_; rintro e w' ⟨rfl, rfl⟩) | (go_at_call_of 57 (Value.int IntKind.i64 1); refine (between_yes (lo := 1) (hi := 3) HN.out _).mono ?_; rintro e w' ⟨rfl, rfl⟩))
          go_ret
          exact ⟨ret_bool (by rw [HP.out, pB_no (fun h => by have h := (h (j + 1) hlt).1; rw [HK.out] at h; have h := HI.out.1 h; unfold OpP at h; omega)]), HB3.out⟩
        have HT : Hid (0 ≤ tg ∧ tg ≤ (fs.length : Int) - 1) := hT
        have HG : Hid (OpP fs.length 23 1 tg) := .inl ⟨rfl, .inl ⟨rfl, hT.1, by omega⟩⟩
        go_wp2_with (first | (go_at_call 91; refine (is_yes HA.out _).mono ?_; rintro e w' ⟨rfl, rfl⟩) | (go_at_call_of 57 (Value.int IntKind.i64 tg); refine (between_yes (lo := 0) (hi := (fs.length : Int) - 1) HT.out _).mono ?_; rintro e w' ⟨rfl, rfl⟩) | (go_at_call_of 57 (Value.int IntKind.i64 1); refine (between_yes (lo := 1) (hi := 3) HN.out _).mono ?_; rintro e w' ⟨rfl, rfl⟩))
        go_roundw
        case rel => exact ⟨j + 1 + 1, by omega, by go_num, done_more hdone.out hlt ⟨by rw [HK.out]; exact HI.out.2 HG.out, HL.out⟩, HM3.out, HB3.out⟩
        case measure => simp [intOf]; omega
      by_cases ht : tg = 0
      case neg =>
        go_wp2_with (first | (go_at_call 91; refine (is_yes HA.out _).mono ?_; rintro e w' ⟨rfl, rfl⟩) | (go_at_call_of 57 (Value.int IntKind.i64 sn); refine (between_yes (lo := 1) (hi := 3) HN.out _).mono ?_; rintro e w' ⟨rfl, rfl⟩))
        go_ret
        exact ⟨ret_bool (by rw [HP.out, pB_no (fun h => by have h := (h (j + 1) hlt).1; rw [HK.out] at h; have h := HI.out.1 h; unfold OpP at h; omega)]), HB3.out⟩
      subst ht
      by_cases hs3 : sn = 3
      case pos =>
        subst hs3
        go_wp2_with (first | (go_at_call 91; refine (is_yes HA.out _).mono ?_; rintro e w' ⟨rfl, rfl⟩) | (go_at_call_of 57 (Value.int IntKind.i64 3); refine (between_yes (lo := 1) (hi := 3) HN.out _).mono ?_; rintro e w' ⟨rfl, rfl⟩))
        go_ret
        exact ⟨ret_bool (by rw [HP.out, pB_no (fun h => by have h := (h (j + 1) hlt).1; rw [HK.out] at h; have h := HI.out.1 h; unfold OpP at h; omega)]), HB3.out⟩
      have HG : Hid (OpP fs.length 23 sn 0) := .inl ⟨rfl, .inr ⟨by omega, rfl⟩⟩
      go_wp2_with (first | (go_at_call 91; refine (is_yes HA.out _).mono ?_; rintro e w' ⟨rfl, rfl⟩) | (go_at_call_of 57 (Value.int IntKind.i64 sn); refine (between_yes (lo := 1) (hi := 3) HN.out _).mono ?_; rintro e w' ⟨rfl, rfl⟩))
      go_roundw
      case rel => exact ⟨j + 1 + 1, by omega, by go_num, done_more hdone.out hlt ⟨by rw [HK.out]; exact HI.out.2 HG.out, HL.out⟩, HM3.out, HB3.out⟩
      case measure => simp [intOf]; omega
    by_cases ht : tg = 0
    case neg =>
      go_wp2_with (first | (go_at_call 91; refine (is_yes HA.out _).mono ?_; rintro e w' ⟨rfl, rfl⟩) | (go_at_call_of 57 (Value.int IntKind.i64 sn); refine (between_yes (lo := 1) (hi := 3) HN.out _).mono ?_; rintro e w' ⟨rfl, rfl⟩))
      go_ret
      exact ⟨ret_bool (by rw [HP.out, pB_no (fun h => by have h := (h (j + 1) hlt).1; rw [HK.out] at h; have h := HI.out.1 h; unfold OpP at h; omega)]), HB3.out⟩
    subst ht
    have HG : Hid (OpP fs.length op sn 0) := .inr ⟨by omega, by omega, hN.1, hN.2, rfl⟩
    go_wp2_with (first | (go_at_call 91; refine (is_yes HA.out _).mono ?_; rintro e w' ⟨rfl, rfl⟩) | (go_at_call_of 57 (Value.int IntKind.i64 sn); refine (between_yes (lo := 1) (hi := 3) HN.out _).mono ?_; rintro e w' ⟨rfl, rfl⟩))
    go_roundw
    case rel => exact ⟨j + 1 + 1, by omega, by go_num, done_more hdone.out hlt ⟨by rw [HK.out]; exact HI.out.2 HG.out, HL.out⟩, HM3.out, HB3.out⟩
    case measure => simp [intOf]; omega
end Go.Proofs.YtmmcockkbhnopaaGreat
