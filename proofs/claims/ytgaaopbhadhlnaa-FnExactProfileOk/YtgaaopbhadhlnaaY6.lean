/-
  sitesOk: each site of a list may have been watched, and each is ahead of the next.
-/
import Derived.Test.YtgaaopbhadhlnaaY5
import Derived.Test.YtgaaopbhadhlnaaYq
import Derived.Deep.CutRange
namespace Go.Proofs.Ytgaaopbhadhlnaa
open Go.RowKit

/-- What is asked of one site of a list. -/
def At (fs : List Fn) (ss : List Si) (i : Nat) (h : i < ss.length) : Prop := SiteP fs ss[i] ∧ (0 < i → SiteLess ss[i - 1] ss[i])
/-- What is asked of a list of sites, but their number. -/
def Prof (fs : List Fn) (ss : List Si) : Prop := ∀ i (h : i < ss.length), At fs ss i h

section
variable {a1 a2 : Option Addr} {nt c1 c2 : Nat} {fs : List Fn} {s : Si} {w : World}
theorem siteOk_yes (hc : ∀ f ∈ fs, f.code.length ≤ 1048576) (hm : FnsAt w 0 a2 fs) (h : SiteP fs s) :
    Calls Try.prog 34 #[.agg #[.slice a1 nt c1, .slice a2 fs.length c2], .agg #[.int .i64 s.f, .int .i64 s.pc, .int .i64 s.seen, .int .i64 s.target]] w fun e w' => e = .returned (.bool true) ∧ Below w.heap.size w w' := by
  have := siteOk_any a1 a2 nt c1 c2 fs s w hc hm
  rwa [pB_yes h] at this
theorem siteOk_no (hc : ∀ f ∈ fs, f.code.length ≤ 1048576) (hm : FnsAt w 0 a2 fs) (h : ¬ SiteP fs s) :
    Calls Try.prog 34 #[.agg #[.slice a1 nt c1, .slice a2 fs.length c2], .agg #[.int .i64 s.f, .int .i64 s.pc, .int .i64 s.seen, .int .i64 s.target]] w fun e w' => e = .returned (.bool false) ∧ Below w.heap.size w w' := by
  have := siteOk_any a1 a2 nt c1 c2 fs s w hc hm
  rwa [pB_no h] at this
end
theorem done_more {fs : List Fn} {ss : List Si} {k : Nat} (h : ∀ j (hj : j < ss.length), j < k → At fs ss j hj) (hlt : k < ss.length) (hk : At fs ss k hlt) : ∀ j (hj : j < ss.length), j < k + 1 → At fs ss j hj := by
  intro j hj hjk
  by_cases e : j = k
  · subst e; exact hk
  · exact h j hj (by omega)

set_option maxRecDepth 100000 in
set_option maxHeartbeats 1000000 in
theorem sitesOk_any (a1 a2 : Option Addr) (nt c1 c2 : Nat) (fs : List Fn) (a : Option Addr) (cap : Nat) (ss : List Si) (w : World) (hn : ss.length ≤ 150) (hc : ∀ f ∈ fs, f.code.length ≤ 1048576) (hm : FnsAt w 0 a2 fs) (hs : SitesAt w 0 a ss) :
    Calls Try.prog 24 #[.agg #[.slice a1 nt c1, .slice a2 fs.length c2], .slice a ss.length cap] w fun e w' => e = .returned (.bool (pB (Prof fs ss))) ∧ Below w.heap.size w w' := by
  go_enter Try.func24, Try.ntmps24
  go_wp2
  go_loopw [9] (fun i wr => ∃ (k : Nat), k ≤ ss.length ∧ i = .int .i64 k ∧ Hid (∀ j (hj : j < ss.length), j < k → At fs ss j hj) ∧ wr.heap[w.heap.size]? = some (.cells #[.slice a1 nt c1, .slice a2 fs.length c2] 32 (0, 0)) ∧ Below w.heap.size w wr) (fun i _ => ss.length - (intOf i).toNat)
  case atStart => exact ⟨0, by omega, rfl, fun _ _ h => absurd h (Nat.not_lt_zero _), block_new _ _ _, (Below.refl _ _).alloc (Nat.le_refl _) _⟩
  case round =>
    obtain ⟨k, hk, rfl, hdone, hM, hb⟩ := hrel
    by_cases hlt : k < ss.length
    · obtain ⟨b, off, rfl, -, d1, d2, d3, d4⟩ := hs k hlt
      obtain ⟨wA, hwA⟩ : ∃ wA, wA = wr.alloc (.cells #[.int .i64 ss[k].f, .int .i64 ss[k].pc, .int .i64 ss[k].seen, .int .i64 ss[k].target] 40) := ⟨_, rfl⟩
      have hX : wA.heap[wr.heap.size]? = some (.cells #[.int .i64 ss[k].f, .int .i64 ss[k].pc, .int .i64 ss[k].seen, .int .i64 ss[k].target] 40 (0, 0)) := by rw [hwA]; exact block_new _ _ _
      have hMA : wA.heap[w.heap.size]? = some (.cells #[.slice a1 nt c1, .slice a2 fs.length c2] 32 (0, 0)) := by rw [hwA]; exact block_old hM _
      have hbA : Below w.heap.size w wA := by rw [hwA]; exact hb.alloc hb.size _
      have d1' := cell_later hb d1
      have d2' := cell_later hb d2
      have d3' := cell_later hb d3
      have d4' := cell_later hb d4
      clear d1 d2 d3 d4
      go_upto_region 4 with fail
      rw [← hwA]
      clear hwA d1' d2' d3' d4'
      have HS : Hid (∀ w', Below wA.heap.size wA w' → w'.cell? ⟨w.heap.size, 0, none⟩ = some (.slice a1 nt c1) ∧ w'.cell? ⟨w.heap.size, 1, none⟩ = some (.slice a2 fs.length c2) ∧ w'.cell? ⟨wr.heap.size, 0, none⟩ = some (.int .i64 ss[k].f) ∧ w'.cell? ⟨wr.heap.size, 1, none⟩ = some (.int .i64 ss[k].pc) ∧ w'.cell? ⟨wr.heap.size, 2, none⟩ = some (.int .i64 ss[k].seen) ∧ w'.cell? ⟨wr.heap.size, 3, none⟩ = some (.int .i64 ss[k].target)) := fun w' q =>
        ⟨by rw [block_cell (block_kept hMA q)]; rfl, by rw [block_cell (block_kept hMA q)]; rfl, by rw [block_cell (block_kept hX q)]; rfl, by rw [block_cell (block_kept hX q)]; rfl, by rw [block_cell (block_kept hX q)]; rfl, by rw [block_cell (block_kept hX q)]; rfl⟩
      refine wp_below (by kernel_rfl) (by kernel_rfl) ?_
      iterate 2
        refine q_want (v := ?_) (by kernel_rfl) ?_ ?_
        rotate_left
        · intro w' hC
          obtain ⟨j0, j1, j2, j3, j4, j5⟩ := HS.out w' hC
          go_simp
          try with_reducible rfl
        try simp only [Act.put, List.setIfInBounds_toArray, List.set_cons_zero, List.set_cons_succ]
      by_cases h1 : SiteP fs ss[k]
      case neg =>
        refine q_want (v := .bool false) (by kernel_rfl) ?_ ?_
        · intro w' hC
          go_simp
          refine (siteOk_no (a1 := a1) (a2 := a2) (nt := nt) (c1 := c1) (c2 := c2) (s := ss[k]) (w := w') hc (hm.mono (hbA.trans (hC.mono hbA.size))) h1).mono ?_
          rintro e w'' ⟨rfl, hb2⟩
          exact ⟨rfl, hC.trans (hb2.mono hC.size)⟩
        try simp only [Act.put, List.setIfInBounds_toArray, List.set_cons_zero, List.set_cons_succ]
        iterate 2
          refine q_want (v := ?_) (by kernel_rfl) ?_ ?_
          rotate_left
          · intro w' hC
            go_simp
            try with_reducible rfl
          try simp only [Act.put, List.setIfInBounds_toArray, List.set_cons_zero, List.set_cons_succ]
        iterate 14 go_big_quiet_skip
        iterate 1
          refine q_want (v := ?_) (by kernel_rfl) ?_ ?_
          rotate_left
          · intro w' hC
            go_simp
            try with_reducible rfl
          try simp only [Act.put, List.setIfInBounds_toArray, List.set_cons_zero, List.set_cons_succ]
        refine wpQuiet_nil ?_
        intro w2 q2
        go_wp2
        go_ret
        exact ⟨ret_bool (pB_no (fun h => h1 (h k hlt).1)).symm, hbA.trans (q2.mono hbA.size)⟩
      refine q_want (v := .bool true) (by kernel_rfl) ?_ ?_
      · intro w' hC
        go_simp
        refine (siteOk_yes (a1 := a1) (a2 := a2) (nt := nt) (c1 := c1) (c2 := c2) (s := ss[k]) (w := w') hc (hm.mono (hbA.trans (hC.mono hbA.size))) h1).mono ?_
        rintro e w'' ⟨rfl, hb2⟩
        exact ⟨rfl, hC.trans (hb2.mono hC.size)⟩
      try simp only [Act.put, List.setIfInBounds_toArray, List.set_cons_zero, List.set_cons_succ]
      iterate 3
        refine q_want (v := ?_) (by kernel_rfl) ?_ ?_
        rotate_left
        · intro w' hC
          go_simp
          try with_reducible rfl
        try simp only [Act.put, List.setIfInBounds_toArray, List.set_cons_zero, List.set_cons_succ]
      by_cases hk0 : k = 0
      case pos =>
        subst hk0
        iterate 2
          refine q_want (v := ?_) (by kernel_rfl) ?_ ?_
          rotate_left
          · intro w' hC
            go_simp
            try with_reducible rfl
          try simp only [Act.put, List.setIfInBounds_toArray, List.set_cons_zero, List.set_cons_succ]
        iterate 10 go_big_quiet_skip
        iterate 2
          refine q_want (v := ?_) (by kernel_rfl) ?_ ?_
          rotate_left
          · intro w' hC
            go_simp
            try with_reducible rfl
          try simp only [Act.put, List.setIfInBounds_toArray, List.set_cons_zero, List.set_cons_succ]
        refine wpQuiet_nil ?_
        intro w2 q2
        go_wp2
        go_roundw
        case rel => exact ⟨1, by omega, rfl, done_more hdone.out hlt ⟨h1, fun h => absurd h (by omega)⟩, block_kept hMA q2, hbA.trans (q2.mono hbA.size)⟩
        case measure => simp [intOf]; omega
      obtain ⟨j, rfl⟩ : ∃ j, k = j + 1 := ⟨k - 1, by omega⟩
      have hj1 : j < ss.length := by omega
      obtain ⟨b', off', hbe, -, d1, d2, d3, d4⟩ := hs j hj1
      cases hbe
      have HE : Hid (∀ w', Below wA.heap.size wA w' → w'.cell? ⟨b, off + j * 4, none⟩ = some (.int .i64 ss[j].f) ∧ w'.cell? ⟨b, off + j * 4 + 1, none⟩ = some (.int .i64 ss[j].pc) ∧ w'.cell? ⟨b, off + j * 4 + 2, none⟩ = some (.int .i64 ss[j].seen) ∧ w'.cell? ⟨b, off + j * 4 + 3, none⟩ = some (.int .i64 ss[j].target)) := fun w' q =>
        ⟨cell_later q (cell_later hbA d1), cell_later q (cell_later hbA d2), cell_later q (cell_later hbA d3), cell_later q (cell_later hbA d4)⟩
      clear d1 d2 d3 d4
      refine q_want (v := .bool true) (by kernel_rfl) ?_ ?_
      · intro w' hC
        go_simp
        try omega
      try simp only [Act.put, List.setIfInBounds_toArray, List.set_cons_zero, List.set_cons_succ]
      iterate 3
        refine q_want (v := ?_) (by kernel_rfl) ?_ ?_
        rotate_left
        · intro w' hC
          go_simp
          try with_reducible rfl
        try simp only [Act.put, List.setIfInBounds_toArray, List.set_cons_zero, List.set_cons_succ]
      refine q_want (v := .int .i64 (j : Int)) (by kernel_rfl) ?_ ?_
      · intro w' hC
        go_simp
        (rw [IntKind.wrap_i64]; omega)
      try simp only [Act.put, List.setIfInBounds_toArray, List.set_cons_zero, List.set_cons_succ]
      have hj2 : (0 : Int) ≤ (j : Int) := by omega
      have hj3 : (j : Int) < (ss.length : Int) := by omega
      iterate 1
        refine q_want (v := ?_) (by kernel_rfl) ?_ ?_
        rotate_left
        · intro w' hC
          go_simp
          try with_reducible rfl
        try simp only [Act.put, List.setIfInBounds_toArray, List.set_cons_zero, List.set_cons_succ]
      iterate 1
        refine q_want (v := ?_) (by kernel_rfl) ?_ ?_
        rotate_left
        · intro w' hC
          obtain ⟨j0, j1, j2, j3⟩ := HE.out w' hC
          go_simp
          try with_reducible rfl
        try simp only [Act.put, List.setIfInBounds_toArray, List.set_cons_zero, List.set_cons_succ]
      refine q_want (v := .agg #[.int .i64 ss[j].f, .int .i64 ss[j].pc]) (by kernel_rfl) ?_ ?_
      · intro w' hC
        go_simp
        refine (placeOf_any ss[j].f ss[j].pc ss[j].seen ss[j].target w').mono ?_
        rintro e w'' ⟨rfl, hb2⟩
        exact ⟨rfl, hC.trans (hb2.mono hC.size)⟩
      try simp only [Act.put, List.setIfInBounds_toArray, List.set_cons_zero, List.set_cons_succ]
      iterate 1
        refine q_want (v := ?_) (by kernel_rfl) ?_ ?_
        rotate_left
        · intro w' hC
          obtain ⟨j0, j1, j2, j3, j4, j5⟩ := HS.out w' hC
          go_simp
          try with_reducible rfl
        try simp only [Act.put, List.setIfInBounds_toArray, List.set_cons_zero, List.set_cons_succ]
      refine q_want (v := .agg #[.int .i64 ss[j + 1].f, .int .i64 ss[j + 1].pc]) (by kernel_rfl) ?_ ?_
      · intro w' hC
        go_simp
        refine (placeOf_any ss[j + 1].f ss[j + 1].pc ss[j + 1].seen ss[j + 1].target w').mono ?_
        rintro e w'' ⟨rfl, hb2⟩
        exact ⟨rfl, hC.trans (hb2.mono hC.size)⟩
      try simp only [Act.put, List.setIfInBounds_toArray, List.set_cons_zero, List.set_cons_succ]
      refine q_want (v := .int .i64 (orI (cmpI ss[j].f ss[j + 1].f) (cmpI ss[j].pc ss[j + 1].pc))) (by kernel_rfl) ?_ ?_
      · intro w' hC
        go_simp
        refine (comparePlaces_any ss[j].f ss[j].pc ss[j + 1].f ss[j + 1].pc w').mono ?_
        rintro e w'' ⟨rfl, hb2⟩
        exact ⟨rfl, hC.trans (hb2.mono hC.size)⟩
      try simp only [Act.put, List.setIfInBounds_toArray, List.set_cons_zero, List.set_cons_succ]
      have hcl := cmp_less ss[j] ss[j + 1]
      by_cases h2 : SiteLess ss[j] ss[j + 1]
      case neg =>
        have hge : 0 ≤ orI (cmpI ss[j].f ss[j + 1].f) (cmpI ss[j].pc ss[j + 1].pc) := hcl.2 h2
        clear hcl
        refine q_want (v := .bool true) (by kernel_rfl) ?_ ?_
        · intro w' hC
          go_simp
          try omega
        try simp only [Act.put, List.setIfInBounds_toArray, List.set_cons_zero, List.set_cons_succ]
        iterate 2
          refine q_want (v := ?_) (by kernel_rfl) ?_ ?_
          rotate_left
          · intro w' hC
            go_simp
            try with_reducible rfl
          try simp only [Act.put, List.setIfInBounds_toArray, List.set_cons_zero, List.set_cons_succ]
        refine wpQuiet_nil ?_
        intro w2 q2
        go_wp2
        go_ret
        exact ⟨ret_bool (pB_no (fun h => h2 ((h (j + 1) hlt).2 (by omega)))).symm, hbA.trans (q2.mono hbA.size)⟩
      have hge : ¬ 0 ≤ orI (cmpI ss[j].f ss[j + 1].f) (cmpI ss[j].pc ss[j + 1].pc) := fun h => hcl.1 h h2
      clear hcl
      refine q_want (v := .bool false) (by kernel_rfl) ?_ ?_
      · intro w' hC
        go_simp
        try omega
      try simp only [Act.put, List.setIfInBounds_toArray, List.set_cons_zero, List.set_cons_succ]
      iterate 2
        refine q_want (v := ?_) (by kernel_rfl) ?_ ?_
        rotate_left
        · intro w' hC
          go_simp
          try with_reducible rfl
        try simp only [Act.put, List.setIfInBounds_toArray, List.set_cons_zero, List.set_cons_succ]
      refine wpQuiet_nil ?_
      intro w2 q2
      go_wp2
      go_roundw
      case rel => exact ⟨j + 1 + 1, by omega, by go_num, done_more hdone.out hlt ⟨h1, fun _ => h2⟩, block_kept hMA q2, hbA.trans (q2.mono hbA.size)⟩
      case measure => simp [intOf]; omega
    · have HD : Hid (Prof fs ss) := fun j hj => hdone.out j hj (by omega)
      go_wp2
      go_ret
      exact ⟨ret_bool (pB_yes HD.out).symm, hb⟩
end Go.Proofs.Ytgaaopbhadhlnaa
