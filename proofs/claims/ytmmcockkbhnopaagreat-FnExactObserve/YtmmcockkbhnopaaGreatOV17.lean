/-
  What impl.ModuleOk returns, for every module within the stated sizes.
  ascending, of sites and of guesses: each is ahead of the next.
  sitesOk: each site of a list may have been watched, and each is ahead of the next.
-/
import Derived.Test.YtmmcockkbhnopaaGreatOV15
import Derived.Test.YtmmcockkbhnopaaGreatOV16
import Derived.Test.YtmmcockkbhnopaaGreatOV11
import Derived.Deep.CutRange
namespace Go.Proofs.YtmmcockkbhnopaaGreat
open Go.RowKit

set_option maxHeartbeats 1000000 in
theorem iModuleOk_any (a1 a2 : Option Addr) (ts : List ByteArray) (fs : List Fn) (c1 c2 : Nat) (w : World) (hs : Small ts fs) (hm : StrsAt w 0 a1 ts) (hf : FnsAt w 0 a2 fs) :
    Calls Tryz.prog 98 #[.agg #[.slice a1 ts.length c1, .slice a2 fs.length c2]] w fun e w' => e = .returned (.bool (modB ts fs)) ∧ Below w.heap.size w w' := by
  have s1 := hs.texts
  have s2 := hs.funcs
  by_cases hh : 1 ≤ fs.length ∧ fs.length ≤ 12 ∧ ts.length ≤ 20
  · have HF : Hid (modB ts fs = (ts.all textB && fs.all fun f => fnB ts.length fs.length f)) := modB_all hh
    obtain ⟨g1, g2, g3⟩ := hh
    have hbA : Below w.heap.size w (w.alloc (.cells #[.slice a1 ts.length c1, .slice a2 fs.length c2] 40)) := (Below.refl _ _).alloc (Nat.le_refl _) _
    have hM0 := block_new w #[.slice a1 ts.length c1, .slice a2 fs.length c2] 40
    go_enter Tryz.func98, Tryz.ntmps98
    go_wp2
    go_loop [25] (fun i => ∃ (k : Nat), k ≤ ts.length ∧ i = .int .i64 k ∧ (ts.take k).all textB = true) (fun i => ts.length - (intOf i).toNat)
    case atStart => exact ⟨0, by omega, rfl, by simp⟩
    case round =>
      obtain ⟨k, hk, rfl, hall⟩ := hrel
      by_cases hlt : k < ts.length
      · obtain ⟨b, off, rfl, -, e1⟩ := hm k hlt
        have e1' := cell_later hbA e1
        have hts := hs.text ts[k] (List.getElem_mem hlt)
        clear e1 hM0
        by_cases hi : textB ts[k] = true
        · go_wp2_with (go_at_call 103; refine (textOk_any _ _ hts).mono ?_; rintro e w' ⟨rfl, rfl⟩)
          go_round
          case rel => exact ⟨k + 1, by omega, by go_num, all_take hlt hall hi⟩
          case measure => simp [intOf]; omega
        · have hi' : textB ts[k] = false := by simpa using hi
          have HN : Hid (modB ts fs = false) := by rw [HF.out, all_no hlt hi']; rfl
          clear hi
          go_wp2_with (go_at_call 103; refine (textOk_any _ _ hts).mono ?_; rintro e w' ⟨rfl, rfl⟩)
          go_ret
          exact ⟨ret_bool HN.out.symm, hbA⟩
      · have hall2 : ts.all textB = true := all_end (by omega) hall
        have HF2 : Hid (modB ts fs = fs.all fun f => fnB ts.length fs.length f) := by rw [HF.out, hall2]; rfl
        clear hall hall2
        go_wp2
        go_loopw [36] (fun i wr => ∃ (k : Nat), k ≤ fs.length ∧ i = .int .i64 k ∧ (fs.take k).all (fun f => fnB ts.length fs.length f) = true ∧ wr.heap[w.heap.size]? = some (.cells #[.slice a1 ts.length c1, .slice a2 fs.length c2] 40 (0, 0)) ∧ Below w.heap.size w wr) (fun i _ => fs.length - (intOf i).toNat)
        case atStart => exact ⟨0, by omega, rfl, by simp, hM0, hbA⟩
        case round =>
          obtain ⟨q, hq, rfl, hallf, hM, hb⟩ := hrel
          clear hM0
          by_cases hlq : q < fs.length
          · have x1 := block_cell hM
            have hcq := hs.code fs[q] (List.getElem_mem hlq)
            go_wp2_with fail
            refine (funcOk_any a1 a2 ts.length c1 c2 fs q _ hlq (hf.mono hb) hcq).mono ?_
            rintro e w2 ⟨rfl, hb2⟩
            have hM2 := block_kept hM hb2
            have hb3 : Below w.heap.size w w2 := hb.trans (hb2.mono hb.size)
            clear x1 hb2
            by_cases hi : fnB ts.length fs.length fs[q] = true
            · go_wp2
              go_roundw
              case rel => exact ⟨q + 1, by omega, by go_num, all_take (p := fun f => fnB ts.length fs.length f) hlq hallf hi, hM2, hb3⟩
              case measure => simp [intOf]; omega
            · have hi' : fnB ts.length fs.length fs[q] = false := by simpa using hi
              have HN : Hid (modB ts fs = false) := by rw [HF2.out]; exact all_no (p := fun f => fnB ts.length fs.length f) hlq hi'
              clear hi
              go_wp2
              go_ret
              exact ⟨ret_bool HN.out.symm, hb3⟩
          · go_wp2
            go_ret
            exact ⟨ret_bool (by rw [HF2.out]; exact (all_end (by omega) hallf).symm), hb⟩
  · have HF : Hid (modB ts fs = false) := modB_no hh
    rcases (show 20 < (ts.length : Int) ∨ ((ts.length : Int) ≤ 20 ∧ (fs.length : Int) < 1) ∨ ((ts.length : Int) ≤ 20 ∧ 1 ≤ (fs.length : Int) ∧ 12 < (fs.length : Int)) by omega) with h | ⟨h, h2⟩ | ⟨h, h2, h3⟩
    all_goals
      clear hh
      go_enter Tryz.func98, Tryz.ntmps98
      go_wp2
      go_ret
      exact ⟨ret_bool HF.out.symm, (Below.refl _ _).alloc (Nat.le_refl _) _⟩
end Go.Proofs.YtmmcockkbhnopaaGreat

namespace Go.Proofs.YtmmcockkbhnopaaGreat
open Go.RowKit

/-- Each is ahead of the next. -/
def AscI (ss : List Si) : Prop := ∀ i (h : i < ss.length), 0 < i → SiteLess ss[i - 1] ss[i]

set_option maxRecDepth 100000 in
set_option maxHeartbeats 2000000 in
theorem ascSites_any (a : Option Addr) (ss : List Si) (cap : Nat) (w : World) (hn : ss.length ≤ 1048576) (hs : SitesAt w 0 a ss) :
    Calls Tryz.prog 97 #[.slice a ss.length cap, .func (.func 76) #[] #[]] w fun e w' => e = .returned (.bool (pB (AscI ss))) ∧ Below w.heap.size w w' := by
  go_enter Tryz.func97, Tryz.ntmps97
  go_wp2
  go_loopw [5] (fun i wr => ∃ (k : Nat), 1 ≤ k ∧ (k ≤ ss.length ∨ k = 1) ∧ i = .int .i64 k ∧ Hid (∀ j (hj : j < ss.length), j < k → 0 < j → SiteLess ss[j - 1] ss[j]) ∧ Below w.heap.size w wr) (fun i _ => ss.length + 1 - (intOf i).toNat)
  case atStart => exact ⟨1, by omega, by omega, rfl, fun j _ h1 h2 => absurd h1 (by omega), Below.refl _ _⟩
  case round =>
    obtain ⟨k, hk1, hk, rfl, hdone, hb⟩ := hrel
    by_cases hlt : k < ss.length
    case neg =>
      have HD : Hid (AscI ss) := fun j hj h0 => hdone.out j hj (by omega) h0
      clear hdone
      go_wp2
      go_ret
      exact ⟨ret_bool (pB_yes HD.out).symm, hb⟩
    case pos =>
      obtain ⟨j, rfl⟩ : ∃ j, k = j + 1 := ⟨k - 1, by omega⟩
      have hj1 : j < ss.length := by omega
      obtain ⟨b, off, rfl, -, d1, d2, d3, d4⟩ := hs (j + 1) hlt
      obtain ⟨b', off', hbe, -, e1, e2, e3, e4⟩ := hs j hj1
      cases hbe
      have HF : Hid (∀ w', Below wr.heap.size wr w' → w'.cell? ⟨b, off + (j + 1) * 4, none⟩ = some (.int .i64 ss[j + 1].f) ∧ w'.cell? ⟨b, off + (j + 1) * 4 + 1, none⟩ = some (.int .i64 ss[j + 1].pc) ∧ w'.cell? ⟨b, off + (j + 1) * 4 + 2, none⟩ = some (.int .i64 ss[j + 1].seen) ∧ w'.cell? ⟨b, off + (j + 1) * 4 + 3, none⟩ = some (.int .i64 ss[j + 1].target)) := fun w' q =>
        ⟨cell_later q (cell_later hb d1), cell_later q (cell_later hb d2), cell_later q (cell_later hb d3), cell_later q (cell_later hb d4)⟩
      have HE : Hid (∀ w', Below wr.heap.size wr w' → w'.cell? ⟨b, off + j * 4, none⟩ = some (.int .i64 ss[j].f) ∧ w'.cell? ⟨b, off + j * 4 + 1, none⟩ = some (.int .i64 ss[j].pc) ∧ w'.cell? ⟨b, off + j * 4 + 2, none⟩ = some (.int .i64 ss[j].seen) ∧ w'.cell? ⟨b, off + j * 4 + 3, none⟩ = some (.int .i64 ss[j].target)) := fun w' q =>
        ⟨cell_later q (cell_later hb e1), cell_later q (cell_later hb e2), cell_later q (cell_later hb e3), cell_later q (cell_later hb e4)⟩
      clear d1 d2 d3 d4 e1 e2 e3 e4 hs
      have hC0 : 0 ≤ orI (cmpI ss[j].f ss[j + 1].f) (cmpI ss[j].pc ss[j + 1].pc) ↔ ¬ SiteLess ss[j] ss[j + 1] := cmp_less ss[j] ss[j + 1]
      obtain ⟨cr, hcr⟩ : ∃ cr, cr = orI (cmpI ss[j].f ss[j + 1].f) (cmpI ss[j].pc ss[j + 1].pc) := ⟨_, rfl⟩
      rw [← hcr] at hC0
      have HC0 : Hid (0 ≤ cr ↔ ¬ SiteLess ss[j] ss[j + 1]) := hC0
      have HCR : Hid (cr = orI (cmpI ss[j].f ss[j + 1].f) (cmpI ss[j].pc ss[j + 1].pc)) := hcr
      clear hC0 hcr
      go_upto_region 4 with fail
      refine wp_below (by kernel_rfl) (by kernel_rfl) ?_
      iterate 3
        refine q_want (v := ?_) (by kernel_rfl) ?_ ?_
        rotate_left
        · intro w' hC
          obtain ⟨j0, j1, j2, j3⟩ := HE.out w' hC
          go_simp
          try with_reducible rfl
        try simp only [Act.put, List.setIfInBounds_toArray, List.set_cons_zero, List.set_cons_succ]
      refine q_want (v := .int .i64 (j : Int)) (by kernel_rfl) ?_ ?_
      · intro w' hC
        go_simp
        (rw [IntKind.wrap_i64]; omega)
      try simp only [Act.put, List.setIfInBounds_toArray, List.set_cons_zero, List.set_cons_succ]
      have hj2 : (0 : Int) ≤ (j : Int) := by omega
      have hj3 : (j : Int) < (ss.length : Int) := by omega
      have hj4 : (0 : Int) ≤ (j : Int) + 1 := by omega
      have hj5 : (j : Int) + 1 < (ss.length : Int) := by omega
      have hj6 : ((j : Int) + 1).toNat = j + 1 := by omega
      iterate 2
        refine q_want (v := ?_) (by kernel_rfl) ?_ ?_
        rotate_left
        · intro w' hC
          obtain ⟨j0, j1, j2, j3⟩ := HE.out w' hC
          go_simp
          try with_reducible rfl
        try simp only [Act.put, List.setIfInBounds_toArray, List.set_cons_zero, List.set_cons_succ]
      refine q_want (v := .agg #[.int .i64 ss[j].f, .int .i64 ss[j].pc]) (by kernel_rfl) ?_ ?_
      · intro w' hC
        go_simp
        refine (placeOf_any _ _ _ _ w').mono ?_
        rintro e w'' ⟨rfl, hb2⟩
        exact ⟨rfl, hC.trans (hb2.mono hC.size)⟩
      try simp only [Act.put, List.setIfInBounds_toArray, List.set_cons_zero, List.set_cons_succ]
      iterate 5
        refine q_want (v := ?_) (by kernel_rfl) ?_ ?_
        rotate_left
        · intro w' hC
          obtain ⟨j0, j1, j2, j3⟩ := HF.out w' hC
          go_simp
          try with_reducible rfl
        try simp only [Act.put, List.setIfInBounds_toArray, List.set_cons_zero, List.set_cons_succ]
      refine q_want (v := .agg #[.int .i64 ss[j + 1].f, .int .i64 ss[j + 1].pc]) (by kernel_rfl) ?_ ?_
      · intro w' hC
        go_simp
        refine (placeOf_any _ _ _ _ w').mono ?_
        rintro e w'' ⟨rfl, hb2⟩
        exact ⟨rfl, hC.trans (hb2.mono hC.size)⟩
      try simp only [Act.put, List.setIfInBounds_toArray, List.set_cons_zero, List.set_cons_succ]
      refine q_want (v := .int .i64 cr) (by kernel_rfl) ?_ ?_
      · intro w' hC
        go_simp
        refine (comparePlaces_any _ _ _ _ w').mono ?_
        rintro e w'' ⟨rfl, hb2⟩
        exact ⟨by rw [HCR.out], hC.trans (hb2.mono hC.size)⟩
      try simp only [Act.put, List.setIfInBounds_toArray, List.set_cons_zero, List.set_cons_succ]
      by_cases h0 : 0 ≤ cr
      · have HX : Hid (¬ SiteLess ss[j] ss[j + 1]) := HC0.out.1 h0
        iterate 1
          refine q_want (v := ?_) (by kernel_rfl) ?_ ?_
          rotate_left
          · intro w' hC
            go_simp
            try with_reducible rfl
          try simp only [Act.put, List.setIfInBounds_toArray, List.set_cons_zero, List.set_cons_succ]
        refine wpQuiet_nil ?_
        intro w2 q2
        go_wp2
        go_ret
        exact ⟨ret_bool (pB_no (fun h => HX.out (by simpa using h (j + 1) hlt (by omega)))).symm, hb.trans (q2.mono hb.size)⟩
      · have HX : Hid (SiteLess ss[j] ss[j + 1]) := Classical.byContradiction (fun h => h0 (HC0.out.2 h))
        iterate 1
          refine q_want (v := ?_) (by kernel_rfl) ?_ ?_
          rotate_left
          · intro w' hC
            go_simp
            try with_reducible rfl
          try simp only [Act.put, List.setIfInBounds_toArray, List.set_cons_zero, List.set_cons_succ]
        refine wpQuiet_nil ?_
        intro w2 q2
        go_wp2
        go_roundw
        case rel =>
          refine ⟨j + 1 + 1, by omega, by omega, by go_num, ?_, hb.trans (q2.mono hb.size)⟩
          intro i hi h1 h2
          by_cases e : i = j + 1
          · subst e; exact HX.out
          · exact hdone.out i hi (by omega) h2
        case measure => simp [intOf]; omega

end Go.Proofs.YtmmcockkbhnopaaGreat

namespace Go.Proofs.YtmmcockkbhnopaaGreat
open Go.RowKit

/-- What is asked of one site of a list. -/
def At (fs : List Fn) (ss : List Si) (i : Nat) (h : i < ss.length) : Prop := SiteP fs ss[i] ∧ (0 < i → SiteLess ss[i - 1] ss[i])
/-- What is asked of a list of sites, but their number. -/
def Prof (fs : List Fn) (ss : List Si) : Prop := ∀ i (h : i < ss.length), At fs ss i h

section
variable {a1 a2 : Option Addr} {nt c1 c2 : Nat} {fs : List Fn} {s : Si} {w : World}
theorem siteOk_yes (hc : ∀ f ∈ fs, f.code.length ≤ 1048576) (hm : FnsAt w 0 a2 fs) (h : SiteP fs s) :
    Calls Tryz.prog 96 #[.agg #[.slice a1 nt c1, .slice a2 fs.length c2], .agg #[.int .i64 s.f, .int .i64 s.pc, .int .i64 s.seen, .int .i64 s.target]] w fun e w' => e = .returned (.bool true) ∧ Below w.heap.size w w' := by
  have := siteOk_any a1 a2 nt c1 c2 fs s w hc hm
  rwa [pB_yes h] at this
theorem siteOk_no (hc : ∀ f ∈ fs, f.code.length ≤ 1048576) (hm : FnsAt w 0 a2 fs) (h : ¬ SiteP fs s) :
    Calls Tryz.prog 96 #[.agg #[.slice a1 nt c1, .slice a2 fs.length c2], .agg #[.int .i64 s.f, .int .i64 s.pc, .int .i64 s.seen, .int .i64 s.target]] w fun e w' => e = .returned (.bool false) ∧ Below w.heap.size w w' := by
  have := siteOk_any a1 a2 nt c1 c2 fs s w hc hm
  rwa [pB_no h] at this
end

theorem prof_iff (fs : List Fn) (ss : List Si) : Prof fs ss ↔ (∀ i (h : i < ss.length), SiteP fs ss[i]) ∧ AscI ss :=
  ⟨fun h => ⟨fun i hi => (h i hi).1, fun i hi h0 => (h i hi).2 h0⟩, fun h i hi => ⟨h.1 i hi, fun h0 => h.2 i hi h0⟩⟩
theorem done_more {fs : List Fn} {ss : List Si} {k : Nat} (h : ∀ j (hj : j < ss.length), j < k → At fs ss j hj) (hlt : k < ss.length) (hk : At fs ss k hlt) : ∀ j (hj : j < ss.length), j < k + 1 → At fs ss j hj := by
  intro j hj hjk
  by_cases e : j = k
  · subst e; exact hk
  · exact h j hj (by omega)

set_option maxRecDepth 100000 in
set_option maxHeartbeats 1000000 in
theorem sitesOk_any (a1 a2 : Option Addr) (nt c1 c2 : Nat) (fs : List Fn) (a : Option Addr) (cap : Nat) (ss : List Si) (w : World) (hn : ss.length ≤ 150) (hc : ∀ f ∈ fs, f.code.length ≤ 1048576) (hm : FnsAt w 0 a2 fs) (hs : SitesAt w 0 a ss) :
    Calls Tryz.prog 68 #[.agg #[.slice a1 nt c1, .slice a2 fs.length c2], .slice a ss.length cap] w fun e w' => e = .returned (.bool (pB (Prof fs ss))) ∧ Below w.heap.size w w' := by
  go_enter Tryz.func68, Tryz.ntmps68
  go_wp2
  go_loopw [9] (fun i wr => ∃ (k : Nat), k ≤ ss.length ∧ i = .int .i64 k ∧ Hid (∀ j (hj : j < ss.length), j < k → SiteP fs ss[j]) ∧ wr.heap[w.heap.size]? = some (.cells #[.slice a1 nt c1, .slice a2 fs.length c2] 40 (0, 0)) ∧ Below w.heap.size w wr) (fun i _ => ss.length - (intOf i).toNat)
  case atStart => exact ⟨0, by omega, rfl, fun _ _ h => absurd h (Nat.not_lt_zero _), block_new _ _ _, (Below.refl _ _).alloc (Nat.le_refl _) _⟩
  case round =>
    obtain ⟨k, hk, rfl, hdone, hM, hb⟩ := hrel
    by_cases hlt : k < ss.length
    · obtain ⟨b, off, rfl, -, d1, d2, d3, d4⟩ := hs k hlt
      have d1' := cell_later hb d1
      have d2' := cell_later hb d2
      have d3' := cell_later hb d3
      have d4' := cell_later hb d4
      clear d1 d2 d3 d4
      have NB := block_old hM (.cells #[.int .i64 ss[k].f, .int .i64 ss[k].pc, .int .i64 ss[k].seen, .int .i64 ss[k].target] 68)
      have hbA : Below w.heap.size w (wr.alloc (.cells #[.int .i64 ss[k].f, .int .i64 ss[k].pc, .int .i64 ss[k].seen, .int .i64 ss[k].target] 68)) := hb.alloc hb.size _
      have m1 := block_cell NB
      obtain ⟨wA, hwA⟩ : ∃ wA, wA = wr.alloc (.cells #[.int .i64 ss[k].f, .int .i64 ss[k].pc, .int .i64 ss[k].seen, .int .i64 ss[k].target] 68) := ⟨_, rfl⟩
      rw [← hwA] at NB hbA
      by_cases h1 : SiteP fs ss[k]
      case neg =>
        have HN : Hid (¬ SiteP fs ss[k]) := h1
        clear h1
        go_wp2_with fail
        rw [← hwA]
        clear hwA
        refine (siteOk_no (a1 := a1) (a2 := a2) (nt := nt) (c1 := c1) (c2 := c2) (s := ss[k]) (w := wA) hc (hm.mono hbA) HN.out).mono ?_
        rintro e w2 ⟨rfl, hb2⟩
        go_wp2
        go_ret
        exact ⟨ret_bool (pB_no (fun h => HN.out ((prof_iff fs ss).1 h |>.1 k hlt))).symm, hbA.trans (hb2.mono hbA.size)⟩
      have HP : Hid (SiteP fs ss[k]) := h1
      clear h1
      go_wp2_with fail
      rw [← hwA]
      clear hwA
      refine (siteOk_yes (a1 := a1) (a2 := a2) (nt := nt) (c1 := c1) (c2 := c2) (s := ss[k]) (w := wA) hc (hm.mono hbA) HP.out).mono ?_
      rintro e w2 ⟨rfl, hb2⟩
      go_wp2
      go_roundw
      case rel =>
        refine ⟨k + 1, by omega, by go_num, ?_, block_kept NB hb2, hbA.trans (hb2.mono hbA.size)⟩
        intro j hj hjk
        by_cases e : j = k
        · subst e; exact HP.out
        · exact hdone.out j hj (by omega)
      case measure => simp [intOf]; omega
    · have HD : Hid (∀ i (h : i < ss.length), SiteP fs ss[i]) := fun i hi => hdone.out i hi (by omega)
      clear hdone hM
      go_wp2_with fail
      refine (ascSites_any a ss cap wr (by omega) (hs.mono hb)).mono ?_
      rintro e w2 ⟨rfl, hb2⟩
      have HB2 : Hid (Below w.heap.size w w2) := hb.trans (hb2.mono hb.size)
      go_wp2
      go_ret
      refine ⟨ret_bool ?_, HB2.out⟩
      by_cases h : AscI ss
      · rw [pB_yes h, pB_yes ((prof_iff fs ss).2 ⟨HD.out, h⟩)]
      · rw [pB_no h, pB_no (fun h' => h ((prof_iff fs ss).1 h').2)]
end Go.Proofs.YtmmcockkbhnopaaGreat
