/-
  sitesOk: each site of a list may have been watched, and each is ahead of the next.
-/
import Derived.Test.YtlohoolimejihaaGreatMV2
namespace Go.Proofs.YtlohoolimejihaaGreat
open Go.RowKit

/-- What is asked of one site of a list. -/
def At (fs : List Fn) (ss : List Si) (i : Nat) (h : i < ss.length) : Prop := SiteP fs ss[i] ∧ (0 < i → SiteLess ss[i - 1] ss[i])
/-- What is asked of a list of sites, but their number. -/
def Prof (fs : List Fn) (ss : List Si) : Prop := ∀ i (h : i < ss.length), At fs ss i h

section
variable {a1 a2 : Option Addr} {nt c1 c2 : Nat} {fs : List Fn} {s : Si} {w : World}
theorem siteOk_yes (hc : ∀ f ∈ fs, f.code.length ≤ 1048576) (hm : FnsAt w 0 a2 fs) (h : SiteP fs s) :
    Calls Tryz.prog 96 #[.agg #[.slice a1 nt c1, .slice a2 fs.length c2], .agg #[.int .i64 s.f, .int .i64 s.pc, .int .i64 s.seen, .int .i64 s.target]] w fun e w' => e = .returned (.bool true) ∧ Below w.heap.size w w' := by
  have := siteOk_any a1 a2 nt c1 c2 fs s w hc hm
  rwa [pB_yes h] at this
theorem siteOk_no (hc : ∀ f ∈ fs, f.code.length ≤ 1048576) (hm : FnsAt w 0 a2 fs) (h : ¬ SiteP fs s) :
    Calls Tryz.prog 96 #[.agg #[.slice a1 nt c1, .slice a2 fs.length c2], .agg #[.int .i64 s.f, .int .i64 s.pc, .int .i64 s.seen, .int .i64 s.target]] w fun e w' => e = .returned (.bool false) ∧ Below w.heap.size w w' := by
  have := siteOk_any a1 a2 nt c1 c2 fs s w hc hm
  rwa [pB_no h] at this
end

theorem prof_iff (fs : List Fn) (ss : List Si) : Prof fs ss ↔ (∀ i (h : i < ss.length), SiteP fs ss[i]) ∧ AscI ss :=
  ⟨fun h => ⟨fun i hi => (h i hi).1, fun i hi h0 => (h i hi).2 h0⟩, fun h i hi => ⟨h.1 i hi, fun h0 => h.2 i hi h0⟩⟩
theorem done_more {fs : List Fn} {ss : List Si} {k : Nat} (h : ∀ j (hj : j < ss.length), j < k → At fs ss j hj) (hlt : k < ss.length) (hk : At fs ss k hlt) : ∀ j (hj : j < ss.length), j < k + 1 → At fs ss j hj := by
  intro j hj hjk
  by_cases e : j = k
  · subst e; exact hk
  · exact h j hj (by omega)

set_option maxRecDepth 100000 in
set_option maxHeartbeats 1000000 in
theorem sitesOk_any (a1 a2 : Option Addr) (nt c1 c2 : Nat) (fs : List Fn) (a : Option Addr) (cap : Nat) (ss : List Si) (w : World) (hn : ss.length ≤ 150) (hc : ∀ f ∈ fs, f.code.length ≤ 1048576) (hm : FnsAt w 0 a2 fs) (hs : SitesAt w 0 a ss) :
    Calls Tryz.prog 68 #[.agg #[.slice a1 nt c1, .slice a2 fs.length c2], .slice a ss.length cap] w fun e w' => e = .returned (.bool (pB (Prof fs ss))) ∧ Below w.heap.size w w' := by
  go_enter Tryz.func68, Tryz.ntmps68
  go_wp2
  go_loopw [9] (fun i wr => ∃ (k : Nat), k ≤ ss.length ∧ i = .int .i64 k ∧ Hid (∀ j (hj : j < ss.length), j < k → SiteP fs ss[j]) ∧ wr.heap[w.heap.size]? = some (.cells #[.slice a1 nt c1, .slice a2 fs.length c2] 40 (0, 0)) ∧ Below w.heap.size w wr) (fun i _ => ss.length - (intOf i).toNat)
  case atStart => exact ⟨0, by omega, rfl, fun _ _ h => absurd h (Nat.not_lt_zero _), block_new _ _ _, (Below.refl _ _).alloc (Nat.le_refl _) _⟩
  case round =>
    obtain ⟨k, hk, rfl, hdone, hM, hb⟩ := hrel
    by_cases hlt : k < ss.length
    · obtain ⟨b, off, rfl, -, d1, d2, d3, d4⟩ := hs k hlt
      have d1' := cell_later hb d1
      have d2' := cell_later hb d2
      have d3' := cell_later hb d3
      have d4' := cell_later hb d4
      clear d1 d2 d3 d4
      have NB := block_old hM (.cells #[.int .i64 ss[k].f, .int .i64 ss[k].pc, .int .i64 ss[k].seen, .int .i64 ss[k].target] 68)
      have hbA : Below w.heap.size w (wr.alloc (.cells #[.int .i64 ss[k].f, .int .i64 ss[k].pc, .int .i64 ss[k].seen, .int .i64 ss[k].target] 68)) := hb.alloc hb.size _
      have m1 := block_cell NB
      obtain ⟨wA, hwA⟩ : ∃ wA, wA = wr.alloc (.cells #[.int .i64 ss[k].f, .int .i64 ss[k].pc, .int .i64 ss[k].seen, .int .i64 ss[k].target] 68) := ⟨_, rfl⟩
      rw [← hwA] at NB hbA
      by_cases h1 : SiteP fs ss[k]
      case neg =>
        have HN : Hid (¬ SiteP fs ss[k]) := h1
        clear h1
        go_wp2_with fail
        rw [← hwA]
        clear hwA
        refine (siteOk_no (a1 := a1) (a2 := a2) (nt := nt) (c1 := c1) (c2 := c2) (s := ss[k]) (w := wA) hc (hm.mono hbA) HN.out).mono ?_
        rintro e w2 ⟨rfl, hb2⟩
        go_wp2
        go_ret
        exact ⟨ret_bool (pB_no (fun h => HN.out ((prof_iff fs ss).1 h |>.1 k hlt))).symm, hbA.trans (hb2.mono hbA.size)⟩
      have HP : Hid (SiteP fs ss[k]) := h1
      clear h1
      go_wp2_with fail
      rw [← hwA]
      clear hwA
      refine (siteOk_yes (a1 := a1) (a2 := a2) (nt := nt) (c1 := c1) (c2 := c2) (s := ss[k]) (w := wA) hc (hm.mono hbA) HP.out).mono ?_
      rintro e w2 ⟨rfl, hb2⟩
      go_wp2
      go_roundw
      case rel =>
        refine ⟨k + 1, by omega, by go_num, ?_, block_kept NB hb2, hbA.trans (hb2.mono hbA.size)⟩
        intro j hj hjk
        by_cases e : j = k
        · subst e; exact HP.out
        · exact hdone.out j hj (by omega)
      case measure => simp [intOf]; omega
    · have HD : Hid (∀ i (h : i < ss.length), SiteP fs ss[i]) := fun i hi => hdone.out i hi (by omega)
      clear hdone hM
      go_wp2_with fail
      refine (ascSites_any a ss cap wr (by omega) (hs.mono hb)).mono ?_
      rintro e w2 ⟨rfl, hb2⟩
      have HB2 : Hid (Below w.heap.size w w2) := hb.trans (hb2.mono hb.size)
      go_wp2
      go_ret
      refine ⟨ret_bool ?_, HB2.out⟩
      by_cases h : AscI ss
      · rw [pB_yes h, pB_yes ((prof_iff fs ss).2 ⟨HD.out, h⟩)]
      · rw [pB_no h, pB_no (fun h' => h ((prof_iff fs ss).1 h').2)]
end Go.Proofs.YtlohoolimejihaaGreat
