/-
  Acts that came in: how many, copied, compared.
-/
import Derived.Test.YtedjabgkdogkfaaDoorAC2
namespace Go.Proofs.YtedjabgkdogkfaaDoor
open Go.RowKit

theorem SitesAt.set {w : World} {lo : Nat} {a : Option Addr} {ss : List Si} (h : SitesAt w lo a ss) {p : Addr} (hp : p.block < lo) (v : Value) : SitesAt (w.setCell p v) lo a ss := fun i hi => by
  obtain ⟨b, off, h1, h2, h3, h4, h5, h6⟩ := h i hi
  have e : ∀ j, (w.setCell p v).cell? ⟨b, j, none⟩ = w.cell? ⟨b, j, none⟩ := fun j => by
    unfold World.cell?
    rw [Below.heap_setCell _ _ _ _ (by show b ≠ p.block; omega)]
  exact ⟨b, off, h1, h2, by rw [e]; exact h3, by rw [e]; exact h4, by rw [e]; exact h5, by rw [e]; exact h6⟩
theorem stored6 {w : World} {g : Nat} {x0 x1 x2 x3 x4 x5 a b c d e f : Value} {t : TypeId} (h : w.heap[g]? = some (.cells #[x0, x1, x2, x3, x4, x5] t (0, 0))) : ((((((w.setCell ⟨g, 0, none⟩ a).setCell ⟨g, 1, none⟩ b).setCell ⟨g, 2, none⟩ c).setCell ⟨g, 3, none⟩ d).setCell ⟨g, 4, none⟩ e).setCell ⟨g, 5, none⟩ f).heap[g]? = some (.cells #[a, b, c, d, e, f] t (0, 0)) := by
  have := block_set (i := 5) (block_set (i := 4) (block_set (i := 3) (block_set (i := 2) (block_set (i := 1) (block_set (i := 0) h a) b) c) d) e) f
  simpa using this
theorem szAct_any (k a b l : Int) (s : Bool) (sa : Option Addr) (n cap : Nat) (left : Int) (w : World) (h0 : 0 ≤ left) (h1 : left ≤ 1048576) (hn : n ≤ maxLen) :
    Calls Tryd.prog 9 #[.agg #[.int .i64 k, .int .i64 a, .int .i64 b, .int .i64 l, .bool s, .slice sa n cap], .int .i64 left] w fun e w' => e = .returned (.int .i64 (if left < n then -1 else left - n)) ∧ Below w.heap.size w w' := by
  have n0 := block_cell (block_new w #[.int .i64 k, .int .i64 a, .int .i64 b, .int .i64 l, .bool s, .slice sa n cap] 32)
  have HB := hid (show Below w.heap.size w (w.alloc (.cells #[.int .i64 k, .int .i64 a, .int .i64 b, .int .i64 l, .bool s, .slice sa n cap] 32)) from (Below.refl _ _).alloc (Nat.le_refl _) _)
  go_enter Tryd.func9, Tryd.ntmps9
  go_wp2_with fail
  refine (szSiteS_any sa n cap left _ h0 h1 hn).mono ?_
  rintro e w1 ⟨rfl, hw1⟩
  rw [hw1]
  clear hw1 w1
  by_cases h : left < n
  · rw [if_pos h]
    go_wp2
    go_ret
    exact ⟨rfl, HB.out⟩
  · rw [if_neg h]
    have h2 : ¬ left - (n : Int) < 0 := by omega
    go_wp2
    go_ret
    exact ⟨rfl, HB.out⟩

set_option maxRecDepth 100000 in
set_option maxHeartbeats 4000000 in
theorem toAct_any (k a b l : Int) (s : Bool) (sa : Option Addr) (ss : List Si) (cap : Nat) (w : World) (hn : ss.length ≤ 1048576) (hm : SitesAt w 0 sa ss) :
    Calls Tryd.prog 12 #[.agg #[.int .i64 k, .int .i64 a, .int .i64 b, .int .i64 l, .bool s, .slice sa ss.length cap]] w fun e w' => ∃ g, w.heap.size ≤ g ∧ e = .returned (.agg #[.int .i64 k, .int .i64 a, .int .i64 b, .int .i64 l, .bool s, .slice (some ⟨g, 0, none⟩) ss.length ss.length]) ∧ SitesAt w' g (some ⟨g, 0, none⟩) ss ∧ Below w.heap.size w w' := by
  obtain ⟨W, hW⟩ : ∃ W, W = ((w.alloc (.cells #[.int .i64 k, .int .i64 a, .int .i64 b, .int .i64 l, .bool s, .slice sa ss.length cap] 32)).alloc (.cells #[.int .i64 0, .int .i64 0, .int .i64 0, .int .i64 0, .bool false, .slice none 0 0] 37)).alloc (.cells #[.int .i64 k, .int .i64 a, .int .i64 b, .int .i64 l, .bool s, .slice none 0 0] 37) := ⟨_, rfl⟩
  have hb : Below w.heap.size w W := by rw [hW]; exact (((Below.refl _ _).alloc (Nat.le_refl _) _).alloc (by simp) _).alloc (by simp; omega) _
  have b0 : W.heap[w.heap.size]? = some (.cells #[.int .i64 k, .int .i64 a, .int .i64 b, .int .i64 l, .bool s, .slice sa ss.length cap] 32 (0, 0)) := by rw [hW]; exact block_old (block_old (block_new _ _ _) _) _
  have b1 : W.heap[w.heap.size + 1]? = some (.cells #[.int .i64 0, .int .i64 0, .int .i64 0, .int .i64 0, .bool false, .slice none 0 0] 37 (0, 0)) := by rw [hW]; exact block_old (by simpa using block_new (w.alloc (.cells #[.int .i64 k, .int .i64 a, .int .i64 b, .int .i64 l, .bool s, .slice sa ss.length cap] 32)) #[.int .i64 0, .int .i64 0, .int .i64 0, .int .i64 0, .bool false, .slice none 0 0] 37) _
  have b2 : W.heap[w.heap.size + 1 + 1]? = some (.cells #[.int .i64 k, .int .i64 a, .int .i64 b, .int .i64 l, .bool s, .slice none 0 0] 37 (0, 0)) := by rw [hW]; simpa using block_new ((w.alloc (.cells #[.int .i64 k, .int .i64 a, .int .i64 b, .int .i64 l, .bool s, .slice sa ss.length cap] 32)).alloc (.cells #[.int .i64 0, .int .i64 0, .int .i64 0, .int .i64 0, .bool false, .slice none 0 0] 37)) #[.int .i64 k, .int .i64 a, .int .i64 b, .int .i64 l, .bool s, .slice none 0 0] 37
  have m0 := block_cell b0
  have hmW := hm.mono hb
  clear hm b0
  go_enter Tryd.func12, Tryd.ntmps12
  go_upto_region 7 with fail
  rw [← hW]
  clear hW
  go_wp2_with fail
  refine (toSiteS_any sa ss cap W hn hmW).mono ?_
  rintro e w1 ⟨rfl, hs1, hb1⟩
  have c1 := block_kept b1 hb1
  have c2 := block_kept b2 hb1
  have hbw := hb.trans (hb1.mono hb.size)
  obtain ⟨g, hg⟩ : ∃ g, g = W.heap.size := ⟨_, rfl⟩
  rw [← hg] at hs1 ⊢
  have hgW : w.heap.size + 1 + 1 < g := by rw [hg]; have := Array.getElem?_eq_some_iff.1 b2; obtain ⟨h, -⟩ := this; exact h
  have hgl : w.heap.size ≤ g := by omega
  clear hg b1 b2 hb1 hb m0 hmW
  have d2 := block_set (i := 5) c2 (.slice (some ⟨g, 0, none⟩) ss.length ss.length)
  have d1 : (w1.setCell ⟨w.heap.size + 1 + 1, 5, none⟩ (.slice (some ⟨g, 0, none⟩) ss.length ss.length)).heap[w.heap.size + 1]? = some (.cells #[.int .i64 0, .int .i64 0, .int .i64 0, .int .i64 0, .bool false, .slice none 0 0] 37 (0, 0)) := by rw [Below.heap_setCell _ _ _ _ (by show w.heap.size + 1 ≠ w.heap.size + 1 + 1; omega)]; exact c1
  have hs2 : SitesAt (w1.setCell ⟨w.heap.size + 1 + 1, 5, none⟩ (.slice (some ⟨g, 0, none⟩) ss.length ss.length)) g (some ⟨g, 0, none⟩) ss := hs1.set (p := ⟨w.heap.size + 1 + 1, 5, none⟩) hgW _
  have hb2 : Below w.heap.size w (w1.setCell ⟨w.heap.size + 1 + 1, 5, none⟩ (.slice (some ⟨g, 0, none⟩) ss.length ss.length)) := hbw.setCell (p := ⟨w.heap.size + 1 + 1, 5, none⟩) (by show w.heap.size ≤ w.heap.size + 1 + 1; omega) _
  have y1 := block_cell c2
  have y2 := block_free c2
  go_upto_region 8 with fail
  obtain ⟨W5, hW5⟩ : ∃ W5, W5 = w1.setCell ⟨w.heap.size + 1 + 1, 5, none⟩ (.slice (some ⟨g, 0, none⟩) ss.length ss.length) := ⟨_, rfl⟩
  rw [← hW5] at d1 d2 hs2 hb2 ⊢
  have z1 := block_cell d1
  have z2 := block_free d1
  have z3 := block_cell d2
  have rr := block_cell (stored6 (a := .int .i64 k) (b := .int .i64 a) (c := .int .i64 b) (d := .int .i64 l) (e := .bool s) (f := .slice (some ⟨g, 0, none⟩) ss.length ss.length) d1)
  have HF : Hid (SitesAt ((((((W5.setCell ⟨w.heap.size + 1, 0, none⟩ (.int .i64 k)).setCell ⟨w.heap.size + 1, 1, none⟩ (.int .i64 a)).setCell ⟨w.heap.size + 1, 2, none⟩ (.int .i64 b)).setCell ⟨w.heap.size + 1, 3, none⟩ (.int .i64 l)).setCell ⟨w.heap.size + 1, 4, none⟩ (.bool s)).setCell ⟨w.heap.size + 1, 5, none⟩ (.slice (some ⟨g, 0, none⟩) ss.length ss.length)) g (some ⟨g, 0, none⟩) ss ∧ Below w.heap.size w ((((((W5.setCell ⟨w.heap.size + 1, 0, none⟩ (.int .i64 k)).setCell ⟨w.heap.size + 1, 1, none⟩ (.int .i64 a)).setCell ⟨w.heap.size + 1, 2, none⟩ (.int .i64 b)).setCell ⟨w.heap.size + 1, 3, none⟩ (.int .i64 l)).setCell ⟨w.heap.size + 1, 4, none⟩ (.bool s)).setCell ⟨w.heap.size + 1, 5, none⟩ (.slice (some ⟨g, 0, none⟩) ss.length ss.length))) := by
    have q : w.heap.size + 1 < g := by omega
    have q2 : w.heap.size ≤ w.heap.size + 1 := by omega
    exact ⟨(((((hs2.set (p := ⟨w.heap.size + 1, 0, none⟩) q _).set (p := ⟨w.heap.size + 1, 1, none⟩) q _).set (p := ⟨w.heap.size + 1, 2, none⟩) q _).set (p := ⟨w.heap.size + 1, 3, none⟩) q _).set (p := ⟨w.heap.size + 1, 4, none⟩) q _).set (p := ⟨w.heap.size + 1, 5, none⟩) q _,
      (((((hb2.setCell (p := ⟨w.heap.size + 1, 0, none⟩) q2 _).setCell (p := ⟨w.heap.size + 1, 1, none⟩) q2 _).setCell (p := ⟨w.heap.size + 1, 2, none⟩) q2 _).setCell (p := ⟨w.heap.size + 1, 3, none⟩) q2 _).setCell (p := ⟨w.heap.size + 1, 4, none⟩) q2 _).setCell (p := ⟨w.heap.size + 1, 5, none⟩) q2 _⟩
  clear hW5 c1 c2 d1 d2 hs1 hs2 hb2 hbw y1 y2
  go_wp2
  refine bodyPost_ret (v := .agg #[.int .i64 k, .int .i64 a, .int .i64 b, .int .i64 l, .bool s, .slice (some ⟨g, 0, none⟩) ss.length ss.length]) (by simp [results, Tryd.results12, go_sem, rr]) rfl ⟨g, hgl, rfl, HF.out.1, HF.out.2⟩

set_option maxHeartbeats 4000000 in
theorem eqAct_any (k a b l : Int) (s : Bool) (sa sb : Option Addr) (ss : List Si) (cap cap2 : Nat) (w : World) (hn : ss.length ≤ 1048576) (hm : SitesAt w 0 sa ss) (hm2 : SitesAt w 0 sb ss) :
    Calls Tryd.prog 19 #[.agg #[.int .i64 k, .int .i64 a, .int .i64 b, .int .i64 l, .bool s, .slice sa ss.length cap], .agg #[.int .i64 k, .int .i64 a, .int .i64 b, .int .i64 l, .bool s, .slice sb ss.length cap2]] w fun e w' => e = .returned (.bool true) ∧ Below w.heap.size w w' := by
  obtain ⟨W, hW⟩ : ∃ W, W = (w.alloc (.cells #[.int .i64 k, .int .i64 a, .int .i64 b, .int .i64 l, .bool s, .slice sa ss.length cap] 37)).alloc (.cells #[.int .i64 k, .int .i64 a, .int .i64 b, .int .i64 l, .bool s, .slice sb ss.length cap2] 37) := ⟨_, rfl⟩
  have hb : Below w.heap.size w W := by rw [hW]; exact ((Below.refl _ _).alloc (Nat.le_refl _) _).alloc (by simp) _
  have n0 : W.heap[w.heap.size]? = some (.cells #[.int .i64 k, .int .i64 a, .int .i64 b, .int .i64 l, .bool s, .slice sa ss.length cap] 37 (0, 0)) := by rw [hW]; exact block_old (block_new _ _ _) _
  have n1 : W.heap[w.heap.size + 1]? = some (.cells #[.int .i64 k, .int .i64 a, .int .i64 b, .int .i64 l, .bool s, .slice sb ss.length cap2] 37 (0, 0)) := by rw [hW]; simpa using block_new (w.alloc (.cells #[.int .i64 k, .int .i64 a, .int .i64 b, .int .i64 l, .bool s, .slice sa ss.length cap] 37)) #[.int .i64 k, .int .i64 a, .int .i64 b, .int .i64 l, .bool s, .slice sb ss.length cap2] 37
  have m0 := block_cell n0
  have m1 := block_cell n1
  have hmW := hm.mono hb
  have hmW2 := hm2.mono hb
  have HB := hid hb
  clear n0 n1 hm hm2 hb
  go_enter Tryd.func19, Tryd.ntmps19
  go_upto_region 1 with fail
  rw [← hW]
  clear hW
  cases s
  all_goals
    go_wp2_with fail
    refine (eqSiteS_any _ _ ss _ _ _ hn hmW hmW2).mono ?_
    rintro e w1 ⟨rfl, hb1⟩
    go_wp2
    go_ret
    exact ⟨rfl, HB.out.trans (hb1.mono HB.out.size)⟩
end Go.Proofs.YtedjabgkdogkfaaDoor
