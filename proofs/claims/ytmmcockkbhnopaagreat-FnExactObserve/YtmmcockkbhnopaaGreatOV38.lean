/-
  Copies of states, and which blocks hold them.
-/
import Derived.Test.YtmmcockkbhnopaaGreatOV37
import Derived.Test.YtmmcockkbhnopaaGreatOV32
namespace Go.Proofs.YtmmcockkbhnopaaGreat
open Go.RowKit

/-- Values in a block from lo on. -/
def VB (w : World) (lo : Nat) (a : Option Addr) (vs : List Vl) : Prop := ValsAt w lo a vs ∧ ∃ g, a = some ⟨g, 0, none⟩ ∧ lo ≤ g ∧ ValsBlk w g vs.length
theorem ValsBlk.above {w w' : World} {lo g n : Nat} (h : ValsBlk w g n) (hb : Above lo w w') (hg : lo ≤ g) : ValsBlk w' g n := by
  obtain ⟨c, h1, h2⟩ := h
  exact ⟨c, block_above hb hg h1, h2⟩
theorem VB.mono {w w' : World} {lo : Nat} {a : Option Addr} {vs : List Vl} (h : VB w lo a vs) (hb : Below w.heap.size w w') : VB w' lo a vs := by
  obtain ⟨h1, g, h2, h3, h4⟩ := h
  exact ⟨h1.mono hb, g, h2, h3, h4.mono hb⟩
theorem VB.above {w w' : World} {lo : Nat} {a : Option Addr} {vs : List Vl} (h : VB w lo a vs) (hb : Above lo w w') : VB w' lo a vs := by
  obtain ⟨h1, g, h2, h3, h4⟩ := h
  exact ⟨h1.above hb, g, h2, h3, h4.above hb h3⟩
theorem VB.low {w : World} {lo lo' : Nat} {a : Option Addr} {vs : List Vl} (h : VB w lo a vs) (hl : lo' ≤ lo) : VB w lo' a vs := by
  obtain ⟨h1, g, h2, h3, h4⟩ := h
  exact ⟨h1.low hl, g, h2, Nat.le_trans hl h3, h4⟩

/-- Frames in a block, and their values. -/
def FB (w : World) (lo : Nat) (a : Option Addr) (fr : List Fr) : Prop := ∃ F cur, a = some ⟨F, 0, none⟩ ∧ lo ≤ F ∧ w.heap[F]? = some (.cells cur 110 (0, 0)) ∧ cur.size = fr.length * 4 ∧
  ∀ j (hj : j < fr.length), cur[j * 4]? = some (.int .i64 fr[j].fn) ∧ cur[j * 4 + 1]? = some (.int .i64 fr[j].pc) ∧ ∃ g g2, cur[j * 4 + 2]? = some (.slice (some ⟨g, 0, none⟩) fr[j].locals.length fr[j].locals.length) ∧ cur[j * 4 + 3]? = some (.slice (some ⟨g2, 0, none⟩) fr[j].stack.length fr[j].stack.length) ∧ VB w lo (some ⟨g, 0, none⟩) fr[j].locals ∧ VB w lo (some ⟨g2, 0, none⟩) fr[j].stack
def RB (w : World) (lo : Nat) (a : Option Addr) (rs : List (List Vl)) : Prop := ∃ R cur, a = some ⟨R, 0, none⟩ ∧ lo ≤ R ∧ w.heap[R]? = some (.cells cur 105 (0, 0)) ∧ cur.size = rs.length * 1 ∧
  ∀ j (hj : j < rs.length), ∃ g, cur[j]? = some (.slice (some ⟨g, 0, none⟩) rs[j].length rs[j].length) ∧ VB w lo (some ⟨g, 0, none⟩) rs[j]
def OB (w : World) (lo : Nat) (a : Option Addr) (ss : List ByteArray) : Prop := StrsAt w lo a ss ∧ ∃ g, a = some ⟨g, 0, none⟩ ∧ lo ≤ g ∧ TextBlk w g ss.length
theorem FB.mono {w w' : World} {lo : Nat} {a : Option Addr} {fr : List Fr} (h : FB w lo a fr) (hb : Below w.heap.size w w') : FB w' lo a fr := by
  obtain ⟨F, cur, h1, h2, h3, h4, h5⟩ := h
  refine ⟨F, cur, h1, h2, block_kept h3 hb, h4, fun j hj => ?_⟩
  obtain ⟨d1, d2, g, g2, d3, d4, d5, d6⟩ := h5 j hj
  exact ⟨d1, d2, g, g2, d3, d4, d5.mono hb, d6.mono hb⟩
theorem FB.above {w w' : World} {lo : Nat} {a : Option Addr} {fr : List Fr} (h : FB w lo a fr) (hb : Above lo w w') : FB w' lo a fr := by
  obtain ⟨F, cur, h1, h2, h3, h4, h5⟩ := h
  refine ⟨F, cur, h1, h2, block_above hb h2 h3, h4, fun j hj => ?_⟩
  obtain ⟨d1, d2, g, g2, d3, d4, d5, d6⟩ := h5 j hj
  exact ⟨d1, d2, g, g2, d3, d4, d5.above hb, d6.above hb⟩
theorem FB.low {w : World} {lo lo' : Nat} {a : Option Addr} {fr : List Fr} (h : FB w lo a fr) (hl : lo' ≤ lo) : FB w lo' a fr := by
  obtain ⟨F, cur, h1, h2, h3, h4, h5⟩ := h
  refine ⟨F, cur, h1, Nat.le_trans hl h2, h3, h4, fun j hj => ?_⟩
  obtain ⟨d1, d2, g, g2, d3, d4, d5, d6⟩ := h5 j hj
  exact ⟨d1, d2, g, g2, d3, d4, d5.low hl, d6.low hl⟩
theorem RB.mono {w w' : World} {lo : Nat} {a : Option Addr} {rs : List (List Vl)} (h : RB w lo a rs) (hb : Below w.heap.size w w') : RB w' lo a rs := by
  obtain ⟨F, cur, h1, h2, h3, h4, h5⟩ := h
  refine ⟨F, cur, h1, h2, block_kept h3 hb, h4, fun j hj => ?_⟩
  obtain ⟨g, d1, d2⟩ := h5 j hj
  exact ⟨g, d1, d2.mono hb⟩
theorem RB.above {w w' : World} {lo : Nat} {a : Option Addr} {rs : List (List Vl)} (h : RB w lo a rs) (hb : Above lo w w') : RB w' lo a rs := by
  obtain ⟨F, cur, h1, h2, h3, h4, h5⟩ := h
  refine ⟨F, cur, h1, h2, block_above hb h2 h3, h4, fun j hj => ?_⟩
  obtain ⟨g, d1, d2⟩ := h5 j hj
  exact ⟨g, d1, d2.above hb⟩
theorem RB.low {w : World} {lo lo' : Nat} {a : Option Addr} {rs : List (List Vl)} (h : RB w lo a rs) (hl : lo' ≤ lo) : RB w lo' a rs := by
  obtain ⟨F, cur, h1, h2, h3, h4, h5⟩ := h
  refine ⟨F, cur, h1, Nat.le_trans hl h2, h3, h4, fun j hj => ?_⟩
  obtain ⟨g, d1, d2⟩ := h5 j hj
  exact ⟨g, d1, d2.low hl⟩
theorem OB.mono {w w' : World} {lo : Nat} {a : Option Addr} {ss : List ByteArray} (h : OB w lo a ss) (hb : Below w.heap.size w w') : OB w' lo a ss := by
  obtain ⟨h1, g, h2, h3, h4⟩ := h
  exact ⟨h1.mono hb, g, h2, h3, h4.mono hb⟩
theorem OB.above {w w' : World} {lo : Nat} {a : Option Addr} {ss : List ByteArray} (h : OB w lo a ss) (hb : Above lo w w') : OB w' lo a ss := by
  obtain ⟨h1, g, h2, h3, h4⟩ := h
  exact ⟨h1.above hb, g, h2, h3, h4.above hb h3⟩
theorem OB.low {w : World} {lo lo' : Nat} {a : Option Addr} {ss : List ByteArray} (h : OB w lo a ss) (hl : lo' ≤ lo) : OB w lo' a ss := by
  obtain ⟨h1, g, h2, h3, h4⟩ := h
  exact ⟨h1.low hl, g, h2, Nat.le_trans hl h3, h4⟩
structure VmB (w : World) (lo : Nat) (fa ha oa : Option Addr) (d : VmD) : Prop where
  frs : FB w lo fa d.frames
  recs : RB w lo ha d.heap
  out : OB w lo oa d.out
theorem VmB.mono {w w' : World} {lo : Nat} {fa ha oa : Option Addr} {d : VmD} (h : VmB w lo fa ha oa d) (hb : Below w.heap.size w w') : VmB w' lo fa ha oa d := ⟨h.frs.mono hb, h.recs.mono hb, h.out.mono hb⟩
theorem VmB.above {w w' : World} {lo : Nat} {fa ha oa : Option Addr} {d : VmD} (h : VmB w lo fa ha oa d) (hb : Above lo w w') : VmB w' lo fa ha oa d := ⟨h.frs.above hb, h.recs.above hb, h.out.above hb⟩
theorem VmB.low {w : World} {lo lo' : Nat} {fa ha oa : Option Addr} {d : VmD} (h : VmB w lo fa ha oa d) (hl : lo' ≤ lo) : VmB w lo' fa ha oa d := ⟨h.frs.low hl, h.recs.low hl, h.out.low hl⟩
theorem VmB.at {w : World} {lo : Nat} {fa ha oa : Option Addr} {d : VmD} (h : VmB w lo fa ha oa d) : VmAt w lo fa ha oa d := by
  refine ⟨fun i hi => ?_, fun i hi => ?_, h.out.1⟩
  · obtain ⟨F, cur, rfl, h2, h3, h4, h5⟩ := h.frs
    obtain ⟨d1, d2, g, g2, d3, d4, d5, d6⟩ := h5 i hi
    exact ⟨F, 0, _, _, _, _, rfl, h2, by rw [block_cell h3, Nat.zero_add]; exact d1, by rw [block_cell h3, Nat.zero_add]; exact d2, by rw [block_cell h3, Nat.zero_add]; exact d3, by rw [block_cell h3, Nat.zero_add]; exact d4, d5.1, d6.1⟩
  · obtain ⟨F, cur, rfl, h2, h3, h4, h5⟩ := h.recs
    obtain ⟨g, d1, d2⟩ := h5 i hi
    exact ⟨F, 0, _, _, rfl, h2, by rw [block_cell h3, Nat.zero_add]; exact d1, d2.1⟩

set_option maxHeartbeats 400000 in
theorem toRec_b (a : Option Addr) (vs : List Vl) (cap : Nat) (w : World) (hn : vs.length ≤ 1048576) (hm : ValsAt w 0 a vs) :
    Calls Tryz.prog 66 #[.agg #[.slice a vs.length cap]] w fun e w' => ∃ g, w.heap.size ≤ g ∧ e = .returned (.agg #[.slice (some ⟨g, 0, none⟩) vs.length vs.length]) ∧ VB w' w.heap.size (some ⟨g, 0, none⟩) vs ∧ Below w.heap.size w w' := by
  go_enter Tryz.func66, Tryz.ntmps66
  go_wp2_with fail
  have hbA : Below w.heap.size w (((w.alloc (.cells #[.slice a vs.length cap] 99)).alloc (.cells #[.slice none 0 0] 105)).alloc (.cells #[.slice none 0 0] 105)) :=
    (((Below.refl _ _).alloc (Nat.le_refl _) _).alloc (by simp) _).alloc (by simp; omega) _
  refine (toValueS_any a vs cap _ hn (hm.mono hbA)).mono ?_
  rintro e w1 ⟨rfl, hv0, hvb, hb⟩
  have hv : VB w1 _ _ vs := ⟨hv0, _, rfl, Nat.le_refl _, hvb⟩
  clear hv0 hvb
  have hR := block_kept (block_old (block_new (w.alloc (.cells #[.slice a vs.length cap] 99)) #[.slice none 0 0] 105) (.cells #[.slice none 0 0] 105)) hb
  have hO := block_kept (block_new ((w.alloc (.cells #[.slice a vs.length cap] 99)).alloc (.cells #[.slice none 0 0] 105)) #[.slice none 0 0] 105) hb
  simp only [World.size_alloc] at hR hO hv
  have r1 := block_cell hR
  have r2 := block_free hR
  have o1 := block_cell hO
  have o2 := block_free hO
  have hb1 : Below w.heap.size w w1 := hbA.trans (hb.mono (by simp; omega))
  go_wp2
  refine bodyPost_ret (v := .agg #[.slice (some ⟨w.heap.size + 1 + 1 + 1, 0, none⟩) vs.length vs.length]) (by simp [results, Tryz.results66, go_sem, r1]) rfl ⟨_, by omega, rfl, ?_, ?_⟩
  · exact (hv.above (((Above.refl _ _).setCell (by simp) _).setCell (by simp) _)).low (by omega)
  · exact (hb1.setCell (by simp; omega) _).setCell (by simp) _


set_option maxHeartbeats 1000000 in
theorem toFrame_b (f p : Int) (a a2 : Option Addr) (vs us : List Vl) (cap cap2 : Nat) (w : World) (hn : vs.length ≤ 1048576) (hn2 : us.length ≤ 1048576) (hm : ValsAt w 0 a vs) (hm2 : ValsAt w 0 a2 us) :
    Calls Tryz.prog 65 #[.agg #[.int .i64 f, .int .i64 p, .slice a vs.length cap, .slice a2 us.length cap2]] w fun e w' => ∃ g g2, w.heap.size ≤ g ∧ w.heap.size ≤ g2 ∧ e = .returned (.agg #[.int .i64 f, .int .i64 p, .slice (some ⟨g, 0, none⟩) vs.length vs.length, .slice (some ⟨g2, 0, none⟩) us.length us.length]) ∧ VB w' w.heap.size (some ⟨g, 0, none⟩) vs ∧ VB w' w.heap.size (some ⟨g2, 0, none⟩) us ∧ Below w.heap.size w w' := by
  go_enter Tryz.func65, Tryz.ntmps65
  go_wp2_with fail
  have hbA : Below w.heap.size w (((w.alloc (.cells #[.int .i64 f, .int .i64 p, .slice a vs.length cap, .slice a2 us.length cap2] 96)).alloc (.cells #[.int .i64 0, .int .i64 0, .slice none 0 0, .slice none 0 0] 110)).alloc (.cells #[.int .i64 f, .int .i64 p, .slice none 0 0, .slice none 0 0] 110)) :=
    (((Below.refl _ _).alloc (Nat.le_refl _) _).alloc (by simp) _).alloc (by simp; omega) _
  refine (toValueS_any a vs cap _ hn (hm.mono hbA)).mono ?_
  rintro e w1 ⟨rfl, hv0, hvb, hb⟩
  have hv : VB w1 _ _ vs := ⟨hv0, _, rfl, Nat.le_refl _, hvb⟩
  clear hv0 hvb
  have hI := block_kept (block_old (block_old (block_new w #[.int .i64 f, .int .i64 p, .slice a vs.length cap, .slice a2 us.length cap2] 96) (.cells #[.int .i64 0, .int .i64 0, .slice none 0 0, .slice none 0 0] 110)) (.cells #[.int .i64 f, .int .i64 p, .slice none 0 0, .slice none 0 0] 110)) hb
  have hR := block_kept (block_old (block_new (w.alloc (.cells #[.int .i64 f, .int .i64 p, .slice a vs.length cap, .slice a2 us.length cap2] 96)) #[.int .i64 0, .int .i64 0, .slice none 0 0, .slice none 0 0] 110) (.cells #[.int .i64 f, .int .i64 p, .slice none 0 0, .slice none 0 0] 110)) hb
  have hO := block_kept (block_new ((w.alloc (.cells #[.int .i64 f, .int .i64 p, .slice a vs.length cap, .slice a2 us.length cap2] 96)).alloc (.cells #[.int .i64 0, .int .i64 0, .slice none 0 0, .slice none 0 0] 110)) #[.int .i64 f, .int .i64 p, .slice none 0 0, .slice none 0 0] 110) hb
  simp only [World.size_alloc] at hI hR hO hv
  have hb1 : Below w.heap.size w w1 := hbA.trans (hb.mono (by simp; omega))
  have hz : w.heap.size + 1 + 1 < w1.heap.size := lt_block hO
  obtain ⟨wx, hwx⟩ : ∃ wx, wx = w1.setCell ⟨w.heap.size + 1 + 1, 2, none⟩ (.slice (some ⟨w.heap.size + 1 + 1 + 1, 0, none⟩) vs.length vs.length) := ⟨_, rfl⟩
  have hO' : wx.heap[w.heap.size + 1 + 1]? = some (.cells #[.int .i64 f, .int .i64 p, .slice (some ⟨w.heap.size + 1 + 1 + 1, 0, none⟩) vs.length vs.length, .slice none 0 0] 110 (0, 0)) := by
    rw [hwx]; simpa using block_set (i := 2) hO (.slice (some ⟨w.heap.size + 1 + 1 + 1, 0, none⟩) vs.length vs.length)
  have hR' : wx.heap[w.heap.size + 1]? = some (.cells #[.int .i64 0, .int .i64 0, .slice none 0 0, .slice none 0 0] 110 (0, 0)) := by
    rw [hwx, Below.heap_setCell _ _ _ _ (by simp)]; exact hR
  have hb2 : Below w.heap.size w wx := by rw [hwx]; exact hb1.setCell (by simp; omega) _
  have hv2 : VB wx (w.heap.size + 1 + 1 + 1) (some ⟨w.heap.size + 1 + 1 + 1, 0, none⟩) vs := by rw [hwx]; exact hv.above ((Above.refl _ _).setCell (by simp) _)
  have hsz : wx.heap.size = w1.heap.size := by rw [hwx]; simp
  have i1 := block_cell hI
  have o1 := block_cell hO
  have o2 := block_free hO
  go_wp2_with fail
  rw [← hwx]
  clear hwx i1 o1 o2
  refine (toValueS_any a2 us cap2 _ hn2 (hm2.mono hb2)).mono ?_
  rintro e w3 ⟨rfl, hu0, hub, hb3⟩
  have hu : VB w3 _ _ us := ⟨hu0, _, rfl, Nat.le_refl _, hub⟩
  clear hu0 hub
  have hO3 := block_kept hO' hb3
  have hR3 := block_kept hR' hb3
  have hB3 := hb2.trans (hb3.mono hb2.size)
  have hv3 := hv2.mono hb3
  have r1 := block_cell hR3
  have r2 := block_free hR3
  have o1 := block_cell hO3
  have o2 := block_free hO3
  clear hO hR hI hv hb1 hb hbA
  go_wp2
  refine bodyPost_ret (v := .agg #[.int .i64 f, .int .i64 p, .slice (some ⟨w.heap.size + 1 + 1 + 1, 0, none⟩) vs.length vs.length, .slice (some ⟨wx.heap.size, 0, none⟩) us.length us.length]) (by simp [results, Tryz.results65, go_sem, r1]) rfl ⟨_, _, by omega, by omega, rfl, ?_, ?_, ?_⟩
  · exact (hv3.above (((((Above.refl _ _).setCell (by simp) _).setCell (by simp) _).setCell (by simp) _).setCell (by simp) _ |>.setCell (by simp) _)).low (by omega)
  · exact ((hu.low (by omega : w.heap.size + 1 + 1 + 1 ≤ wx.heap.size)).above (((((Above.refl _ _).setCell (by simp) _).setCell (by simp) _).setCell (by simp) _).setCell (by simp) _ |>.setCell (by simp) _)).low (by omega)
  · exact ((((hB3.setCell (by simp; omega) _).setCell (by simp) _).setCell (by simp) _).setCell (by simp) _).setCell (by simp) _


set_option maxHeartbeats 400000 in
theorem toRecS_b (a : Option Addr) (rs : List (List Vl)) (cap : Nat) (w : World) (hn : rs.length ≤ 1048576) (hc : ∀ r ∈ rs, ValsSmall r) (hm : RecsAt w 0 a rs) :
    Calls Tryz.prog 34 #[.slice a rs.length cap] w fun e w' => e = .returned (.slice (some ⟨w.heap.size, 0, none⟩) rs.length rs.length) ∧ RB w' w.heap.size (some ⟨w.heap.size, 0, none⟩) rs ∧ Below w.heap.size w w' := by
  obtain ⟨i0, hi, hz0, hz1, hz2⟩ := info_parts info105
  go_enter Tryz.func34, Tryz.ntmps34
  go_wp2_with (first | (at_make; refine wpList_make_full _ rfl _ _ 44 rfl w.heap.size 105 i0 (.agg #[.slice none 0 0]) 1 Tryz.underlying44 hi hz0 hz1 _ _ _ _ rs.length rfl rfl rfl rfl (by rw [hz2]; omega) (by unfold maxLen; omega) (Nat.le_refl _) ?_; intro w1 hown hgrow))
  obtain ⟨cur0, hblk, hsz⟩ := made_block hown
  have hb0 : Below w.heap.size w w1 := (Below.refl _ _).grown hgrow (Nat.le_refl _) (by intro k hk; cases hk)
  clear hown hgrow hi hz0 hz1 hz2
  go_loopw [4] (fun i wr => ∃ (k : Nat) (cur : Array Value), k ≤ rs.length ∧ i = .int .i64 k ∧ wr.heap[w.heap.size]? = some (.cells cur 105 (0, 0)) ∧ cur.size = rs.length * 1 ∧
      (∀ j (hj : j < rs.length), j < k → ∃ g, cur[j]? = some (.slice (some ⟨g, 0, none⟩) rs[j].length rs[j].length) ∧ VB wr (w.heap.size + 1) (some ⟨g, 0, none⟩) rs[j]) ∧ Below w.heap.size w wr) (fun i _ => rs.length - (intOf i).toNat)
  case atStart => exact ⟨0, cur0, by omega, rfl, hblk, hsz, fun j _ h => by omega, hb0⟩
  case round =>
    obtain ⟨k, cur, hk, rfl, hblk, hsz, hdone, hb⟩ := hrel
    by_cases hlt : k < rs.length
    · obtain ⟨b, off, ca, cc, rfl, -, c1, c4⟩ := hm k hlt
      have c1' := cell_later hb c1
      clear c1
      have hgs : w.heap.size < wr.heap.size := lt_block hblk
      have hck := (hc rs[k] (List.getElem_mem hlt)).1
      go_wp2_with fail
      refine (toRec_b _ _ _ _ hck (c4.mono hb)).mono ?_
      rintro e w2 ⟨g, hg, rfl, hcode, hb2⟩
      have hblk2 := block_kept hblk hb2
      have hfz := block_free hblk2
      have hcl : w2.cell? ⟨w.heap.size, k, none⟩ = some cur[k] := by rw [block_cell hblk2]; simp
      have hb3 : Below w.heap.size w w2 := hb.trans (hb2.mono hb.size)
      go_wp2
      go_roundw
      case rel =>
        have hab : Above (w.heap.size + 1) w2 (w2.setCell ⟨w.heap.size, k, none⟩ (.slice (some ⟨g, 0, none⟩) rs[k].length rs[k].length)) := (Above.refl _ _).setCell (by simp) _
        refine ⟨k + 1, cur.setIfInBounds k (.slice (some ⟨g, 0, none⟩) rs[k].length rs[k].length), by omega, by go_num, block_set hblk2 _, by simpa using hsz, ?_, hb3.setCell (Nat.le_refl _) _⟩
        intro j hj hjk
        by_cases e : j = k
        · subst e
          exact ⟨g, set_self _ (by omega), (hcode.low (by omega)).above hab⟩
        · obtain ⟨g', d3, d4⟩ := hdone j hj (by omega)
          exact ⟨g', by rw [set_else _ (by omega)]; exact d3, (d4.mono hb2).above hab⟩
      case measure => simp [intOf]; omega
    · go_wp2
      go_ret
      refine ⟨rfl, ⟨w.heap.size, cur, rfl, Nat.le_refl _, hblk, hsz, fun j hj => ?_⟩, hb⟩
      obtain ⟨g', d3, d4⟩ := hdone j hj (by omega)
      exact ⟨g', d3, d4.low (by omega)⟩

set_option maxHeartbeats 1000000 in
theorem toFrameS_b (a : Option Addr) (fr : List Fr) (cap : Nat) (w : World) (hn : fr.length ≤ 1048576) (hc : ∀ f ∈ fr, ValsSmall f.locals) (hc2 : ∀ f ∈ fr, ValsSmall f.stack) (hm : FrsAt w 0 a fr) :
    Calls Tryz.prog 33 #[.slice a fr.length cap] w fun e w' => e = .returned (.slice (some ⟨w.heap.size, 0, none⟩) fr.length fr.length) ∧ FB w' w.heap.size (some ⟨w.heap.size, 0, none⟩) fr ∧ Below w.heap.size w w' := by
  obtain ⟨i0, hi, hz0, hz1, hz2⟩ := info_parts info110
  go_enter Tryz.func33, Tryz.ntmps33
  go_wp2_with (first | (at_make; refine wpList_make_full _ rfl _ _ 43 rfl w.heap.size 110 i0 (.agg #[.int .i64 0, .int .i64 0, .slice none 0 0, .slice none 0 0]) 4 Tryz.underlying43 hi hz0 hz1 _ _ _ _ fr.length rfl rfl rfl rfl (by rw [hz2]; omega) (by unfold maxLen; omega) (Nat.le_refl _) ?_; intro w1 hown hgrow))
  obtain ⟨cur0, hblk, hsz⟩ := made_block hown
  have hb0 : Below w.heap.size w w1 := (Below.refl _ _).grown hgrow (Nat.le_refl _) (by intro k hk; cases hk)
  clear hown hgrow hi hz0 hz1 hz2
  go_loopw [4] (fun i wr => ∃ (k : Nat) (cur : Array Value), k ≤ fr.length ∧ i = .int .i64 k ∧ wr.heap[w.heap.size]? = some (.cells cur 110 (0, 0)) ∧ cur.size = fr.length * 4 ∧
      (∀ j (hj : j < fr.length), j < k → cur[j * 4]? = some (.int .i64 fr[j].fn) ∧ cur[j * 4 + 1]? = some (.int .i64 fr[j].pc) ∧ ∃ g g2, cur[j * 4 + 2]? = some (.slice (some ⟨g, 0, none⟩) fr[j].locals.length fr[j].locals.length) ∧ cur[j * 4 + 3]? = some (.slice (some ⟨g2, 0, none⟩) fr[j].stack.length fr[j].stack.length) ∧ VB wr (w.heap.size + 1) (some ⟨g, 0, none⟩) fr[j].locals ∧ VB wr (w.heap.size + 1) (some ⟨g2, 0, none⟩) fr[j].stack) ∧ Below w.heap.size w wr) (fun i _ => fr.length - (intOf i).toNat)
  case atStart => exact ⟨0, cur0, by omega, rfl, hblk, hsz, fun j _ h => by omega, hb0⟩
  case round =>
    obtain ⟨k, cur, hk, rfl, hblk, hsz, hdone, hb⟩ := hrel
    by_cases hlt : k < fr.length
    · obtain ⟨b, off, la, lc, sa, sc, rfl, -, c1, c2, c3, c4, c5, c6⟩ := hm k hlt
      have c1' := cell_later hb c1
      have c2' := cell_later hb c2
      have c3' := cell_later hb c3
      have c4' := cell_later hb c4
      clear c1 c2 c3 c4
      have hgs : w.heap.size < wr.heap.size := lt_block hblk
      have hck := (hc fr[k] (List.getElem_mem hlt)).1
      have hck2 := (hc2 fr[k] (List.getElem_mem hlt)).1
      go_wp2_with fail
      refine (toFrame_b _ _ _ _ _ _ _ _ _ hck hck2 (c5.mono hb) (c6.mono hb)).mono ?_
      rintro e w2 ⟨g, g2, hg, hg2, rfl, hl, hs, hb2⟩
      have hblk2 := block_kept hblk hb2
      have hfz := block_free hblk2
      have hcl : w2.cell? ⟨w.heap.size, k * 4, none⟩ = some cur[k * 4] := by rw [block_cell hblk2]; simp
      have hcl2 : w2.cell? ⟨w.heap.size, k * 4 + 1, none⟩ = some cur[k * 4 + 1] := by rw [block_cell hblk2]; simp
      have hcl3 : w2.cell? ⟨w.heap.size, k * 4 + 2, none⟩ = some cur[k * 4 + 2] := by rw [block_cell hblk2]; simp
      have hcl4 : w2.cell? ⟨w.heap.size, k * 4 + 3, none⟩ = some cur[k * 4 + 3] := by rw [block_cell hblk2]; simp
      have hb3 : Below w.heap.size w w2 := hb.trans (hb2.mono hb.size)
      go_wp2
      go_roundw
      case rel =>
        have hab : Above (w.heap.size + 1) w2 ((((w2.setCell ⟨w.heap.size, k * 4, none⟩ (.int .i64 fr[k].fn)).setCell ⟨w.heap.size, k * 4 + 1, none⟩ (.int .i64 fr[k].pc)).setCell ⟨w.heap.size, k * 4 + 2, none⟩ (.slice (some ⟨g, 0, none⟩) fr[k].locals.length fr[k].locals.length)).setCell ⟨w.heap.size, k * 4 + 3, none⟩ (.slice (some ⟨g2, 0, none⟩) fr[k].stack.length fr[k].stack.length)) :=
          ((((Above.refl _ _).setCell (by simp) _).setCell (by simp) _).setCell (by simp) _).setCell (by simp) _
        refine ⟨k + 1, (((cur.setIfInBounds (k * 4) (.int .i64 fr[k].fn)).setIfInBounds (k * 4 + 1) (.int .i64 fr[k].pc)).setIfInBounds (k * 4 + 2) (.slice (some ⟨g, 0, none⟩) fr[k].locals.length fr[k].locals.length)).setIfInBounds (k * 4 + 3) (.slice (some ⟨g2, 0, none⟩) fr[k].stack.length fr[k].stack.length), by omega, by go_num, block_set (block_set (block_set (block_set hblk2 _) _) _) _, by simpa using hsz, ?_, (((hb3.setCell (Nat.le_refl _) _).setCell (Nat.le_refl _) _).setCell (Nat.le_refl _) _).setCell (Nat.le_refl _) _⟩
        intro j hj hjk
        by_cases e : j = k
        · subst e
          refine ⟨?_, ?_, g, g2, ?_, ?_, (hl.low (by omega)).above hab, (hs.low (by omega)).above hab⟩
          · rw [set_else _ (by omega), set_else _ (by omega), set_else _ (by omega)]; exact set_self _ (by omega)
          · rw [set_else _ (by omega), set_else _ (by omega)]; exact set_self _ (by simp; omega)
          · rw [set_else _ (by omega)]; exact set_self _ (by simp; omega)
          · exact set_self _ (by simp; omega)
        · obtain ⟨d1, d2, g', g2', d3, d4, d5, d6⟩ := hdone j hj (by omega)
          refine ⟨?_, ?_, g', g2', ?_, ?_, (d5.mono hb2).above hab, (d6.mono hb2).above hab⟩
          · rw [set_else _ (by omega), set_else _ (by omega), set_else _ (by omega), set_else _ (by omega)]; exact d1
          · rw [set_else _ (by omega), set_else _ (by omega), set_else _ (by omega), set_else _ (by omega)]; exact d2
          · rw [set_else _ (by omega), set_else _ (by omega), set_else _ (by omega), set_else _ (by omega)]; exact d3
          · rw [set_else _ (by omega), set_else _ (by omega), set_else _ (by omega), set_else _ (by omega)]; exact d4
      case measure => simp [intOf]; omega
    · go_wp2
      go_ret
      refine ⟨rfl, ⟨w.heap.size, cur, rfl, Nat.le_refl _, hblk, hsz, fun j hj => ?_⟩, hb⟩
      obtain ⟨d1, d2, g', g2', d3, d4, d5, d6⟩ := hdone j hj (by omega)
      exact ⟨d1, d2, g', g2', d3, d4, d5.low (by omega), d6.low (by omega)⟩

set_option maxRecDepth 100000 in
set_option maxHeartbeats 4000000 in
theorem toVm_b (fa ha oa : Option Addr) (fc hcp oc : Nat) (d : VmD) (w : World) (hx : VmSmall d) (hm : VmAt w 0 fa ha oa d) :
    Calls Tryz.prog 11 #[.agg (vmCells fa ha oa fc hcp oc d)] w fun e w' => ∃ g g2 g3, e = .returned (.agg (vmCells (some ⟨g, 0, none⟩) (some ⟨g2, 0, none⟩) (some ⟨g3, 0, none⟩) d.frames.length d.heap.length d.out.length d)) ∧ VmB w' w.heap.size (some ⟨g, 0, none⟩) (some ⟨g2, 0, none⟩) (some ⟨g3, 0, none⟩) d ∧ Below w.heap.size w w' := by
  unfold vmCells
  have hbA : Below w.heap.size w (((w.alloc (.cells #[.slice fa d.frames.length fc, .slice ha d.heap.length hcp, .int .i64 d.made, .slice oa d.out.length oc, .int .i64 d.status, .int .i64 d.trap, .int .i64 d.value.k, .int .i64 d.value.n, .string d.value.s, .int .i64 d.steps] 32)).alloc (.cells #[.slice none 0 0, .slice none 0 0, .int .i64 0, .slice none 0 0, .int .i64 0, .int .i64 0, .int .i64 0, .int .i64 0, .string ⟨#[]⟩, .int .i64 0] 47)).alloc (.cells #[.slice none 0 0, .slice none 0 0, .int .i64 0, .slice none 0 0, .int .i64 0, .int .i64 0, .int .i64 0, .int .i64 0, .string ⟨#[]⟩, .int .i64 0] 47)) := (((Below.refl _ _).alloc (Nat.le_refl _) _).alloc (by simp) _).alloc (by simp; omega) _
  have hI0 := block_old (block_old (block_new w #[.slice fa d.frames.length fc, .slice ha d.heap.length hcp, .int .i64 d.made, .slice oa d.out.length oc, .int .i64 d.status, .int .i64 d.trap, .int .i64 d.value.k, .int .i64 d.value.n, .string d.value.s, .int .i64 d.steps] 32) (.cells #[.slice none 0 0, .slice none 0 0, .int .i64 0, .slice none 0 0, .int .i64 0, .int .i64 0, .int .i64 0, .int .i64 0, .string ⟨#[]⟩, .int .i64 0] 47)) (.cells #[.slice none 0 0, .slice none 0 0, .int .i64 0, .slice none 0 0, .int .i64 0, .int .i64 0, .int .i64 0, .int .i64 0, .string ⟨#[]⟩, .int .i64 0] 47)
  have hR0 := block_old (block_new (w.alloc (.cells #[.slice fa d.frames.length fc, .slice ha d.heap.length hcp, .int .i64 d.made, .slice oa d.out.length oc, .int .i64 d.status, .int .i64 d.trap, .int .i64 d.value.k, .int .i64 d.value.n, .string d.value.s, .int .i64 d.steps] 32)) #[.slice none 0 0, .slice none 0 0, .int .i64 0, .slice none 0 0, .int .i64 0, .int .i64 0, .int .i64 0, .int .i64 0, .string ⟨#[]⟩, .int .i64 0] 47) (.cells #[.slice none 0 0, .slice none 0 0, .int .i64 0, .slice none 0 0, .int .i64 0, .int .i64 0, .int .i64 0, .int .i64 0, .string ⟨#[]⟩, .int .i64 0] 47)
  have hO0 := block_new ((w.alloc (.cells #[.slice fa d.frames.length fc, .slice ha d.heap.length hcp, .int .i64 d.made, .slice oa d.out.length oc, .int .i64 d.status, .int .i64 d.trap, .int .i64 d.value.k, .int .i64 d.value.n, .string d.value.s, .int .i64 d.steps] 32)).alloc (.cells #[.slice none 0 0, .slice none 0 0, .int .i64 0, .slice none 0 0, .int .i64 0, .int .i64 0, .int .i64 0, .int .i64 0, .string ⟨#[]⟩, .int .i64 0] 47)) #[.slice none 0 0, .slice none 0 0, .int .i64 0, .slice none 0 0, .int .i64 0, .int .i64 0, .int .i64 0, .int .i64 0, .string ⟨#[]⟩, .int .i64 0] 47
  simp only [World.size_alloc] at hR0 hO0
  go_enter Tryz.func11, Tryz.ntmps11
  go_wp2_with fail
  refine (toFrameS_b fa d.frames fc _ hx.frames hx.locals hx.stack (hm.frs.mono hbA)).mono ?_
  rintro e w1 ⟨rfl, hfr, hb1⟩
  have hI1 := block_kept hI0 hb1
  have hR1 := block_kept hR0 hb1
  have hO1 := block_kept hO0 hb1
  have hB1 := hbA.trans (hb1.mono hbA.size)
  simp only [World.size_alloc] at hfr
  clear hI0 hR0 hO0 hbA hb1
  obtain ⟨x1, hx1⟩ : ∃ x1, x1 = (w1.setCell ⟨w.heap.size + 1 + 1, 0, none⟩ (.slice (some ⟨w.heap.size + 1 + 1 + 1, 0, none⟩) d.frames.length d.frames.length)) := ⟨_, rfl⟩
  have hOx : x1.heap[w.heap.size + 1 + 1]? = some (.cells #[.slice (some ⟨w.heap.size + 1 + 1 + 1, 0, none⟩) d.frames.length d.frames.length, .slice none 0 0, .int .i64 0, .slice none 0 0, .int .i64 0, .int .i64 0, .int .i64 0, .int .i64 0, .string ⟨#[]⟩, .int .i64 0] 47 (0, 0)) := by rw [hx1]; simpa using (block_set (i := 0) hO1 (.slice (some ⟨w.heap.size + 1 + 1 + 1, 0, none⟩) d.frames.length d.frames.length))
  have hRx : x1.heap[w.heap.size + 1]? = some (.cells #[.slice none 0 0, .slice none 0 0, .int .i64 0, .slice none 0 0, .int .i64 0, .int .i64 0, .int .i64 0, .int .i64 0, .string ⟨#[]⟩, .int .i64 0] 47 (0, 0)) := by rw [hx1, Below.heap_setCell _ _ _ _ (by simp)]; exact hR1
  have hIx : x1.heap[w.heap.size]? = some (.cells #[.slice fa d.frames.length fc, .slice ha d.heap.length hcp, .int .i64 d.made, .slice oa d.out.length oc, .int .i64 d.status, .int .i64 d.trap, .int .i64 d.value.k, .int .i64 d.value.n, .string d.value.s, .int .i64 d.steps] 32 (0, 0)) := by rw [hx1, Below.heap_setCell _ _ _ _ (by simp; omega)]; exact hI1
  have hBx : Below w.heap.size w x1 := by rw [hx1]; exact (hB1).setCell (by simp; omega) _
  have hzx : w.heap.size + 1 + 1 + 1 ≤ x1.heap.size := lt_block hOx
  have hfrx := hfr.above (w' := x1) (by rw [hx1]; exact ((Above.refl _ _).setCell (by simp) _))
  have i1 := block_cell hI1
  have o1 := block_cell hO1
  have o2 := block_free hO1
  go_wp2_with fail
  rw [← hx1]
  clear hx1 i1 o1 o2 hI1 hR1 hO1 hB1 hfr
  refine (toRecS_b ha d.heap hcp _ hx.heap hx.fields (hm.recs.mono hBx)).mono ?_
  rintro e w2 ⟨rfl, hnew, hbn⟩
  have hI2 := block_kept hIx hbn
  have hR2 := block_kept hRx hbn
  have hO2 := block_kept hOx hbn
  have hB2 := hBx.trans (hbn.mono hBx.size)
  have hfr := hfrx.mono hbn
  have hrc := hnew.low hzx
  clear hIx hRx hOx hBx hbn hnew hfrx hzx
  obtain ⟨x2, hx2⟩ : ∃ x2, x2 = ((w2.setCell ⟨w.heap.size + 1 + 1, 1, none⟩ (.slice (some ⟨x1.heap.size, 0, none⟩) d.heap.length d.heap.length)).setCell ⟨w.heap.size + 1 + 1, 2, none⟩ (.int .i64 d.made)) := ⟨_, rfl⟩
  have hOx : x2.heap[w.heap.size + 1 + 1]? = some (.cells #[.slice (some ⟨w.heap.size + 1 + 1 + 1, 0, none⟩) d.frames.length d.frames.length, .slice (some ⟨x1.heap.size, 0, none⟩) d.heap.length d.heap.length, .int .i64 d.made, .slice none 0 0, .int .i64 0, .int .i64 0, .int .i64 0, .int .i64 0, .string ⟨#[]⟩, .int .i64 0] 47 (0, 0)) := by rw [hx2]; simpa using (block_set (i := 2) (block_set (i := 1) hO2 (.slice (some ⟨x1.heap.size, 0, none⟩) d.heap.length d.heap.length)) (.int .i64 d.made))
  have hRx : x2.heap[w.heap.size + 1]? = some (.cells #[.slice none 0 0, .slice none 0 0, .int .i64 0, .slice none 0 0, .int .i64 0, .int .i64 0, .int .i64 0, .int .i64 0, .string ⟨#[]⟩, .int .i64 0] 47 (0, 0)) := by rw [hx2, Below.heap_setCell _ _ _ _ (by simp), Below.heap_setCell _ _ _ _ (by simp)]; exact hR2
  have hIx : x2.heap[w.heap.size]? = some (.cells #[.slice fa d.frames.length fc, .slice ha d.heap.length hcp, .int .i64 d.made, .slice oa d.out.length oc, .int .i64 d.status, .int .i64 d.trap, .int .i64 d.value.k, .int .i64 d.value.n, .string d.value.s, .int .i64 d.steps] 32 (0, 0)) := by rw [hx2, Below.heap_setCell _ _ _ _ (by simp; omega), Below.heap_setCell _ _ _ _ (by simp; omega)]; exact hI2
  have hBx : Below w.heap.size w x2 := by rw [hx2]; exact ((hB2).setCell (by simp; omega) _).setCell (by simp; omega) _
  have hzx : w.heap.size + 1 + 1 + 1 ≤ x2.heap.size := lt_block hOx
  have hfrx := hfr.above (w' := x2) (by rw [hx2]; exact (((Above.refl _ _).setCell (by simp) _).setCell (by simp) _))
  have hrcx := hrc.above (w' := x2) (by rw [hx2]; exact (((Above.refl _ _).setCell (by simp) _).setCell (by simp) _))
  have i1 := block_cell hI2
  have o1 := block_cell hO2
  have o2 := block_free hO2
  go_wp2_with fail
  rw [← hx2]
  clear hx2 i1 o1 o2 hI2 hR2 hO2 hB2 hfr hrc
  refine (toStringS_made oa d.out oc _ hx.out (hm.out.mono hBx)).mono ?_
  rintro e w3 ⟨rfl, hnew0, hbn, hblk3⟩
  have hnew : OB w3 _ _ d.out := ⟨hnew0, _, rfl, Nat.le_refl _, hblk3⟩
  clear hnew0 hblk3
  have hI3 := block_kept hIx hbn
  have hR3 := block_kept hRx hbn
  have hO3 := block_kept hOx hbn
  have hB3 := hBx.trans (hbn.mono hBx.size)
  have hfr := hfrx.mono hbn
  have hrc := hrcx.mono hbn
  have hot := hnew.low hzx
  clear hIx hRx hOx hBx hbn hnew hfrx hrcx hzx
  obtain ⟨x3, hx3⟩ : ∃ x3, x3 = (((w3.setCell ⟨w.heap.size + 1 + 1, 3, none⟩ (.slice (some ⟨x2.heap.size, 0, none⟩) d.out.length d.out.length)).setCell ⟨w.heap.size + 1 + 1, 4, none⟩ (.int .i64 d.status)).setCell ⟨w.heap.size + 1 + 1, 5, none⟩ (.int .i64 d.trap)) := ⟨_, rfl⟩
  have hOx : x3.heap[w.heap.size + 1 + 1]? = some (.cells #[.slice (some ⟨w.heap.size + 1 + 1 + 1, 0, none⟩) d.frames.length d.frames.length, .slice (some ⟨x1.heap.size, 0, none⟩) d.heap.length d.heap.length, .int .i64 d.made, .slice (some ⟨x2.heap.size, 0, none⟩) d.out.length d.out.length, .int .i64 d.status, .int .i64 d.trap, .int .i64 0, .int .i64 0, .string ⟨#[]⟩, .int .i64 0] 47 (0, 0)) := by rw [hx3]; simpa using (block_set (i := 5) (block_set (i := 4) (block_set (i := 3) hO3 (.slice (some ⟨x2.heap.size, 0, none⟩) d.out.length d.out.length)) (.int .i64 d.status)) (.int .i64 d.trap))
  have hRx : x3.heap[w.heap.size + 1]? = some (.cells #[.slice none 0 0, .slice none 0 0, .int .i64 0, .slice none 0 0, .int .i64 0, .int .i64 0, .int .i64 0, .int .i64 0, .string ⟨#[]⟩, .int .i64 0] 47 (0, 0)) := by rw [hx3, Below.heap_setCell _ _ _ _ (by simp), Below.heap_setCell _ _ _ _ (by simp), Below.heap_setCell _ _ _ _ (by simp)]; exact hR3
  have hIx : x3.heap[w.heap.size]? = some (.cells #[.slice fa d.frames.length fc, .slice ha d.heap.length hcp, .int .i64 d.made, .slice oa d.out.length oc, .int .i64 d.status, .int .i64 d.trap, .int .i64 d.value.k, .int .i64 d.value.n, .string d.value.s, .int .i64 d.steps] 32 (0, 0)) := by rw [hx3, Below.heap_setCell _ _ _ _ (by simp; omega), Below.heap_setCell _ _ _ _ (by simp; omega), Below.heap_setCell _ _ _ _ (by simp; omega)]; exact hI3
  have hBx : Below w.heap.size w x3 := by rw [hx3]; exact (((hB3).setCell (by simp; omega) _).setCell (by simp; omega) _).setCell (by simp; omega) _
  have hzx : w.heap.size + 1 + 1 + 1 ≤ x3.heap.size := lt_block hOx
  have hfrx := hfr.above (w' := x3) (by rw [hx3]; exact ((((Above.refl _ _).setCell (by simp) _).setCell (by simp) _).setCell (by simp) _))
  have hrcx := hrc.above (w' := x3) (by rw [hx3]; exact ((((Above.refl _ _).setCell (by simp) _).setCell (by simp) _).setCell (by simp) _))
  have hotx := hot.above (w' := x3) (by rw [hx3]; exact ((((Above.refl _ _).setCell (by simp) _).setCell (by simp) _).setCell (by simp) _))
  have i1 := block_cell hI3
  have o1 := block_cell hO3
  have o2 := block_free hO3
  go_wp2_with fail
  rw [← hx3]
  clear hx3 i1 o1 o2 hI3 hR3 hO3 hB3 hfr hrc hot
  refine (toValue_any _ _ _ _).mono ?_
  rintro e w4 ⟨rfl, hbn⟩
  have hI4 := block_kept hIx hbn
  have hR4 := block_kept hRx hbn
  have hO4 := block_kept hOx hbn
  have hB4 := hBx.trans (hbn.mono hBx.size)
  have hfr := hfrx.mono hbn
  have hrc := hrcx.mono hbn
  have hot := hotx.mono hbn
  clear hIx hRx hOx hBx hbn  hfrx hrcx hotx hzx
  have i1 := block_cell hI4
  have o1 := block_cell hO4
  have o2 := block_free hO4
  have r1 := block_cell hR4
  have r2 := block_free hR4
  go_wp2
  refine bodyPost_ret (v := .agg #[.slice (some ⟨w.heap.size + 1 + 1 + 1, 0, none⟩) d.frames.length d.frames.length, .slice (some ⟨x1.heap.size, 0, none⟩) d.heap.length d.heap.length, .int .i64 d.made, .slice (some ⟨x2.heap.size, 0, none⟩) d.out.length d.out.length, .int .i64 d.status, .int .i64 d.trap, .int .i64 d.value.k, .int .i64 d.value.n, .string d.value.s, .int .i64 d.steps]) (by simp [results, Tryz.results11, go_sem, r1]) rfl ⟨w.heap.size + 1 + 1 + 1, x1.heap.size, x2.heap.size, rfl, ?_, ?_⟩
  · exact ((VmB.mk hfr hrc hot).above (((((((((((((((Above.refl _ _).setCell (by simp) _).setCell (by simp) _).setCell (by simp) _).setCell (by simp) _).setCell (by simp) _).setCell (by simp) _).setCell (by simp) _).setCell (by simp) _).setCell (by simp) _).setCell (by simp) _).setCell (by simp) _).setCell (by simp) _).setCell (by simp) _).setCell (by simp) _)).low (by omega)
  · exact ((((((((((((((hB4.setCell (by simp; try omega) _).setCell (by simp; try omega) _).setCell (by simp; try omega) _).setCell (by simp; try omega) _).setCell (by simp; try omega) _).setCell (by simp; try omega) _).setCell (by simp; try omega) _).setCell (by simp; try omega) _).setCell (by simp; try omega) _).setCell (by simp; try omega) _).setCell (by simp; try omega) _).setCell (by simp; try omega) _).setCell (by simp; try omega) _).setCell (by simp; try omega) _)
end Go.Proofs.YtmmcockkbhnopaaGreat
