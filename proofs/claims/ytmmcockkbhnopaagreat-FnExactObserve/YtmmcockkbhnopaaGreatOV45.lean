/-
  impl.sightOf and spec.l07See: what the next step of a state would see.
  spec.SiteAt: the first site at an instruction.
  spec.l07Observe: what is watched more, laid into the profile.
  spec.Observe: what is watched, by the document's text.
-/
import Derived.Test.YtmmcockkbhnopaaGreatOV42
import Derived.Test.YtmmcockkbhnopaaGreatOV41
import Derived.Test.YtmmcockkbhnopaaGreatOV38
import Derived.Test.YtmmcockkbhnopaaGreatOV34
import Derived.Test.YtmmcockkbhnopaaGreatOV16
import Derived.Deep.RegionHeld3
import Derived.Deep.CutRange
import Derived.Test.YtmmcockkbhnopaaGreatOV44
namespace Go.Proofs.YtmmcockkbhnopaaGreat
open Go.RowKit

set_option maxRecDepth 100000 in
set_option maxHeartbeats 8000000 in
theorem sSee_any (a1 a2 fa ha oa : Option Addr) (nt c1 c2 fc hc oc : Nat) (ts : List ByteArray) (fs : List Fn) (d : VmD) (w : World) (hV : VmGood ts fs d) (hs : Small ts fs) (hx : VmSmall d) (hfn : FnsAt w 0 a2 fs) (hm : FB w 0 fa d.frames) :
    Calls Tryz.prog 62 #[.agg #[.slice a1 nt c1, .slice a2 fs.length c2], .agg (vmCells fa ha oa fc hc oc d)] w (SeePost fs d w) := by
  unfold vmCells
  obtain ⟨W, hW⟩ : ∃ W, W = ((w.alloc (.cells #[.slice a1 nt c1, .slice a2 fs.length c2] 40)).alloc (.cells #[.slice fa d.frames.length fc, .slice ha d.heap.length hc, .int .i64 d.made, .slice oa d.out.length oc, .int .i64 d.status, .int .i64 d.trap, .int .i64 d.value.k, .int .i64 d.value.n, .string d.value.s, .int .i64 d.steps] 47)).alloc (.cells #[.int .i64 0, .int .i64 0, .int .i64 0, .int .i64 0] 68) := ⟨_, rfl⟩
  have hbW : Below w.heap.size w W := by rw [hW]; exact (((Below.refl _ _).alloc (Nat.le_refl _) _).alloc (by simp) _).alloc (by simp; omega) _
  have hX : W.heap[w.heap.size]? = some (.cells #[.slice a1 nt c1, .slice a2 fs.length c2] 40 (0, 0)) := by rw [hW]; exact block_old (block_old (block_new _ _ _) _) _
  have hY : W.heap[w.heap.size + 1]? = some (.cells #[.slice fa d.frames.length fc, .slice ha d.heap.length hc, .int .i64 d.made, .slice oa d.out.length oc, .int .i64 d.status, .int .i64 d.trap, .int .i64 d.value.k, .int .i64 d.value.n, .string d.value.s, .int .i64 d.steps] 47 (0, 0)) := by rw [hW]; exact block_old (block_new_at _ _ _ _ (by simp)) _
  have hR : W.heap[w.heap.size + 1 + 1]? = some (.cells #[.int .i64 0, .int .i64 0, .int .i64 0, .int .i64 0] 68 (0, 0)) := by rw [hW]; exact block_new_at _ _ _ _ (by simp)
  have HB := hidz hbW
  have HX := hidz hX
  have HR := hidz hR
  by_cases h0 : d.status = 0
  case neg =>
    have HO : Hid (seeD fs d = none) := see_off h0
    have g0 : (d.status != 0) = true := by simpa using h0
    have y0 := block_cell hY
    have r0 := block_free hR
    have r1 := block_cell hR
    clear hbW hX hY hR h0 hV hfn hm hs hx
    go_enter Tryz.func62, Tryz.ntmps62
    go_upto_region 1 with fail
    rw [← hW]
    clear hW
    go_wp2
    have rr := block_cell (stored4 (x := .int .i64 0) (y := .int .i64 0) (z := .int .i64 0) (u := .int .i64 0) HR.out)
    refine bodyPost_ret (v := .tuple #[.agg #[.int .i64 0, .int .i64 0, .int .i64 0, .int .i64 0], .bool false]) (by simp [results, Tryz.results62, go_sem, rr]) rfl ⟨⟨0, 0, 0, 0, false, rfl, .inr ⟨HO.out, rfl⟩⟩, ?_⟩
    have q2 : w.heap.size ≤ w.heap.size + 1 + 1 := by omega
    exact (((HB.out.setCell (p := ⟨w.heap.size + 1 + 1, 0, none⟩) q2 _).setCell (p := ⟨w.heap.size + 1 + 1, 1, none⟩) q2 _).setCell (p := ⟨w.heap.size + 1 + 1, 2, none⟩) q2 _).setCell (p := ⟨w.heap.size + 1 + 1, 3, none⟩) q2 _
  obtain ⟨n, f, p, hn, hf, hp, hn1, hl, hfe, hpe, hcl, hnm, -⟩ := see_at hV h0
  have HSEE := hidz (see_on hn hf hp h0 hl hfe hpe)
  obtain ⟨b, off, la, lc, sb, so, rfl, e0, e1, e2, e3, hS⟩ := fb_at (hm.mono hbW) hn
  rw [hfe] at e0
  rw [hpe] at e1
  obtain ⟨b2, off2, ca, cc, rfl, -, -, -, f2, hcode⟩ := hfn f hf
  obtain ⟨b3, off3, rfl, -, d0, d1⟩ := hcode p hp
  have hcl2 := hs.code _ (List.getElem_mem hf)
  have hst6 : d.frames[n].stack.length ≤ 1048576 := (hx.stack _ (List.getElem_mem hn)).1
  obtain ⟨st, hst⟩ : ∃ st, st = d.frames[n].stack := ⟨_, rfl⟩
  rw [← hst] at e3 hS HSEE hcl hnm hst6
  obtain ⟨sl, hsl⟩ : ∃ sl, sl = st.length := ⟨_, rfl⟩
  rw [← hsl] at e3 hcl hnm hst6
  have HSL := hidz hsl
  obtain ⟨ll, hll⟩ : ∃ ll, ll = d.frames[n].locals.length := ⟨_, rfl⟩
  rw [← hll] at e2
  obtain ⟨op, hop⟩ : ∃ op, op = fs[f].code[p].1 := ⟨_, rfl⟩
  obtain ⟨ar, har⟩ : ∃ ar, ar = fs[f].code[p].2 := ⟨_, rfl⟩
  rw [← hop] at d0 HSEE hcl hnm
  rw [← har] at d1 HSEE hcl
  have hcll : p < fs[f].code.length := hp
  obtain ⟨cl, hcl3⟩ : ∃ cl, cl = fs[f].code.length := ⟨_, rfl⟩
  rw [← hcl3] at f2 hcl2 hcll
  have hfL : (f : Int) < (fs.length : Int) := by omega
  have hpL : (p : Int) < (cl : Int) := by omega
  have hf6 := hs.funcs
  have hn24 : n ≤ 1048576 := by have := hx.frames; omega
  have hnL : (n : Int) < ((n + 1 : Nat) : Int) := by omega
  have g0 : (d.status != 0) = false := by rw [h0]; rfl
  obtain ⟨W1, hW1⟩ : ∃ W1, W1 = W.alloc (.cells #[.int .i64 (f : Int), .int .i64 (p : Int), .slice la ll lc, .slice (some ⟨sb, so, none⟩) sl sl] 110) := ⟨_, rfl⟩
  have hb1 : Below W.heap.size W W1 := by rw [hW1]; exact (Below.refl _ _).alloc (Nat.le_refl _) _
  have hG : W1.heap[W.heap.size]? = some (.cells #[.int .i64 (f : Int), .int .i64 (p : Int), .slice la ll lc, .slice (some ⟨sb, so, none⟩) sl sl] 110 (0, 0)) := by rw [hW1]; exact block_new _ _ _
  have hX1 := block_kept hX hb1
  have hR1 := block_kept hR hb1
  have hB1 := hbW.trans (hb1.mono hbW.size)
  have hWz : w.heap.size + 1 + 1 < W.heap.size := lt_szO hR
  obtain ⟨G, hGe⟩ : ∃ G, G = W.heap.size := ⟨_, rfl⟩
  rw [← hGe] at hG hWz
  have HS : Hid (∀ w', Below W1.heap.size W1 w' → w'.cell? ⟨w.heap.size, 1, none⟩ = some (.slice (some ⟨b2, off2, none⟩) fs.length c2) ∧ w'.cell? ⟨G, 0, none⟩ = some (.int .i64 (f : Int)) ∧ w'.cell? ⟨G, 1, none⟩ = some (.int .i64 (p : Int)) ∧ w'.cell? ⟨b2, off2 + f * 3 + 2, none⟩ = some (.slice (some ⟨b3, off3, none⟩) cl cc) ∧ w'.cell? ⟨b3, off3 + p * 2, none⟩ = some (.int .i64 op) ∧ w'.cell? ⟨b3, off3 + p * 2 + 1, none⟩ = some (.int .i64 ar)) := fun w' q => ⟨by rw [block_cell (block_kept hX1 q)]; rfl, by rw [block_cell (block_kept hG q)]; rfl, by rw [block_cell (block_kept hG q)]; rfl, cell_later (hB1.trans (q.mono hB1.size)) f2, cell_later (hB1.trans (q.mono hB1.size)) d0, cell_later (hB1.trans (q.mono hB1.size)) d1⟩
  have HG := hidz hG
  have HR1 := hidz hR1
  have HB1 := hidz hB1
  have HST := hidz (hS.mono hb1)
  have HW1 := hidz hW1
  have HGE := hidz hGe
  have HWZ := hidz hWz
  have y0 := block_cell hY
  rw [hn1] at y0
  clear hX hY hR hbW hb1 hG hX1 hR1 hB1 hS hsl hW1 hGe hWz hV hm hfn hs hx hl hfe hpe f2 d0 d1 hcode hop har hcl3 hst hll
  obtain ⟨len, hlen⟩ : ∃ len, len = d.frames.length := ⟨_, rfl⟩
  rw [← hlen] at hW ⊢
  obtain rfl : len = n + 1 := hlen.trans hn1
  clear hlen hn1 hn hf hp h0
  go_enter Tryz.func62, Tryz.ntmps62
  go_upto_region 1 with fail
  rw [← hW]
  clear hW
  go_upto_region 4 with fail
  rw [← HGE.out, ← HW1.out]
  clear HW1 y0 e0 e1 e2 e3 g0 HX
  obtain ⟨j0, j1, j2, j3, j4, j5⟩ := HS.out W1 (Below.refl _ _)
  have q : Below W1.heap.size W1 W1.drew := (Below.refl _ _).drew
  go_cut [7] from 23 to 33 (fun s7 wx => ∃ g7, s7 = .pointer (some ⟨g7, 0, none⟩) ∧ wx.heap[g7]? = some (.cells #[.int .i64 op, .int .i64 ar] 152 (0, 0)) ∧ Below W1.heap.size W1 wx)
  case first =>
    go_region_held3 (fun w' => w'.cell? ⟨w.heap.size, 1, none⟩ = some (.slice (some ⟨b2, off2, none⟩) fs.length c2) ∧ w'.cell? ⟨G, 0, none⟩ = some (.int .i64 (f : Int)) ∧ w'.cell? ⟨G, 1, none⟩ = some (.int .i64 (p : Int)) ∧ w'.cell? ⟨b2, off2 + f * 3 + 2, none⟩ = some (.slice (some ⟨b3, off3, none⟩) cl cc) ∧ w'.cell? ⟨b3, off3 + p * 2, none⟩ = some (.int .i64 op) ∧ w'.cell? ⟨b3, off3 + p * 2 + 1, none⟩ = some (.int .i64 ar))
      (first
        | exact ⟨j0, j1, j2, j3, j4, j5⟩
        | exact HS.out _ q
        | exact HS.out _ (q.alloc q.size _)
        | exact HS.out _ (((q.alloc q.size _).setCell q.size _).setCell q.size _))
      (fail)
    all_goals
      go_wp2_with fail
      go_meet
      case rel =>
        first
          | exact ⟨_, rfl, block_new _ _ _, q.alloc q.size _⟩
          | exact ⟨_, rfl, stored2 (block_new _ _ _), ((q.alloc q.size _).setCell q.size _).setCell q.size _⟩
  case rest =>
    obtain ⟨wx, hwx⟩ : ∃ wx, wx = wc := ⟨_, rfl⟩
    subst hwx
    obtain ⟨g7, rfl, hG7, hq⟩ := hcut
    clear j0 j1 j2 j3 j4 j5 q
    have hq0 := hq
    obtain ⟨wy, hwy⟩ : ∃ wy, wy = wx.alloc (.cells #[.int .i64 (f : Int), .int .i64 (p : Int), .int .i64 2, .int .i64 0] 68) := ⟨_, rfl⟩
    obtain ⟨g8, hg8⟩ : ∃ g8, g8 = wx.heap.size := ⟨_, rfl⟩
    have hby : Below wx.heap.size wx wy := by rw [hwy]; exact (Below.refl _ _).alloc (Nat.le_refl _) _
    have h1y : Below W1.heap.size W1 wy := hq.trans (hby.mono hq.size)
    have hy8 : wy.heap[g8]? = some (.cells #[.int .i64 (f : Int), .int .i64 (p : Int), .int .i64 2, .int .i64 0] 68 (0, 0)) := by rw [hwy, hg8]; exact block_new _ _ _
    have gx := block_cell (block_kept HG.out hq)
    have gy := block_cell (block_kept HG.out h1y)
    have y7 := block_cell (block_kept hG7 hby)
    have y8 := block_cell hy8
    have f8 := block_free hy8
    have HY8 := hidz hy8
    have HYR := hidz (block_kept HR1.out h1y)
    have yr := block_cell HYR.out
    have fr := block_free HYR.out
    have HSY := hidz (HST.out.mono h1y)
    have HBY := hidz (HB1.out.trans (h1y.mono HB1.out.size))
    have HL8 : Hid (w.heap.size + 1 + 1 < g8) := by
      have h1 := HWZ.out
      have h2 := lt_szO HG.out
      have h3 := hq0.size
      show _ < _
      omega
    have HWY := hidz hwy
    have HG8 := hidz hg8
    clear hG7 hq hq0 hby h1y hy8 hwy hg8
    go_upto_region 6 with fail
    rw [← HG8.out, ← HWY.out]
    clear HWY gx
    by_cases h2 : op = 23
    · obtain ⟨a, k, rfl, ha6, rfl⟩ := hcl h2
      have hl2 : st.length = k + a + 1 := HSL.out.symm
      obtain ⟨v, hv⟩ : ∃ v, v = st[k]'(by omega) := ⟨_, rfl⟩
      obtain ⟨c0, c1, c2⟩ := val_at HSY.out (j := k) (by omega)
      have ht : topV st a = v := (top_at (k := k) (j := a) (by omega)).trans hv.symm
      have hsee : seeD fs d = some ⟨f, p, if v.k = 5 then 1 else 2, if v.k = 5 then v.n else 0⟩ := by
        rw [HSEE.out, h2, seen_call ht]
        show some _ = some _
        by_cases q : v.k = 5
        · rw [if_pos q, if_pos q, if_pos q]
        · rw [if_neg q, if_neg q, if_neg q]
      rw [← hv] at c0 c1 c2
      clear hv hl2 ht HSEE HSL hcl hnm HSY
      subst h2
      have z0 : (0 : Int) ≤ (k : Int) := by omega
      have z1 : (k : Int) < ((k + a + 1 : Nat) : Int) := by omega
      have z2 : (k : Int) < (k : Int) + (a : Int) + 1 := by omega
      go_wp2_with fail
      refine (is_yes (.inr rfl) wy).mono ?_
      rintro e we ⟨rfl, hwe⟩
      rw [hwe]
      clear hwe we
      obtain ⟨wv, hwv⟩ : ∃ wv, wv = wy.alloc (.cells #[.int .i64 v.k, .int .i64 v.n, .string v.s] 45) := ⟨_, rfl⟩
      have hbv : Below wy.heap.size wy wv := by rw [hwv]; exact (Below.refl _ _).alloc (Nat.le_refl _) _
      have hvv : wv.heap[wy.heap.size]? = some (.cells #[.int .i64 v.k, .int .i64 v.n, .string v.s] 45 (0, 0)) := by rw [hwv]; exact block_new _ _ _
      have hv8 := block_kept HY8.out hbv
      have hvR := block_kept HYR.out hbv
      have hvB := HBY.out.trans (hbv.mono HBY.out.size)
      have x8 := block_cell hv8
      have xf := block_free hv8
      have xv := block_cell hvv
      have xr := block_cell hvR
      have xg := block_free hvR
      go_upto_region 11 with fail
      rw [← hwv]
      obtain ⟨g10, hg10⟩ : ∃ g10, g10 = wy.heap.size := ⟨_, rfl⟩
      rw [← hg10] at xv ⊢
      clear hwv hg10 c0 c1 c2 y7 y8 gy f8 yr fr z0 z1 z2
      by_cases q5 : v.k = 5
      · have e5 : (v.k == 5) = true := by simpa using q5
        have HO : Hid (seeD fs d = some ⟨f, p, 1, v.n⟩) := by show _ = _; rw [hsee, if_pos q5, if_pos q5]
        clear hsee
        clear q5
        obtain ⟨wz, hwz⟩ : ∃ wz, wz = ((wv.setCell ⟨g8, 2, none⟩ (.int .i64 1)).setCell ⟨g8, 3, none⟩ (.int .i64 v.n)) := ⟨_, rfl⟩
        have q8 : w.heap.size ≤ g8 := by have := HL8.out; omega
        have hz8 : wz.heap[g8]? = some (.cells #[.int .i64 (f : Int), .int .i64 (p : Int), .int .i64 1, .int .i64 v.n] 68 (0, 0)) := by rw [hwz]; exact (block_set (i := 3) (block_set (i := 2) hv8 (.int .i64 1)) (.int .i64 v.n))
        have hzR : wz.heap[w.heap.size + 1 + 1]? = some (.cells #[.int .i64 0, .int .i64 0, .int .i64 0, .int .i64 0] 68 (0, 0)) := by rw [hwz]; exact (block_otherO (block_otherO hvR (Nat.ne_of_lt HL8.out) _) (Nat.ne_of_lt HL8.out) _)
        have HBZ : Hid (Below w.heap.size w wz) := by rw [hwz]; exact ((hvB.setCell (p := ⟨g8, 2, none⟩) q8 _).setCell (p := ⟨g8, 3, none⟩) q8 _)
        have z8 := block_cell hz8
        have zr := block_cell hzR
        have zf := block_free hzR
        have HRZ := hidz hzR
        clear hz8 hzR q8
        go_upto_region 14 with fail
        rw [← hwz]
        clear hwz
        go_wp2
        have rr := block_cell (stored4 (x := .int .i64 (f : Int)) (y := .int .i64 (p : Int)) (z := .int .i64 1) (u := .int .i64 v.n) HRZ.out)
        refine bodyPost_ret (v := .tuple #[.agg #[.int .i64 (f : Int), .int .i64 (p : Int), .int .i64 1, .int .i64 v.n], .bool true]) (by simp [results, Tryz.results62, go_sem, rr]) rfl ⟨⟨_, _, _, _, true, rfl, .inl ⟨HO.out, rfl⟩⟩, ?_⟩
        have q2 : w.heap.size ≤ w.heap.size + 1 + 1 := by omega
        exact (((HBZ.out.setCell (p := ⟨w.heap.size + 1 + 1, 0, none⟩) q2 _).setCell (p := ⟨w.heap.size + 1 + 1, 1, none⟩) q2 _).setCell (p := ⟨w.heap.size + 1 + 1, 2, none⟩) q2 _).setCell (p := ⟨w.heap.size + 1 + 1, 3, none⟩) q2 _
      · have e5 : (v.k == 5) = false := by simpa using q5
        have HO : Hid (seeD fs d = some ⟨f, p, 2, 0⟩) := by show _ = _; rw [hsee, if_neg q5, if_neg q5]
        clear hsee
        clear q5
        have HRZ := hidz hvR
        have HBZ := hidz hvB
        go_wp2
        have rr := block_cell (stored4 (x := .int .i64 (f : Int)) (y := .int .i64 (p : Int)) (z := .int .i64 2) (u := .int .i64 0) HRZ.out)
        refine bodyPost_ret (v := .tuple #[.agg #[.int .i64 (f : Int), .int .i64 (p : Int), .int .i64 2, .int .i64 0], .bool true]) (by simp [results, Tryz.results62, go_sem, rr]) rfl ⟨⟨_, _, _, _, true, rfl, .inl ⟨HO.out, rfl⟩⟩, ?_⟩
        have q2 : w.heap.size ≤ w.heap.size + 1 + 1 := by omega
        exact (((HBZ.out.setCell (p := ⟨w.heap.size + 1 + 1, 0, none⟩) q2 _).setCell (p := ⟨w.heap.size + 1 + 1, 1, none⟩) q2 _).setCell (p := ⟨w.heap.size + 1 + 1, 2, none⟩) q2 _).setCell (p := ⟨w.heap.size + 1 + 1, 3, none⟩) q2 _
    · have k2 : (op == 23) = false := by simpa using h2
      by_cases h1 : 11 ≤ op ∧ op ≤ 14
      · obtain ⟨k, rfl⟩ := hnm h1
        have hl2 : st.length = k + 1 + 1 := HSL.out.symm
        obtain ⟨v0, hv0⟩ : ∃ v, v = st[k]'(by omega) := ⟨_, rfl⟩
        obtain ⟨v1, hv1⟩ : ∃ v, v = st[k + 1]'(by omega) := ⟨_, rfl⟩
        obtain ⟨c0, -, -⟩ := val_at HSY.out (j := k) (by omega)
        obtain ⟨c1, -, -⟩ := val_at HSY.out (j := k + 1) (by omega)
        have ht0 : topV st 1 = v0 := (top_at (k := k) (j := 1) (by omega)).trans hv0.symm
        have ht1 : topV st 0 = v1 := (top_at (k := k + 1) (j := 0) (by omega)).trans hv1.symm
        have hsee : seeD fs d = some ⟨f, p, if v1.k = 1 ∧ v0.k = 1 then 1 else 2, 0⟩ := by
          rw [HSEE.out, seen_num h1 ht1 ht0]
          show some _ = some _
          by_cases q : v1.k = 1 ∧ v0.k = 1
          · rw [if_pos q, if_pos q]
          · rw [if_neg q, if_neg q]
        rw [← hv0] at c0
        rw [← hv1] at c1
        clear hv0 hv1 hl2 ht0 ht1 HSEE HSL hcl hnm HSY
        have z0 : (0 : Int) ≤ (k : Int) := by omega
        have z1 : (k : Int) < ((k + 2 : Nat) : Int) := by omega
        have z2 : (0 : Int) ≤ (k : Int) + 1 := by omega
        have z3 : (k : Int) + 1 < ((k + 2 : Nat) : Int) := by omega
        have z4 : ((k : Int) + 1).toNat = k + 1 := by omega
        go_wp2_with fail
        refine (is_yes (.inl h1) wy).mono ?_
        rintro e we ⟨rfl, hwe⟩
        rw [hwe]
        clear hwe we
        by_cases q0 : v0.k = 1
        · have e0 : (v0.k == 1) = true := by simpa using q0
          by_cases q1 : v1.k = 1
          · have e1 : (v1.k == 1) = true := by simpa using q1
            have HO : Hid (seeD fs d = some ⟨f, p, 1, 0⟩) := by show _ = _; rw [hsee, if_pos ⟨q1, q0⟩]
            clear hsee
            clear q0 q1
            obtain ⟨wz, hwz⟩ : ∃ wz, wz = (wy.setCell ⟨g8, 2, none⟩ (.int .i64 1)) := ⟨_, rfl⟩
            have q8 : w.heap.size ≤ g8 := by have := HL8.out; omega
            have hz8 : wz.heap[g8]? = some (.cells #[.int .i64 (f : Int), .int .i64 (p : Int), .int .i64 1, .int .i64 0] 68 (0, 0)) := by rw [hwz]; exact (block_set (i := 2) HY8.out (.int .i64 1))
            have hzR : wz.heap[w.heap.size + 1 + 1]? = some (.cells #[.int .i64 0, .int .i64 0, .int .i64 0, .int .i64 0] 68 (0, 0)) := by rw [hwz]; exact (block_otherO HYR.out (Nat.ne_of_lt HL8.out) _)
            have HBZ : Hid (Below w.heap.size w wz) := by rw [hwz]; exact (HBY.out.setCell (p := ⟨g8, 2, none⟩) q8 _)
            have z8 := block_cell hz8
            have zr := block_cell hzR
            have zf := block_free hzR
            have HRZ := hidz hzR
            clear hz8 hzR q8
            go_upto_region 17 with fail
            rw [← hwz]
            clear hwz
            go_wp2
            have rr := block_cell (stored4 (x := .int .i64 (f : Int)) (y := .int .i64 (p : Int)) (z := .int .i64 1) (u := .int .i64 0) HRZ.out)
            refine bodyPost_ret (v := .tuple #[.agg #[.int .i64 (f : Int), .int .i64 (p : Int), .int .i64 1, .int .i64 0], .bool true]) (by simp [results, Tryz.results62, go_sem, rr]) rfl ⟨⟨_, _, _, _, true, rfl, .inl ⟨HO.out, rfl⟩⟩, ?_⟩
            have q2 : w.heap.size ≤ w.heap.size + 1 + 1 := by omega
            exact (((HBZ.out.setCell (p := ⟨w.heap.size + 1 + 1, 0, none⟩) q2 _).setCell (p := ⟨w.heap.size + 1 + 1, 1, none⟩) q2 _).setCell (p := ⟨w.heap.size + 1 + 1, 2, none⟩) q2 _).setCell (p := ⟨w.heap.size + 1 + 1, 3, none⟩) q2 _
          · have e1 : (v1.k == 1) = false := by simpa using q1
            have HO : Hid (seeD fs d = some ⟨f, p, 2, 0⟩) := by show _ = _; rw [hsee, if_neg (fun q => q1 q.1)]
            clear hsee
            clear q0 q1
            have HRZ := hidz HYR.out
            have HBZ := hidz HBY.out
            go_wp2
            have rr := block_cell (stored4 (x := .int .i64 (f : Int)) (y := .int .i64 (p : Int)) (z := .int .i64 2) (u := .int .i64 0) HRZ.out)
            refine bodyPost_ret (v := .tuple #[.agg #[.int .i64 (f : Int), .int .i64 (p : Int), .int .i64 2, .int .i64 0], .bool true]) (by simp [results, Tryz.results62, go_sem, rr]) rfl ⟨⟨_, _, _, _, true, rfl, .inl ⟨HO.out, rfl⟩⟩, ?_⟩
            have q2 : w.heap.size ≤ w.heap.size + 1 + 1 := by omega
            exact (((HBZ.out.setCell (p := ⟨w.heap.size + 1 + 1, 0, none⟩) q2 _).setCell (p := ⟨w.heap.size + 1 + 1, 1, none⟩) q2 _).setCell (p := ⟨w.heap.size + 1 + 1, 2, none⟩) q2 _).setCell (p := ⟨w.heap.size + 1 + 1, 3, none⟩) q2 _
        · have e0 : (v0.k == 1) = false := by simpa using q0
          by_cases q1 : v1.k = 1
          · have e1 : (v1.k == 1) = true := by simpa using q1
            have HO : Hid (seeD fs d = some ⟨f, p, 2, 0⟩) := by show _ = _; rw [hsee, if_neg (fun q => q0 q.2)]
            clear hsee
            clear q0 q1
            have HRZ := hidz HYR.out
            have HBZ := hidz HBY.out
            go_wp2
            have rr := block_cell (stored4 (x := .int .i64 (f : Int)) (y := .int .i64 (p : Int)) (z := .int .i64 2) (u := .int .i64 0) HRZ.out)
            refine bodyPost_ret (v := .tuple #[.agg #[.int .i64 (f : Int), .int .i64 (p : Int), .int .i64 2, .int .i64 0], .bool true]) (by simp [results, Tryz.results62, go_sem, rr]) rfl ⟨⟨_, _, _, _, true, rfl, .inl ⟨HO.out, rfl⟩⟩, ?_⟩
            have q2 : w.heap.size ≤ w.heap.size + 1 + 1 := by omega
            exact (((HBZ.out.setCell (p := ⟨w.heap.size + 1 + 1, 0, none⟩) q2 _).setCell (p := ⟨w.heap.size + 1 + 1, 1, none⟩) q2 _).setCell (p := ⟨w.heap.size + 1 + 1, 2, none⟩) q2 _).setCell (p := ⟨w.heap.size + 1 + 1, 3, none⟩) q2 _
          · have e1 : (v1.k == 1) = false := by simpa using q1
            have HO : Hid (seeD fs d = some ⟨f, p, 2, 0⟩) := by show _ = _; rw [hsee, if_neg (fun q => q0 q.2)]
            clear hsee
            clear q0 q1
            have HRZ := hidz HYR.out
            have HBZ := hidz HBY.out
            go_wp2
            have rr := block_cell (stored4 (x := .int .i64 (f : Int)) (y := .int .i64 (p : Int)) (z := .int .i64 2) (u := .int .i64 0) HRZ.out)
            refine bodyPost_ret (v := .tuple #[.agg #[.int .i64 (f : Int), .int .i64 (p : Int), .int .i64 2, .int .i64 0], .bool true]) (by simp [results, Tryz.results62, go_sem, rr]) rfl ⟨⟨_, _, _, _, true, rfl, .inl ⟨HO.out, rfl⟩⟩, ?_⟩
            have q2 : w.heap.size ≤ w.heap.size + 1 + 1 := by omega
            exact (((HBZ.out.setCell (p := ⟨w.heap.size + 1 + 1, 0, none⟩) q2 _).setCell (p := ⟨w.heap.size + 1 + 1, 1, none⟩) q2 _).setCell (p := ⟨w.heap.size + 1 + 1, 2, none⟩) q2 _).setCell (p := ⟨w.heap.size + 1 + 1, 3, none⟩) q2 _
      · go_wp2_with fail
        refine (is_no (fun q => q.elim h1 h2) wy).mono ?_
        rintro e we ⟨rfl, hwe⟩
        rw [hwe]
        clear hwe we
        have HO : Hid (seeD fs d = none) := by show _ = _; rw [HSEE.out, seen_none h2 h1]; rfl
        clear HSEE hcl hnm HSL
        go_wp2
        have rr := block_cell (stored4 (x := .int .i64 0) (y := .int .i64 0) (z := .int .i64 0) (u := .int .i64 0) HYR.out)
        refine bodyPost_ret (v := .tuple #[.agg #[.int .i64 0, .int .i64 0, .int .i64 0, .int .i64 0], .bool false]) (by simp [results, Tryz.results62, go_sem, rr]) rfl ⟨⟨0, 0, 0, 0, false, rfl, .inr ⟨HO.out, rfl⟩⟩, ?_⟩
        have q2 : w.heap.size ≤ w.heap.size + 1 + 1 := by omega
        exact (((HBY.out.setCell (p := ⟨w.heap.size + 1 + 1, 0, none⟩) q2 _).setCell (p := ⟨w.heap.size + 1 + 1, 1, none⟩) q2 _).setCell (p := ⟨w.heap.size + 1 + 1, 2, none⟩) q2 _).setCell (p := ⟨w.heap.size + 1 + 1, 3, none⟩) q2 _
end Go.Proofs.YtmmcockkbhnopaaGreat

namespace Go.Proofs.YtmmcockkbhnopaaGreat
open Go.RowKit

/-- The first site of a list at an instruction, the zero site without one. -/
def siteIn (ss : List Si) (f pc : Int) : Si := (ss.find? (fun s => decide (s.f = f ∧ s.pc = pc))).getD ⟨0, 0, 0, 0⟩
theorem siteIn_hit {ss : List Si} {f pc : Int} {k : Nat} (hk : k < ss.length) (h1 : ss[k].f = f) (h2 : ss[k].pc = pc) (hno : ∀ j (hj : j < ss.length), j < k → ¬ (ss[j].f = f ∧ ss[j].pc = pc)) : siteIn ss f pc = ss[k] := by
  unfold siteIn
  rw [List.find?_eq_some_iff_getElem.2 ⟨by simp [h1, h2], k, hk, rfl, fun j hj => by simp only [Bool.not_eq_true', decide_eq_false_iff_not]; exact hno j (by omega) hj⟩]
  rfl
theorem siteIn_none {ss : List Si} {f pc : Int} (hno : ∀ j (hj : j < ss.length), ¬ (ss[j].f = f ∧ ss[j].pc = pc)) : siteIn ss f pc = ⟨0, 0, 0, 0⟩ := by
  unfold siteIn
  rw [List.find?_eq_none.2 (fun s hs => by obtain ⟨j, hj, rfl⟩ := List.getElem_of_mem hs; simp only [decide_eq_true_eq]; exact hno j hj)]
  rfl


theorem siteIn_seen {fs : List Fn} {ss : List Si} (h : ProfP fs ss) {f pc : Int} : ((∃ x ∈ ss, x.f = f ∧ x.pc = pc) ∧ (siteIn ss f pc).seen ≠ 0) ∨ (¬ (∃ x ∈ ss, x.f = f ∧ x.pc = pc) ∧ (siteIn ss f pc).seen = 0) := by
  cases hx : ss.find? (fun s => decide (s.f = f ∧ s.pc = pc)) with
  | none =>
    refine .inr ⟨fun ⟨x, hm, hp⟩ => ?_, by unfold siteIn; rw [hx]; rfl⟩
    have := List.find?_eq_none.1 hx x hm
    simp [hp] at this
  | some x =>
    have h1 := List.find?_some hx
    simp only [decide_eq_true_eq] at h1
    have h2 := List.mem_of_find?_eq_some hx
    have h3 := site_seen (prof_site h h2)
    refine .inl ⟨⟨x, h2, h1⟩, ?_⟩
    unfold siteIn
    rw [hx]
    show x.seen ≠ 0
    omega
theorem no_moreS {ss : List Si} {f pc : Int} {k : Nat} (h : ∀ j (hj : j < ss.length), j < k → ¬ (ss[j].f = f ∧ ss[j].pc = pc)) (hlt : k < ss.length) (hk : ¬ (ss[k].f = f ∧ ss[k].pc = pc)) : ∀ j (hj : j < ss.length), j < k + 1 → ¬ (ss[j].f = f ∧ ss[j].pc = pc) := by
  intro j hj hjk
  by_cases e : j = k
  · subst e; exact hk
  · exact h j hj (by omega)

set_option maxHeartbeats 1000000 in
theorem sSiteAt_any (a : Option Addr) (ss : List Si) (cap : Nat) (f pc : Int) (w : World) (hn : ss.length ≤ 1048576) (hm : SitesAt w 0 a ss) :
    Calls Tryz.prog 63 #[.slice a ss.length cap, .int .i64 f, .int .i64 pc] w fun e w' => e = .returned (.agg (siteIn ss f pc).cells) ∧ Below w.heap.size w w' := by
  go_enter Tryz.func63, Tryz.ntmps63
  go_wp2
  go_loopw [7] (fun i wr => ∃ (k : Nat), k ≤ ss.length ∧ i = .int .i64 k ∧ Hid (∀ j (hj : j < ss.length), j < k → ¬ (ss[j].f = f ∧ ss[j].pc = pc)) ∧ wr.heap[w.heap.size]? = some (.cells #[.int .i64 0, .int .i64 0, .int .i64 0, .int .i64 0] 68 (0, 0)) ∧ Below w.heap.size w wr) (fun i _ => ss.length - (intOf i).toNat)
  case atStart => exact ⟨0, by omega, rfl, fun _ _ h => absurd h (Nat.not_lt_zero _), block_new _ _ _, (Below.refl _ _).alloc (Nat.le_refl _) _⟩
  case round =>
    obtain ⟨k, hk, rfl, hno, hR, hb⟩ := hrel
    have hsz := hb.size
    by_cases hlt : k < ss.length
    · obtain ⟨b, off, rfl, -, c1, c2, c3, c4⟩ := hm k hlt
      have c1' := cell_later hb c1
      have c2' := cell_later hb c2
      have c3' := cell_later hb c3
      have c4' := cell_later hb c4
      clear c1 c2 c3 c4
      obtain ⟨x1, hx1⟩ : ∃ x1, x1 = ss[k].f := ⟨_, rfl⟩
      obtain ⟨x2, hx2⟩ : ∃ x2, x2 = ss[k].pc := ⟨_, rfl⟩
      rw [← hx1] at c1'
      rw [← hx2] at c2'
      have HX1 : Hid (x1 = ss[k].f) := hx1
      have HX2 : Hid (x2 = ss[k].pc) := hx2
      clear hx1 hx2
      by_cases h1 : x1 = f
      · subst h1
        by_cases h2 : x2 = pc
        · subst h2
          have r1 := block_cell hR
          have r2 := block_free hR
          go_wp2
          refine bodyPost_ret (v := .agg #[.int .i64 x1, .int .i64 x2, .int .i64 ss[k].seen, .int .i64 ss[k].target]) (by simp [results, Tryz.results63, go_sem, r1]) rfl ⟨?_, ?_⟩
          · rw [siteIn_hit hlt HX1.out.symm HX2.out.symm hno.out, HX1.out, HX2.out]; rfl
          · exact ((((hb).setCell (Nat.le_refl _) _).setCell (Nat.le_refl _) _).setCell (Nat.le_refl _) _).setCell (Nat.le_refl _) _
        · go_wp2
          go_roundw
          case rel => exact ⟨k + 1, by omega, by go_num, no_moreS hno.out hlt (fun h => h2 (by rw [HX2.out]; exact h.2)), hR, hb⟩
          case measure => simp [intOf]; omega
      · go_wp2
        go_roundw
        case rel => exact ⟨k + 1, by omega, by go_num, no_moreS hno.out hlt (fun h => h1 (by rw [HX1.out]; exact h.1)), hR, hb⟩
        case measure => simp [intOf]; omega
    · have r1 := block_cell hR
      have r2 := block_free hR
      go_wp2
      refine bodyPost_ret (v := .agg #[.int .i64 0, .int .i64 0, .int .i64 0, .int .i64 0]) (by simp [results, Tryz.results63, go_sem, r1]) rfl ⟨?_, ?_⟩
      · rw [siteIn_none (fun j hj => hno.out j hj (by omega))]; rfl
      · exact (((hb.setCell (Nat.le_refl _) _).setCell (Nat.le_refl _) _).setCell (Nat.le_refl _) _).setCell (Nat.le_refl _) _

end Go.Proofs.YtmmcockkbhnopaaGreat

namespace Go.Proofs.YtmmcockkbhnopaaGreat
open Go.RowKit

theorem obs_none {fs : List Fn} {p : List Si} {d : VmD} (h : seeD fs d = none) : mergeS (opD fs) p (obsQ fs p d) = p := by unfold obsQ; rw [h]; rfl
theorem obs_full {fs : List Fn} {p : List Si} {d : VmD} {f q sn tg : Int} (h : seeD fs d = some ⟨f, q, sn, tg⟩) (h1 : ¬ ∃ x ∈ p, x.f = f ∧ x.pc = q) (h2 : ¬ p.length < 150) : mergeS (opD fs) p (obsQ fs p d) = p := by
  unfold obsQ
  rw [h]
  show mergeS _ p (if _ then _ else _) = p
  rw [if_neg (fun k => k.elim h1 h2)]
  rfl
theorem obs_lay {fs : List Fn} {p : List Si} {d : VmD} {f q sn tg : Int} (h : seeD fs d = some ⟨f, q, sn, tg⟩) (h1 : (∃ x ∈ p, x.f = f ∧ x.pc = q) ∨ p.length < 150) : mergeS (opD fs) p (obsQ fs p d) = layR (opD fs f q) ⟨f, q, sn, tg⟩ false p := by
  unfold obsQ
  rw [h]
  show mergeS _ p (if _ then _ else _) = _
  rw [if_pos h1]
  rfl

set_option maxRecDepth 100000 in
set_option maxHeartbeats 8000000 in
theorem sObs_any (a1 a2 pa fa ha oa : Option Addr) (c1 c2 pc fc hc oc : Nat) (ts : List ByteArray) (fs : List Fn) (p : List Si) (d : VmD) (w : World) (hV : VmGood ts fs d) (hP : ProfP fs p) (hs : Small ts fs) (hx : VmSmall d) (hfn : FnsAt w 0 a2 fs) (hm : FB w 0 fa d.frames) (hp : SitesAt w 0 pa p) :
    Calls Tryz.prog 29 #[.agg #[.slice a1 ts.length c1, .slice a2 fs.length c2], .slice pa p.length pc, .agg (vmCells fa ha oa fc hc oc d)] w fun e w' => ∃ v, e = .returned v ∧ w'.ownsRow w.heap.size 68 4 v (mergeS (opD fs) p (obsQ fs p d)).length (flatS (mergeS (opD fs) p (obsQ fs p d))) ∧ Below w.heap.size w w' := by
  have HSEE : Hid (∀ w', Below w.heap.size w w' → Calls Tryz.prog 62 #[.agg #[.slice a1 ts.length c1, .slice a2 fs.length c2], .agg (vmCells fa ha oa fc hc oc d)] w' (SeePost fs d w')) := fun w' h => sSee_any a1 a2 fa ha oa ts.length c1 c2 fc hc oc ts fs d w' hV hs hx (hfn.mono h) (hm.mono h)
  unfold vmCells at HSEE ⊢
  obtain ⟨W, hW⟩ : ∃ W, W = (w.alloc (.cells #[.slice a1 ts.length c1, .slice a2 fs.length c2] 40)).alloc (.cells #[.slice fa d.frames.length fc, .slice ha d.heap.length hc, .int .i64 d.made, .slice oa d.out.length oc, .int .i64 d.status, .int .i64 d.trap, .int .i64 d.value.k, .int .i64 d.value.n, .string d.value.s, .int .i64 d.steps] 47) := ⟨_, rfl⟩
  have hbW : Below w.heap.size w W := by rw [hW]; exact ((Below.refl _ _).alloc (Nat.le_refl _) _).alloc (by simp) _
  have hX : W.heap[w.heap.size]? = some (.cells #[.slice a1 ts.length c1, .slice a2 fs.length c2] 40 (0, 0)) := by rw [hW]; exact block_old (block_new _ _ _) _
  have hY : W.heap[w.heap.size + 1]? = some (.cells #[.slice fa d.frames.length fc, .slice ha d.heap.length hc, .int .i64 d.made, .slice oa d.out.length oc, .int .i64 d.status, .int .i64 d.trap, .int .i64 d.value.k, .int .i64 d.value.n, .string d.value.s, .int .i64 d.steps] 47 (0, 0)) := by rw [hW]; exact block_new_at _ _ _ _ (by simp)
  have HSA : Hid (∀ (f q : Int) (w' : World), Below w.heap.size w w' → Calls Tryz.prog 63 #[.slice pa p.length pc, .int .i64 f, .int .i64 q] w' fun e w'' => e = .returned (.agg (siteIn p f q).cells) ∧ Below w'.heap.size w' w'') := fun f q w' h => sSiteAt_any pa p pc f q w' (by have := hP.1; omega) (hp.mono h)
  have HLX : Hid (∀ (x : Si), SiteP fs x → ∀ w', Below w.heap.size w w' → Calls Tryz.prog 51 #[.agg #[.slice a1 ts.length c1, .slice a2 fs.length c2], .slice pa p.length pc, .agg #[.int .i64 x.f, .int .i64 x.pc, .int .i64 x.seen, .int .i64 x.target]] w' (LayPost fs x p w')) := fun x h1 w' h => sLay_site a1 a2 ts.length c1 c2 fs pa p pc x w' h1 (hfn.mono h) (by have := hP.1; omega) (fun y hy => site_seen (prof_site hP hy)) (hp.mono h)
  have HST : Hid (∀ s, seeD fs d = some s → SiteP fs s) := fun s h => see_site hV h
  have HSI := hidz hp
  have hp150 := hP.1
  clear hV hs hx hfn hm hp
  have x0 := block_cell hX
  have y0 := block_cell hY
  go_enter Tryz.func29, Tryz.ntmps29
  go_wp2_with fail
  rw [← hW]
  clear hW x0 y0
  refine (HSEE.out W hbW).mono ?_
  rintro e w1 ⟨⟨f, q, sn, tg, b, rfl, hsee⟩, hb1⟩
  obtain ⟨w2, hw2⟩ : ∃ w2, w2 = w1.alloc (.cells #[.int .i64 f, .int .i64 q, .int .i64 sn, .int .i64 tg] 68) := ⟨_, rfl⟩
  have hb2 : Below w1.heap.size w1 w2 := by rw [hw2]; exact (Below.refl _ _).alloc (Nat.le_refl _) _
  have hZ2 : w2.heap[w1.heap.size]? = some (.cells #[.int .i64 f, .int .i64 q, .int .i64 sn, .int .i64 tg] 68 (0, 0)) := by rw [hw2]; exact block_new _ _ _
  have hbW2 : Below W.heap.size W w2 := hb1.trans (hb2.mono hb1.size)
  have hX2 := block_kept hX hbW2
  have hB2 := hbW.trans (hbW2.mono hbW.size)
  clear hX hY hb1 hb2 hbW2 HSEE hbW
  rcases hsee with ⟨hd, rfl⟩ | ⟨hd, rfl⟩
  case inr =>
    have HD := hidz hd
    clear hX2 hd hZ2
    go_upto_region 2 with fail
    rw [← hw2]
    clear hw2
    obtain ⟨g3, cap3, w9, hr9, hown9, hb9⟩ := run_appS w2 w2.heap.size (Nat.le_refl _) pa pc p (by have := hP.1; omega) (HSI.out.mono hB2)
    have HO9 := hidz (own_lowz hown9 hB2.size)
    have HB9 := hidz (hB2.trans (hb9.mono hB2.size))
    clear hown9 hb9
    go_wp2_with (at_builtin; refine wpList_run hr9 rfl _ _ rfl rfl rfl rfl ?_)
    clear hr9
    go_ret
    refine ⟨_, rfl, ?_, HB9.out⟩
    rw [obs_none HD.out]
    exact HO9.out

  case inl =>
    have HLA : Hid (∀ w', Below w.heap.size w w' → Calls Tryz.prog 51 #[.agg #[.slice a1 ts.length c1, .slice a2 fs.length c2], .slice pa p.length pc, .agg #[.int .i64 f, .int .i64 q, .int .i64 sn, .int .i64 tg]] w' (LayPost fs ⟨f, q, sn, tg⟩ p w')) := fun w' h => HLX.out ⟨f, q, sn, tg⟩ (HST.out _ hd) w' h
    have HD := hidz hd
    have HX2 := hidz hX2
    have HZ2 := hidz hZ2
    have z2 := block_cell hZ2
    clear HLX HST hd hX2 hZ2
    go_upto_region 2 with fail
    rw [← hw2]
    clear hw2
    go_wp2_with fail
    refine (HSA.out f q w2 hB2).mono ?_
    rintro e w3 ⟨rfl, hb3⟩
    have hX3 := block_kept HX2.out hb3
    have hZ3 := block_kept HZ2.out hb3
    have hB3 := hB2.trans (hb3.mono hB2.size)
    have x3 := block_cell hX3
    have z3 := block_cell hZ3
    have HSN := hidz (siteIn_seen hP (f := f) (pc := q))
    clear hX3 hZ3 hb3 HX2 HZ2 HSA hB2 z2
    generalize siteIn p f q = s0 at HSN ⊢
    obtain ⟨s1, s2, s3, s4⟩ := s0
    unfold Si.cells
    have hfld : (Instr.field 68 (.agg #[.int .i64 s1, .int .i64 s2, .int .i64 s3, .int .i64 s4]) 2).run Tryz.prog w3 = .ok (.int .i64 s3) w3 := by kernel_rfl
    rcases HSN.out with ⟨h1, h2⟩ | ⟨h1, h2⟩
    · have k1 : (s3 == 0) = false := by simpa using h2
      have HI : Hid ((∃ x ∈ p, x.f = f ∧ x.pc = q) ∨ p.length < 150) := .inl h1
      clear h1 h2 HSN
      go_wp2_with fail
      refine (HLA.out w3 hB3).mono ?_
      rintro e w9 ⟨v, rfl, ho9, hb9⟩
      have HO9 := hidz (own_lowz ho9 (show w.heap.size ≤ w3.heap.size + 2 by have := hB3.size; omega))
      have HB9 := hidz (hB3.trans (hb9.mono hB3.size))
      clear ho9 hb9
      go_wp2
      go_ret
      refine ⟨_, rfl, ?_, HB9.out⟩
      rw [obs_lay HD.out HI.out]
      exact HO9.out

    · have k1 : (s3 == 0) = true := by simpa using h2
      have HI := hidz h1
      clear h1 h2 HSN
      by_cases h5 : p.length < 150
      · have k2 : ((p.length : Int) == 150) = false := by simp; omega
        have HI5 : Hid ((∃ x ∈ p, x.f = f ∧ x.pc = q) ∨ p.length < 150) := .inr h5
        clear h5
        go_wp2_with fail
        refine (HLA.out w3 hB3).mono ?_
        rintro e w9 ⟨v, rfl, ho9, hb9⟩
        have HO9 := hidz (own_lowz ho9 (show w.heap.size ≤ w3.heap.size + 2 by have := hB3.size; omega))
        have HB9 := hidz (hB3.trans (hb9.mono hB3.size))
        clear ho9 hb9
        go_wp2
        go_ret
        refine ⟨_, rfl, ?_, HB9.out⟩
        rw [obs_lay HD.out HI5.out]
        exact HO9.out

      · have k2 : ((p.length : Int) == 150) = true := by simp; omega
        have HI5 := hidz h5
        clear h5
        obtain ⟨g3, cap3, w9, hr9, hown9, hb9⟩ := run_appS w3 w3.heap.size (Nat.le_refl _) pa pc p (by have := hP.1; omega) (HSI.out.mono hB3)
        have HO9 := hidz (own_lowz hown9 hB3.size)
        have HB9 := hidz (hB3.trans (hb9.mono hB3.size))
        clear hown9 hb9
        go_wp2_with (at_builtin; refine wpList_run hr9 rfl _ _ rfl rfl rfl rfl ?_)
        clear hr9
        go_ret
        refine ⟨_, rfl, ?_, HB9.out⟩
        rw [obs_full HD.out HI.out HI5.out]
        exact HO9.out

end Go.Proofs.YtmmcockkbhnopaaGreat

namespace Go.Proofs.YtmmcockkbhnopaaGreat
open Go.RowKit

/-- What is returned: a row of the call's own. -/
def ObsPost (ts : List ByteArray) (fs : List Fn) (p : List Si) (d : VmD) (w : World) : Ending → World → Prop := fun e w' => ∃ v R, e = .returned v ∧ ObsA ts fs p d R ∧ w'.ownsRow w.heap.size 68 4 v R.length (flatS R) ∧ Below w.heap.size w w'

set_option maxRecDepth 100000 in
set_option maxHeartbeats 8000000 in
theorem sObserve_any (a1 a2 pa fa ha oa : Option Addr) (c1 c2 pc fc hc oc : Nat) (ts : List ByteArray) (fs : List Fn) (p : List Si) (d : VmD) (w : World) (hs : Small ts fs) (hpn : p.length ≤ 1048576) (hm : StrsAt w 0 a1 ts) (hm2 : FnsAt w 0 a2 fs) (hp : SitesAt w 0 pa p) (hx : VmSmall d) (hv : VmB w 0 fa ha oa d) :
    Calls Tryz.prog 8 #[.agg #[.slice a1 ts.length c1, .slice a2 fs.length c2], .slice pa p.length pc, .agg (vmCells fa ha oa fc hc oc d)] w (ObsPost ts fs p d w) := by
  have HPO : Hid (∀ w', Below w.heap.size w w' → Calls Tryz.prog 27 #[.agg #[.slice a1 ts.length c1, .slice a2 fs.length c2], .slice pa p.length pc] w' fun e w'' => e = .returned (.bool (pB (Good ts fs ∧ ProfP fs p))) ∧ Below w'.heap.size w' w'') := fun w' h => sProfileOk_any a1 a2 c1 c2 ts fs pa pc p w' hs hpn (hm.mono h) (hm2.mono h) (hp.mono h)
  have HVO : Hid (∀ w', Below w.heap.size w w' → Good ts fs → Calls Tryz.prog 28 #[.agg #[.slice a1 ts.length c1, .slice a2 fs.length c2], .agg (vmCells fa ha oa fc hc oc d)] w' fun e w'' => Says (Room d ∧ Frames fs d ∧ Vals fs.length d) e ∧ Below w'.heap.size w' w'') := fun w' h hg => sVm_any a1 a2 ts.length c1 c2 fs fa ha oa fc hc oc d w' hs.funcs hx (hv.at.mono h) (hm2.mono h) (fun k hk => fine_of hg.ok hk)
  have HIN : Hid (∀ w', Below w.heap.size w w' → VmGood ts fs d → ProfP fs p → Calls Tryz.prog 29 #[.agg #[.slice a1 ts.length c1, .slice a2 fs.length c2], .slice pa p.length pc, .agg (vmCells fa ha oa fc hc oc d)] w' fun e w'' => ∃ v, e = .returned v ∧ w''.ownsRow w'.heap.size 68 4 v (mergeS (opD fs) p (obsQ fs p d)).length (flatS (mergeS (opD fs) p (obsQ fs p d))) ∧ Below w'.heap.size w' w'') := fun w' h h1 h2 => sObs_any a1 a2 pa fa ha oa c1 c2 pc fc hc oc ts fs p d w' h1 h2 hs hx (hm2.mono h) (hv.frs.mono h) (hp.mono h)
  unfold vmCells at HVO HIN ⊢
  obtain ⟨w0, hw0⟩ : ∃ w0, w0 = (w.alloc (.cells #[.slice a1 ts.length c1, .slice a2 fs.length c2] 40)).alloc (.cells #[.slice fa d.frames.length fc, .slice ha d.heap.length hc, .int .i64 d.made, .slice oa d.out.length oc, .int .i64 d.status, .int .i64 d.trap, .int .i64 d.value.k, .int .i64 d.value.n, .string d.value.s, .int .i64 d.steps] 47) := ⟨_, rfl⟩
  have hb0 : Below w.heap.size w w0 := by rw [hw0]; exact ((Below.refl _ _).alloc (Nat.le_refl _) _).alloc (by simp) _
  have hX : w0.heap[w.heap.size]? = some (.cells #[.slice a1 ts.length c1, .slice a2 fs.length c2] 40 (0, 0)) := by rw [hw0]; exact block_old (block_new _ _ _) _
  have hY : w0.heap[w.heap.size + 1]? = some (.cells #[.slice fa d.frames.length fc, .slice ha d.heap.length hc, .int .i64 d.made, .slice oa d.out.length oc, .int .i64 d.status, .int .i64 d.trap, .int .i64 d.value.k, .int .i64 d.value.n, .string d.value.s, .int .i64 d.steps] 47 (0, 0)) := by rw [hw0]; exact block_new_at _ _ _ _ (by simp)
  clear hm hm2 hp hx hv hs hpn
  have x0 := block_cell hX
  go_enter Tryz.func8, Tryz.ntmps8
  go_wp2_with fail
  rw [← hw0]
  clear hw0 x0
  refine (HPO.out _ hb0).mono ?_
  rintro e w1 ⟨rfl, hb1⟩
  have hB1 := hb0.trans (hb1.mono hb0.size)
  have hX1 := block_kept hX hb1
  have hY1 := block_kept hY hb1
  have x1 := block_cell hX1
  have y1 := block_cell hY1
  clear hb1 hX hY hb0 HPO
  by_cases hP : Good ts fs ∧ ProfP fs p
  case neg =>
    rw [pB_no hP]
    have HN := hidz hP
    clear hP
    have hE : (w1.alloc (.cells #[] 68)).ownsRow w.heap.size 68 4 (.slice (some ⟨w1.heap.size, 0, none⟩) 0 0) 0 (flatS []) := by
      have := World.ownsRow_made (base := w.heap.size) (e := 68) (size := 4) w1 #[] 0 hB1.size (by unfold maxLen; omega) rfl
      simpa [flatS] using this
    have HE := hidz hE
    have HB := hidz (hB1.alloc hB1.size (.cells #[] 68))
    clear hE hB1
    go_wp2
    go_ret
    unfold ObsPost
    exact ⟨_, [], rfl, .inr ⟨fun h => HN.out h.1, rfl⟩, HE.out, HB.out⟩
  rw [pB_yes hP]
  go_wp2_with fail
  clear x1 y1
  refine (HVO.out _ hB1 hP.1).mono ?_
  rintro e w2 ⟨⟨bb, rfl, hbb⟩, hb2⟩
  have hB2 := hB1.trans (hb2.mono hB1.size)
  have hX2 := block_kept hX1 hb2
  have hY2 := block_kept hY1 hb2
  clear hb2 hX1 hY1 hB1 HVO
  cases bb
  case false =>
    have HN : Hid (¬ (Room d ∧ Frames fs d ∧ Vals fs.length d)) := fun h => by have := hbb.2 h; cases this
    clear hbb hP
    have hE : (w2.alloc (.cells #[] 68)).ownsRow w.heap.size 68 4 (.slice (some ⟨w2.heap.size, 0, none⟩) 0 0) 0 (flatS []) := by
      have := World.ownsRow_made (base := w.heap.size) (e := 68) (size := 4) w2 #[] 0 hB2.size (by unfold maxLen; omega) rfl
      simpa [flatS] using this
    have HE := hidz hE
    have HB := hidz (hB2.alloc hB2.size (.cells #[] 68))
    clear hE hB2
    go_wp2
    go_ret
    unfold ObsPost
    exact ⟨_, [], rfl, .inr ⟨fun h => HN.out h.2.2, rfl⟩, HE.out, HB.out⟩
  case true =>
    have HV : Hid (VmGood ts fs d) := ⟨hP.1, hbb.1 rfl⟩
    have HP := hidz hP
    have x2 := block_cell hX2
    have y2 := block_cell hY2
    clear hbb hP hX2 hY2
    go_wp2_with fail
    clear x2 y2
    refine (HIN.out _ hB2 HV.out HP.out.2).mono ?_
    rintro e w3 ⟨v, rfl, ho, hb3⟩
    have HO := hidz (own_lowz ho hB2.size)
    have HB := hidz (hB2.trans (hb3.mono hB2.size))
    clear ho hb3 hB2 HIN
    go_wp2
    go_ret
    unfold ObsPost
    exact ⟨_, _, rfl, .inl ⟨⟨HP.out, HV.out⟩, rfl⟩, HO.out, HB.out⟩
end Go.Proofs.YtmmcockkbhnopaaGreat
