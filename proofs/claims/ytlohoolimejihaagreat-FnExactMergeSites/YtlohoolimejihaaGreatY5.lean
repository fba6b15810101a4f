/-
  siteOk: whether a site may have been watched in runs of a module.
-/
import Derived.Test.YtlohoolimejihaaGreatJ4
namespace Go.Proofs.YtlohoolimejihaaGreat
open Go.RowKit

section
open Classical
/-- A truth as a bool. -/
noncomputable def pB (P : Prop) : Bool := decide P
theorem pB_yes {P : Prop} (h : P) : pB P = true := by simpa [pB] using h
theorem pB_no {P : Prop} (h : ¬ P) : pB P = false := by simpa [pB] using h
end

/-- What may be seen at an instruction. -/
def OpP (n : Nat) (op seen target : Int) : Prop := (op = 23 ∧ ((seen = 1 ∧ 0 ≤ target ∧ target < n) ∨ (seen = 2 ∧ target = 0))) ∨ (11 ≤ op ∧ op ≤ 14 ∧ 1 ≤ seen ∧ seen ≤ 3 ∧ target = 0)
/-- The site is at one of the module's instructions, and tells what may be seen there. -/
def SiteP (fs : List Fn) (s : Si) : Prop := 0 ≤ s.f ∧ 0 ≤ s.pc ∧ ∃ (hf : s.f.toNat < fs.length) (hp : s.pc.toNat < fs[s.f.toNat].code.length), OpP fs.length (fs[s.f.toNat].code[s.pc.toNat].1) s.seen s.target

theorem site_iff {fs : List Fn} {f p : Nat} {sn tg : Int} (hf : f < fs.length) (hp : p < fs[f].code.length) : SiteP fs ⟨f, p, sn, tg⟩ ↔ OpP fs.length (fs[f].code[p].1) sn tg :=
  ⟨fun h => h.2.2.2.2, fun h => ⟨Int.natCast_nonneg _, Int.natCast_nonneg _, hf, hp, h⟩⟩

theorem numberOp_yes {op : Int} (h : 11 ≤ op ∧ op ≤ 14) (w : World) : Calls Tryz.prog 110 #[.int .i64 op] w fun e w' => e = .returned (.bool true) ∧ w' = w := by
  have := numberOp_any op w
  rwa [decide_eq_true h] at this
theorem numberOp_no {op : Int} (h : ¬ (11 ≤ op ∧ op ≤ 14)) (w : World) : Calls Tryz.prog 110 #[.int .i64 op] w fun e w' => e = .returned (.bool false) ∧ w' = w := by
  have := numberOp_any op w
  rwa [decide_eq_false h] at this


theorem block_new_drew (w : World) (C : Array Value) (t : TypeId) : (w.alloc (.cells C t)).drew.heap[w.heap.size]? = some (.cells C t (0, 0)) := block_kept (block_new w C t) (Below.refl _ _).drew
theorem stored2 {w : World} {g : Nat} {a b x y : Value} {t : TypeId} (h : w.heap[g]? = some (.cells #[a, b] t (0, 0))) : ((w.setCell ⟨g, 0, none⟩ x).setCell ⟨g, 1, none⟩ y).heap[g]? = some (.cells #[x, y] t (0, 0)) := by
  simpa using block_set (i := 1) (block_set (i := 0) h x) y
theorem stored4 {w : World} {g : Nat} {a b c d x y z u : Value} {t : TypeId} (h : w.heap[g]? = some (.cells #[a, b, c, d] t (0, 0))) : ((((w.setCell ⟨g, 0, none⟩ x).setCell ⟨g, 1, none⟩ y).setCell ⟨g, 2, none⟩ z).setCell ⟨g, 3, none⟩ u).heap[g]? = some (.cells #[x, y, z, u] t (0, 0)) := by
  simpa using block_set (i := 3) (block_set (i := 2) (block_set (i := 1) (block_set (i := 0) h x) y) z) u
theorem site_ins (fs : List Fn) (s : Si) : SiteP fs s ↔ (insD fs s.f s.pc).isSome = true ∧ OpP fs.length ((insD fs s.f s.pc).getD (0, 0)).1 s.seen s.target := by
  constructor
  · rintro ⟨h0, h1, hf, hp, hop⟩
    have := insD_hit hf hp
    rw [show ((s.f.toNat : Nat) : Int) = s.f by omega, show ((s.pc.toNat : Nat) : Int) = s.pc by omega] at this
    rw [this]
    exact ⟨rfl, hop⟩
  · rintro ⟨h0, h1⟩
    obtain ⟨x, hx⟩ := Option.isSome_iff_exists.1 h0
    rw [hx] at h1
    obtain ⟨f, p, hf, hp, ef, ep, rfl⟩ := insD_some hx
    refine ⟨by omega, by omega, by rw [ef]; exact hf, by simp only [ef, ep, Int.toNat_natCast]; exact hp, ?_⟩
    simp only [ef, ep, Int.toNat_natCast]
    exact h1

set_option maxRecDepth 100000 in
set_option maxHeartbeats 4000000 in
theorem siteOk_any (a1 a2 : Option Addr) (nt c1 c2 : Nat) (fs : List Fn) (s : Si) (w : World) (hc : ∀ f ∈ fs, f.code.length ≤ 1048576) (hm : FnsAt w 0 a2 fs) :
    Calls Tryz.prog 96 #[.agg #[.slice a1 nt c1, .slice a2 fs.length c2], .agg #[.int .i64 s.f, .int .i64 s.pc, .int .i64 s.seen, .int .i64 s.target]] w fun e w' => e = .returned (.bool (pB (SiteP fs s))) ∧ Below w.heap.size w w' := by
  have HI : Hid (SiteP fs s ↔ (insD fs s.f s.pc).isSome = true ∧ OpP fs.length ((insD fs s.f s.pc).getD (0, 0)).1 s.seen s.target) := site_ins fs s
  obtain ⟨r, hr⟩ : ∃ r, r = pB (SiteP fs s) := ⟨_, rfl⟩
  rw [← hr]
  have HR : Hid (r = pB (SiteP fs s)) := hr
  clear hr
  obtain ⟨sf, sp, sn, tg⟩ := s
  dsimp only at *
  have hI : ∀ w', Below w.heap.size w w' → _ := fun w' hb => insAt_any a1 a2 nt c1 c2 fs sf sp w' hc (hm.mono hb)
  have HC := hI
  clear hI
  obtain ⟨op, hop⟩ : ∃ op, op = ((insD fs sf sp).getD (0, 0)).1 := ⟨_, rfl⟩
  obtain ⟨ar, har⟩ : ∃ ar, ar = ((insD fs sf sp).getD (0, 0)).2 := ⟨_, rfl⟩
  obtain ⟨fd, hfd⟩ : ∃ fd, fd = (insD fs sf sp).isSome := ⟨_, rfl⟩
  simp only [← hop, ← har, ← hfd] at HC
  rw [← hop, ← hfd] at HI
  clear hop har hfd
  obtain ⟨w2, hw2⟩ : ∃ w2, w2 = (w.alloc (.cells #[.slice a1 nt c1, .slice a2 fs.length c2] 40)).alloc (.cells #[.int .i64 sf, .int .i64 sp, .int .i64 sn, .int .i64 tg] 68) := ⟨_, rfl⟩
  have hB : Below w.heap.size w w2 := by rw [hw2]; exact ((Below.refl _ _).alloc (Nat.le_refl _) _).alloc (by simp) _
  have hX : w2.heap[w.heap.size]? = some (.cells #[.slice a1 nt c1, .slice a2 fs.length c2] 40 (0, 0)) := by rw [hw2]; exact block_old (block_new _ _ _) _
  have hY : w2.heap[w.heap.size + 1]? = some (.cells #[.int .i64 sf, .int .i64 sp, .int .i64 sn, .int .i64 tg] 68 (0, 0)) := by rw [hw2]; simpa using block_new (w.alloc (.cells #[.slice a1 nt c1, .slice a2 fs.length c2] 40)) #[.int .i64 sf, .int .i64 sp, .int .i64 sn, .int .i64 tg] 68
  have HZ : Hid (w.heap.size + 2 ≤ w2.heap.size) := by rw [hw2]; show _ ≤ _; simp
  have HS : Hid (∀ w', Below (w.heap.size + 2) w2 w' → w'.cell? ⟨w.heap.size, 0, none⟩ = some (.slice a1 nt c1) ∧ w'.cell? ⟨w.heap.size, 1, none⟩ = some (.slice a2 fs.length c2) ∧ w'.cell? ⟨w.heap.size + 1, 0, none⟩ = some (.int .i64 sf) ∧ w'.cell? ⟨w.heap.size + 1, 1, none⟩ = some (.int .i64 sp) ∧ w'.cell? ⟨w.heap.size + 1, 2, none⟩ = some (.int .i64 sn) ∧ w'.cell? ⟨w.heap.size + 1, 3, none⟩ = some (.int .i64 tg)) := fun w' hb =>
    ⟨by rw [hb.cell (by simp), block_cell hX]; rfl, by rw [hb.cell (by simp), block_cell hX]; rfl, by rw [hb.cell (by simp), block_cell hY]; rfl, by rw [hb.cell (by simp), block_cell hY]; rfl, by rw [hb.cell (by simp), block_cell hY]; rfl, by rw [hb.cell (by simp), block_cell hY]; rfl⟩
  obtain ⟨j0, j1, j2, j3, j4, j5⟩ := HS.out w2 (Below.refl _ _)
  have q : Below w2.heap.size w2 w2.drew := (Below.refl _ _).drew
  have HB : Hid (Below w.heap.size w w2) := hB
  have HCH : Hid (∀ w', Below w.heap.size w w' → Calls Tryz.prog 122 #[.agg #[.slice a1 nt c1, .slice a2 fs.length c2], .agg #[.int .i64 sf, .int .i64 sp]] w' fun e w'' => e = .returned (.tuple #[.agg #[.int .i64 op, .int .i64 ar], .bool fd]) ∧ Below w'.heap.size w' w'') := HC
  clear HC hB hX hY hc hm
  go_enter Tryz.func96, Tryz.ntmps96
  go_upto_region 1 with fail
  rw [← hw2]
  clear hw2
  go_cut [5, 6] from 7 to 14 (fun s5 s6 wx => ∃ g, s5 = .pointer (some ⟨g, 0, none⟩) ∧ s6 = .bool fd ∧ wx.heap[g]? = some (.cells #[.int .i64 op, .int .i64 ar] 152 (0, 0)) ∧ Below w2.heap.size w2 wx)
  case first =>
    go_region_held3 (fun w' => w'.cell? ⟨w.heap.size, 0, none⟩ = some (.slice a1 nt c1) ∧ w'.cell? ⟨w.heap.size, 1, none⟩ = some (.slice a2 fs.length c2) ∧ w'.cell? ⟨w.heap.size + 1, 0, none⟩ = some (.int .i64 sf) ∧ w'.cell? ⟨w.heap.size + 1, 1, none⟩ = some (.int .i64 sp) ∧ w'.cell? ⟨w.heap.size + 1, 2, none⟩ = some (.int .i64 sn) ∧ w'.cell? ⟨w.heap.size + 1, 3, none⟩ = some (.int .i64 tg))
      (first
        | exact ⟨j0, j1, j2, j3, j4, j5⟩
        | exact HS.out _ (q.mono HZ.out)
        | exact HS.out _ ((q.mono HZ.out).alloc (Nat.le_trans HZ.out q.size) _)
        | exact HS.out _ (((q.mono HZ.out).setCell (Nat.le_trans HZ.out hg) _).setCell (Nat.le_trans HZ.out hg) _)
        | exact HS.out _ ((((q.mono HZ.out).alloc (Nat.le_trans HZ.out q.size) _).setCell (Nat.le_trans HZ.out q.size) _).setCell (Nat.le_trans HZ.out q.size) _))
      (first
        | (go_at_call 76; refine (placeOf_any _ _ _ _ _).mono ?_; rintro e wa ⟨rfl, kd⟩; (first | (have hk := block_kept hk kd; have hc := block_cell hk; have hf := block_free hk) | (have hk := block_kept (block_new_drew _ _ _) kd; have hg := Nat.le_refl w2.heap.size; have hc := block_cell hk; have hf := block_free hk) | (have hk := block_kept (block_new _ _ _) kd; have hg := q.size; have hc := block_cell hk; have hf := block_free hk) | skip); (first | (have q := q.trans (kd.mono q.size)) | (have q := (q.alloc q.size _).trans (kd.mono (by have := q.size; simp <;> omega)))))
        | (go_at_call 122; refine (HCH.out _ (by first | exact HB.out.trans (q.mono HB.out.size) | exact HB.out.trans ((q.alloc q.size _).mono HB.out.size))).mono ?_; rintro e wb ⟨rfl, kd⟩; (first | (have hk := block_kept hk kd; have hc := block_cell hk; have hf := block_free hk) | (have hk := block_kept (block_new_drew _ _ _) kd; have hg := Nat.le_refl w2.heap.size; have hc := block_cell hk; have hf := block_free hk) | (have hk := block_kept (block_new _ _ _) kd; have hg := q.size; have hc := block_cell hk; have hf := block_free hk) | skip); (first | (have q := q.trans (kd.mono q.size)) | (have q := (q.alloc q.size _).trans (kd.mono (by have := q.size; simp <;> omega))))))
    all_goals
      go_wp2_with fail
      go_meet
      case rel =>
        first
          | exact ⟨_, rfl, rfl, stored2 hk, (q.setCell hg _).setCell hg _⟩
          | exact ⟨_, rfl, rfl, block_new _ _ _, q.alloc q.size _⟩
  case rest =>
    obtain ⟨g, rfl, rfl, hG, hq⟩ := hcut
    have HB2 : Hid (Below w.heap.size w wc) := HB.out.trans (hq.mono HB.out.size)
    have c0 := block_cell hG
    clear j0 j1 j2 j3 j4 j5 q
    obtain ⟨j0, j1, j2, j3, j4, j5⟩ := HS.out wc (hq.mono HZ.out)
    clear HS HZ hq HB hG HCH
    cases fd
    case false =>
      go_wp2
      go_ret
      exact ⟨ret_bool (by rw [HR.out]; exact (pB_no (fun h => by have := (HI.out.1 h).1; cases this)).symm), HB2.out⟩
    have HO : Hid (pB (SiteP fs ⟨sf, sp, sn, tg⟩) = true ↔ OpP fs.length op sn tg) := by
      show _ ↔ _
      by_cases h : OpP fs.length op sn tg
      · rw [pB_yes (HI.out.2 ⟨rfl, h⟩)]; simp [h]
      · rw [pB_no (fun h' => h (HI.out.1 h').2)]; simp [h]
    clear HI
    have YES : OpP fs.length op sn tg → r = true := fun h => by rw [HR.out]; exact HO.out.2 h
    have NO : ¬ OpP fs.length op sn tg → r = false := fun h => by rw [HR.out]; cases e : pB (SiteP fs ⟨sf, sp, sn, tg⟩) with | false => rfl | true => exact absurd (HO.out.1 e) h
    have HY : Hid (OpP fs.length op sn tg → r = true) := YES
    have HN : Hid (¬ OpP fs.length op sn tg → r = false) := NO
    clear YES NO HO HR
    by_cases h5 : op = 23
    · subst h5
      by_cases h6 : sn = 1
      · subst h6
        by_cases h7 : 0 ≤ tg
        · by_cases h8 : tg < fs.length
          · obtain rfl := HY.out (.inl ⟨rfl, .inl ⟨rfl, h7, h8⟩⟩)
            go_wp2
            go_ret
            exact ⟨by first | rfl | exact ret_bool (by first | rfl | (simp; omega) | (symm; simp; omega)), HB2.out⟩
          · obtain rfl := HN.out (fun h => by unfold OpP at h; omega)
            go_wp2
            go_ret
            exact ⟨by first | rfl | exact ret_bool (by first | rfl | (simp; omega) | (symm; simp; omega)), HB2.out⟩
        · obtain rfl := HN.out (fun h => by unfold OpP at h; omega)
          go_wp2
          go_ret
          exact ⟨by first | rfl | exact ret_bool (by first | rfl | (simp; omega) | (symm; simp; omega)), HB2.out⟩
      · by_cases h7 : sn = 2
        · subst h7
          by_cases h8 : tg = 0
          · subst h8
            obtain rfl := HY.out (.inl ⟨rfl, .inr ⟨rfl, rfl⟩⟩)
            go_wp2
            go_ret
            exact ⟨by first | rfl | exact ret_bool (by first | rfl | (simp; omega) | (symm; simp; omega)), HB2.out⟩
          · obtain rfl := HN.out (fun h => by unfold OpP at h; omega)
            go_wp2
            go_ret
            exact ⟨by first | rfl | exact ret_bool (by first | rfl | (simp; omega) | (symm; simp; omega)), HB2.out⟩
        · obtain rfl := HN.out (fun h => by unfold OpP at h; omega)
          go_wp2
          go_ret
          exact ⟨by first | rfl | exact ret_bool (by first | rfl | (simp; omega) | (symm; simp; omega)), HB2.out⟩
    · by_cases h6 : 11 ≤ op ∧ op ≤ 14
      · have H6 : Hid (11 ≤ op ∧ op ≤ 14) := h6
        by_cases h7 : 1 ≤ sn
        · by_cases h8 : sn ≤ 3
          · by_cases h9 : tg = 0
            · subst h9
              obtain rfl := HY.out (.inr ⟨h6.1, h6.2, h7, h8, rfl⟩)
              clear h6
              go_wp2_with (go_at_call 110; refine (numberOp_yes H6.out _).mono ?_; rintro e w' ⟨rfl, rfl⟩)
              go_ret
              exact ⟨by first | rfl | exact ret_bool (by first | rfl | (simp; omega) | (symm; simp; omega)), HB2.out⟩
            · obtain rfl := HN.out (fun h => by unfold OpP at h; omega)
              clear h6
              go_wp2_with (go_at_call 110; refine (numberOp_yes H6.out _).mono ?_; rintro e w' ⟨rfl, rfl⟩)
              go_ret
              exact ⟨by first | rfl | exact ret_bool (by first | rfl | (simp; omega) | (symm; simp; omega)), HB2.out⟩
          · obtain rfl := HN.out (fun h => by unfold OpP at h; omega)
            clear h6
            go_wp2_with (go_at_call 110; refine (numberOp_yes H6.out _).mono ?_; rintro e w' ⟨rfl, rfl⟩)
            go_ret
            exact ⟨by first | rfl | exact ret_bool (by first | rfl | (simp; omega) | (symm; simp; omega)), HB2.out⟩
        · obtain rfl := HN.out (fun h => by unfold OpP at h; omega)
          clear h6
          go_wp2_with (go_at_call 110; refine (numberOp_yes H6.out _).mono ?_; rintro e w' ⟨rfl, rfl⟩)
          go_ret
          exact ⟨by first | rfl | exact ret_bool (by first | rfl | (simp; omega) | (symm; simp; omega)), HB2.out⟩
      · have H6 : Hid (¬ (11 ≤ op ∧ op ≤ 14)) := h6
        obtain rfl := HN.out (fun h => by unfold OpP at h; omega)
        clear h6
        go_wp2_with (go_at_call 110; refine (numberOp_no H6.out _).mono ?_; rintro e w' ⟨rfl, rfl⟩)
        go_ret
        exact ⟨by first | rfl | exact ret_bool (by first | rfl | (simp; omega) | (symm; simp; omega)), HB2.out⟩
end Go.Proofs.YtlohoolimejihaaGreat
