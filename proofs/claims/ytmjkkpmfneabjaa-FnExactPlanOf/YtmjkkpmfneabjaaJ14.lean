/-
  guessesOf: the guesses of a profile that is ok, without what is black.
-/
import Derived.Test.YtmjkkpmfneabjaaJ13
import Derived.Deep.CutRange
namespace Go.Proofs.Ytmjkkpmfneabjaa
open Go.RowKit

/-- What the map of black guesses tells of the sites from number k on. -/
def Tells (bs ss : List Si) (k : Nat) (ks : List Si) : Prop := ks.length ≤ 1048576 ∧ ∀ (h : k - 1 < ss.length), 0 < k → ∀ x : Si, x.target = 0 → x.f = ss[k - 1].f → ss[k - 1].pc < x.pc → (x ∈ ks ↔ Black bs x)

theorem tells_next {bs ss ks : List Si} {k : Nat} {sf sp sn tg : Int} {hlt : k < ss.length} (hk : ss[k] = ⟨sf, sp, sn, tg⟩) (h2 : ks.length ≤ 1048576) (h3 : ∀ x : Si, x.target = 0 → x.f = sf → sp ≤ x.pc → (x ∈ ks ↔ Black bs x)) : Tells bs ss (k + 1) ks := by
  refine ⟨h2, fun _ _ x g1 g2 g3 => ?_⟩
  have g2' : x.f = ss[k].f := g2
  have g3' : ss[k].pc < x.pc := g3
  rw [hk] at g2' g3'
  dsimp only at g2' g3'
  exact h3 x g1 g2' (by omega)
theorem turn_black {bs : List Si} {sf : Int} {x : Si} (h1 : x.target = 0) (h2 : x.f = sf) : (∃ t ∈ bs, t.f = sf ∧ x = bare t) ↔ Black bs x := by
  constructor
  · rintro ⟨t, ht, h3, rfl⟩
    exact ⟨t, ht, rfl, rfl, rfl⟩
  · rintro ⟨t, ht, h3, h4, h5⟩
    refine ⟨t, ht, by rw [h3, h2], ?_⟩
    obtain ⟨xf, xp, xs, xt⟩ := x
    simp only at h1 h3 h4 h5
    rw [h1, ← h3, ← h4, ← h5]
    rfl

set_option maxRecDepth 100000 in
set_option maxHeartbeats 8000000 in
theorem guessesOf_any (a1 a2 : Option Addr) (nt c1 c2 : Nat) (fs : List Fn) (a3 a4 : Option Addr) (c3 c4 : Nat) (ss bs : List Si) (w : World) (hn : ss.length ≤ 150) (hbn : bs.length ≤ 1048576) (hc : ∀ f ∈ fs, f.code.length ≤ 1048576) (hm : FnsAt w 0 a2 fs) (hs : SitesAt w 0 a3 ss) (hbl : SitesAt w 0 a4 bs) (hA : AscI ss) :
    Calls Try.prog 47 #[.agg #[.slice a1 nt c1, .slice a2 fs.length c2], .slice a3 ss.length c3, .slice a4 bs.length c4] w fun e w' => ∃ xa xc, e = .returned (.slice xa (planD fs bs ss).length xc) ∧ w'.ownsRow (w.heap.size + 2) 44 4 (.slice xa (planD fs bs ss).length xc) (planD fs bs ss).length (flat4 (planD fs bs ss)) ∧ Below w.heap.size w w' := by
  obtain ⟨i0, hi, hz0, hz1, hz2⟩ := info_parts info44
  have HGA : Hid (∀ (f p t : Int) w', Below w.heap.size w w' → Calls Try.prog 57 #[.agg #[.slice a1 nt c1, .slice a2 fs.length c2], .agg #[.int .i64 f, .int .i64 p], .int .i64 t] w' (GuessP fs f p t w')) := fun f p t w' hb => guessAt_any a1 a2 nt c1 c2 fs f p t w' hc (hm.mono hb)
  have HA : Hid (AscI ss) := hA
  clear hc hm hA
  have hmm : ∀ W : World, (Instr.makeMap 107 none).run Try.prog W = .ok (.map (some W.heap.size)) (W.alloc (.map #[] 0)) := fun _ => rfl
  go_enter Try.func47, Try.ntmps47
  go_wp2
  clear hmm
  go_loopw [7, 16] (fun o i wr => ∃ (k : Nat), k ≤ ss.length ∧ i = .int .i64 k ∧ wr.ownsRow (w.heap.size + 2) 44 4 o (planD fs bs (ss.take k)).length (flat4 (planD fs bs (ss.take k))) ∧ wr.heap[w.heap.size]? = some (.cells #[.slice a1 nt c1, .slice a2 fs.length c2] 34 (0, 0)) ∧ Hid (∃ ks, MapIs wr (w.heap.size + 1) ks ∧ Tells bs ss k ks) ∧ Below w.heap.size w wr) (fun _ i _ => ss.length - (intOf i).toNat)
  case atStart =>
    refine ⟨0, by omega, rfl, by simpa [planD, flat4] using World.ownsRow_nil _ _ _ _, block_old (block_new _ _ _) _, ⟨[], ⟨#[], 0, by simpa using heap_alloc_new (w.alloc (.cells #[.slice a1 nt c1, .slice a2 fs.length c2] 34)) (.map #[] 0), rfl⟩, by simp, fun _ h => absurd h (by omega)⟩, ((Below.refl _ _).alloc (Nat.le_refl _) _).alloc (by simp) _⟩
  case round =>
    obtain ⟨k, hk, rfl, hown, hM, HT, hb⟩ := hrel
    obtain ⟨xa, xc, hxe⟩ := own_form hown
    subst hxe
    have HO := hid hown
    clear hown
    by_cases hlt : k < ss.length
    case neg =>
      have hkn : k = ss.length := by omega
      subst hkn
      clear HT hM
      go_wp2
      go_ret
      have h1 := HO.out
      rw [List.take_length] at h1 ⊢
      exact ⟨xa, xc, rfl, h1, hb⟩
    obtain ⟨L, hL⟩ : ∃ L, L = planD fs bs (ss.take k) := ⟨_, rfl⟩
    have HL := hid hL
    rw [← hL] at HO ⊢
    clear hL
    obtain ⟨b, off, rfl, -, d1, d2, d3, d4⟩ := hs k hlt
    obtain ⟨sk, hsk⟩ : ∃ sk, sk = ss[k] := ⟨_, rfl⟩
    rw [← hsk] at d1 d2 d3 d4
    have HK : Hid (ss[k] = sk) := hsk.symm
    clear hsk
    obtain ⟨sf, sp, sn, tg⟩ := sk
    dsimp only at d1 d2 d3 d4
    have d1' := cell_later hb d1
    have d2' := cell_later hb d2
    have d3' := cell_later hb d3
    have d4' := cell_later hb d4
    clear d1 d2 d3 d4
    obtain ⟨wA, hwA⟩ : ∃ wA, wA = wr.alloc (.cells #[.int .i64 sf, .int .i64 sp, .int .i64 sn, .int .i64 tg] 77) := ⟨_, rfl⟩
    have hbA : Below wr.heap.size wr wA := by rw [hwA]; exact (Below.refl _ _).alloc (Nat.le_refl _) _
    have hXA : wA.heap[wr.heap.size]? = some (.cells #[.int .i64 sf, .int .i64 sp, .int .i64 sn, .int .i64 tg] 77 (0, 0)) := by rw [hwA]; exact block_new _ _ _
    have HWZ : Hid (w.heap.size + 1 < wr.heap.size) := by
      obtain ⟨ks, ⟨es, c, h1, -⟩, -⟩ := HT.out
      exact lt_size h1
    have HMA : Hid (wA.heap[w.heap.size]? = some (.cells #[.slice a1 nt c1, .slice a2 fs.length c2] 34 (0, 0))) := block_kept hM hbA
    have HBA : Hid (Below w.heap.size w wA) := hb.trans (hbA.mono hb.size)
    have HOA := hid (own_later HO.out hbA)
    have HXA := hid hXA
    have HZA : Hid (wr.heap.size + 1 ≤ wA.heap.size) := by rw [hwA]; show _ ≤ _; simp
    have HTA : Hid (∃ ks, MapIs wA (w.heap.size + 1) ks ∧ Tells bs ss k ks) := by
      obtain ⟨ks, h1, h2⟩ := HT.out
      exact ⟨ks, h1.later hbA, h2⟩
    have x1 := block_cell hXA
    go_upto_region 6 with fail
    rw [← hwA]
    clear hwA HT hM d1' d2' d3' d4' hXA
    have hcase : k = 0 ∨ (∃ j, ∃ (hj : j < ss.length), k = j + 1 ∧ ss[j].f ≠ sf) ∨ (∃ j, ∃ (hj : j < ss.length), k = j + 1 ∧ ss[j].f = sf) := by
      cases k with
      | zero => exact .inl rfl
      | succ j =>
        by_cases h : ss[j].f = sf
        · exact .inr (.inr ⟨j, by omega, rfl, h⟩)
        · exact .inr (.inl ⟨j, by omega, rfl, h⟩)
    rcases hcase with hk0 | ⟨j, hj, hkj, hne⟩ | ⟨j, hj, hkj, heq⟩
    case' inl =>
      have kz : ((k : Int) == 0) = true := by rw [hk0]; rfl
      clear hk0
      obtain ⟨ks, hm1, -⟩ := HTA.out
      go_big_quiet (fail)
      have hbl2 := hbl.mono (below_draws HBA.out nq)
      have hT := turnTo_any (w.heap.size + 1) sf a4 c4 bs ks (wA.drewN nq) (hm1.later (below_draws (Below.refl _ _) nq)) hbn hbl2
      clear hm1 hbl2
      go_wp2_with fail
      refine hT.mono ?_
      rintro e w2 ⟨rfl, ⟨ks2, hm2, hl2, hx2⟩, hB2⟩
      have HMB : Hid (∃ ks, MapIs w2 (w.heap.size + 1) ks ∧ ks.length ≤ 1048576 ∧ ∀ x : Si, x.target = 0 → x.f = sf → sp ≤ x.pc → (x ∈ ks ↔ Black bs x)) := ⟨ks2, hm2, by omega, fun x h1 h2 _ => by rw [hx2]; exact turn_black h1 h2⟩
      have HBB : Hid (But (w.heap.size + 1) wA w2) := (But.of_below (below_draws (Below.refl _ _) nq)).trans hB2
      clear hT hm2 hl2 hx2 hB2 ks ks2 x1 kz
      go_upto_region 8 with fail
    case' inr.inl =>
      have kz : ((k : Int) == 0) = false := by simp; omega
      have hwr : IntKind.i64.wrap ((k : Int) - 1) = (j : Int) := by rw [IntKind.wrap_i64]; omega
      obtain ⟨b', off', hbe, -, e1, -⟩ := hs j hj
      cases hbe
      have e1' := cell_later HBA.out e1
      obtain ⟨pf, hpf⟩ : ∃ pf, pf = ss[j].f := ⟨_, rfl⟩
      rw [← hpf] at e1' hne
      have kne : (sf != pf) = true := by simpa using fun e : sf = pf => hne e.symm
      have hj2 : (0 : Int) ≤ (j : Int) := by omega
      have hj3 : (j : Int) < (ss.length : Int) := by omega
      clear e1 hkj hne hpf
      obtain ⟨ks, hm1, -⟩ := HTA.out
      go_big_quiet (fail)
      clear hwr kne hj2 hj3 e1'
      have hbl2 := hbl.mono (below_draws HBA.out nq)
      have hT := turnTo_any (w.heap.size + 1) sf a4 c4 bs ks (wA.drewN nq) (hm1.later (below_draws (Below.refl _ _) nq)) hbn hbl2
      clear hm1 hbl2
      go_wp2_with fail
      refine hT.mono ?_
      rintro e w2 ⟨rfl, ⟨ks2, hm2, hl2, hx2⟩, hB2⟩
      have HMB : Hid (∃ ks, MapIs w2 (w.heap.size + 1) ks ∧ ks.length ≤ 1048576 ∧ ∀ x : Si, x.target = 0 → x.f = sf → sp ≤ x.pc → (x ∈ ks ↔ Black bs x)) := ⟨ks2, hm2, by omega, fun x h1 h2 _ => by rw [hx2]; exact turn_black h1 h2⟩
      have HBB : Hid (But (w.heap.size + 1) wA w2) := (But.of_below (below_draws (Below.refl _ _) nq)).trans hB2
      clear hT hm2 hl2 hx2 hB2 ks ks2 x1 kz
      go_upto_region 8 with fail
    case' inr.inr =>
      have kz : ((k : Int) == 0) = false := by simp; omega
      have hwr : IntKind.i64.wrap ((k : Int) - 1) = (j : Int) := by rw [IntKind.wrap_i64]; omega
      obtain ⟨b', off', hbe, -, e1, -⟩ := hs j hj
      cases hbe
      have e1' := cell_later HBA.out e1
      have HMB0 : Hid (∃ ks, MapIs wA (w.heap.size + 1) ks ∧ ks.length ≤ 1048576 ∧ ∀ x : Si, x.target = 0 → x.f = sf → sp ≤ x.pc → (x ∈ ks ↔ Black bs x)) := by
        obtain ⟨ks, h1, h2, h3⟩ := HTA.out
        refine ⟨ks, h1, h2, fun x g1 g2 g3 => ?_⟩
        have hl := HA.out k hlt (by omega)
        rw [HK.out] at hl
        subst hkj
        have hl' : SiteLess ss[j] ⟨sf, sp, sn, tg⟩ := hl
        unfold SiteLess at hl'
        dsimp only at hl'
        refine h3 (by omega) (by omega) x g1 ?_ ?_
        · show x.f = ss[j].f; omega
        · show ss[j].pc < x.pc; omega
      rw [heq] at e1'
      have kne : (sf != sf) = false := by simp
      have hj2 : (0 : Int) ≤ (j : Int) := by omega
      have hj3 : (j : Int) < (ss.length : Int) := by omega
      clear e1 hkj heq
      go_big_quiet (fail)
      clear hwr kne hj2 hj3 e1' x1 kz
      obtain ⟨w2, hw2⟩ : ∃ w2, w2 = wA.drewN nq := ⟨_, rfl⟩
      have HMB : Hid (∃ ks, MapIs w2 (w.heap.size + 1) ks ∧ ks.length ≤ 1048576 ∧ ∀ x : Si, x.target = 0 → x.f = sf → sp ≤ x.pc → (x ∈ ks ↔ Black bs x)) := by
        obtain ⟨ks, h1, h2⟩ := HMB0.out
        rw [hw2]
        exact ⟨ks, h1.later (below_draws (Below.refl _ _) nq), h2⟩
      have HBB : Hid (But (w.heap.size + 1) wA w2) := by rw [hw2]; exact But.of_below (below_draws (Below.refl _ _) nq)
      clear HMB0
      go_upto_region 8 with fail
      rw [← hw2]
      clear hw2
    all_goals
      have hM2 := HBB.out.kept (k := w.heap.size) (by omega) HMA.out
      have hX2 := HBB.out.kept (k := wr.heap.size) (by have := HWZ.out; omega) HXA.out
      have HOB := hid (own_but HOA.out HBB.out (by omega))
      have HB : Hid (Below w.heap.size w w2) := HBB.out.below HBA.out (by omega) HBA.out.size
      have HZ : Hid (wr.heap.size + 1 ≤ w2.heap.size) := Nat.le_trans HZA.out HBB.out.size
      have HS : Hid (∀ w', Below (wr.heap.size + 1) w2 w' → w'.cell? ⟨w.heap.size, 0, none⟩ = some (.slice a1 nt c1) ∧ w'.cell? ⟨w.heap.size, 1, none⟩ = some (.slice a2 fs.length c2) ∧ w'.cell? ⟨wr.heap.size, 0, none⟩ = some (.int .i64 sf) ∧ w'.cell? ⟨wr.heap.size, 1, none⟩ = some (.int .i64 sp) ∧ w'.cell? ⟨wr.heap.size, 2, none⟩ = some (.int .i64 sn) ∧ w'.cell? ⟨wr.heap.size, 3, none⟩ = some (.int .i64 tg)) := fun w' q =>
        ⟨by rw [q.cell (by have := HWZ.out; simp; omega), block_cell hM2]; rfl, by rw [q.cell (by have := HWZ.out; simp; omega), block_cell hM2]; rfl, by rw [q.cell (by simp), block_cell hX2]; rfl, by rw [q.cell (by simp), block_cell hX2]; rfl, by rw [q.cell (by simp), block_cell hX2]; rfl, by rw [q.cell (by simp), block_cell hX2]; rfl⟩
      obtain ⟨j0, j1, j2, j3, j4, j5⟩ := HS.out w2 (Below.refl _ _)
      have q : Below w2.heap.size w2 w2.drew := (Below.refl _ _).drew
      have HM2 := hid hM2
      clear hM2 hX2 HMA HBA HOA HXA HZA HTA HBB HO
      go_cut [11, 12] from 39 to 48 (fun s11 s12 wx => ∃ g r, s11 = .pointer (some ⟨g, 0, none⟩) ∧ s12 = .bool (Option.isSome r) ∧ guessD fs sf sp tg r ∧ w2.heap.size ≤ g ∧ wx.heap[g]? = some (.cells (r.getD ⟨0, 0, 0, 0⟩).cells 44 (0, 0)) ∧ Below w2.heap.size w2 wx)
      case first =>
        go_region_held3 (fun w' => w'.cell? ⟨w.heap.size, 0, none⟩ = some (.slice a1 nt c1) ∧ w'.cell? ⟨w.heap.size, 1, none⟩ = some (.slice a2 fs.length c2) ∧ w'.cell? ⟨wr.heap.size, 0, none⟩ = some (.int .i64 sf) ∧ w'.cell? ⟨wr.heap.size, 1, none⟩ = some (.int .i64 sp) ∧ w'.cell? ⟨wr.heap.size, 2, none⟩ = some (.int .i64 sn) ∧ w'.cell? ⟨wr.heap.size, 3, none⟩ = some (.int .i64 tg))
          (first
            | exact ⟨j0, j1, j2, j3, j4, j5⟩
            | exact HS.out _ (q.mono HZ.out)
            | exact HS.out _ ((q.mono HZ.out).alloc (Nat.le_trans HZ.out q.size) _)
            | exact HS.out _ (((((q.mono HZ.out).setCell (Nat.le_trans HZ.out hg) _).setCell (Nat.le_trans HZ.out hg) _).setCell (Nat.le_trans HZ.out hg) _).setCell (Nat.le_trans HZ.out hg) _)
            | exact HS.out _ ((((((q.mono HZ.out).alloc (Nat.le_trans HZ.out q.size) _).setCell (Nat.le_trans HZ.out q.size) _).setCell (Nat.le_trans HZ.out q.size) _).setCell (Nat.le_trans HZ.out q.size) _).setCell (Nat.le_trans HZ.out q.size) _))
          (first
            | (go_at_call 64; refine (placeOf_any _ _ _ _ _).mono ?_; rintro e wa ⟨rfl, kd⟩; (first | (have hk := block_kept hk kd; have hc := block_cell hk; have hf := block_free hk) | (have hk := block_kept (block_new_drew _ _ _) kd; have hg := Nat.le_refl w2.heap.size; have hc := block_cell hk; have hf := block_free hk) | (have hk := block_kept (block_new _ _ _) kd; have hg := q.size; have hc := block_cell hk; have hf := block_free hk) | skip); (first | (have q := q.trans (kd.mono q.size)) | (have q := (q.alloc q.size _).trans (kd.mono (by have := q.size; simp <;> omega)))))
            | (go_at_call 57; refine (HGA.out _ _ _ _ (by first | exact HB.out.trans (q.mono HB.out.size) | exact HB.out.trans ((q.alloc q.size _).mono HB.out.size))).mono ?_; rintro e wb ⟨r, hr, rfl, kd⟩; obtain ⟨r0, hr0⟩ : ∃ r0, r0 = r.getD ⟨0, 0, 0, 0⟩ := ⟨_, rfl⟩; rw [← hr0]; obtain ⟨r1, r2, r3, r4⟩ := r0; have HR0 : Hid (r.getD ⟨0, 0, 0, 0⟩ = ⟨r1, r2, r3, r4⟩) := hr0.symm; clear hr0; have HRR : Hid (guessD fs sf sp tg r) := hr; clear hr; unfold Si.cells; dsimp only; (first | (have hk := block_kept hk kd; have hc := block_cell hk; have hf := block_free hk) | (have hk := block_kept (block_new_drew _ _ _) kd; have hg := Nat.le_refl w2.heap.size; have hc := block_cell hk; have hf := block_free hk) | (have hk := block_kept (block_new _ _ _) kd; have hg := q.size; have hc := block_cell hk; have hf := block_free hk) | skip); (first | (have q := q.trans (kd.mono q.size)) | (have q := (q.alloc q.size _).trans (kd.mono (by have := q.size; simp <;> omega))))))
        all_goals
          go_wp2_with fail
          go_meet
          case rel =>
            first
              | exact ⟨_, r, rfl, rfl, HRR.out, hg, by rw [HR0.out]; exact stored4 hk, (((q.setCell hg _).setCell hg _).setCell hg _).setCell hg _⟩
              | exact ⟨_, r, rfl, rfl, HRR.out, q.size, by rw [HR0.out]; exact block_new _ _ _, q.alloc q.size _⟩
      case rest =>
        obtain ⟨g, r, rfl, rfl, hr, hgz, hG, hq⟩ := hcut
        have HBc : Hid (Below w.heap.size w wc) := HB.out.trans (hq.mono HB.out.size)
        have HMc : Hid (wc.heap[w.heap.size]? = some (.cells #[.slice a1 nt c1, .slice a2 fs.length c2] 34 (0, 0))) := block_kept HM2.out hq
        have HOc := hid (own_later HOB.out hq)
        have HMapc : Hid (∃ ks, MapIs wc (w.heap.size + 1) ks ∧ ks.length ≤ 1048576 ∧ ∀ x : Si, x.target = 0 → x.f = sf → sp ≤ x.pc → (x ∈ ks ↔ Black bs x)) := by
          obtain ⟨ks, h1, h2⟩ := HMB.out
          exact ⟨ks, h1.later hq, h2⟩
        have HZc : Hid (w.heap.size + 2 ≤ wc.heap.size) := by have h1 := HWZ.out; have h2 := HZ.out; have h3 := hq.size; show _ ≤ _; omega
        have HGZ : Hid (w.heap.size + 1 < g) := by have h1 := HWZ.out; have h2 := HZ.out; show _ < _; omega
        clear j0 j1 j2 j3 j4 j5 q
        obtain ⟨j0, j1, j2, j3, j4, j5⟩ := HS.out wc (hq.mono HZ.out)
        have hlen := planD_len fs bs (ss.take k)
        rw [← HL.out, List.length_take] at hlen
        clear HS HZ hq HB HGA HM2 HMB HOB hgz
        have hu44 := hi
        cases r with
        | none =>
          have HONE : Hid (one fs bs ss[k] = []) := by rw [HK.out]; exact one_none hr
          clear hr hG
          go_wp2
          go_roundw
          case rel =>
            refine ⟨k + 1, by omega, by go_num, ?_, HMc.out, ?_, HBc.out⟩
            · rw [planD_more hlt, HONE.out, List.append_nil, ← HL.out]; exact HOc.out
            · obtain ⟨ks, h1, h2, h3⟩ := HMapc.out
              exact ⟨ks, h1, tells_next HK.out h2 h3⟩
          case measure => simp [intOf]; omega
        | some u =>
          obtain ⟨uf, up⟩ := guessF_at hr
          by_cases hsn : sn = 1
          case neg =>
            have HONE : Hid (one fs bs ss[k] = []) := by rw [HK.out]; exact one_seen hsn
            have ksn : (sn == 1) = false := by simpa using hsn
            clear hr hG hsn
            go_wp2
            go_roundw
            case rel =>
              refine ⟨k + 1, by omega, by go_num, ?_, HMc.out, ?_, HBc.out⟩
              · rw [planD_more hlt, HONE.out, List.append_nil, ← HL.out]; exact HOc.out
              · obtain ⟨ks, h1, h2, h3⟩ := HMapc.out
                exact ⟨ks, h1, tells_next HK.out h2 h3⟩
            case measure => simp [intOf]; omega
          subst hsn
          obtain ⟨ks, hmk, hkl, hkx⟩ := HMapc.out
          have hbk : bare u ∈ ks ↔ Black bs u := by
            rw [hkx (bare u) rfl (by show u.f = sf; exact uf) (by show sp ≤ u.pc; omega)]
            exact black_bare bs u
          have hG' : wc.heap[g]? = some (.cells #[.int .i64 u.f, .int .i64 u.pc, .int .i64 u.seen, .int .i64 u.target] 44 (0, 0)) := hG
          have c0 := block_cell hG'
          have hst := strikes_any (w.heap.size + 1) u ks wc hmk
          have HKX := hid hkx
          have HGu := hid hG'
          have HR := hid hr
          have HUP : Hid (u.f = sf ∧ u.pc = sp) := ⟨uf, up⟩
          clear hr hG hG' uf up hkx hmk HMapc
          by_cases hB : Black bs u
          case pos =>
            have HONE : Hid (one fs bs ss[k] = []) := by rw [HK.out]; exact one_black HR.out hB
            rw [decide_eq_true (hbk.2 hB)] at hst
            clear hbk hB
            go_wp2_with fail
            refine hst.mono ?_
            rintro e w5 ⟨ks', rfl, hm5, hl5, hx5, hB5⟩
            have HF : Hid (w5.ownsRow (w.heap.size + 2) 44 4 (.slice xa L.length xc) L.length (flat4 L) ∧ w5.heap[w.heap.size]? = some (.cells #[.slice a1 nt c1, .slice a2 fs.length c2] 34 (0, 0)) ∧ Below w.heap.size w w5) := ⟨own_but HOc.out hB5 (by omega), hB5.kept (by omega) HMc.out, hB5.below HBc.out (by omega) HBc.out.size⟩
            have HT5 : Hid (∃ ks, MapIs w5 (w.heap.size + 1) ks ∧ Tells bs ss (k + 1) ks) := by
              refine ⟨ks', hm5, by omega, fun _ _ x g1 g2 g3 => ?_⟩
              have g2' : x.f = ss[k].f := g2
              have g3' : ss[k].pc < x.pc := g3
              rw [HK.out] at g2' g3'
              dsimp only at g2' g3'
              rw [hx5 x (fun e => by have := HUP.out.2; rw [e] at g3'; have h : (bare u).pc = u.pc := rfl; omega)]
              exact HKX.out x g1 g2' (by omega)
            clear hm5 hl5 hx5 hB5 hst c0
            go_wp2
            go_roundw
            case rel =>
              refine ⟨k + 1, by omega, by go_num, ?_, HF.out.2.1, HT5.out, HF.out.2.2⟩
              rw [planD_more hlt, HONE.out, List.append_nil, ← HL.out]; exact HF.out.1
            case measure => simp [intOf]; omega
          case neg =>
            have HONE : Hid (one fs bs ss[k] = [u]) := by rw [HK.out]; exact one_some rfl HR.out hB
            rw [decide_eq_false (fun h => hB (hbk.1 h))] at hst
            clear hbk hB
            go_wp2_with fail
            refine hst.mono ?_
            rintro e w5 ⟨ks', rfl, hm5, hl5, hx5, hB5⟩
            have hown5 := own_but HOc.out hB5 (by omega)
            have HM5 : Hid (w5.heap[w.heap.size]? = some (.cells #[.slice a1 nt c1, .slice a2 fs.length c2] 34 (0, 0))) := hB5.kept (by omega) HMc.out
            have HB5 : Hid (Below w.heap.size w w5) := hB5.below HBc.out (by omega) HBc.out.size
            have hG5 := hB5.kept (by have := HGZ.out; omega) HGu.out
            have hz5 : w.heap.size + 2 ≤ w5.heap.size := Nat.le_trans HZc.out hB5.size
            have HT5 : Hid (MapIs w5 (w.heap.size + 1) ks' ∧ Tells bs ss (k + 1) ks') := by
              refine ⟨hm5, by omega, fun _ _ x g1 g2 g3 => ?_⟩
              have g2' : x.f = ss[k].f := g2
              have g3' : ss[k].pc < x.pc := g3
              rw [HK.out] at g2' g3'
              dsimp only at g2' g3'
              rw [hx5 x (fun e => by have := HUP.out.2; rw [e] at g3'; have h : (bare u).pc = u.pc := rfl; omega)]
              exact HKX.out x g1 g2' (by omega)
            have c5 := block_cell hG5
            obtain ⟨L0, hL0⟩ : ∃ L0, L0 = flat4 L := ⟨_, rfl⟩
            have HL0 := hid hL0
            rw [← hL0] at hown5
            have HO5 := hid hown5
            clear hm5 hl5 hx5 hB5 hst c0 hG5 hL0
            go_wp2_with (at_builtin; refine wpList_append_lies _ rfl _ _ 36 rfl (w.heap.size + 2) 44 i0 (.agg #[.int .i64 0, .int .i64 0, .int .i64 0, .int .i64 0]) 4 32 Try.underlying36 hi hz0 hz1 hz2 rfl (by decide) _ _ _ rfl (World.ownsRow.alloc hown5 _) ⟨w5.heap.size, 0, none⟩ 1 1 [.int .i64 u.f, .int .i64 u.pc, .int .i64 u.seen, .int .i64 u.target] rfl rfl (World.news_of_block (cs := #[.int .i64 u.f, .int .i64 u.pc, .int .i64 u.seen, .int .i64 u.target]) (t := 44) (fr := (0, 0)) (heap_alloc_new w5 _)) (by simp [Value.oneCell']) (by decide) (by unfold maxLen; omega) (by omega) (by simp; omega) _ rfl ?_; intro g3 cap3 w3 hown3 hgrow3 hat3 hlt3)
            go_roundw
            case rel =>
              have hownA := World.ownsRow.alloc HO5.out (.cells #[.int .i64 u.f, .int .i64 u.pc, .int .i64 u.seen, .int .i64 u.target] 44)
              have hbA2 : Below w5.heap.size w5 (w5.alloc (.cells #[.int .i64 u.f, .int .i64 u.pc, .int .i64 u.seen, .int .i64 u.target] 44)) := (Below.refl _ _).alloc (Nat.le_refl _) _
              refine ⟨k + 1, by omega, by go_num, ?_, ?_, ⟨ks', ?_, HT5.out.2⟩, ?_⟩
              · rw [planD_more hlt, HONE.out, ← HL.out, List.length_append, flat4_app, flat4_one, ← HL0.out]
                exact hown3
              · exact grown_kept hownA (by omega) (block_kept HM5.out hbA2) hgrow3
              · obtain ⟨es, c, h1, h2⟩ := HT5.out.1
                exact ⟨es, c, grown_kept hownA (by omega) (block_kept h1 hbA2) hgrow3, h2⟩
              · have hB6 := HB5.out.trans (hbA2.mono HB5.out.size)
                exact hB6.grown hgrow3 (Nat.le_trans HB5.out.size hbA2.size) (fun m hm => by have := (hownA.lt m hm).1; omega)
            case measure => simp [intOf]; omega
end Go.Proofs.Ytmjkkpmfneabjaa
