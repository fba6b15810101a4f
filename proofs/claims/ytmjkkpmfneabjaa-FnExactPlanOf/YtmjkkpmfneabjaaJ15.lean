/-
  The document's l09Plan: the guesses of a profile that is ok, without what is black.
-/
import Derived.Test.YtmjkkpmfneabjaaJ13
import Derived.Test.YtmjkkpmfneabjaaJ9
import Derived.Deep.CutRange
namespace Go.Proofs.Ytmjkkpmfneabjaa
open Go.RowKit

theorem pB_congr {P Q : Prop} (h : P ↔ Q) : pB P = pB Q := by rw [propext h]
section
open Classical
theorem one_number {fs : List Fn} {bs : List Si} {sf sp sn tg : Int} (h : 11 ≤ ((insD fs sf sp).getD (0, 0)).1 ∧ ((insD fs sf sp).getD (0, 0)).1 ≤ 14) : one fs bs ⟨sf, sp, sn, tg⟩ = if sn = 1 ∧ SpecP fs ⟨sf, sp, 1, 0⟩ ∧ ¬ Black bs ⟨sf, sp, 1, 0⟩ then [⟨sf, sp, 1, 0⟩] else [] := by
  have hg : ∀ t, guessD fs sf sp t (some ⟨sf, sp, 1, 0⟩) := fun t => .inl ⟨h.1, h.2, rfl⟩
  by_cases h1 : sn = 1
  · by_cases hb : Black bs ⟨sf, sp, 1, 0⟩
    · rw [one_black (hg tg) hb, if_neg (fun h => h.2.2 hb)]
    · rw [one_some h1 (hg tg) hb, if_pos ⟨h1, hg 0, hb⟩]
  · rw [one_seen h1, if_neg (fun h => h1 h.1)]
theorem one_call {fs : List Fn} {bs : List Si} {sf sp sn tg : Int} (h : ((insD fs sf sp).getD (0, 0)).1 = 23) : one fs bs ⟨sf, sp, sn, tg⟩ = if sn = 1 ∧ SpecP fs ⟨sf, sp, 2, tg⟩ ∧ ¬ Black bs ⟨sf, sp, 2, tg⟩ then [⟨sf, sp, 2, tg⟩] else [] := by
  by_cases h1 : sn = 1
  · by_cases hS : SpecP fs ⟨sf, sp, 2, tg⟩
    · have hg : guessD fs sf sp tg (some ⟨sf, sp, 2, tg⟩) := hS
      by_cases hb : Black bs ⟨sf, sp, 2, tg⟩
      · rw [one_black hg hb, if_neg (fun h => h.2.2 hb)]
      · rw [one_some h1 hg hb, if_pos ⟨h1, hS, hb⟩]
    · have hg : guessD fs sf sp tg none := by
        obtain ⟨r, hr⟩ := guessD_ex fs sf sp tg
        unfold guessD at hr
        rcases hr with ⟨x1, x2, -⟩ | ⟨x1, x2, rfl⟩ | ⟨x1, x2, rfl⟩
        · omega
        · exact absurd (show SpecP fs ⟨sf, sp, 2, tg⟩ from .inr (.inl ⟨x1, x2, rfl⟩)) hS
        · exact .inr (.inr ⟨x1, x2, rfl⟩)
      rw [one_none hg, if_neg (fun h => hS h.2.1)]
  · rw [one_seen h1, if_neg (fun h => h1 h.1)]
end

set_option maxRecDepth 100000 in
set_option maxHeartbeats 8000000 in
theorem l09Plan_any (a1 a2 : Option Addr) (nt c1 c2 : Nat) (fs : List Fn) (a3 a4 : Option Addr) (c3 c4 : Nat) (ss bs : List Si) (lay : Int) (bare : Bool) (w : World) (hn : ss.length ≤ 150) (hbn : bs.length ≤ 1048576) (hc : ∀ f ∈ fs, f.code.length ≤ 1048576) (hnf : fs.length ≤ 1048576) (hm : FnsAt w 0 a2 fs) (hs : SitesAt w 0 a3 ss) (hbl : SitesAt w 0 a4 bs) (hP : ∀ i (h : i < ss.length), SiteP fs ss[i]) :
    Calls Try.prog 43 #[.agg #[.slice a1 nt c1, .slice a2 fs.length c2], .slice a3 ss.length c3, .slice a4 bs.length c4, .int .i64 lay, .bool bare] w fun e w' => ∃ xa xc, e = .returned (.agg #[.slice xa (planD fs bs ss).length xc, .int .i64 lay, .bool bare]) ∧ w'.ownsRow (w.heap.size + 3) 44 4 (.slice xa (planD fs bs ss).length xc) (planD fs bs ss).length (flat4 (planD fs bs ss)) ∧ Below w.heap.size w w' := by
  obtain ⟨i0, hi, hz0, hz1, hz2⟩ := info_parts info44
  have HSP : Hid (∀ (u : Si) w', Below w.heap.size w w' → Calls Try.prog 54 #[.agg #[.slice a1 nt c1, .slice a2 fs.length c2], .agg #[.int .i64 u.f, .int .i64 u.pc, .int .i64 u.seen, .int .i64 u.target]] w' fun e w'' => e = .returned (.bool (pB (SpecP fs u))) ∧ Below w'.heap.size w' w'') := fun u w' hb => specOk_any a1 a2 nt c1 c2 fs u w' hc hnf (hm.mono hb)
  have HPP : Hid (∀ i (h : i < ss.length), SiteP fs ss[i]) := hP
  clear hP
  go_enter Try.func43, Try.ntmps43
  go_wp2
  go_loopw [12] (fun i wr => ∃ (k : Nat) (xa : Option Addr) (xc : Nat), k ≤ ss.length ∧ i = .int .i64 k ∧ wr.ownsRow (w.heap.size + 3) 44 4 (.slice xa (planD fs bs (ss.take k)).length xc) (planD fs bs (ss.take k)).length (flat4 (planD fs bs (ss.take k))) ∧ wr.heap[w.heap.size]? = some (.cells #[.slice a1 nt c1, .slice a2 fs.length c2] 34 (0, 0)) ∧ wr.heap[w.heap.size + 1]? = some (.cells #[.slice none 0 0, .int .i64 0, .bool false] 38 (0, 0)) ∧ wr.heap[w.heap.size + 1 + 1]? = some (.cells #[.slice xa (planD fs bs (ss.take k)).length xc, .int .i64 lay, .bool bare] 38 (0, 0)) ∧ Below w.heap.size w wr) (fun i _ => ss.length - (intOf i).toNat)
  case atStart =>
    refine ⟨0, none, 0, by omega, rfl, by simpa [planD, flat4] using World.ownsRow_nil _ _ _ _, block_old (block_old (block_new _ _ _) _) _, block_old (by simpa using block_new (w.alloc (.cells #[.slice a1 nt c1, .slice a2 fs.length c2] 34)) #[.slice none 0 0, .int .i64 0, .bool false] 38) _, by simpa [planD] using block_new ((w.alloc (.cells #[.slice a1 nt c1, .slice a2 fs.length c2] 34)).alloc (.cells #[.slice none 0 0, .int .i64 0, .bool false] 38)) #[.slice none 0 0, .int .i64 lay, .bool bare] 38, (((Below.refl _ _).alloc (Nat.le_refl _) _).alloc (by simp) _).alloc (by simp; omega) _⟩
  case round =>
    obtain ⟨wo, rfl⟩ : ∃ wo, wo = wr := ⟨_, rfl⟩
    obtain ⟨k, xa, xc, hk, rfl, hown, hM, hZ, hPl, hb⟩ := hrel
    by_cases hlt : k < ss.length
    case neg =>
      have hkn : k = ss.length := by omega
      subst hkn
      have HO := hid hown
      rw [List.take_length] at hPl
      have z1 := block_cell hZ
      have z2 := block_free hZ
      have p1 := block_cell hPl
      obtain ⟨n, hnl⟩ : ∃ n, n = (planD fs bs ss).length := ⟨_, rfl⟩
      rw [← hnl] at hPl p1
      have HNL := hid hnl
      clear hown hM hnl
      go_wp2
      refine bodyPost_ret (v := .agg #[.slice xa n xc, .int .i64 lay, .bool bare]) (by simp [results, Try.results43, go_sem, z1]) rfl ⟨xa, xc, by rw [HNL.out], ?_, ?_⟩
      · have h1 := HO.out
        rw [List.take_length] at h1
        refine ⟨h1.1, ?_⟩
        rcases h1.2 with ⟨e, hn⟩ | ⟨b', cap, cur, e, hb', hh, r⟩
        · exact .inl ⟨e, hn⟩
        · refine .inr ⟨b', cap, cur, e, hb', ?_, r⟩
          rw [Below.heap_setCell _ _ _ _ (by simp; omega), Below.heap_setCell _ _ _ _ (by simp; omega), Below.heap_setCell _ _ _ _ (by simp; omega)]
          exact hh
      · repeat (first | refine Below.setCell ?_ (by first | omega | (simp; omega) | simp) _ | with_reducible exact hb)
    obtain ⟨L, hL⟩ : ∃ L, L = planD fs bs (ss.take k) := ⟨_, rfl⟩
    have HL := hid hL
    rw [← hL] at hown hPl
    have HO := hid hown
    have hlen := planD_len fs bs (ss.take k)
    rw [← hL, List.length_take] at hlen
    clear hL hown
    obtain ⟨b, off, rfl, -, d1, d2, d3, d4⟩ := hs k hlt
    obtain ⟨sk, hsk⟩ : ∃ sk, sk = ss[k] := ⟨_, rfl⟩
    rw [← hsk] at d1 d2 d3 d4
    have HK : Hid (ss[k] = sk) := hsk.symm
    clear hsk
    obtain ⟨sf, sp, sn, tg⟩ := sk
    dsimp only at d1 d2 d3 d4
    have HROW : Hid (∀ w', Below w.heap.size wo w' → w'.cell? ⟨b, off + k * 4, none⟩ = some (.int .i64 sf) ∧ w'.cell? ⟨b, off + k * 4 + 1, none⟩ = some (.int .i64 sp) ∧ w'.cell? ⟨b, off + k * 4 + 2, none⟩ = some (.int .i64 sn) ∧ w'.cell? ⟨b, off + k * 4 + 3, none⟩ = some (.int .i64 tg)) := fun w' q =>
      ⟨cell_later (hb.trans q) d1, cell_later (hb.trans q) d2, cell_later (hb.trans q) d3, cell_later (hb.trans q) d4⟩
    have HB := hid hb
    have HM := hid hM
    have HZ := hid hZ
    have HPl := hid hPl
    have HWZ : Hid (w.heap.size + 2 < wo.heap.size) := lt_size hPl
    clear d1 d2 d3 d4 hb hM hZ hPl
    obtain ⟨j0, j1, j2, j3⟩ := HROW.out wo (Below.refl _ _)
    have q : Below wo.heap.size wo wo.drew := (Below.refl _ _).drew
    go_upto_region 5 with fail
    go_cut [13] from 25 to 36 (fun s13 wx => ∃ g, s13 = .pointer (some ⟨g, 0, none⟩) ∧ wo.heap.size ≤ g ∧ wx.heap[g]? = some (.cells #[.int .i64 sf, .int .i64 sp, .int .i64 1, .int .i64 0] 44 (0, 0)) ∧ Below wo.heap.size wo wx)
    case first =>
      go_region_held3 (fun w' => w'.cell? ⟨b, off + k * 4, none⟩ = some (.int .i64 sf) ∧ w'.cell? ⟨b, off + k * 4 + 1, none⟩ = some (.int .i64 sp))
        (first
          | exact ⟨j0, j1⟩
          | exact ⟨(HROW.out _ (q.mono HB.out.size)).1, (HROW.out _ (q.mono HB.out.size)).2.1⟩
          | exact ⟨(HROW.out _ ((q.mono HB.out.size).alloc (Nat.le_trans HB.out.size q.size) _)).1, (HROW.out _ ((q.mono HB.out.size).alloc (Nat.le_trans HB.out.size q.size) _)).2.1⟩
          | exact ⟨(HROW.out _ ((((((q.mono HB.out.size).alloc (Nat.le_trans HB.out.size q.size) _).setCell (Nat.le_trans HB.out.size q.size) _).setCell (Nat.le_trans HB.out.size q.size) _).setCell (Nat.le_trans HB.out.size q.size) _).setCell (Nat.le_trans HB.out.size q.size) _)).1, (HROW.out _ ((((((q.mono HB.out.size).alloc (Nat.le_trans HB.out.size q.size) _).setCell (Nat.le_trans HB.out.size q.size) _).setCell (Nat.le_trans HB.out.size q.size) _).setCell (Nat.le_trans HB.out.size q.size) _).setCell (Nat.le_trans HB.out.size q.size) _)).2.1⟩)
        (fail)
      all_goals
        go_wp2_with fail
        go_meet
        case rel =>
          first
            | exact ⟨_, rfl, q.size, block_new _ _ _, q.alloc q.size _⟩
            | exact ⟨_, rfl, Nat.le_refl _, block_new _ _ _, (Below.refl _ _).alloc (Nat.le_refl _) _⟩
    case rest =>
      obtain ⟨g, rfl, hgz, hG, hq⟩ := hcut
      clear j0 j1 j2 j3 q
      have HBc : Hid (Below w.heap.size w wc) := HB.out.trans (hq.mono HB.out.size)
      have HMc := hid (block_kept HM.out hq)
      have HZc := hid (block_kept HZ.out hq)
      have HPc := hid (block_kept HPl.out hq)
      have HOc := hid (own_later HO.out hq)
      have HROWc : Hid (∀ w', Below w.heap.size wc w' → w'.cell? ⟨b, off + k * 4, none⟩ = some (.int .i64 sf) ∧ w'.cell? ⟨b, off + k * 4 + 1, none⟩ = some (.int .i64 sp) ∧ w'.cell? ⟨b, off + k * 4 + 2, none⟩ = some (.int .i64 sn) ∧ w'.cell? ⟨b, off + k * 4 + 3, none⟩ = some (.int .i64 tg)) := fun w' q' => HROW.out w' ((hq.mono HB.out.size).trans q')
      have HGZ : Hid (w.heap.size + 2 < g) := Nat.lt_of_lt_of_le HWZ.out hgz
      have HRG : Hid (∀ m, (Value.slice xa L.length xc).ownBlock = some m → m < g) := fun m h => Nat.lt_of_lt_of_le (HO.out.lt m h).2 hgz
      clear HROW HM HZ HPl HO hq hgz HB HWZ
      have hsite := HPP.out k hlt
      rw [HK.out] at hsite
      obtain ⟨hs0, hs1, hsf, hsp, hop⟩ := hsite
      dsimp only at hs0 hs1 hsf hsp hop
      obtain ⟨f, rfl⟩ : ∃ f : Nat, sf = f := ⟨sf.toNat, by omega⟩
      obtain ⟨p, rfl⟩ : ∃ p : Nat, sp = p := ⟨sp.toNat, by omega⟩
      simp only [Int.toNat_natCast] at hsf hsp hop
      have HIN : Hid (insD fs f p = some fs[f].code[p]) := insD_hit hsf hsp
      obtain ⟨b2, off2, ca, cc, rfl, -, -, -, e3, hcode⟩ := hm f hsf
      have hcl := hc _ (List.getElem_mem hsf)
      obtain ⟨b3, off3, rfl, -, x1, -⟩ := hcode p hsp
      obtain ⟨op, hopp⟩ : ∃ op, op = fs[f].code[p].1 := ⟨_, rfl⟩
      rw [← hopp] at x1 hop
      have HOP : Hid (((insD fs f p).getD (0, 0)).1 = op) := by rw [HIN.out, hopp]; rfl
      have e3' := cell_later HBc.out e3
      have x1' := cell_later HBc.out x1
      obtain ⟨nc, hnc⟩ : ∃ nc, nc = fs[f].code.length := ⟨_, rfl⟩
      rw [← hnc] at e3' hcl hsp
      obtain ⟨nf, hnf2⟩ : ∃ nf, nf = fs.length := ⟨_, rfl⟩
      have HNF := hid hnf2
      have hsf2 : f < nf := by rw [hnf2]; exact hsf
      rw [← hnf2] at HMc
      have m1 := block_cell HMc.out
      have g1 := block_cell hG
      have g2 := block_free hG
      clear hnf2 hnc hopp e3 x1 hcode HIN hs0 hs1
      have hi1 : (0 : Int) ≤ (f : Int) := by omega
      have hi2 : (f : Int) < (nf : Int) := by omega
      have hi3 : (0 : Int) ≤ (p : Int) := by omega
      have hi4 : (p : Int) < (nc : Int) := by omega
      go_upto_region 6 with fail
      by_cases h23 : op = 23
      case' pos =>
        subst h23
        have HONE : Hid (∃ kd ut, kd = (2 : Int) ∧ ut = tg ∧ (one fs bs ss[k] = [⟨f, p, kd, ut⟩] ∧ (sn = 1 ∧ SpecP fs ⟨f, p, kd, ut⟩ ∧ ¬ Black bs ⟨f, p, kd, ut⟩) ∨ one fs bs ss[k] = [] ∧ ¬ (sn = 1 ∧ SpecP fs ⟨f, p, kd, ut⟩ ∧ ¬ Black bs ⟨f, p, kd, ut⟩))) := by
          refine ⟨2, tg, rfl, rfl, ?_⟩
          rw [HK.out, one_call HOP.out]
          by_cases h : sn = 1 ∧ SpecP fs ⟨f, p, 2, tg⟩ ∧ ¬ Black bs ⟨f, p, 2, tg⟩
          · exact .inl ⟨if_pos h, h⟩
          · exact .inr ⟨if_neg h, h⟩
        go_big_quiet (fail)
        obtain ⟨y0, y1, y2, y3⟩ := HROWc.out ((wc.drewN nq).setCell ⟨g, 2, none⟩ (.int .i64 2)) ((below_draws (Below.refl _ _) nq).setCell (by have := HGZ.out; simp; omega) _)
        obtain ⟨wD, hwD⟩ : ∃ wD, wD = ((wc.drewN nq).setCell ⟨g, 2, none⟩ (.int .i64 2)).setCell ⟨g, 3, none⟩ (.int .i64 tg) := ⟨_, rfl⟩
        obtain ⟨kd, ut, hkd, hut, hone⟩ := HONE.out
        have hGD : wD.heap[g]? = some (.cells #[.int .i64 f, .int .i64 p, .int .i64 kd, .int .i64 ut] 44 (0, 0)) := by
          rw [hwD, hkd, hut]
          simpa using block_set (i := 3) (block_set (i := 2) (block_kept hG (below_draws (Below.refl _ _) nq)) (.int .i64 2)) (.int .i64 tg)
        have HqD : Hid (∀ B, B ≤ g → Below B wc wD) := fun B hB => by rw [hwD]; exact ((below_draws (Below.refl _ _) nq).setCell hB _).setCell hB _
        have HUU := hid hone
        have c2 : ∀ i, ((wc.drewN nq).setCell ⟨g, 2, none⟩ (.int .i64 2)).frozen? ⟨g, i, none⟩ = false := fun i => block_free (block_set (i := 2) (block_kept hG (below_draws (Below.refl _ _) nq)) (.int .i64 2)) i
        have c3 : ∀ i, ((wc.drewN nq).setCell ⟨g, 2, none⟩ (.int .i64 2)).cell? ⟨g, i, none⟩ = _ := fun i => block_cell (block_set (i := 2) (block_kept hG (below_draws (Below.refl _ _) nq)) (.int .i64 2)) i
        clear HONE hkd hut hone
        go_upto_region 9 with fail
        rw [← hwD]
        clear hwD c2 c3 y0 y1 y2 y3
      case' neg =>
        have HONE : Hid (∃ kd ut, kd = (1 : Int) ∧ ut = (0 : Int) ∧ (one fs bs ss[k] = [⟨f, p, kd, ut⟩] ∧ (sn = 1 ∧ SpecP fs ⟨f, p, kd, ut⟩ ∧ ¬ Black bs ⟨f, p, kd, ut⟩) ∨ one fs bs ss[k] = [] ∧ ¬ (sn = 1 ∧ SpecP fs ⟨f, p, kd, ut⟩ ∧ ¬ Black bs ⟨f, p, kd, ut⟩))) := by
          refine ⟨1, 0, rfl, rfl, ?_⟩
          rw [HK.out, one_number (by rw [HOP.out]; unfold OpP at hop; omega)]
          by_cases h : sn = 1 ∧ SpecP fs ⟨f, p, 1, 0⟩ ∧ ¬ Black bs ⟨f, p, 1, 0⟩
          · exact .inl ⟨if_pos h, h⟩
          · exact .inr ⟨if_neg h, h⟩
        have k23 : (op == 23) = false := by simpa using h23
        go_big_quiet (fail)
        obtain ⟨wD, hwD⟩ : ∃ wD, wD = wc.drewN nq := ⟨_, rfl⟩
        obtain ⟨kd, ut, hkd, hut, hone⟩ := HONE.out
        have hGD : wD.heap[g]? = some (.cells #[.int .i64 f, .int .i64 p, .int .i64 kd, .int .i64 ut] 44 (0, 0)) := by
          rw [hwD, hkd, hut]
          exact block_kept hG (below_draws (Below.refl _ _) nq)
        have HqD : Hid (∀ B, B ≤ g → Below B wc wD) := fun B _ => by rw [hwD]; exact below_draws (Below.refl _ _) nq
        have HUU := hid hone
        clear HONE hkd hut hone k23 h23
        go_upto_region 9 with fail
        rw [← hwD]
        clear hwD
      all_goals
        have Bq := HqD.out (w.heap.size + 3) (by have := HGZ.out; omega)
        have HBD : Hid (Below w.heap.size w wD) := HBc.out.trans (Bq.mono (by omega))
        have hMD : wD.heap[w.heap.size]? = some (.cells #[.slice a1 nt c1, .slice (some ⟨b2, off2, none⟩) nf c2] 34 (0, 0)) := by rw [Bq.block _ (by omega)]; exact HMc.out
        have hZD : wD.heap[w.heap.size + 1]? = some (.cells #[.slice none 0 0, .int .i64 0, .bool false] 38 (0, 0)) := by rw [Bq.block _ (by omega)]; exact HZc.out
        have hPD : wD.heap[w.heap.size + 1 + 1]? = some (.cells #[.slice xa L.length xc, .int .i64 lay, .bool bare] 38 (0, 0)) := by rw [Bq.block _ (by omega)]; exact HPc.out
        have hOD : wD.ownsRow (w.heap.size + 3) 44 4 (.slice xa L.length xc) L.length (flat4 L) := by
          refine ⟨HOc.out.1, ?_⟩
          rcases HOc.out.2 with ⟨e, hn⟩ | ⟨b', cap, cur, e, hb', hh, r⟩
          · exact .inl ⟨e, hn⟩
          · refine .inr ⟨b', cap, cur, e, hb', ?_, r⟩
            rw [(HqD.out g (Nat.le_refl _)).block b' (HRG.out b' (by rw [e]; rfl))]
            exact hh
        obtain ⟨j0, j1, j2, j3⟩ := HROWc.out wD (Bq.mono (by omega))
        have hSP2 := HSP.out ⟨f, p, kd, ut⟩ wD HBD.out
        rw [← HNF.out] at hSP2
        have HSP2 := hid hSP2
        clear m1 g1 g2 hG HROWc HMc HZc HPc HOc HqD Bq HRG e3' x1' hi1 hi2 hi3 hi4 hop HBc hSP2
        have m1 := block_cell hMD
        have g1 := block_cell hGD
        go_cut [14] from 56 to 68 (fun s14 wx => s14 = .bool (pB (¬ (sn = 1 ∧ SpecP fs ⟨f, p, kd, ut⟩))) ∧ Below wD.heap.size wD wx)
        case first =>
          by_cases hsn : sn = 1
          case neg =>
            have ksn : (sn != 1) = true := by simpa using hsn
            have HX : Hid (pB (¬ (sn = 1 ∧ SpecP fs ⟨f, p, kd, ut⟩)) = true) := pB_yes (fun h => hsn h.1)
            clear hsn
            go_wp2_with fail
            go_meet
            case rel => exact ⟨by rw [HX.out], Below.refl _ _⟩
          case pos =>
            subst hsn
            have hcall := HSP2.out
            by_cases hS : SpecP fs ⟨f, p, kd, ut⟩
            · have HX : Hid (pB (¬ ((1 : Int) = 1 ∧ SpecP fs ⟨f, p, kd, ut⟩)) = false) := pB_no (fun h => h ⟨rfl, hS⟩)
              rw [pB_yes hS] at hcall
              clear hS
              go_wp2_with fail
              refine hcall.mono ?_
              rintro e w9 ⟨rfl, hb9⟩
              go_wp2_with fail
              go_meet
              case rel => exact ⟨by rw [HX.out], hb9⟩
            · have HX : Hid (pB (¬ ((1 : Int) = 1 ∧ SpecP fs ⟨f, p, kd, ut⟩)) = true) := pB_yes (fun h => hS h.2)
              rw [pB_no hS] at hcall
              clear hS
              go_wp2_with fail
              refine hcall.mono ?_
              rintro e w9 ⟨rfl, hb9⟩
              go_wp2_with fail
              go_meet
              case rel => exact ⟨by rw [HX.out], hb9⟩
        case rest =>
          obtain ⟨rfl, hq9⟩ := hcut
          have HBE : Hid (Below w.heap.size w wc) := HBD.out.trans (hq9.mono HBD.out.size)
          have HME := hid (block_kept hMD hq9)
          have HZE := hid (block_kept hZD hq9)
          have HPE := hid (block_kept hPD hq9)
          have HOE := hid (own_later hOD hq9)
          have HGE := hid (block_kept hGD hq9)
          clear m1 g1 j0 j1 j2 j3 hMD hZD hPD hOD hGD hq9 HBD HSP2
          go_wp2
          go_loopw [14, 15] (fun no i wr => ∃ (kk : Nat), kk ≤ bs.length ∧ i = .int .i64 kk ∧ no = .bool (pB (¬ (sn = 1 ∧ SpecP fs ⟨f, p, kd, ut⟩) ∨ ∃ j, ∃ (hj : j < bs.length), j < kk ∧ bs[j].f = f ∧ bs[j].pc = p ∧ bs[j].seen = kd)) ∧ Hid (Below wc.heap.size wc wr)) (fun _ i _ => bs.length - (intOf i).toNat)
          case atStart => exact ⟨0, by omega, rfl, by rw [pB_congr (P := ¬ (sn = 1 ∧ SpecP fs ⟨f, p, kd, ut⟩)) (Q := ¬ (sn = 1 ∧ SpecP fs ⟨f, p, kd, ut⟩) ∨ ∃ j, ∃ (hj : j < bs.length), j < 0 ∧ bs[j].f = f ∧ bs[j].pc = p ∧ bs[j].seen = kd) ⟨.inl, fun h => h.elim id (fun ⟨j, hj, h0, _⟩ => absurd h0 (by omega))⟩], Below.refl _ _⟩
          case round =>
            obtain ⟨kk, hkk, rfl, rfl, HQ⟩ := hrel
            by_cases hX : ¬ (sn = 1 ∧ SpecP fs ⟨f, p, kd, ut⟩) ∨ ∃ j, ∃ (hj : j < bs.length), j < kk ∧ bs[j].f = f ∧ bs[j].pc = p ∧ bs[j].seen = kd
            case pos =>
              rw [pB_yes hX]
              have HX := hid hX
              clear hX
              by_cases hlt2 : kk < bs.length
              case pos =>
                go_wp2_with fail
                go_big_quiet (fail)
                go_wp2
                go_roundw
                case rel => exact ⟨kk + 1, by omega, by go_num, by rw [pB_yes (HX.out.imp id (fun ⟨j, hj, h1, h2⟩ => ⟨j, hj, by omega, h2⟩))], HQ.out.trans (below_draws (Below.refl _ _) _)⟩
                case measure => simp [intOf]; omega
              case neg =>
                have HE : Hid (one fs bs ss[k] = []) := by
                  rcases HUU.out with ⟨-, h1, h2, h3⟩ | ⟨h, -⟩
                  · rcases HX.out with h | ⟨j, hj, -, h4⟩
                    · exact absurd ⟨h1, h2⟩ h
                    · exact absurd ⟨bs[j], List.getElem_mem hj, h4⟩ h3
                  · exact h
                go_wp2
                go_roundw
                case rel =>
                  refine ⟨k + 1, xa, xc, by omega, by go_num, ?_, ?_, block_kept HZE.out HQ.out, ?_, HBE.out.trans (HQ.out.mono HBE.out.size)⟩
                  · rw [planD_more hlt, HE.out, List.append_nil, ← HL.out]; exact own_later HOE.out HQ.out
                  · rw [← HNF.out]; exact block_kept HME.out HQ.out
                  · rw [planD_more hlt, HE.out, List.append_nil, ← HL.out]; exact block_kept HPE.out HQ.out
                case measure => simp [intOf]; omega
            case neg =>
              rw [pB_no hX]
              have HX := hid hX
              clear hX
              have hGr := block_kept HGE.out HQ.out
              have g1 := block_cell hGr
              by_cases hlt2 : kk < bs.length
              case pos =>
                obtain ⟨b4, off4, rfl, -, y1, y2, y3, -⟩ := hbl kk hlt2
                have HBr := HBE.out.trans (HQ.out.mono HBE.out.size)
                have y1' := cell_later HBr y1
                have y2' := cell_later HBr y2
                have y3' := cell_later HBr y3
                obtain ⟨bf, hbf⟩ : ∃ bf, bf = bs[kk].f := ⟨_, rfl⟩
                obtain ⟨bp, hbp⟩ : ∃ bp, bp = bs[kk].pc := ⟨_, rfl⟩
                obtain ⟨bk, hbk⟩ : ∃ bk, bk = bs[kk].seen := ⟨_, rfl⟩
                rw [← hbf] at y1'
                rw [← hbp] at y2'
                rw [← hbk] at y3'
                have HKK : Hid ((¬ (sn = 1 ∧ SpecP fs ⟨f, p, kd, ut⟩) ∨ ∃ j, ∃ (hj : j < bs.length), j < kk + 1 ∧ bs[j].f = f ∧ bs[j].pc = p ∧ bs[j].seen = kd) ↔ bf = f ∧ bp = p ∧ bk = kd) := by
                  show _ ↔ _
                  rw [hbf, hbp, hbk]
                  constructor
                  · rintro (h | ⟨j, hj, h1, h2⟩)
                    · exact absurd (.inl h) HX.out
                    · by_cases e : j = kk
                      · subst e; exact h2
                      · exact absurd (.inr ⟨j, hj, by omega, h2⟩) HX.out
                  · exact fun h => .inr ⟨kk, hlt2, by omega, h⟩
                clear y1 y2 y3 hbf hbp hbk HBr
                by_cases q1 : bf = f
                case neg =>
                  have k1 : (bf == (f : Int)) = false := by simpa using q1
                  have HN : Hid (pB (¬ (sn = 1 ∧ SpecP fs ⟨f, p, kd, ut⟩) ∨ ∃ j, ∃ (hj : j < bs.length), j < kk + 1 ∧ bs[j].f = f ∧ bs[j].pc = p ∧ bs[j].seen = kd) = false) := pB_no (fun h => q1 (HKK.out.1 h).1)
                  clear q1
                  go_wp2_with fail
                  go_big_quiet (fail)
                  go_wp2
                  go_roundw
                  case rel => exact ⟨kk + 1, by omega, by go_num, by rw [HN.out], HQ.out.trans (below_draws (Below.refl _ _) _)⟩
                  case measure => simp [intOf]; omega
                have k1 : (bf == (f : Int)) = true := by simpa using q1
                by_cases q2 : bp = p
                case neg =>
                  have k2 : (bp == (p : Int)) = false := by simpa using q2
                  have HN : Hid (pB (¬ (sn = 1 ∧ SpecP fs ⟨f, p, kd, ut⟩) ∨ ∃ j, ∃ (hj : j < bs.length), j < kk + 1 ∧ bs[j].f = f ∧ bs[j].pc = p ∧ bs[j].seen = kd) = false) := pB_no (fun h => q2 (HKK.out.1 h).2.1)
                  clear q1 q2
                  go_wp2_with fail
                  go_big_quiet (fail)
                  go_wp2
                  go_roundw
                  case rel => exact ⟨kk + 1, by omega, by go_num, by rw [HN.out], HQ.out.trans (below_draws (Below.refl _ _) _)⟩
                  case measure => simp [intOf]; omega
                have k2 : (bp == (p : Int)) = true := by simpa using q2
                by_cases q3 : bk = kd
                case neg =>
                  have k3 : (bk == kd) = false := by simpa using q3
                  have HN : Hid (pB (¬ (sn = 1 ∧ SpecP fs ⟨f, p, kd, ut⟩) ∨ ∃ j, ∃ (hj : j < bs.length), j < kk + 1 ∧ bs[j].f = f ∧ bs[j].pc = p ∧ bs[j].seen = kd) = false) := pB_no (fun h => q3 (HKK.out.1 h).2.2)
                  clear q1 q2 q3
                  go_wp2_with fail
                  go_big_quiet (fail)
                  go_wp2
                  go_roundw
                  case rel => exact ⟨kk + 1, by omega, by go_num, by rw [HN.out], HQ.out.trans (below_draws (Below.refl _ _) _)⟩
                  case measure => simp [intOf]; omega
                have k3 : (bk == kd) = true := by simpa using q3
                have HN : Hid (pB (¬ (sn = 1 ∧ SpecP fs ⟨f, p, kd, ut⟩) ∨ ∃ j, ∃ (hj : j < bs.length), j < kk + 1 ∧ bs[j].f = f ∧ bs[j].pc = p ∧ bs[j].seen = kd) = true) := pB_yes (HKK.out.2 ⟨q1, q2, q3⟩)
                clear q1 q2 q3
                go_wp2_with fail
                go_big_quiet (fail)
                go_wp2
                go_roundw
                case rel => exact ⟨kk + 1, by omega, by go_num, by rw [HN.out], HQ.out.trans (below_draws (Below.refl _ _) _)⟩
                case measure => simp [intOf]; omega
              case neg =>
                have HE : Hid (one fs bs ss[k] = [⟨f, p, kd, ut⟩]) := by
                  rcases HUU.out with ⟨h, -⟩ | ⟨-, h⟩
                  · exact h
                  · refine absurd ⟨Classical.byContradiction (fun e => HX.out (.inl (fun h => e h.1))), Classical.byContradiction (fun e => HX.out (.inl (fun h => e h.2))), ?_⟩ h
                    rintro ⟨t, ht, h1⟩
                    obtain ⟨j, hj, rfl⟩ := List.getElem_of_mem ht
                    exact HX.out (.inr ⟨j, hj, by omega, h1⟩)
                have hOr := own_later HOE.out HQ.out
                have hPr := block_kept HPE.out HQ.out
                have p1 := block_cell hPr
                have HBr := hid (HBE.out.trans (HQ.out.mono HBE.out.size))
                have hzr : w.heap.size + 1 + 1 < wr.heap.size := lt_size hPr
                obtain ⟨L0, hL0⟩ : ∃ L0, L0 = flat4 L := ⟨_, rfl⟩
                have HL0 := hid hL0
                rw [← hL0] at hOr
                have HOr := hid hOr
                have HPr := hid hPr
                clear hL0 hPr hGr HUU HX
                go_wp2_with (at_builtin; refine wpList_append_lies _ rfl _ _ 36 rfl (w.heap.size + 3) 44 i0 (.agg #[.int .i64 0, .int .i64 0, .int .i64 0, .int .i64 0]) 4 32 Try.underlying36 hi hz0 hz1 hz2 rfl (by decide) _ _ _ rfl (World.ownsRow.alloc hOr _) ⟨wr.heap.size, 0, none⟩ 1 1 [.int .i64 f, .int .i64 p, .int .i64 kd, .int .i64 ut] rfl rfl (World.news_of_block (cs := #[.int .i64 f, .int .i64 p, .int .i64 kd, .int .i64 ut]) (t := 44) (fr := (0, 0)) (heap_alloc_new wr _)) (by simp [Value.oneCell']) (by decide) (by unfold maxLen; omega) (by omega) (by simp; omega) _ rfl ?_; intro g3 cap3 w3 hown3 hgrow3 hat3 hlt3; have hP3 := grown_kept (World.ownsRow.alloc hOr (.cells #[.int .i64 f, .int .i64 p, .int .i64 kd, .int .i64 ut] 44)) (by omega) (block_old HPr.out (.cells #[.int .i64 f, .int .i64 p, .int .i64 kd, .int .i64 ut] 44)) hgrow3; have r1 := block_cell hP3; have r2 := block_free hP3)
                go_roundw
                case rel =>
                  have hownA := World.ownsRow.alloc HOr.out (.cells #[.int .i64 f, .int .i64 p, .int .i64 kd, .int .i64 ut] 44)
                  have hbA2 : Below wr.heap.size wr (wr.alloc (.cells #[.int .i64 f, .int .i64 p, .int .i64 kd, .int .i64 ut] 44)) := (Below.refl _ _).alloc (Nat.le_refl _) _
                  refine ⟨k + 1, some ⟨g3, 0, none⟩, cap3, by omega, by go_num, ?_, ?_, ?_, ?_, ?_⟩
                  · rw [planD_more hlt, HE.out, ← HL.out, List.length_append, flat4_app, flat4_one, ← HL0.out]
                    exact ownsRow_setCell_below hown3 (by simp) _
                  · rw [Below.heap_setCell _ _ _ _ (by simp; omega), ← HNF.out]
                    exact grown_kept hownA (by omega) (block_kept (block_kept HME.out HQ.out) hbA2) hgrow3
                  · rw [Below.heap_setCell _ _ _ _ (by simp)]
                    exact grown_kept hownA (by omega) (block_kept (block_kept HZE.out HQ.out) hbA2) hgrow3
                  · rw [planD_more hlt, HE.out, ← HL.out, List.length_append]
                    simpa using block_set (i := 0) hP3 (.slice (some ⟨g3, 0, none⟩) (L.length + 1) cap3)
                  · have hB6 := HBr.out.trans (hbA2.mono HBr.out.size)
                    exact (hB6.grown hgrow3 (Nat.le_trans HBr.out.size hbA2.size) (fun m hm => by have := (hownA.lt m hm).1; omega)).setCell (by simp; omega) _
                case measure => simp [intOf]; omega
end Go.Proofs.Ytmjkkpmfneabjaa
