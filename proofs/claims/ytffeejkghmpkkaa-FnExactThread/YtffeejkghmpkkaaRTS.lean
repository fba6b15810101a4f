/-
  The document's Thread.
-/
import Derived.Test.YtffeejkghmpkkaaRCS
import Derived.Test.YtffeejkghmpkkaaRTH3
import Derived.Test.YtffeejkghmpkkaaRK2
namespace Go.Proofs.Ytffeejkghmpkkaa
open Go.RowKit

theorem hopC_op (at' j : Nat) (code : List (Int × Int)) : ((hopC at' code).getD j (0, 0)).1 = (code.getD j (0, 0)).1 := by
  unfold hopC
  split
  · rw [getD_setP]
    split
    · rename_i h; rw [h.1]
    · rfl
  · rfl
theorem hopN_op (at' j t : Nat) (code : List (Int × Int)) : ((hopN at' t code).getD j (0, 0)).1 = (code.getD j (0, 0)).1 := by
  induction t with
  | zero => rfl
  | succ t ih => exact (hopC_op at' j _).trans ih
/-- The argument A of one instruction of one function is written. -/
theorem ModAp.store {w : World} {base c1 c2 : Nat} {a1 a2 : Option Addr} {ts : List ByteArray} {fs : List Fn} {cs : List (Option Addr × Nat)} (h : ModAp w base a1 c1 a2 c2 ts fs cs) (i : Nat) (hi : i < fs.length) (hi' : i < cs.length) (j : Nat) (hj : j < fs[i].code.length) :
    ∃ g, cs[i].1 = some ⟨g, 0, none⟩ ∧ base ≤ g ∧ w.frozen? ⟨g, j * 2 + 1, none⟩ = false ∧ (∀ p (hp : p < fs[i].code.length), w.cell? ⟨g, p * 2, none⟩ = some (.int .i64 fs[i].code[p].1) ∧ w.cell? ⟨g, p * 2 + 1, none⟩ = some (.int .i64 fs[i].code[p].2)) ∧
      ∀ v : Int, ModAp (w.setCell ⟨g, j * 2 + 1, none⟩ (.int .i64 v)) base a1 c1 a2 c2 ts (fs.set i ⟨fs[i].params, fs[i].locals, fs[i].code.set j (fs[i].code[j].1, v)⟩) cs ∧ Keeps base [54] w (w.setCell ⟨g, j * 2 + 1, none⟩ (.int .i64 v)) := by
  have ho := h.codes.own i hi hi'
  obtain ⟨g, hg, hgb, -, -, hf, hput, honly⟩ := own_ins ho hj
  obtain ⟨cur, hcur⟩ := own_blk ho hg
  refine ⟨g, hg, hgb, hf, fun p hp => ?_, fun v => ?_⟩
  · obtain ⟨g', hg', -, d1, d2, -⟩ := own_ins ho hp
    obtain rfl : g = g' := by rw [hg] at hg'; cases hg'; rfl
    exact ⟨d1, d2⟩
  · have hk : Keeps base [54] w (w.setCell ⟨g, j * 2 + 1, none⟩ (.int .i64 v)) := (honly _).keeps hcur (by simp) hgb
    have hl : (fs[i].code.set j (fs[i].code[j].1, v)).length = fs[i].code.length := by simp
    refine ⟨⟨own_keeps h.texts hk (by simp), ?_, ?_⟩, hk⟩
    · rw [fnVals_code fs cs i hi _ hl]
      have := own_keeps h.funcs hk (by simp)
      simpa using this
    · have hw := h.codes.write (w' := w.setCell ⟨g, j * 2 + 1, none⟩ (.int .i64 v)) (r := some g) i hi hi' fs[i].params fs[i].locals (fs[i].code.set j (fs[i].code[j].1, v)) cs[i].1 cs[i].2 (by rw [hl]; exact hput v) (honly _) (fun g' e => by cases e; exact hg) (fun g' e => .inl e)
      have e : cs.set i (cs[i].1, cs[i].2) = cs := List.set_getElem_self hi'
      rw [e] at hw
      exact hw

set_option maxRecDepth 100000 in
set_option maxHeartbeats 8000000 in
theorem sThread_any (a1 a2 : Option Addr) (c1 c2 : Nat) (ts : List ByteArray) (fs : List Fn) (w : World) (hs : Small ts fs) (hst : StrsAt w 0 a1 ts) (hfn : FnsAt w 0 a2 fs) :
    Calls Try.prog 12 #[.agg #[.slice a1 ts.length c1, .slice a2 fs.length c2]] w fun e w' => SPost thrOf ts fs w e w' := by
  obtain ⟨wa, hwa⟩ : ∃ wa, wa = (w.alloc (.cells #[.slice a1 ts.length c1, .slice a2 fs.length c2] 29)).alloc (.cells #[.slice none 0 0, .slice none 0 0] 29) := ⟨_, rfl⟩
  have hbA : Below w.heap.size w wa := by rw [hwa]; exact ((Below.refl _ _).alloc (Nat.le_refl _) _).alloc (by simp) _
  have hB1 : wa.heap[w.heap.size]? = some (.cells #[.slice a1 ts.length c1, .slice a2 fs.length c2] 29 (0, 0)) := by rw [hwa]; exact block_old (block_new _ _ _) _
  have hB2 : wa.heap[w.heap.size + 1]? = some (.cells #[.slice none 0 0, .slice none 0 0] 29 (0, 0)) := by rw [hwa]; simpa using block_new (w.alloc (.cells #[.slice a1 ts.length c1, .slice a2 fs.length c2] 29)) #[.slice none 0 0, .slice none 0 0] 29
  have hszA : w.heap.size + 2 ≤ wa.heap.size := by rw [hwa]; simp
  have HSZ : Hid (w.heap.size + 2 ≤ wa.heap.size) := hszA
  have y0 := block_cell hB1
  go_enter Try.func12, Try.ntmps12
  go_upto_region 1 with fail
  rw [← hwa]
  clear hwa hszA
  go_wp2_with fail
  refine (sGood_any _ _ _ _ ts fs wa hs (hst.mono hbA) (hfn.mono hbA)).mono ?_
  rintro e w1 ⟨rfl, hb1⟩
  have hB1a := block_kept hB1 hb1
  have hB2a := block_kept hB2 hb1
  have hbw1 := hbA.trans (hb1.mono hbA.size)
  have HSZ1 : Hid (w.heap.size + 2 ≤ w1.heap.size) := Nat.le_trans HSZ.out hb1.size
  clear hB1 hB2 hb1 hbA y0 HSZ
  by_cases hG : Good ts fs
  case neg =>
    rw [pB_no hG]
    have r1 := block_cell hB2a
    have r2 := block_free hB2a
    have hr2 := block_cell (block_set (i := 1) (block_set (i := 0) hB2a (.slice none 0 0)) (.slice none 0 0))
    have HF : Hid (Below w.heap.size w ((w1.setCell ⟨w.heap.size + 1, 0, none⟩ (.slice none 0 0)).setCell ⟨w.heap.size + 1, 1, none⟩ (.slice none 0 0)) ∧ RewRes thrOf ts fs [] []) := ⟨(hbw1.setCell (p := ⟨w.heap.size + 1, 0, none⟩) (by simp) _).setCell (p := ⟨w.heap.size + 1, 1, none⟩) (by simp) _, .inr ⟨hG, rfl, rfl⟩⟩
    clear hst hfn hB1a hbw1 hG
    go_wp2
    refine bodyPost_ret (v := .agg #[.slice none 0 0, .slice none 0 0]) (by simp [results, Try.results12, go_sem, r1]) rfl ?_
    exact ⟨[], [], none, 0, none, 0, HF.out.2, rfl, fun i h => by simp at h, fun i h => by simp at h, by first | exact HF.out.1 | exact hid HF.out.1⟩
  rw [pB_yes hG]
  have hGs := good_size hG
  have HG := hid hG
  have x1 := block_cell hB1a
  go_wp2_with fail
  refine (copyX_any a1 a2 c1 c2 ts fs w1 (hst.mono hbw1) (hfn.mono hbw1) (by omega) (by omega) (fun f hf => by have := hGs.2.2 f hf; omega)).mono ?_
  rintro e w2 ⟨ta', tc', oa, oc, cs, rfl, hmo, hb2⟩
  have hmA := hmo.ap.low (show w.heap.size + 2 ≤ w1.heap.size + 2 by have := HSZ1.out; omega)
  have hB2b := block_kept hB2a hb2
  have hbw2 := hbw1.trans (hb2.mono hbw1.size)
  have HSZ2 : Hid (w.heap.size + 2 ≤ w2.heap.size) := Nat.le_trans HSZ1.out hb2.size
  have hfl : fs.length ≤ 12 := hGs.2.1
  clear hB1a hB2a hb2 hbw1 x1 hmo hG hst hfn
  obtain ⟨Ro, hRo⟩ : ∃ Ro, Ro = w2.heap.size := ⟨_, rfl⟩
  have hbx : Below w2.heap.size w2 (w2.alloc (.cells #[.slice ta' ts.length tc', .slice oa fs.length oc] 29)) := (Below.refl _ _).alloc (Nat.le_refl _) _
  have hB3 := block_new w2 #[.slice ta' ts.length tc', .slice oa fs.length oc] 29
  rw [← hRo] at hB3
  go_wp2
  rw [← hRo]
  obtain ⟨w3, hw3⟩ : ∃ w3, w3 = w2.alloc (.cells #[.slice ta' ts.length tc', .slice oa fs.length oc] 29) := ⟨_, rfl⟩
  rw [← hw3] at hbx hB3 ⊢
  have hB2c := block_kept hB2b hbx
  have hmC := hmA.below hbx
  have hbw3 := hbw2.trans (hbx.mono hbw2.size)
  have HSZ3 : Hid (w.heap.size + 2 ≤ w3.heap.size) := Nat.le_trans HSZ2.out hbx.size
  have HGS := hid hGs
  have HCL : Hid (fs.length = cs.length) := hmC.codes.len
  clear hw3 hRo hB2b hmA hbw2 hbx hGs
  go_loopw [4] (fun i wr => ∃ (k : Nat) (gs : List Fn), k ≤ fs.length ∧ i = .int .i64 k ∧ Hid (gs = mapTo thrOf fs k) ∧ Hid (gs.length = fs.length) ∧ wr.heap[Ro]? = some (.cells #[.slice ta' ts.length tc', .slice oa fs.length oc] 29 (0, 0)) ∧ wr.heap[w.heap.size + 1]? = some (.cells #[.slice none 0 0, .slice none 0 0] 29 (0, 0)) ∧ Hid (ModAp wr (w.heap.size + 2) ta' tc' oa oc ts gs cs) ∧ Below w.heap.size w wr ∧ w.heap.size + 2 ≤ wr.heap.size) (fun i _ => fs.length - (intOf i).toNat)
  case atStart => exact ⟨0, fs, by omega, rfl, by show _ = _; rw [mapTo_zero], rfl, hB3, hB2c, hmC, hbw3, HSZ3.out⟩
  case round =>
    obtain ⟨k, gs, hk, rfl, HGE, HGL, hRb, hRes, hM, hb, hszr⟩ := hrel
    clear hB3 hB2c hmC hbw3
    have m3 := block_cell hRb
    by_cases hlt : k < fs.length
    · have hkg : k < gs.length := by rw [HGL.out]; exact hlt
      have hkc : k < cs.length := by rw [← HCL.out]; exact hlt
      have F := good_fine HG.out hlt
      have hgk : gs[k] = fs[k] := by
        have := mapTo_at thrOf fs hlt (by rw [← HGE.out]; exact hkg)
        simp only [HGE.out]
        exact this
      obtain ⟨g, hg, hgb, -, -, -⟩ := hM.out.store k hkg hkc 0 (by rw [hgk]; exact F.one)
      obtain ⟨n, hn⟩ : ∃ n, n = fs[k].code.length := ⟨_, rfl⟩
      obtain ⟨cc, hcc⟩ : ∃ cc, cc = cs[k].2 := ⟨_, rfl⟩
      obtain ⟨g2, hg2, hg2b, hg2c⟩ := own_cell hM.out.funcs (k * 3 + 2) (by omega)
      have hfv := (fnVals_at gs cs hM.out.codes.len k hkg hkc).2.2
      rw [hfv] at hg2c
      rw [hg, hgk, ← hn, ← hcc] at hg2c
      subst hg2
      have hJ0 : JIn n fs[k].code := ⟨hn.symm, fun i hi hj => by
        rw [hn] at hi
        rw [getD_code hi] at hj ⊢
        rw [hn]
        exact F.jump i hi hj⟩
      have hn120 : n ≤ 120 := by rw [hn]; exact F.most
      have hn1 : 1 ≤ n := by rw [hn]; exact F.one
      obtain ⟨code, hcode⟩ : ∃ code, code = fs[k].code := ⟨_, rfl⟩
      rw [← hcode] at hJ0
      have HCODE := hid hcode
      have HG1 : Hid (cs[k] = (some ⟨g, 0, none⟩, cc)) := Prod.ext hg hcc.symm
      have HSET : Hid (gs.set k ⟨fs[k].params, fs[k].locals, code⟩ = gs) := by show _ = _; rw [hcode, ← hgk]; exact List.set_getElem_self hkg
      have HM0 : Hid (ModAp wr (w.heap.size + 2) ta' tc' (some ⟨g2, 0, none⟩) oc ts (gs.set k ⟨fs[k].params, fs[k].locals, code⟩) cs) := by show ModAp _ _ _ _ _ _ _ _ _; rw [HSET.out]; exact hM.out
      have HJ := hid hJ0
      obtain ⟨wo, hwo⟩ : ∃ wo, wo = wr := ⟨_, rfl⟩
      rw [← hwo] at hRb hRes hb hszr hg2c HM0
      subst hwo
      clear hM hg hgk hn hcc hfv hcode HSET hJ0 F
      go_wp2
      go_loopw [6] (fun i wr => ∃ (t : Nat) (ys : List (Int × Int)), t ≤ n ∧ i = .int .i64 t ∧ Hid (ys = thrTo code t) ∧ wr.heap[Ro]? = some (.cells #[.slice ta' ts.length tc', .slice (some ⟨g2, 0, none⟩) fs.length oc] 29 (0, 0)) ∧ wr.heap[w.heap.size + 1]? = some (.cells #[.slice none 0 0, .slice none 0 0] 29 (0, 0)) ∧ Hid (ModAp wr (w.heap.size + 2) ta' tc' (some ⟨g2, 0, none⟩) oc ts (gs.set k ⟨fs[k].params, fs[k].locals, ys⟩) cs) ∧ Below w.heap.size w wr ∧ w.heap.size + 2 ≤ wr.heap.size) (fun i _ => n - (intOf i).toNat)
      case atStart => exact ⟨0, code, by omega, rfl, rfl, hRb, hRes, HM0.out, hb, hszr⟩
      case round =>
        obtain ⟨i, ys, hi, rfl, HYS, hRbx, hResx, HMx, hbx, hszx⟩ := hrel
        clear hRb hRes hb hszr hg2c HM0 m3
        by_cases hlt2 : i < n
        · have HJY : Hid (JIn n ys) := by show JIn n ys; rw [HYS.out]; exact thrTo_in HJ.out i
          have hyl : ys.length = n := HJY.out.1
          have hst1 := HMx.out.store k (by simpa using hkg) hkc i (by simp; omega)
          simp only [List.getElem_set_self] at hst1
          obtain ⟨g', hg', hgb', hfz, hcells, -⟩ := hst1
          obtain rfl : g = g' := by rw [HG1.out] at hg'; cases hg'; rfl
          obtain ⟨d1, d2⟩ := hcells i (by omega)
          obtain ⟨op, hop⟩ : ∃ op, op = ys[i].1 := ⟨_, rfl⟩
          rw [← hop] at d1
          have hgd : ys.getD i (0, 0) = ys[i] := getD_code (by omega)
          have HOP : Hid ((ys.getD i (0, 0)).1 = op) := by show _ = _; rw [hgd, hop]
          clear hg' hfz hcells d2 hop hgd
          by_cases hj : Jop op
          · obtain ⟨wo2, hwo2⟩ : ∃ wo2, wo2 = wr := ⟨_, rfl⟩
            rw [← hwo2] at hRbx hResx hbx hszx HMx d1
            subst hwo2
            have hj' : op = 17 ∨ op = 18 ∨ op = 19 := hj
            have HJO := hid hj
            clear hj
            have HL3 : Hid (∀ zs t, t ≤ 120 → hopZ i ys = hopN i t ys → zs = hopN i t ys → zs = thrTo code (i + 1)) := fun zs t _ h h2 => by rw [thrTo_z, ← HYS.out, h, h2]
            rcases hj' with rfl | rfl | rfl
            all_goals
              go_wp2
              go_loopw [7] (fun i7 wr => ∃ (t : Nat) (zs : List (Int × Int)), t ≤ 120 ∧ i7 = .int .i64 t ∧ Hid (zs = hopN i t ys) ∧ wr.heap[Ro]? = some (.cells #[.slice ta' ts.length tc', .slice (some ⟨g2, 0, none⟩) fs.length oc] 29 (0, 0)) ∧ wr.heap[w.heap.size + 1]? = some (.cells #[.slice none 0 0, .slice none 0 0] 29 (0, 0)) ∧ Hid (ModAp wr (w.heap.size + 2) ta' tc' (some ⟨g2, 0, none⟩) oc ts (gs.set k ⟨fs[k].params, fs[k].locals, zs⟩) cs) ∧ Below w.heap.size w wr ∧ w.heap.size + 2 ≤ wr.heap.size) (fun i7 _ => 120 - (intOf i7).toNat)
              case atStart => exact ⟨0, ys, by omega, rfl, rfl, hRbx, hResx, HMx.out, hbx, hszx⟩
              case round =>
                obtain ⟨t, zs, ht, rfl, HZS, hRbz, hResz, HMz, hbz, hszz⟩ := hrel
                clear hRbx hResx HMx hbx hszx d1
                have HJZ : Hid (JIn n zs) := by show JIn n zs; rw [HZS.out]; exact hopN_in HJY.out t
                have hzl : zs.length = n := HJZ.out.1
                have hil : i < zs.length := by omega
                have hst2 := HMz.out.store k (by simpa using hkg) hkc i (by simp; omega)
                simp only [List.getElem_set_self, List.set_set] at hst2
                obtain ⟨g', hg', hgb2, hfz, hcells, hput⟩ := hst2
                obtain rfl : g = g' := by rw [HG1.out] at hg'; cases hg'; rfl
                obtain ⟨d1, d2⟩ := hcells i (by omega)
                have hgz : zs.getD i (0, 0) = zs[i] := getD_code (by omega)
                have hzop : (zs.getD i (0, 0)).1 = (ys.getD i (0, 0)).1 := by rw [HZS.out]; exact hopN_op i i t ys
                have hjz : Jop (zs.getD i (0, 0)).1 := by rw [hzop, HOP.out]; exact HJO.out
                obtain ⟨ha0, ha1⟩ := HJZ.out.2 i hlt2 hjz
                obtain ⟨p, hp⟩ : ∃ p : Nat, (zs.getD i (0, 0)).2 = (p : Int) := ⟨_, (Int.toNat_of_nonneg ha0).symm⟩
                rw [hp] at ha0 ha1
                have hpn : p < n := by omega
                rw [← hgz, hp] at d2
                obtain ⟨k1, k2⟩ := hcells p (by omega)
                have hpt : zs.getD (zs.getD i (0, 0)).2.toNat (0, 0) = zs[p] := by rw [hp, Int.toNat_natCast]; exact getD_code (by omega)
                obtain ⟨op2, hop2⟩ : ∃ o2, o2 = zs[p].1 := ⟨_, rfl⟩
                obtain ⟨a2, ha2⟩ : ∃ a, a = zs[p].2 := ⟨_, rfl⟩
                rw [← hop2] at k1
                rw [← ha2] at k2
                have HQ : Hid (op2 = 17 → hopC i zs = zs.set i (zs[i].1, a2)) := fun h => by rw [hopC_yes ⟨hjz, by rw [hpt, ← hop2]; exact h⟩, hpt, ← ha2, hgz]
                have HQN : Hid (op2 ≠ 17 → hopC i zs = zs) := fun h => hopC_no (fun q => h (by have := q.2; rw [hpt, ← hop2] at this; exact this))
                have HPUT := hid (hput a2)
                have HRZ := hid (And.intro hRbz hResz)
                have HBZ := hid (And.intro hbz hszz)
                clear hput hcells hg' hgz hzop hjz hp hpt hop2 ha2 hbz hszz hRbz hResz
                by_cases hlt3 : t < 120
                · have hltI : (t : Int) < 120 := by omega
                  by_cases h17 : op2 = 17
                  · subst h17
                    have HN : Hid (zs.set i (zs[i].1, a2) = hopN i (t + 1) ys) := by show _ = hopC i (hopN i t ys); rw [← HZS.out, HQ.out rfl]
                    have HNX : Hid (ModAp (wr.setCell ⟨g, i * 2 + 1, none⟩ (.int .i64 a2)) (w.heap.size + 2) ta' tc' (some ⟨g2, 0, none⟩) oc ts (gs.set k ⟨fs[k].params, fs[k].locals, zs.set i (zs[i].1, a2)⟩) cs) := HPUT.out.1
                    have hRb4 := HPUT.out.2.cell HRZ.out.1 (by simp)
                    have hRes4 := HPUT.out.2.cell HRZ.out.2 (by simp)
                    have hb4 : Below w.heap.size w (wr.setCell ⟨g, i * 2 + 1, none⟩ (.int .i64 a2)) := HBZ.out.1.trans ((HPUT.out.2.toBelow HBZ.out.2).mono (by omega))
                    have hsz4 : w.heap.size + 2 ≤ (wr.setCell ⟨g, i * 2 + 1, none⟩ (.int .i64 a2)).heap.size := by simpa using HBZ.out.2
                    clear HQ HQN HPUT HMz
                    go_wp2
                    go_roundw
                    case rel => exact ⟨t + 1, _, by omega, by go_num, HN.out, hRb4, hRes4, HNX.out, hb4, hsz4⟩
                    case measure => simp [intOf]; omega
                  · have hne : (op2 == 17) = false := beq_eq_false_iff_ne.2 h17
                    have HE : Hid (zs = thrTo code (i + 1)) := HL3.out zs t ht (hopZ_end ht (by rw [← HZS.out]; exact HQN.out h17)) HZS.out
                    clear HQ HQN HPUT h17
                    go_wp2
                    go_roundw
                    case rel => exact ⟨i + 1, zs, by omega, by go_num, HE.out, HRZ.out.1, HRZ.out.2, HMz.out, HBZ.out.1, HBZ.out.2⟩
                    case measure => simp [intOf]; omega
                · have hte : t = 120 := by omega
                  have HE : Hid (zs = thrTo code (i + 1)) := HL3.out zs t ht (hopZ_all hte) HZS.out
                  have hltI : ¬ (t : Int) < 120 := by omega
                  clear HQ HQN HPUT hte
                  go_wp2
                  go_roundw
                  case rel => exact ⟨i + 1, zs, by omega, by go_num, HE.out, HRZ.out.1, HRZ.out.2, HMz.out, HBZ.out.1, HBZ.out.2⟩
                  case measure => simp [intOf]; omega
          · have hn1 : (op != 17) = true := by rw [bne, beq_eq_false_iff_ne.2 (fun e => hj (.inl e))]; rfl
            have hn2 : (op != 18) = true := by rw [bne, beq_eq_false_iff_ne.2 (fun e => hj (.inr (.inl e)))]; rfl
            have hn3 : (op != 19) = true := by rw [bne, beq_eq_false_iff_ne.2 (fun e => hj (.inr (.inr e)))]; rfl
            have HE : Hid (ys = thrTo code (i + 1)) := by
              show _ = _
              rw [thrTo_z, ← HYS.out]
              exact (hopZ_end (t := 0) (by omega) (hopC_no (fun q => hj (by rw [← HOP.out]; exact q.1)))).symm
            clear hj
            go_wp2
            go_roundw
            case rel => exact ⟨i + 1, ys, by omega, by go_num, HE.out, hRbx, hResx, HMx.out, hbx, hszx⟩
            case measure => simp [intOf]; omega
        · have hin : i = n := by omega
          have HE : Hid (gs.set k ⟨fs[k].params, fs[k].locals, ys⟩ = mapTo thrOf fs (k + 1)) := by
            have e : ys = thrOf fs[k].code := by
              rw [HYS.out, hin, ← HCODE.out]
              unfold thrOf
              rw [HJ.out.1]
            show _ = _
            rw [e, HGE.out, mapTo_more thrOf fs hlt]
          have HMY : Hid (ModAp wr (w.heap.size + 2) ta' tc' (some ⟨g2, 0, none⟩) oc ts (mapTo thrOf fs (k + 1)) cs) := by
            show ModAp _ _ _ _ _ _ _ _ _
            rw [← HE.out]
            exact HMx.out
          clear HMx
          go_wp2
          go_roundw
          case rel => exact ⟨k + 1, _, by omega, by go_num, rfl, hid (mapTo_len thrOf fs (by omega)), hRbx, hResx, HMY.out, hbx, hszx⟩
          case measure => simp [intOf]; omega
    · have hke : k = fs.length := by omega
      have hgs : gs = fs.map fun F => ⟨F.params, F.locals, thrOf F.code⟩ := by rw [HGE.out, hke, mapTo_all]
      have y1 := block_cell hRb
      have y2 := block_cell hRes
      have y3 := block_free hRes
      have hr1 := block_set (i := 0) hRes (.slice ta' ts.length tc')
      have hr2 := block_set (i := 1) hr1 (.slice oa fs.length oc)
      have rr := block_cell hr2
      have HM2 : Hid (ModAp ((wr.setCell ⟨w.heap.size + 1, 0, none⟩ (.slice ta' ts.length tc')).setCell ⟨w.heap.size + 1, 1, none⟩ (.slice oa fs.length oc)) (w.heap.size + 2) ta' tc' oa oc ts gs cs) := (hM.out.set (p := ⟨w.heap.size + 1, 0, none⟩) (by simp) _).set (p := ⟨w.heap.size + 1, 1, none⟩) (by simp) _
      have HB2 : Hid (Below w.heap.size w ((wr.setCell ⟨w.heap.size + 1, 0, none⟩ (.slice ta' ts.length tc')).setCell ⟨w.heap.size + 1, 1, none⟩ (.slice oa fs.length oc))) := (hb.setCell (p := ⟨w.heap.size + 1, 0, none⟩) (by simp) (.slice ta' ts.length tc')).setCell (p := ⟨w.heap.size + 1, 1, none⟩) (by simp) (.slice oa fs.length oc)
      have HGS2 := hid hgs
      clear hr1 hr2 hgs hb hRb
      go_wp2
      refine bodyPost_ret (v := .agg #[.slice ta' ts.length tc', .slice oa fs.length oc]) (by simp [results, Try.results12, go_sem, rr]) rfl
        ⟨ts, gs, ta', tc', oa, oc, hid (.inl ⟨HG.out, rfl, HGS2.out⟩), by rw [HGL.out], HM2.out.strs.low (Nat.zero_le _), HM2.out.fns.low (Nat.zero_le _), HB2.out⟩
end Go.Proofs.Ytffeejkghmpkkaa
