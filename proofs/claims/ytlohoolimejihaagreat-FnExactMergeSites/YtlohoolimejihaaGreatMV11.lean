/-
  What impl.MergeSites returns.
  What the laws' functions over bytes (eqByteS, markByteS, heldByteS) and markText return.
  Nothing of its own: what stood here stands in Mem3.
-/
import Derived.Test.YtlohoolimejihaaGreatZT5
import Derived.Test.YtlohoolimejihaaGreatW1
import Derived.Test.YtlohoolimejihaaGreatMem3
namespace Go.Proofs.YtlohoolimejihaaGreat
open Go.RowKit

theorem rep_len {R : List Si} {ws : List Wt} (h : Rep R (tabW ws)) (hp : Places ws) : R.length = ws.length := by
  have h1 : (R.map fun x => (x.f, x.pc)).Nodup := by
    unfold List.Nodup
    rw [List.pairwise_map]
    exact h.1.imp (fun {x y} q (e : (x.f, x.pc) = (y.f, y.pc)) => sl_same q ⟨congrArg Prod.fst e, congrArg Prod.snd e⟩)
  have h2 := (List.perm_ext_iff_of_nodup h1 (places_nodup hp)).2 fun y => by
    constructor
    · intro hy
      obtain ⟨x, hx, rfl⟩ := List.mem_map.1 hy
      have hx := (h.2 x).1 hx
      unfold tabW at hx
      cases hf : ws.find? (fun W => decide (W.f = x.f ∧ W.p = x.pc)) with
      | none => rw [hf] at hx; cases hx
      | some W =>
        have h5 := List.find?_some hf
        simp only [decide_eq_true_eq] at h5
        exact List.mem_map.2 ⟨W, List.mem_of_find?_eq_some hf, by rw [h5.1, h5.2]⟩
    · intro hy
      obtain ⟨W, hW, rfl⟩ := List.mem_map.1 hy
      obtain ⟨l1, V, l2, rfl, k1, k2, hno⟩ := split_place (f := W.f) (p := W.p) ⟨W, hW, rfl, rfl⟩
      refine List.mem_map.2 ⟨⟨W.f, W.p, (told V).1, (told V).2⟩, (h.2 _).2 ?_, rfl⟩
      exact tabW_split k1 k2 hno
  simpa using h2.length_eq
theorem tab_nil : tabW [] = fun _ _ => none := rfl

set_option maxRecDepth 100000 in
set_option maxHeartbeats 8000000 in
theorem iMerge_any (a1 a2 pa qa : Option Addr) (c1 c2 pc qc : Nat) (ts : List ByteArray) (fs : List Fn) (p q : List Si) (w : World) (hs : Small ts fs) (hm : StrsAt w 0 a1 ts) (hm2 : FnsAt w 0 a2 fs) (hp : SitesAt w 0 pa p) (hq : SitesAt w 0 qa q) :
    Calls Tryz.prog 21 #[.agg #[.slice a1 ts.length c1, .slice a2 fs.length c2], .slice pa p.length pc, .slice qa q.length qc] w (MergePost ts fs p q w) := by
  obtain ⟨w0, hw0⟩ : ∃ w0, w0 = w.alloc (.cells #[.slice a1 ts.length c1, .slice a2 fs.length c2] 40) := ⟨_, rfl⟩
  have hb0 : Below w.heap.size w w0 := by rw [hw0]; exact (Below.refl _ _).alloc (Nat.le_refl _) _
  have hM0 : w0.heap[w.heap.size]? = some (.cells #[.slice a1 ts.length c1, .slice a2 fs.length c2] 40 (0, 0)) := by rw [hw0]; exact block_new _ _ _
  have HPO : Hid (∀ w', Below w.heap.size w w' → Calls Tryz.prog 36 #[.agg #[.slice a1 ts.length c1, .slice a2 fs.length c2], .slice pa p.length pc] w' fun e w'' => e = .returned (.bool (pB (Good ts fs ∧ ProfP fs p))) ∧ Below w'.heap.size w' w'') := fun w' h => iProfileOk_any a1 a2 c1 c2 ts fs pa pc p w' hs (hm.mono h) (hm2.mono h) (hp.mono h)
  have HQO : Hid (∀ w', Below w.heap.size w w' → Calls Tryz.prog 36 #[.agg #[.slice a1 ts.length c1, .slice a2 fs.length c2], .slice qa q.length qc] w' fun e w'' => e = .returned (.bool (pB (Good ts fs ∧ ProfP fs q))) ∧ Below w'.heap.size w' w'') := fun w' h => iProfileOk_any a1 a2 c1 c2 ts fs qa qc q w' hs (hm.mono h) (hm2.mono h) (hq.mono h)
  have HFN := hidz hm2
  have HPS := hidz hp
  have HQS := hidz hq
  have m0 := block_cell hM0
  clear hm hm2 hp hq
  go_enter Tryz.func21, Tryz.ntmps21
  go_wp2_with fail
  rw [← hw0]
  clear hw0 m0
  refine (HPO.out _ hb0).mono ?_
  rintro e w1 ⟨rfl, hb1⟩
  have hB1 := hb0.trans (hb1.mono hb0.size)
  have hM1 := block_kept hM0 hb1
  have m1 := block_cell hM1
  clear hb1 hM0 hb0 HPO
  by_cases hP : Good ts fs ∧ ProfP fs p
  case neg =>
    rw [pB_no hP]
    have HN := hidz hP
    have HB := hidz hB1
    clear hP hB1
    go_wp2
    go_ret
    unfold MergePost
    exact ⟨_, [], rfl, .inr ⟨fun h => HN.out h.1, rfl⟩, ⟨rfl, .inl ⟨rfl, rfl⟩⟩, HB.out⟩
  rw [pB_yes hP]
  go_wp2_with fail
  clear m1
  refine (HQO.out _ hB1).mono ?_
  rintro e w2 ⟨rfl, hb2⟩
  have hB2 := hB1.trans (hb2.mono hB1.size)
  have hM2 := block_kept hM1 hb2
  clear hb2 hM1 hB1 HQO
  by_cases hQ : Good ts fs ∧ ProfP fs q
  case neg =>
    rw [pB_no hQ]
    have HN := hidz hQ
    have HG := hidz hP
    have HB := hidz hB2
    clear hQ hP hB2
    go_wp2
    go_ret
    unfold MergePost
    exact ⟨_, [], rfl, .inr ⟨fun h => HN.out ⟨HG.out.1, h.2.1⟩, rfl⟩, ⟨rfl, .inl ⟨rfl, rfl⟩⟩, HB.out⟩
  rw [pB_yes hQ]
  have HPP := hidz hP
  have HQQ := hidz hQ
  have hp150 := hP.2.1
  have hq150 := hQ.2.1
  clear hP hQ
  obtain ⟨w3, hw3⟩ : ∃ w3, w3 = w2.alloc (.map #[] 0) := ⟨_, rfl⟩
  have hb3 : Below w2.heap.size w2 w3 := by rw [hw3]; exact (Below.refl _ _).alloc (Nat.le_refl _) _
  have hmap3 : w3.heap[w2.heap.size]? = some (.map #[] 0) := by rw [hw3]; exact World.alloc_heap_new w2 _
  have HP3 : Hid (Prf w3 w2.heap.size w2.heap.size (opD fs) []) := ⟨⟨_, _, hmap3, rfl, fun e h => by simp at h, List.Pairwise.nil⟩, Nat.le_refl _, fun W h => (by cases h), List.Pairwise.nil, List.Pairwise.nil, fun W h => (by cases h)⟩
  have HM3 := hidz (block_kept hM2 hb3)
  have HB2 := hidz hB2
  have HB3 := hidz hb3
  have HFR : Hid (∀ w', Below w2.heap.size w3 w' → Below w.heap.size w w') := fun w' h => hB2.trans ((hb3.trans h).mono hB2.size)
  have HWL0 : Hid (w.heap.size < w2.heap.size) := lt_sizez hM2
  have hmk := block_cell hM2
  clear hM2 hB2 hmap3 hb3
  have hmm : (Instr.makeMap 75 none).run Tryz.prog w2 = .ok (.map (some w2.heap.size)) (w2.alloc (.map #[] 0)) := rfl
  go_upto_region 4 with fail
  rw [← hw3]
  clear hmm
  clear hmk
  have m3 := block_cell HM3.out
  obtain ⟨lo, hlo⟩ : ∃ lo, lo = w2.heap.size := ⟨_, rfl⟩
  have hsz3 : lo ≤ w3.heap.size := by rw [hlo, hw3]; simp
  rw [← hlo] at HP3 HFR ⊢
  have HLO := hidz hlo
  have HWL : Hid (w.heap.size < lo) := by rw [hlo]; exact HWL0.out
  clear hw3 hlo
  go_wp2_with fail
  refine (addAll_any a1 a2 pa ts.length c1 c2 pc fs lo lo 0 [] p w3 (fun x hx => prof_site HPP.out.2 hx) hp150 hsz3 (fun w' h => HFN.out.mono (HFR.out w' h)) (fun w' h => HPS.out.mono (HFR.out w' h)) HP3.out (fun W h => by cases h) (by omega)).mono ?_
  rintro e w4 ⟨⟨v, rfl⟩, ws1, h1, h2, h3, h4, h5⟩
  have HB4 := hidz (HFR.out w4 (h5))
  have HM4 : Hid (w4.heap[w.heap.size]? = some (.cells #[.slice a1 ts.length c1, .slice a2 fs.length c2] 40 (0, 0))) := (h5.block _ HWL.out).trans HM3.out
  have HP4 := hidz h1
  have HU4 : Hid (Used p.length ws1) := by rw [← Nat.zero_add p.length]; exact h2
  have HT4 : Hid (tabW ws1 = allC (opD fs) (fun _ _ => none) p) := by rw [← tab_nil]; exact h3
  have HL4 : Hid (ws1.length ≤ 150) := by show _ ≤ _; simp at h4; omega
  have HB34 := hidz h5
  have hsz4 : lo ≤ w4.heap.size := Nat.le_trans hsz3 h5.size
  have m4 := block_cell HM4.out
  clear h1 h2 h3 h4 h5 m3 HP3 HM3
  go_wp2_with fail
  refine (addAll_any a1 a2 qa ts.length c1 c2 qc fs lo lo p.length ws1 q w4 (fun x hx => prof_site HQQ.out.2 hx) hq150 hsz4 (fun w' h => HFN.out.mono (HFR.out w' (HB34.out.trans h))) (fun w' h => HQS.out.mono (HFR.out w' (HB34.out.trans h))) HP4.out HU4.out (by omega)).mono ?_
  rintro e w5 ⟨⟨v, rfl⟩, ws2, h1, h2, h3, h4, h5⟩
  have HB5 := hidz (HFR.out w5 (HB34.out.trans h5))
  have HP5 := hidz h1
  have HT5 : Hid (tabW ws2 = allC (opD fs) (allC (opD fs) (fun _ _ => none) p) q) := by show _ = _; rw [h3, HT4.out]
  have HL5 : Hid (ws2.length ≤ 300) := by have := HL4.out; show _ ≤ _; omega
  have HMG : Hid (Rep (mergeS (opD fs) p q) (tabW ws2)) := by rw [HT5.out]; exact merge_rep _ q p _ (none_rep _ (prof_asc HPP.out.2))
  have HML := hidz (rep_len HMG.out HP5.out.places)
  have HTO := hidz (told_any lo lo (opD fs) ws2 w5 HP5.out (by have := HL5.out; omega))
  obtain ⟨es, ck, hme, hen, -⟩ := h1.map
  have hsz : es.size = ws2.length := by simpa using (ents_at hen).1
  obtain ⟨N, hN⟩ : ∃ N, N = ws2.length := ⟨_, rfl⟩
  rw [← hN] at hsz HML
  have hlen : ∀ ty, (Builtin.len_ #[75] ty #[.map (some lo)]).run Tryz.prog w5 = .ok (.int .i64 (N : Int)) w5 := by
    intro ty
    rw [← hsz]
    simp [Builtin.len_, run_underlying Tryz.underlying75, MapKept.run_getObj_map hme, goInt, Result.andThen]
  clear h1 h2 h3 h4 h5 m4 HP4 HM4 hen hN
  by_cases h150 : N ≤ 150
  · have z3 : ¬ ((150 : Int) < (N : Int)) := by omega
    have H150 := hidz h150
    clear h150
    go_wp2_with fail
    clear hlen
    refine HTO.out.mono ?_
    clear HTO
    rintro e w6 ⟨v, R, rfl, k1, k2, k3, k4⟩
    have hR : R = mergeS (opD fs) p q := k1.one HMG.out
    have HFIN : Hid (MergePost ts fs p q w (.returned v) w6) :=
      ⟨v, R, rfl, .inl ⟨HPP.out, HQQ.out.2, by rw [HML.out]; exact H150.out, hR⟩, own_lowz k3 HB5.out.size, HB5.out.trans (k4.mono HB5.out.size)⟩
    clear k1 k2 k3 k4 hR
    go_wp2
    go_ret
    exact HFIN.out
  · have z3 : (150 : Int) < (N : Int) := by omega
    have H150 := hidz h150
    clear h150 HTO
    go_wp2
    go_ret
    unfold MergePost
    exact ⟨_, [], rfl, .inr ⟨fun h => by have := h.2.2; rw [HML.out] at this; exact H150.out this, rfl⟩, ⟨rfl, .inl ⟨rfl, rfl⟩⟩, HB5.out⟩
end Go.Proofs.YtlohoolimejihaaGreat

namespace Go.Proofs.YtlohoolimejihaaGreat
open Go.RowKit

/-- The marks of n bytes, from k on. -/
def marks (k : Int) (n : Nat) : List Int := (List.range n).map fun (i : Nat) => (k + (i : Int)) % 256
theorem marks_len (k : Int) (n : Nat) : (marks k n).length = n := by simp [marks]
theorem marks_at (k : Int) (n i : Nat) (h : i < (marks k n).length) : (marks k n)[i] = (k + i) % 256 := by simp [marks]

set_option maxHeartbeats 400000 in
theorem markText_any (k0 : Int) (w : World) (h0 : 0 ≤ k0) (h1 : k0 ≤ 1000000000000000) :
    Calls Tryz.prog 83 #[.int .i64 k0] w fun e w' => ∃ s : ByteArray, e = .returned (.string s) ∧ Below w.heap.size w w' := by
  by_cases hz : k0 ≤ 0
  · go_enter Tryz.func83, Tryz.ntmps83
    go_wp2
    go_ret
    exact ⟨_, rfl, Below.refl _ _⟩
  · go_enter Tryz.func83, Tryz.ntmps83
    go_wp2
    go_loopw [0, 3] (fun q o wr => ∃ (x : Nat) (s : ByteArray), q = .int .i64 x ∧ o = .string s ∧ s.size + x ≤ k0 ∧ Below w.heap.size w wr) (fun q _ _ => (intOf q).toNat)
    case atStart => exact ⟨k0.toNat, ByteArray.empty, by go_num, rfl, by simp; omega, Below.refl _ _⟩
    case round =>
      obtain ⟨x, s, rfl, rfl, hsz, hb⟩ := hrel
      by_cases hx : 0 < x
      · have hx' : (0 : Int) < (x : Int) := by omega
        have hcv := run_convert_bytes_arg (P := Tryz.prog) (wr.alloc (.cells #[.int .u8 (48 + (x : Int) % 10)] 5)) 177 5 Tryz.underlying177 Tryz.underlying5 wr.heap.size 0 1 1 [48 + (x : Int) % 10] rfl
          (fun i hi => by have : i = 0 := by omega
                          subst this
                          rw [cell_new]; rfl) 9 Tryz.underlying9
        have hsn : (strOfNums [48 + (x : Int) % 10]).size ≤ 1 := by simp [strOfNums, ByteArray.size]
        generalize strOfNums [48 + (x : Int) % 10] = t at *
        go_wp2
        go_roundw
        case rel => exact ⟨x / 10, t ++ s, by go_num, rfl, by rw [ByteArray.size_append]; omega, hb.alloc hb.size _⟩
        case measure => simp [intOf]; omega
      · have hx' : (x : Int) ≤ 0 := by omega
        go_wp2
        go_ret
        exact ⟨_, rfl, hb⟩

end Go.Proofs.YtlohoolimejihaaGreat


