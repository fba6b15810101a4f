/-
  What a profile tells: its sites in order: (profile).told.
-/
import Derived.Test.YtlohoolimejihaaGreatMV10
namespace Go.Proofs.YtlohoolimejihaaGreat
open Go.RowKit

/-- The site of a place. -/
def siteAt (ws : List Wt) (x : Int × Int) : Si := ⟨x.1, x.2, ((tabW ws x.1 x.2).getD (0, 0)).1, ((tabW ws x.1 x.2).getD (0, 0)).2⟩
theorem tabW_split {l1 l2 : List Wt} {W : Wt} {f p : Int} (h1 : W.f = f) (h2 : W.p = p) (hno : ∀ V ∈ l1, ¬ (V.f = f ∧ V.p = p)) : tabW (l1 ++ W :: l2) f p = some (told W) := by
  unfold tabW
  rw [List.find?_append, List.find?_eq_none.2 (fun V hV => by simpa using fun a b => hno V hV ⟨a, b⟩), Option.none_or, List.find?_cons_of_pos (by simp [h1, h2])]
  rfl
theorem told_rep {ws : List Wt} {S : List (Int × Int)} (ha : S.Pairwise PLt) (hp : S.Perm (ws.map fun W => (W.f, W.p))) : Rep (S.map (siteAt ws)) (tabW ws) := by
  refine ⟨?_, fun x => ?_⟩
  · rw [List.pairwise_map]
    exact ha.imp (fun {a b} h => h)
  · constructor
    · intro hx
      obtain ⟨y, hy, rfl⟩ := List.mem_map.1 hx
      obtain ⟨W, hW, e⟩ := List.mem_map.1 (hp.mem_iff.1 hy)
      have e1 : W.f = y.1 := congrArg Prod.fst e
      have e2 : W.p = y.2 := congrArg Prod.snd e
      obtain ⟨l1, V, l2, rfl, h1, h2, hno⟩ := split_place ⟨W, hW, e1, e2⟩
      show tabW _ y.1 y.2 = some (_, _)
      simp only [siteAt, tabW_split h1 h2 hno, Option.getD_some]
    · intro hx
      have : ∃ W ∈ ws, W.f = x.f ∧ W.p = x.pc := by
        unfold tabW at hx
        cases hf : ws.find? (fun W => decide (W.f = x.f ∧ W.p = x.pc)) with
        | none => rw [hf] at hx; cases hx
        | some W =>
          have h5 := List.find?_some hf
          simp only [decide_eq_true_eq] at h5
          exact ⟨W, List.mem_of_find?_eq_some hf, h5⟩
      obtain ⟨W, hW, e1, e2⟩ := this
      refine List.mem_map.2 ⟨(x.f, x.pc), hp.mem_iff.2 (List.mem_map.2 ⟨W, hW, by rw [e1, e2]⟩), ?_⟩
      unfold siteAt
      simp only [hx, Option.getD_some]
def ToldAll (ws : List Wt) (w : World) : Ending → World → Prop := fun e w' => ∃ v R, e = .returned v ∧ Rep R (tabW ws) ∧ R.length = ws.length ∧ w'.ownsRow w.heap.size 68 4 v R.length (flatS R) ∧ Below w.heap.size w w'

set_option maxRecDepth 100000 in
set_option maxHeartbeats 4000000 in
theorem told_any (lo b : Nat) (op : Int → Int → Int) (ws : List Wt) (w : World) (hP : Prf w lo b op ws) (hl : ws.length ≤ 1000) :
    Calls Tryz.prog 40 #[.map (some b)] w (ToldAll ws w) := by
  obtain ⟨i0, hi, hz0, hz1, hz2⟩ := info_parts infoSi
  obtain ⟨w1, hw1⟩ : ∃ w1, w1 = w.alloc (.cells #[.map (some b)] 75) := ⟨_, rfl⟩
  have hb1 : Below w.heap.size w w1 := by rw [hw1]; exact (Below.refl _ _).alloc (Nat.le_refl _) _
  have hk := keys_any b w
  rw [← hw1] at hk
  have hm1 : w1.cell? ⟨w.heap.size, 0, none⟩ = some (.map (some b)) := by rw [hw1, block_cell (block_new _ _ _)]; rfl
  have hs := sortedFunc_any w.heap.size b ws w1 hm1 (hP.map.mono hb1) hP.places hl
  have HP1 := hidz (hP.mono hb1)
  have HB1 := hidz hb1
  have HL := hidz hl
  clear hP hl hw1 hm1 hb1
  go_enter Tryz.func40, Tryz.ntmps40
  go_wp2_with fail
  refine hk.mono ?_
  clear hk
  rintro e w1' ⟨rfl, rfl⟩
  go_wp2_with fail
  refine hs.mono ?_
  clear hs
  rintro e w2 ⟨a, S, cap, rfl, hasc, hperm, hpl, hb2⟩
  obtain ⟨B, hB⟩ : ∃ B, B = w2.heap.size := ⟨_, rfl⟩
  have HBE := hidz hB
  have HP2 := hidz (HP1.out.mono hb2)
  have HB2 := hidz (HB1.out.trans (hb2.mono HB1.out.size))
  have HPL := hidz hpl
  have HREP := hidz (told_rep hasc hperm)
  have HSL : Hid (S.length = ws.length) := by simpa [Hid] using hperm.length_eq
  have HPE := hidz hperm
  have hSl : S.length ≤ 1000 := by rw [HSL.out]; exact HL.out
  have HO : Hid (w2.ownsRow B 68 4 (.slice none 0 0) ([] : List Si).length (flatS [])) := ⟨rfl, .inl ⟨rfl, rfl⟩⟩
  have HR0 : Hid (Below B w2 w2) := Below.refl _ _
  clear hB hb2 hpl hasc hperm HP1 HB1
  go_wp2
  go_loopw [3, 12] (fun v i wr => ∃ (k : Nat) (ra : Option Addr) (rc : Nat) (R : List Si), k ≤ S.length ∧ i = .int .i64 k ∧ v = .slice ra R.length rc ∧ Hid (R = (S.take k).map (siteAt ws)) ∧ Hid (wr.ownsRow B 68 4 (.slice ra R.length rc) R.length (flatS R)) ∧ Hid (Below B w2 wr)) (fun _ i _ => S.length - (intOf i).toNat)
  case atStart => exact ⟨0, none, 0, [], by omega, rfl, rfl, hidz rfl, HO, HR0⟩
  case round =>
    obtain ⟨k, ra, rc, R, hk, rfl, rfl, HR, HO, HB⟩ := hrel
    clear HR0
    by_cases hlt : k < S.length
    case neg =>
      obtain rfl : k = S.length := by omega
      have z2 : ¬ (S.length : Int) < (S.length : Int) := by omega
      have hE : R = S.map (siteAt ws) := by rw [HR.out, List.take_length]
      have HRL : Hid (R.length = ws.length) := by show _ = _; rw [hE, List.length_map]; exact HSL.out
      rw [← hE] at HREP
      clear hE HR
      have HFIN : Hid (ToldAll ws w (.returned (.slice ra R.length rc)) wr) :=
        ⟨_, R, rfl, HREP.out, HRL.out, own_lowz HO.out (by rw [HBE.out]; exact HB2.out.size), HB2.out.trans (HB.out.mono (by rw [HBE.out]; exact HB2.out.size))⟩
      go_wp2
      go_ret
      exact HFIN.out
    have zk : (k : Int) < (S.length : Int) := by omega
    have hbr : Below w2.heap.size w2 wr := by rw [← HBE.out]; exact HB.out
    obtain ⟨g, hga, c0, c1⟩ := HPL.out k hlt
    subst hga
    have c0' := cell_later hbr c0
    have c1' := cell_later hbr c1
    have hmem : S[k] ∈ ws.map fun W => (W.f, W.p) := HPE.out.mem_iff.1 (List.getElem_mem hlt)
    have HSU : Hid ((S.take (k + 1)).map (siteAt ws) = (S.take k).map (siteAt ws) ++ [siteAt ws S[k]]) := by
      show _ = _
      rw [List.take_succ_eq_append_getElem hlt, List.map_append]
      rfl
    have hPr := HP2.out.mono hbr
    generalize S[k] = x at c0' c1' hmem HSU
    clear c0 c1
    obtain ⟨W0, hW0, e0⟩ := List.mem_map.1 hmem
    have e1 : W0.f = x.1 := congrArg Prod.fst e0
    have e2 : W0.p = x.2 := congrArg Prod.snd e0
    obtain ⟨l1, W, l2, hws, h1, h2, hno⟩ := split_place ⟨W0, hW0, e1, e2⟩
    have HSI : Hid (siteAt ws x = ⟨x.1, x.2, (told W).1, (told W).2⟩) := by
      show _ = _
      unfold siteAt
      rw [hws, tabW_split h1 h2 hno]
      rfl
    have hWm : W ∈ ws := by rw [hws]; simp
    obtain ⟨wb, hwb⟩ : ∃ wb, wb = wr.alloc (.cells #[.int .i64 x.1, .int .i64 x.2] 134) := ⟨_, rfl⟩
    have hbb : Below wr.heap.size wr wb := by rw [hwb]; exact (Below.refl _ _).alloc (Nat.le_refl _) _
    have hlk := (look_yes x.1 x.2 b l1 l2 W wb (by rw [← hws]; exact (hPr.mono hbb).map) h1 h2 hno).2
    have HWA := hidz ((hPr.mono hbb).cells W hWm).1
    have hBr : B ≤ wr.heap.size := by rw [HBE.out]; exact hbr.size
    have hrowb := own_below HO.out hbb
    have hszb := hbb.size
    have HBb := hidz (HB.out.trans (hbb.mono hBr))
    have HXb : Hid (wb.heap[wr.heap.size]? = some (.cells #[.int .i64 x.1, .int .i64 x.2] 134 (0, 0))) := by rw [hwb]; exact block_new _ _ _
    clear hws h1 h2 hno hWm e1 e2 e0 hW0 hmem hPr hbb HO
    cases hc : W.c
    · have hv : valW W = .iface 202 (.pointer (some ⟨W.g, 0, none⟩)) := by unfold valW; rw [hc]; rfl
      rw [hv] at hlk
      have m1 : ∀ (v : Value) (W : World), (Go.method 367 202 v "loop.example/g00094/impl.told").run Tryz.prog W = .ok (186, v) W := fun _ _ => by kernel_rfl
      have HT := hidz (toldNum_any W wb hc HWA.out)
      rw [hwb] at hlk
      clear hv hc HWA
      go_upto_region 6 with (first | (go_at_call 186; rw [← hwb]; refine HT.out.mono ?_; rintro e w5 ⟨rfl, hb5⟩) | go_in)
      clear hlk m1 HT c0' c1'
      have hrow5 := own_below hrowb hb5
      have HB5 := hidz (HBb.out.trans (hb5.mono (Nat.le_trans hBr hszb)))
      have q0 : w5.cell? ⟨wr.heap.size, 0, none⟩ = some (.int .i64 x.1) := by rw [block_cell (block_kept HXb.out hb5)]; rfl
      have q1 : w5.cell? ⟨wr.heap.size, 1, none⟩ = some (.int .i64 x.2) := by rw [block_cell (block_kept HXb.out hb5)]; rfl
      have hsz5 : B ≤ w5.heap.size := by rw [HBE.out]; exact HB5.out.size
      clear hwb hrowb hb5 HXb HBb
      have hRl : R.length ≤ 1000 := by rw [HR.out]; simp; omega
      go_wp2_with (first | (at_builtin; refine wpList_append_lies _ rfl _ _ 36 rfl B 68 i0 (.agg #[.int .i64 0, .int .i64 0, .int .i64 0, .int .i64 0]) 4 32 Tryz.underlying36 hi hz0 hz1 hz2 rfl (by decide) _ _ _ rfl (World.ownsRow.alloc hrow5 _) ⟨w5.heap.size, 0, none⟩ 1 1 [.int .i64 x.1, .int .i64 x.2, .int .i64 (told W).1, .int .i64 (told W).2] rfl rfl (World.news_of_block (block_new w5 _ 68)) (by simp [Value.oneCell']) (by decide) (by unfold maxLen; omega) (by have := Nat.mul_le_mul_right 32 (show R.length + 1 ≤ 1001 by omega); exact Nat.le_trans this (by decide)) (by rw [World.size_alloc]; omega) _ rfl ?_; intro g1 cap1 w6 hown6 hgrow6 _ _))
      have hk6 := Keeps.grown (ts := [68]) (World.ownsRow.alloc hrow5 _) hgrow6 (by simp)
      have HB6 := hidz ((HB5.out.alloc hsz5 (.cells #[.int .i64 x.1, .int .i64 x.2, .int .i64 (told W).1, .int .i64 (told W).2] 68)).trans (hk6.toBelow (by rw [World.size_alloc]; omega)))
      go_roundw
      case rel =>
        refine ⟨k + 1, some ⟨g1, 0, none⟩, cap1, R ++ [⟨x.1, x.2, (told W).1, (told W).2⟩], by omega, by go_num, by simp, ?_, ?_, HB6⟩
        · show _ = _
          rw [HSU.out, HSI.out, ← HR.out]
        · show World.ownsRow _ _ _ _ _ _ _
          rw [flatS_app]
          simpa [flatS, Si.cells] using hown6
      case measure => simp [intOf]; omega
    · have hv : valW W = .iface 197 (.pointer (some ⟨W.g, 0, none⟩)) := by unfold valW; rw [hc]; rfl
      rw [hv] at hlk
      have m1 : ∀ (v : Value) (W : World), (Go.method 367 197 v "loop.example/g00094/impl.told").run Tryz.prog W = .ok (182, v) W := fun _ _ => by kernel_rfl
      have HT := hidz (toldCall_any W wb hc HWA.out)
      rw [hwb] at hlk
      clear hv hc HWA
      go_upto_region 6 with (first | (go_at_call 182; rw [← hwb]; refine HT.out.mono ?_; rintro e w5 ⟨rfl, hb5⟩) | go_in)
      clear hlk m1 HT c0' c1'
      have hrow5 := own_below hrowb hb5
      have HB5 := hidz (HBb.out.trans (hb5.mono (Nat.le_trans hBr hszb)))
      have q0 : w5.cell? ⟨wr.heap.size, 0, none⟩ = some (.int .i64 x.1) := by rw [block_cell (block_kept HXb.out hb5)]; rfl
      have q1 : w5.cell? ⟨wr.heap.size, 1, none⟩ = some (.int .i64 x.2) := by rw [block_cell (block_kept HXb.out hb5)]; rfl
      have hsz5 : B ≤ w5.heap.size := by rw [HBE.out]; exact HB5.out.size
      clear hwb hrowb hb5 HXb HBb
      have hRl : R.length ≤ 1000 := by rw [HR.out]; simp; omega
      go_wp2_with (first | (at_builtin; refine wpList_append_lies _ rfl _ _ 36 rfl B 68 i0 (.agg #[.int .i64 0, .int .i64 0, .int .i64 0, .int .i64 0]) 4 32 Tryz.underlying36 hi hz0 hz1 hz2 rfl (by decide) _ _ _ rfl (World.ownsRow.alloc hrow5 _) ⟨w5.heap.size, 0, none⟩ 1 1 [.int .i64 x.1, .int .i64 x.2, .int .i64 (told W).1, .int .i64 (told W).2] rfl rfl (World.news_of_block (block_new w5 _ 68)) (by simp [Value.oneCell']) (by decide) (by unfold maxLen; omega) (by have := Nat.mul_le_mul_right 32 (show R.length + 1 ≤ 1001 by omega); exact Nat.le_trans this (by decide)) (by rw [World.size_alloc]; omega) _ rfl ?_; intro g1 cap1 w6 hown6 hgrow6 _ _))
      have hk6 := Keeps.grown (ts := [68]) (World.ownsRow.alloc hrow5 _) hgrow6 (by simp)
      have HB6 := hidz ((HB5.out.alloc hsz5 (.cells #[.int .i64 x.1, .int .i64 x.2, .int .i64 (told W).1, .int .i64 (told W).2] 68)).trans (hk6.toBelow (by rw [World.size_alloc]; omega)))
      go_roundw
      case rel =>
        refine ⟨k + 1, some ⟨g1, 0, none⟩, cap1, R ++ [⟨x.1, x.2, (told W).1, (told W).2⟩], by omega, by go_num, by simp, ?_, ?_, HB6⟩
        · show _ = _
          rw [HSU.out, HSI.out, ← HR.out]
        · show World.ownsRow _ _ _ _ _ _ _
          rw [flatS_app]
          simpa [flatS, Si.cells] using hown6
      case measure => simp [intOf]; omega
end Go.Proofs.YtlohoolimejihaaGreat
