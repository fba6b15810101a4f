/-
  Marks in a copy of code: what they may write.
-/
import Derived.Test.YtopbdjplpnojmaaKB
import Derived.Test.YtopbdjplpnojmaaKS
import Derived.Test.YtopbdjplpnojmaaMK5
namespace Go.Proofs.Ytopbdjplpnojmaa
open Go.RowKit

theorem hidm {p : Prop} (h : p) : Hid p := h

set_option maxRecDepth 100000 in
set_option maxHeartbeats 4000000 in
theorem markSrcS_m (lo g : Nat) (xs : List Sr) (cap k0 : Nat) (w : World) (h1 : k0 + 10 * LM mSr xs ≤ 100000000000000) (hn : xs.length ≤ 1048576) (hB : SrB w lo g xs) :
    Calls Try.prog 81 #[.slice (some ⟨g, 0, none⟩) xs.length cap, .int .i64 (k0 : Int)] w fun e w' => ∃ k1 : Nat, e = .returned (.int .i64 (k1 : Int)) ∧ k0 ≤ k1 ∧ k1 ≤ k0 + 10 * LM mSr xs ∧ Mild w w' ∧ Keeps lo [174, 162, 140, 136] w w' := by
  have hlo : lo ≤ g := hB.1
  have H1 := hidm h1
  have hle : k0 ≤ 100000000000000 := by omega
  clear h1
  go_enter Try.func81, Try.ntmps81
  go_wp2
  go_loopw [1, 5] (fun q i wr => ∃ (k : Nat) (m : Nat), k ≤ xs.length ∧ i = .int .i64 k ∧ q = .int .i64 (m : Int) ∧ Hid (k0 ≤ m ∧ m ≤ k0 + 10 * (k + sumBy mSr (xs.take k))) ∧ Hid (Mild w wr) ∧ Hid (Keeps lo [174, 162, 140, 136] w wr)) (fun _ i _ => xs.length - (intOf i).toNat)
  case atStart => exact ⟨0, k0, by omega, rfl, rfl, ⟨by omega, by omega⟩, Mild.refl _, Keeps.refl _ _ _⟩
  case round =>
    obtain ⟨k, m, hk, rfl, rfl, HM, HD, HK⟩ := hrel
    by_cases hlt : k < xs.length
    · have HL : Hid (k + 1 + (sumBy mSr (xs.take k) + mSr xs[k]) ≤ LM mSr xs) := by
        show _ ≤ _
        rw [← sumBy_take _ _ _ hlt]
        have := sumBy_le mSr xs (k + 1)
        unfold LM
        omega
      have hmz : m ≤ 100000000000000 := by have a1 := HM.out; have a2 := HL.out; have a3 := H1.out; omega
      obtain ⟨-, cur, hC, hcs, hcd⟩ := hB.mild HD.out
      obtain ⟨n0, n1, n2, n3, n4⟩ := hcd k hlt
      have hfz := block_free hC
      obtain ⟨y0, hy0⟩ : ∃ v, wr.cell? ⟨g, k * 5, none⟩ = some v := ⟨cur[k * 5]'(by omega), by rw [block_cell hC]; exact Array.getElem?_eq_getElem _⟩
      obtain ⟨y1, hy1⟩ : ∃ v, wr.cell? ⟨g, k * 5 + 1, none⟩ = some v := ⟨cur[k * 5 + 1]'(by omega), by rw [block_cell hC]; exact Array.getElem?_eq_getElem _⟩
      obtain ⟨y2, hy2⟩ : ∃ v, wr.cell? ⟨g, k * 5 + 2, none⟩ = some v := ⟨cur[k * 5 + 2]'(by omega), by rw [block_cell hC]; exact Array.getElem?_eq_getElem _⟩
      obtain ⟨y3, hy3⟩ : ∃ v, wr.cell? ⟨g, k * 5 + 3, none⟩ = some v := ⟨cur[k * 5 + 3]'(by omega), by rw [block_cell hC]; exact Array.getElem?_eq_getElem _⟩
      obtain ⟨wx, hwx⟩ : ∃ wx, wx = ((((wr.setCell ⟨g, k * 5, none⟩ (.int .i64 ((m : Int)))).setCell ⟨g, k * 5 + 1, none⟩ (.int .i64 ((m : Int) + 1))).setCell ⟨g, k * 5 + 2, none⟩ (.int .i64 ((m : Int) + 1 + 1))).setCell ⟨g, k * 5 + 3, none⟩ (.int .i64 ((m : Int) + 1 + 1 + 1))) := ⟨_, rfl⟩
      have hmx : Mild wr wx := by rw [hwx]; exact (((((Mild.refl wr).set hC n0 (noSl_int _ _)).set (block_set hC _) (noSl_set n1 (noSl_int _ _)) (noSl_int _ _)).set (block_set (block_set hC _) _) (noSl_set (noSl_set n2 (noSl_int _ _)) (noSl_int _ _)) (noSl_int _ _)).set (block_set (block_set (block_set hC _) _) _) (noSl_set (noSl_set (noSl_set n3 (noSl_int _ _)) (noSl_int _ _)) (noSl_int _ _)) (noSl_int _ _))
      have HKX : Hid (Keeps lo [174, 162, 140, 136] w wx) := by show Keeps _ _ _ _; rw [hwx]; exact ((((HK.out.set hC (by simp) hlo _ _).set (block_set hC _) (by simp) hlo _ _).set (block_set (block_set hC _) _) (by simp) hlo _ _).set (block_set (block_set (block_set hC _) _) _) (by simp) hlo _ _)
      have HDX := hidm (HD.out.trans hmx)
      obtain ⟨cx, hCx, hszx, -⟩ := hmx.blk _ _ _ hC
      have HNX : Hid (noSl cx[k * 5 + 4]?) := by
        obtain ⟨-, c2, q1, q2, q3⟩ := hB.mild HDX.out
        rw [hCx] at q1
        cases q1
        exact (q3 k hlt).2.2.2.2
      have HMT := hidm fun w' => markText_any ((m : Int) + 1 + 1 + 1 + 1) w' (by omega) (by omega)
      have hszx2 : cx.size = xs.length * 5 := by omega
      clear hC hcs hcd n0 n1 n2 n3 n4 hmx
      go_wp2_with fail
      rw [← hwx]
      clear hwx hfz hy0 hy1 hy2 hy3
      refine (HMT.out _).mono ?_
      rintro e w2 ⟨sx, rfl, hb2⟩
      have hC2 := block_kept hCx hb2
      have hfz := block_free hC2
      obtain ⟨yl, hcl⟩ : ∃ v, w2.cell? ⟨g, k * 5 + 4, none⟩ = some v := ⟨cx[k * 5 + 4]'(by omega), by rw [block_cell hC2]; exact Array.getElem?_eq_getElem _⟩
      have HR : Hid (Mild w (w2.setCell ⟨g, k * 5 + 4, none⟩ (.string sx)) ∧ Keeps lo [174, 162, 140, 136] w (w2.setCell ⟨g, k * 5 + 4, none⟩ (.string sx))) := ⟨(HDX.out.trans (Mild.below hb2)).set hC2 HNX.out (noSl_str _), (HKX.out.trans (Keeps.below hb2)).set hC2 (by simp) hlo _ _⟩
      clear hC2 hb2 hCx hszx hszx2 HMT
      go_wp2
      go_roundw
      case rel => exact ⟨k + 1, m + 5, by omega, by go_num, by go_num, by have a1 := HM.out; have a2 := sumBy_take mSr xs k hlt; show _ ∧ _; rw [a2]; omega, HR.out.1, HR.out.2⟩
      case measure => simp [intOf]; omega
    · have hkn : k = xs.length := by omega
      subst hkn
      go_wp2
      go_ret
      refine ⟨m, rfl, HM.out.1, ?_, HD.out, HK.out⟩
      have := HM.out.2
      rw [sumBy_all] at this
      exact this

set_option maxRecDepth 100000 in
set_option maxHeartbeats 4000000 in
theorem markExFrameS_m (lo g : Nat) (xs : List EF) (cap k0 : Nat) (w : World) (h1 : k0 + 10 * LM mEF xs ≤ 100000000000000) (hn : xs.length ≤ 1048576) (hc : ∀ x ∈ xs, EFSmall x) (hB : EFB w lo g xs) :
    Calls Try.prog 70 #[.slice (some ⟨g, 0, none⟩) xs.length cap, .int .i64 (k0 : Int)] w fun e w' => ∃ k1 : Nat, e = .returned (.int .i64 (k1 : Int)) ∧ k0 ≤ k1 ∧ k1 ≤ k0 + 10 * LM mEF xs ∧ Mild w w' ∧ Keeps lo [174, 162, 140, 136] w w' := by
  have hlo : lo ≤ g := hB.1
  have H1 := hidm h1
  have hle : k0 ≤ 100000000000000 := by omega
  clear h1
  go_enter Try.func70, Try.ntmps70
  go_wp2
  go_loopw [1, 5] (fun q i wr => ∃ (k : Nat) (m : Nat), k ≤ xs.length ∧ i = .int .i64 k ∧ q = .int .i64 (m : Int) ∧ Hid (k0 ≤ m ∧ m ≤ k0 + 10 * (k + sumBy mEF (xs.take k))) ∧ Hid (Mild w wr) ∧ Hid (Keeps lo [174, 162, 140, 136] w wr)) (fun _ i _ => xs.length - (intOf i).toNat)
  case atStart => exact ⟨0, k0, by omega, rfl, rfl, ⟨by omega, by omega⟩, Mild.refl _, Keeps.refl _ _ _⟩
  case round =>
    obtain ⟨k, m, hk, rfl, rfl, HM, HD, HK⟩ := hrel
    by_cases hlt : k < xs.length
    · have HL : Hid (k + 1 + (sumBy mEF (xs.take k) + mEF xs[k]) ≤ LM mEF xs) := by
        show _ ≤ _
        rw [← sumBy_take _ _ _ hlt]
        have := sumBy_le mEF xs (k + 1)
        unfold LM
        omega
      have hmz : m ≤ 100000000000000 := by have a1 := HM.out; have a2 := HL.out; have a3 := H1.out; omega
      obtain ⟨-, cur, hC, hcs, hcd⟩ := hB.mild HD.out
      obtain ⟨n0, n1, g0, g1, d0, d1, s0, s1⟩ := hcd k hlt
      have hfz := block_free hC
      obtain ⟨y0, hy0⟩ : ∃ v, wr.cell? ⟨g, k * 4, none⟩ = some v := ⟨cur[k * 4]'(by omega), by rw [block_cell hC]; exact Array.getElem?_eq_getElem _⟩
      obtain ⟨y1, hy1⟩ : ∃ v, wr.cell? ⟨g, k * 4 + 1, none⟩ = some v := ⟨cur[k * 4 + 1]'(by omega), by rw [block_cell hC]; exact Array.getElem?_eq_getElem _⟩
      obtain ⟨wx, hwx⟩ : ∃ wx, wx = ((wr.setCell ⟨g, k * 4, none⟩ (.int .i64 ((m : Int)))).setCell ⟨g, k * 4 + 1, none⟩ (.int .i64 ((m : Int) + 1))) := ⟨_, rfl⟩
      have hmx : Mild wr wx := by rw [hwx]; exact (((Mild.refl wr).set hC n0 (noSl_int _ _)).set (block_set hC _) (noSl_set n1 (noSl_int _ _)) (noSl_int _ _))
      have HKX : Hid (Keeps lo [174, 162, 140, 136] w wx) := by show Keeps _ _ _ _; rw [hwx]; exact ((HK.out.set hC (by simp) hlo _ _).set (block_set hC _) (by simp) hlo _ _)
      have HDX := hidm (HD.out.trans hmx)
      have hsm := hc xs[k] (List.getElem_mem hlt)
      have HCK := hidm (⟨hC, d0, d1, trivial⟩ : _ ∧ _ ∧ _ ∧ True)
      have HX : Hid (mEF xs[k] = LM mSr xs[k].locals + LM mSr xs[k].stack) := rfl
      have z0 : wr.cell? ⟨g, k * 4 + 2, none⟩ = some (.slice (some ⟨g0, 0, none⟩) xs[k].locals.length xs[k].locals.length) := by rw [block_cell hC]; exact d0
      have hmk := markSrcS_m lo g0 xs[k].locals xs[k].locals.length (m + 2) wx (by have a1 := HM.out; have a2 := HL.out; have a3 := H1.out; have a4 := HX.out; omega) hsm.1.1 (s0.mild hmx)
      have e1 : ((m + 2 : Nat) : Int) = (m : Int) + 1 + 1 := by omega
      rw [e1] at hmk
      clear e1
      have HS1 := hidm (s1.mild hmx)
      have HMX := hidm hmx
      clear hC hcs hcd n0 n1 d0 d1 s0 s1 hmx
      go_wp2_with fail
      rw [← hwx]
      clear hwx hfz z0 hy0 hy1
      refine hmk.mono ?_
      rintro e w2 ⟨k1, rfl, ha, hb, hmi, hke⟩
      have HE1 : Hid (m + 2 ≤ k1 ∧ k1 ≤ m + 2 + 10 * (LM mSr xs[k].locals)) := by show _ ∧ _; omega
      have hkz1 : k1 ≤ 100000000000000 := by have a1 := HM.out; have a2 := HL.out; have a3 := H1.out; have a4 := HX.out; have a5 := HE1.out; omega
      have HK1 := hidm (HKX.out.trans hke)
      have HD1 := hidm (HDX.out.trans hmi)
      replace HMX := hidm (HMX.out.trans hmi)
      replace HS1 := hidm (HS1.out.mild hmi)
      clear hmk ha hb hmi hke
      have z1 : w2.cell? ⟨g, k * 4 + 3, none⟩ = some (.slice (some ⟨g1, 0, none⟩) xs[k].stack.length xs[k].stack.length) := HMX.out.slice HCK.out.1 HCK.out.2.2.1
      have hmk := markSrcS_m lo g1 xs[k].stack xs[k].stack.length k1 w2 (by have a1 := HM.out; have a2 := HL.out; have a3 := H1.out; have a4 := HX.out; have a5 := HE1.out; omega) hsm.2.1 HS1.out
      go_wp2_with fail
      clear z1
      refine hmk.mono ?_
      rintro e w3 ⟨k2, rfl, ha, hb, hmi, hke⟩
      have HE2 : Hid (m + 2 ≤ k2 ∧ k2 ≤ m + 2 + 10 * (LM mSr xs[k].locals + LM mSr xs[k].stack)) := by have a5 := HE1.out; show _ ∧ _; omega
      have hkz2 : k2 ≤ 100000000000000 := by have a1 := HM.out; have a2 := HL.out; have a3 := H1.out; have a4 := HX.out; have a5 := HE2.out; omega
      have HK2 := hidm (HK1.out.trans hke)
      have HD2 := hidm (HD1.out.trans hmi)
      clear hmk ha hb hmi hke
      go_wp2
      go_roundw
      case rel => exact ⟨k + 1, k2, by omega, by go_num, rfl, by have a1 := HM.out; have a2 := sumBy_take mEF xs k hlt; have a4 := HX.out; have a5 := HE2.out; show _ ∧ _; rw [a2]; omega, HD2, HK2⟩
      case measure => simp [intOf]; omega
    · have hkn : k = xs.length := by omega
      subst hkn
      go_wp2
      go_ret
      refine ⟨m, rfl, HM.out.1, ?_, HD.out, HK.out⟩
      have := HM.out.2
      rw [sumBy_all] at this
      exact this

set_option maxRecDepth 100000 in
set_option maxHeartbeats 4000000 in
theorem markExRecS_m (lo g : Nat) (xs : List ER) (cap k0 : Nat) (w : World) (h1 : k0 + 10 * LM mER xs ≤ 100000000000000) (hn : xs.length ≤ 1048576) (hc : ∀ x ∈ xs, ERSmall x) (hB : ERB w lo g xs) :
    Calls Try.prog 71 #[.slice (some ⟨g, 0, none⟩) xs.length cap, .int .i64 (k0 : Int)] w fun e w' => ∃ k1 : Nat, e = .returned (.int .i64 (k1 : Int)) ∧ k0 ≤ k1 ∧ k1 ≤ k0 + 10 * LM mER xs ∧ Mild w w' ∧ Keeps lo [174, 162, 140, 136] w w' := by
  have hlo : lo ≤ g := hB.1
  have H1 := hidm h1
  have hle : k0 ≤ 100000000000000 := by omega
  clear h1
  go_enter Try.func71, Try.ntmps71
  go_wp2
  go_loopw [1, 5] (fun q i wr => ∃ (k : Nat) (m : Nat), k ≤ xs.length ∧ i = .int .i64 k ∧ q = .int .i64 (m : Int) ∧ Hid (k0 ≤ m ∧ m ≤ k0 + 10 * (k + sumBy mER (xs.take k))) ∧ Hid (Mild w wr) ∧ Hid (Keeps lo [174, 162, 140, 136] w wr)) (fun _ i _ => xs.length - (intOf i).toNat)
  case atStart => exact ⟨0, k0, by omega, rfl, rfl, ⟨by omega, by omega⟩, Mild.refl _, Keeps.refl _ _ _⟩
  case round =>
    obtain ⟨k, m, hk, rfl, rfl, HM, HD, HK⟩ := hrel
    by_cases hlt : k < xs.length
    · have HL : Hid (k + 1 + (sumBy mER (xs.take k) + mER xs[k]) ≤ LM mER xs) := by
        show _ ≤ _
        rw [← sumBy_take _ _ _ hlt]
        have := sumBy_le mER xs (k + 1)
        unfold LM
        omega
      have hmz : m ≤ 100000000000000 := by have a1 := HM.out; have a2 := HL.out; have a3 := H1.out; omega
      obtain ⟨-, cur, hC, hcs, hcd⟩ := hB.mild HD.out
      obtain ⟨g0, d0, s0⟩ := hcd k hlt
      have hfz := block_free hC
      obtain ⟨wx, hwx⟩ : ∃ wx, wx = wr := ⟨_, rfl⟩
      have hmx : Mild wr wx := by rw [hwx]; exact Mild.refl _
      have HKX : Hid (Keeps lo [174, 162, 140, 136] w wx) := by show Keeps _ _ _ _; rw [hwx]; exact HK.out
      have HDX := hidm (HD.out.trans hmx)
      have hsm := hc xs[k] (List.getElem_mem hlt)
      have HCK := hidm (⟨hC, d0, trivial⟩ : _ ∧ _ ∧ True)
      have HX : Hid (mER xs[k] = LM mSr xs[k].fields) := rfl
      have z0 : wr.cell? ⟨g, k, none⟩ = some (.slice (some ⟨g0, 0, none⟩) xs[k].fields.length xs[k].fields.length) := by rw [block_cell hC]; exact d0
      have hmk := markSrcS_m lo g0 xs[k].fields xs[k].fields.length (m) wx (by have a1 := HM.out; have a2 := HL.out; have a3 := H1.out; have a4 := HX.out; omega) hsm.1 (s0.mild hmx)
      have HMX := hidm hmx
      clear hC hcs hcd  d0 s0 hmx
      go_wp2_with fail
      rw [← hwx]
      clear hwx hfz z0 
      refine hmk.mono ?_
      rintro e w2 ⟨k1, rfl, ha, hb, hmi, hke⟩
      have HE1 : Hid (m + 0 ≤ k1 ∧ k1 ≤ m + 0 + 10 * (LM mSr xs[k].fields)) := by show _ ∧ _; omega
      have hkz1 : k1 ≤ 100000000000000 := by have a1 := HM.out; have a2 := HL.out; have a3 := H1.out; have a4 := HX.out; have a5 := HE1.out; omega
      have HK1 := hidm (HKX.out.trans hke)
      have HD1 := hidm (HDX.out.trans hmi)
      clear hmk ha hb hmi hke
      go_wp2
      go_roundw
      case rel => exact ⟨k + 1, k1, by omega, by go_num, rfl, by have a1 := HM.out; have a2 := sumBy_take mER xs k hlt; have a4 := HX.out; have a5 := HE1.out; show _ ∧ _; rw [a2]; omega, HD1, HK1⟩
      case measure => simp [intOf]; omega
    · have hkn : k = xs.length := by omega
      subst hkn
      go_wp2
      go_ret
      refine ⟨m, rfl, HM.out.1, ?_, HD.out, HK.out⟩
      have := HM.out.2
      rw [sumBy_all] at this
      exact this

set_option maxRecDepth 100000 in
set_option maxHeartbeats 4000000 in
theorem markExitS_m (lo g : Nat) (xs : List Ex) (cap k0 : Nat) (w : World) (h1 : k0 + 10 * LM mEx xs ≤ 100000000000000) (hn : xs.length ≤ 1048576) (hc : ∀ x ∈ xs, ExSmall x) (hB : ExB w lo g xs) :
    Calls Try.prog 55 #[.slice (some ⟨g, 0, none⟩) xs.length cap, .int .i64 (k0 : Int)] w fun e w' => ∃ k1 : Nat, e = .returned (.int .i64 (k1 : Int)) ∧ k0 ≤ k1 ∧ k1 ≤ k0 + 10 * LM mEx xs ∧ Mild w w' ∧ Keeps lo [174, 162, 140, 136] w w' := by
  have hlo : lo ≤ g := hB.1
  have H1 := hidm h1
  have hle : k0 ≤ 100000000000000 := by omega
  clear h1
  go_enter Try.func55, Try.ntmps55
  go_wp2
  go_loopw [1, 5] (fun q i wr => ∃ (k : Nat) (m : Nat), k ≤ xs.length ∧ i = .int .i64 k ∧ q = .int .i64 (m : Int) ∧ Hid (k0 ≤ m ∧ m ≤ k0 + 10 * (k + sumBy mEx (xs.take k))) ∧ Hid (Mild w wr) ∧ Hid (Keeps lo [174, 162, 140, 136] w wr)) (fun _ i _ => xs.length - (intOf i).toNat)
  case atStart => exact ⟨0, k0, by omega, rfl, rfl, ⟨by omega, by omega⟩, Mild.refl _, Keeps.refl _ _ _⟩
  case round =>
    obtain ⟨k, m, hk, rfl, rfl, HM, HD, HK⟩ := hrel
    by_cases hlt : k < xs.length
    · have HL : Hid (k + 1 + (sumBy mEx (xs.take k) + mEx xs[k]) ≤ LM mEx xs) := by
        show _ ≤ _
        rw [← sumBy_take _ _ _ hlt]
        have := sumBy_le mEx xs (k + 1)
        unfold LM
        omega
      have hmz : m ≤ 100000000000000 := by have a1 := HM.out; have a2 := HL.out; have a3 := H1.out; omega
      obtain ⟨-, cur, hC, hcs, hcd⟩ := hB.mild HD.out
      obtain ⟨n0, n1, n2, n3, n4, g0, g1, d0, d1, s0, s1⟩ := hcd k hlt
      have hfz := block_free hC
      obtain ⟨y0, hy0⟩ : ∃ v, wr.cell? ⟨g, k * 7, none⟩ = some v := ⟨cur[k * 7]'(by omega), by rw [block_cell hC]; exact Array.getElem?_eq_getElem _⟩
      obtain ⟨y1, hy1⟩ : ∃ v, wr.cell? ⟨g, k * 7 + 1, none⟩ = some v := ⟨cur[k * 7 + 1]'(by omega), by rw [block_cell hC]; exact Array.getElem?_eq_getElem _⟩
      obtain ⟨y2, hy2⟩ : ∃ v, wr.cell? ⟨g, k * 7 + 2, none⟩ = some v := ⟨cur[k * 7 + 2]'(by omega), by rw [block_cell hC]; exact Array.getElem?_eq_getElem _⟩
      obtain ⟨y3, hy3⟩ : ∃ v, wr.cell? ⟨g, k * 7 + 3, none⟩ = some v := ⟨cur[k * 7 + 3]'(by omega), by rw [block_cell hC]; exact Array.getElem?_eq_getElem _⟩
      obtain ⟨y4, hy4⟩ : ∃ v, wr.cell? ⟨g, k * 7 + 4, none⟩ = some v := ⟨cur[k * 7 + 4]'(by omega), by rw [block_cell hC]; exact Array.getElem?_eq_getElem _⟩
      obtain ⟨wx, hwx⟩ : ∃ wx, wx = (((((wr.setCell ⟨g, k * 7, none⟩ (.int .i64 ((m : Int)))).setCell ⟨g, k * 7 + 1, none⟩ (.int .i64 ((m : Int) + 1))).setCell ⟨g, k * 7 + 2, none⟩ (.int .i64 ((m : Int) + 1 + 1))).setCell ⟨g, k * 7 + 3, none⟩ (.int .i64 ((m : Int) + 1 + 1 + 1))).setCell ⟨g, k * 7 + 4, none⟩ (.int .i64 ((m : Int) + 1 + 1 + 1 + 1))) := ⟨_, rfl⟩
      have hmx : Mild wr wx := by rw [hwx]; exact ((((((Mild.refl wr).set hC n0 (noSl_int _ _)).set (block_set hC _) (noSl_set n1 (noSl_int _ _)) (noSl_int _ _)).set (block_set (block_set hC _) _) (noSl_set (noSl_set n2 (noSl_int _ _)) (noSl_int _ _)) (noSl_int _ _)).set (block_set (block_set (block_set hC _) _) _) (noSl_set (noSl_set (noSl_set n3 (noSl_int _ _)) (noSl_int _ _)) (noSl_int _ _)) (noSl_int _ _)).set (block_set (block_set (block_set (block_set hC _) _) _) _) (noSl_set (noSl_set (noSl_set (noSl_set n4 (noSl_int _ _)) (noSl_int _ _)) (noSl_int _ _)) (noSl_int _ _)) (noSl_int _ _))
      have HKX : Hid (Keeps lo [174, 162, 140, 136] w wx) := by show Keeps _ _ _ _; rw [hwx]; exact (((((HK.out.set hC (by simp) hlo _ _).set (block_set hC _) (by simp) hlo _ _).set (block_set (block_set hC _) _) (by simp) hlo _ _).set (block_set (block_set (block_set hC _) _) _) (by simp) hlo _ _).set (block_set (block_set (block_set (block_set hC _) _) _) _) (by simp) hlo _ _)
      have HDX := hidm (HD.out.trans hmx)
      have hsm := hc xs[k] (List.getElem_mem hlt)
      have HCK := hidm (⟨hC, d0, d1, trivial⟩ : _ ∧ _ ∧ _ ∧ True)
      have HX : Hid (mEx xs[k] = LM mEF xs[k].frames + LM mER xs[k].recs) := rfl
      have z0 : wr.cell? ⟨g, k * 7 + 5, none⟩ = some (.slice (some ⟨g0, 0, none⟩) xs[k].frames.length xs[k].frames.length) := by rw [block_cell hC]; exact d0
      have hmk := markExFrameS_m lo g0 xs[k].frames xs[k].frames.length (m + 5) wx (by have a1 := HM.out; have a2 := HL.out; have a3 := H1.out; have a4 := HX.out; omega) hsm.1.1 hsm.1.2 (s0.mild hmx)
      have e1 : ((m + 5 : Nat) : Int) = (m : Int) + 1 + 1 + 1 + 1 + 1 := by omega
      rw [e1] at hmk
      clear e1
      have HS1 := hidm (s1.mild hmx)
      have HMX := hidm hmx
      clear hC hcs hcd n0 n1 n2 n3 n4 d0 d1 s0 s1 hmx
      go_wp2_with fail
      rw [← hwx]
      clear hwx hfz z0 hy0 hy1 hy2 hy3 hy4
      refine hmk.mono ?_
      rintro e w2 ⟨k1, rfl, ha, hb, hmi, hke⟩
      have HE1 : Hid (m + 5 ≤ k1 ∧ k1 ≤ m + 5 + 10 * (LM mEF xs[k].frames)) := by show _ ∧ _; omega
      have hkz1 : k1 ≤ 100000000000000 := by have a1 := HM.out; have a2 := HL.out; have a3 := H1.out; have a4 := HX.out; have a5 := HE1.out; omega
      have HK1 := hidm (HKX.out.trans hke)
      have HD1 := hidm (HDX.out.trans hmi)
      replace HMX := hidm (HMX.out.trans hmi)
      replace HS1 := hidm (HS1.out.mild hmi)
      clear hmk ha hb hmi hke
      have z1 : w2.cell? ⟨g, k * 7 + 6, none⟩ = some (.slice (some ⟨g1, 0, none⟩) xs[k].recs.length xs[k].recs.length) := HMX.out.slice HCK.out.1 HCK.out.2.2.1
      have hmk := markExRecS_m lo g1 xs[k].recs xs[k].recs.length k1 w2 (by have a1 := HM.out; have a2 := HL.out; have a3 := H1.out; have a4 := HX.out; have a5 := HE1.out; omega) hsm.2.1 hsm.2.2 HS1.out
      go_wp2_with fail
      clear z1
      refine hmk.mono ?_
      rintro e w3 ⟨k2, rfl, ha, hb, hmi, hke⟩
      have HE2 : Hid (m + 5 ≤ k2 ∧ k2 ≤ m + 5 + 10 * (LM mEF xs[k].frames + LM mER xs[k].recs)) := by have a5 := HE1.out; show _ ∧ _; omega
      have hkz2 : k2 ≤ 100000000000000 := by have a1 := HM.out; have a2 := HL.out; have a3 := H1.out; have a4 := HX.out; have a5 := HE2.out; omega
      have HK2 := hidm (HK1.out.trans hke)
      have HD2 := hidm (HD1.out.trans hmi)
      clear hmk ha hb hmi hke
      go_wp2
      go_roundw
      case rel => exact ⟨k + 1, k2, by omega, by go_num, rfl, by have a1 := HM.out; have a2 := sumBy_take mEx xs k hlt; have a4 := HX.out; have a5 := HE2.out; show _ ∧ _; rw [a2]; omega, HD2, HK2⟩
      case measure => simp [intOf]; omega
    · have hkn : k = xs.length := by omega
      subst hkn
      go_wp2
      go_ret
      refine ⟨m, rfl, HM.out.1, ?_, HD.out, HK.out⟩
      have := HM.out.2
      rw [sumBy_all] at this
      exact this

set_option maxRecDepth 100000 in
set_option maxHeartbeats 4000000 in
theorem markFOpS_m (lo g : Nat) (xs : List Fo) (cap k0 : Nat) (w : World) (h1 : k0 + 10 * LM mFo xs ≤ 100000000000000) (hn : xs.length ≤ 1048576) (hB : FoB w lo g xs) :
    Calls Try.prog 54 #[.slice (some ⟨g, 0, none⟩) xs.length cap, .int .i64 (k0 : Int)] w fun e w' => ∃ k1 : Nat, e = .returned (.int .i64 (k1 : Int)) ∧ k0 ≤ k1 ∧ k1 ≤ k0 + 10 * LM mFo xs ∧ Mild w w' ∧ Keeps lo [174, 162, 140, 136] w w' := by
  have hlo : lo ≤ g := hB.1
  have H1 := hidm h1
  have hle : k0 ≤ 100000000000000 := by omega
  clear h1
  go_enter Try.func54, Try.ntmps54
  go_wp2
  go_loopw [1, 5] (fun q i wr => ∃ (k : Nat) (m : Nat), k ≤ xs.length ∧ i = .int .i64 k ∧ q = .int .i64 (m : Int) ∧ Hid (k0 ≤ m ∧ m ≤ k0 + 10 * (k + sumBy mFo (xs.take k))) ∧ Hid (Mild w wr) ∧ Hid (Keeps lo [174, 162, 140, 136] w wr)) (fun _ i _ => xs.length - (intOf i).toNat)
  case atStart => exact ⟨0, k0, by omega, rfl, rfl, ⟨by omega, by omega⟩, Mild.refl _, Keeps.refl _ _ _⟩
  case round =>
    obtain ⟨k, m, hk, rfl, rfl, HM, HD, HK⟩ := hrel
    by_cases hlt : k < xs.length
    · have HL : Hid (k + 1 + (sumBy mFo (xs.take k) + mFo xs[k]) ≤ LM mFo xs) := by
        show _ ≤ _
        rw [← sumBy_take _ _ _ hlt]
        have := sumBy_le mFo xs (k + 1)
        unfold LM
        omega
      have hmz : m ≤ 100000000000000 := by have a1 := HM.out; have a2 := HL.out; have a3 := H1.out; omega
      obtain ⟨-, cur, hC, hcs, hcd⟩ := hB.mild HD.out
      obtain ⟨n0, n1, n2, n3, n4, n5, n6, n7, n8, n9⟩ := hcd k hlt
      have hfz := block_free hC
      obtain ⟨y0, hy0⟩ : ∃ v, wr.cell? ⟨g, k * 10, none⟩ = some v := ⟨cur[k * 10]'(by omega), by rw [block_cell hC]; exact Array.getElem?_eq_getElem _⟩
      obtain ⟨y1, hy1⟩ : ∃ v, wr.cell? ⟨g, k * 10 + 1, none⟩ = some v := ⟨cur[k * 10 + 1]'(by omega), by rw [block_cell hC]; exact Array.getElem?_eq_getElem _⟩
      obtain ⟨y2, hy2⟩ : ∃ v, wr.cell? ⟨g, k * 10 + 2, none⟩ = some v := ⟨cur[k * 10 + 2]'(by omega), by rw [block_cell hC]; exact Array.getElem?_eq_getElem _⟩
      obtain ⟨y3, hy3⟩ : ∃ v, wr.cell? ⟨g, k * 10 + 3, none⟩ = some v := ⟨cur[k * 10 + 3]'(by omega), by rw [block_cell hC]; exact Array.getElem?_eq_getElem _⟩
      obtain ⟨y4, hy4⟩ : ∃ v, wr.cell? ⟨g, k * 10 + 4, none⟩ = some v := ⟨cur[k * 10 + 4]'(by omega), by rw [block_cell hC]; exact Array.getElem?_eq_getElem _⟩
      obtain ⟨y5, hy5⟩ : ∃ v, wr.cell? ⟨g, k * 10 + 5, none⟩ = some v := ⟨cur[k * 10 + 5]'(by omega), by rw [block_cell hC]; exact Array.getElem?_eq_getElem _⟩
      obtain ⟨y6, hy6⟩ : ∃ v, wr.cell? ⟨g, k * 10 + 6, none⟩ = some v := ⟨cur[k * 10 + 6]'(by omega), by rw [block_cell hC]; exact Array.getElem?_eq_getElem _⟩
      obtain ⟨y7, hy7⟩ : ∃ v, wr.cell? ⟨g, k * 10 + 7, none⟩ = some v := ⟨cur[k * 10 + 7]'(by omega), by rw [block_cell hC]; exact Array.getElem?_eq_getElem _⟩
      obtain ⟨y8, hy8⟩ : ∃ v, wr.cell? ⟨g, k * 10 + 8, none⟩ = some v := ⟨cur[k * 10 + 8]'(by omega), by rw [block_cell hC]; exact Array.getElem?_eq_getElem _⟩
      obtain ⟨wx, hwx⟩ : ∃ wx, wx = (((((((((wr.setCell ⟨g, k * 10, none⟩ (.int .i64 ((m : Int)))).setCell ⟨g, k * 10 + 1, none⟩ (.int .i64 ((m : Int) + 1))).setCell ⟨g, k * 10 + 2, none⟩ (.int .i64 ((m : Int) + 1 + 1))).setCell ⟨g, k * 10 + 3, none⟩ (.int .i64 ((m : Int) + 1 + 1 + 1))).setCell ⟨g, k * 10 + 4, none⟩ (.int .i64 ((m : Int) + 1 + 1 + 1 + 1))).setCell ⟨g, k * 10 + 5, none⟩ (.int .i64 ((m : Int) + 1 + 1 + 1 + 1 + 1))).setCell ⟨g, k * 10 + 6, none⟩ (.int .i64 ((m : Int) + 1 + 1 + 1 + 1 + 1 + 1))).setCell ⟨g, k * 10 + 7, none⟩ (.int .i64 ((m : Int) + 1 + 1 + 1 + 1 + 1 + 1 + 1))).setCell ⟨g, k * 10 + 8, none⟩ (.int .i64 ((m : Int) + 1 + 1 + 1 + 1 + 1 + 1 + 1 + 1))) := ⟨_, rfl⟩
      have hmx : Mild wr wx := by rw [hwx]; exact ((((((((((Mild.refl wr).set hC n0 (noSl_int _ _)).set (block_set hC _) (noSl_set n1 (noSl_int _ _)) (noSl_int _ _)).set (block_set (block_set hC _) _) (noSl_set (noSl_set n2 (noSl_int _ _)) (noSl_int _ _)) (noSl_int _ _)).set (block_set (block_set (block_set hC _) _) _) (noSl_set (noSl_set (noSl_set n3 (noSl_int _ _)) (noSl_int _ _)) (noSl_int _ _)) (noSl_int _ _)).set (block_set (block_set (block_set (block_set hC _) _) _) _) (noSl_set (noSl_set (noSl_set (noSl_set n4 (noSl_int _ _)) (noSl_int _ _)) (noSl_int _ _)) (noSl_int _ _)) (noSl_int _ _)).set (block_set (block_set (block_set (block_set (block_set hC _) _) _) _) _) (noSl_set (noSl_set (noSl_set (noSl_set (noSl_set n5 (noSl_int _ _)) (noSl_int _ _)) (noSl_int _ _)) (noSl_int _ _)) (noSl_int _ _)) (noSl_int _ _)).set (block_set (block_set (block_set (block_set (block_set (block_set hC _) _) _) _) _) _) (noSl_set (noSl_set (noSl_set (noSl_set (noSl_set (noSl_set n6 (noSl_int _ _)) (noSl_int _ _)) (noSl_int _ _)) (noSl_int _ _)) (noSl_int _ _)) (noSl_int _ _)) (noSl_int _ _)).set (block_set (block_set (block_set (block_set (block_set (block_set (block_set hC _) _) _) _) _) _) _) (noSl_set (noSl_set (noSl_set (noSl_set (noSl_set (noSl_set (noSl_set n7 (noSl_int _ _)) (noSl_int _ _)) (noSl_int _ _)) (noSl_int _ _)) (noSl_int _ _)) (noSl_int _ _)) (noSl_int _ _)) (noSl_int _ _)).set (block_set (block_set (block_set (block_set (block_set (block_set (block_set (block_set hC _) _) _) _) _) _) _) _) (noSl_set (noSl_set (noSl_set (noSl_set (noSl_set (noSl_set (noSl_set (noSl_set n8 (noSl_int _ _)) (noSl_int _ _)) (noSl_int _ _)) (noSl_int _ _)) (noSl_int _ _)) (noSl_int _ _)) (noSl_int _ _)) (noSl_int _ _)) (noSl_int _ _))
      have HKX : Hid (Keeps lo [174, 162, 140, 136] w wx) := by show Keeps _ _ _ _; rw [hwx]; exact (((((((((HK.out.set hC (by simp) hlo _ _).set (block_set hC _) (by simp) hlo _ _).set (block_set (block_set hC _) _) (by simp) hlo _ _).set (block_set (block_set (block_set hC _) _) _) (by simp) hlo _ _).set (block_set (block_set (block_set (block_set hC _) _) _) _) (by simp) hlo _ _).set (block_set (block_set (block_set (block_set (block_set hC _) _) _) _) _) (by simp) hlo _ _).set (block_set (block_set (block_set (block_set (block_set (block_set hC _) _) _) _) _) _) (by simp) hlo _ _).set (block_set (block_set (block_set (block_set (block_set (block_set (block_set hC _) _) _) _) _) _) _) (by simp) hlo _ _).set (block_set (block_set (block_set (block_set (block_set (block_set (block_set (block_set hC _) _) _) _) _) _) _) _) (by simp) hlo _ _)
      have HDX := hidm (HD.out.trans hmx)
      obtain ⟨cx, hCx, hszx, -⟩ := hmx.blk _ _ _ hC
      have HNX : Hid (noSl cx[k * 10 + 9]?) := by
        obtain ⟨-, c2, q1, q2, q3⟩ := hB.mild HDX.out
        rw [hCx] at q1
        cases q1
        exact (q3 k hlt).2.2.2.2.2.2.2.2.2
      have HMT := hidm fun w' => markText_any ((m : Int) + 1 + 1 + 1 + 1 + 1 + 1 + 1 + 1 + 1) w' (by omega) (by omega)
      have hszx2 : cx.size = xs.length * 10 := by omega
      clear hC hcs hcd n0 n1 n2 n3 n4 n5 n6 n7 n8 n9 hmx
      go_wp2_with fail
      rw [← hwx]
      clear hwx hfz hy0 hy1 hy2 hy3 hy4 hy5 hy6 hy7 hy8
      refine (HMT.out _).mono ?_
      rintro e w2 ⟨sx, rfl, hb2⟩
      have hC2 := block_kept hCx hb2
      have hfz := block_free hC2
      obtain ⟨yl, hcl⟩ : ∃ v, w2.cell? ⟨g, k * 10 + 9, none⟩ = some v := ⟨cx[k * 10 + 9]'(by omega), by rw [block_cell hC2]; exact Array.getElem?_eq_getElem _⟩
      have HR : Hid (Mild w (w2.setCell ⟨g, k * 10 + 9, none⟩ (.string sx)) ∧ Keeps lo [174, 162, 140, 136] w (w2.setCell ⟨g, k * 10 + 9, none⟩ (.string sx))) := ⟨(HDX.out.trans (Mild.below hb2)).set hC2 HNX.out (noSl_str _), (HKX.out.trans (Keeps.below hb2)).set hC2 (by simp) hlo _ _⟩
      clear hC2 hb2 hCx hszx hszx2 HMT
      go_wp2
      go_roundw
      case rel => exact ⟨k + 1, m + 10, by omega, by go_num, by go_num, by have a1 := HM.out; have a2 := sumBy_take mFo xs k hlt; show _ ∧ _; rw [a2]; omega, HR.out.1, HR.out.2⟩
      case measure => simp [intOf]; omega
    · have hkn : k = xs.length := by omega
      subst hkn
      go_wp2
      go_ret
      refine ⟨m, rfl, HM.out.1, ?_, HD.out, HK.out⟩
      have := HM.out.2
      rw [sumBy_all] at this
      exact this

end Go.Proofs.Ytopbdjplpnojmaa
