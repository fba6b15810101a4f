/-
  Marks in lists of code.
-/
import Derived.Test.YtopbdjplpnojmaaKF
import Derived.Test.YtopbdjplpnojmaaKM
namespace Go.Proofs.Ytopbdjplpnojmaa
open Go.RowKit


set_option maxRecDepth 100000 in
set_option maxHeartbeats 4000000 in
theorem markFastS_m (lo g : Nat) (xs : List FastD) (cap k0 : Nat) (w : World) (h1 : k0 + 10 * LM mFast xs ≤ 100000000000000) (hn : xs.length ≤ 1048576) (hc : ∀ x ∈ xs, FastDSmall x) (hB : FaB w lo g xs) :
    Calls Try.prog 29 #[.slice (some ⟨g, 0, none⟩) xs.length cap, .int .i64 (k0 : Int)] w fun e w' => ∃ k1 : Nat, e = .returned (.int .i64 (k1 : Int)) ∧ k0 ≤ k1 ∧ k1 ≤ k0 + 10 * LM mFast xs ∧ Mild w w' ∧ Keeps lo [95, 174, 162, 140, 136] w w' := by
  have hlo : lo ≤ g := hB.1
  have H1 := hidm h1
  have hle : k0 ≤ 100000000000000 := by omega
  clear h1
  go_enter Try.func29, Try.ntmps29
  go_wp2
  go_loopw [1, 5] (fun q i wr => ∃ (k : Nat) (m : Nat), k ≤ xs.length ∧ i = .int .i64 k ∧ q = .int .i64 (m : Int) ∧ Hid (k0 ≤ m ∧ m ≤ k0 + 10 * (k + sumBy mFast (xs.take k))) ∧ Hid (Mild w wr) ∧ Hid (Keeps lo [95, 174, 162, 140, 136] w wr)) (fun _ i _ => xs.length - (intOf i).toNat)
  case atStart => exact ⟨0, k0, by omega, rfl, rfl, ⟨by omega, by omega⟩, Mild.refl _, Keeps.refl _ _ _⟩
  case round =>
    obtain ⟨k, m, hk, rfl, rfl, HM, HD, HK⟩ := hrel
    by_cases hlt : k < xs.length
    · have HL : Hid (k + 1 + (sumBy mFast (xs.take k) + mFast xs[k]) ≤ LM mFast xs) := by
        show _ ≤ _
        rw [← sumBy_take _ _ _ hlt]
        have := sumBy_le mFast xs (k + 1)
        unfold LM
        omega
      have hmz : m ≤ 100000000000000 := by have a1 := HM.out; have a2 := HL.out; have a3 := H1.out; omega
      obtain ⟨-, cur, hC, hcs, hcd⟩ := hB.mild HD.out
      obtain ⟨n0, n1, n2, n3, g0, g1, d0, d1, s0, s1⟩ := hcd k hlt
      have hfz := block_free hC
      obtain ⟨y0, hy0⟩ : ∃ v, wr.cell? ⟨g, k * 6, none⟩ = some v := ⟨cur[k * 6]'(by omega), by rw [block_cell hC]; exact Array.getElem?_eq_getElem _⟩
      obtain ⟨y1, hy1⟩ : ∃ v, wr.cell? ⟨g, k * 6 + 1, none⟩ = some v := ⟨cur[k * 6 + 1]'(by omega), by rw [block_cell hC]; exact Array.getElem?_eq_getElem _⟩
      obtain ⟨y2, hy2⟩ : ∃ v, wr.cell? ⟨g, k * 6 + 2, none⟩ = some v := ⟨cur[k * 6 + 2]'(by omega), by rw [block_cell hC]; exact Array.getElem?_eq_getElem _⟩
      obtain ⟨y3, hy3⟩ : ∃ v, wr.cell? ⟨g, k * 6 + 3, none⟩ = some v := ⟨cur[k * 6 + 3]'(by omega), by rw [block_cell hC]; exact Array.getElem?_eq_getElem _⟩
      obtain ⟨wx, hwx⟩ : ∃ wx, wx = ((((wr.setCell ⟨g, k * 6, none⟩ (.int .i64 ((m : Int)))).setCell ⟨g, k * 6 + 1, none⟩ (.int .i64 ((m : Int) + 1))).setCell ⟨g, k * 6 + 2, none⟩ (.int .i64 ((m : Int) + 1 + 1))).setCell ⟨g, k * 6 + 3, none⟩ (.int .i64 ((m : Int) + 1 + 1 + 1))) := ⟨_, rfl⟩
      have hmx : Mild wr wx := by rw [hwx]; exact (((((Mild.refl wr).set hC n0 (noSl_int _ _)).set (block_set hC _) (noSl_set n1 (noSl_int _ _)) (noSl_int _ _)).set (block_set (block_set hC _) _) (noSl_set (noSl_set n2 (noSl_int _ _)) (noSl_int _ _)) (noSl_int _ _)).set (block_set (block_set (block_set hC _) _) _) (noSl_set (noSl_set (noSl_set n3 (noSl_int _ _)) (noSl_int _ _)) (noSl_int _ _)) (noSl_int _ _))
      have HKX : Hid (Keeps lo [95, 174, 162, 140, 136] w wx) := by show Keeps _ _ _ _; rw [hwx]; exact ((((HK.out.set hC (by simp) hlo _ _).set (block_set hC _) (by simp) hlo _ _).set (block_set (block_set hC _) _) (by simp) hlo _ _).set (block_set (block_set (block_set hC _) _) _) (by simp) hlo _ _)
      have HDX := hidm (HD.out.trans hmx)
      have hsm := hc xs[k] (List.getElem_mem hlt)
      have HCK := hidm (⟨hC, d0, d1, trivial⟩ : _ ∧ _ ∧ _ ∧ True)
      have HX : Hid (mFast xs[k] = LM mFo xs[k].ops + LM mEx xs[k].exits) := rfl
      have z0 : wr.cell? ⟨g, k * 6 + 4, none⟩ = some (.slice (some ⟨g0, 0, none⟩) xs[k].ops.length xs[k].ops.length) := by rw [block_cell hC]; exact d0
      have hmk := markFOpS_m lo g0 xs[k].ops xs[k].ops.length (m + 4) wx (by have a1 := HM.out; have a2 := HL.out; have a3 := H1.out; have a4 := HX.out; omega) hsm.1.1 (s0.mild hmx)
      have e1 : ((m + 4 : Nat) : Int) = (m : Int) + 1 + 1 + 1 + 1 := by omega
      rw [e1] at hmk
      clear e1
      have HS1 := hidm (s1.mild hmx)
      have HMX := hidm hmx
      clear hC hcs hcd n0 n1 n2 n3 d0 d1 s0 s1 hmx
      go_wp2_with fail
      rw [← hwx]
      clear hwx hfz z0 hy0 hy1 hy2 hy3
      refine hmk.mono ?_
      rintro e w2 ⟨k1, rfl, ha, hb, hmi, hke⟩
      have HE1 : Hid (m + 4 ≤ k1 ∧ k1 ≤ m + 4 + 10 * (LM mFo xs[k].ops)) := by show _ ∧ _; omega
      have hkz1 : k1 ≤ 100000000000000 := by have a1 := HM.out; have a2 := HL.out; have a3 := H1.out; have a4 := HX.out; have a5 := HE1.out; omega
      have HK1 := hidm (HKX.out.trans (hke.mono (Nat.le_refl _) (by simp)))
      have HD1 := hidm (HDX.out.trans hmi)
      replace HMX := hidm (HMX.out.trans hmi)
      replace HS1 := hidm (HS1.out.mild hmi)
      clear hmk ha hb hmi hke
      have z1 : w2.cell? ⟨g, k * 6 + 5, none⟩ = some (.slice (some ⟨g1, 0, none⟩) xs[k].exits.length xs[k].exits.length) := HMX.out.slice HCK.out.1 HCK.out.2.2.1
      have hmk := markExitS_m lo g1 xs[k].exits xs[k].exits.length k1 w2 (by have a1 := HM.out; have a2 := HL.out; have a3 := H1.out; have a4 := HX.out; have a5 := HE1.out; omega) hsm.2.1 hsm.2.2 HS1.out
      go_wp2_with fail
      clear z1
      refine hmk.mono ?_
      rintro e w3 ⟨k2, rfl, ha, hb, hmi, hke⟩
      have HE2 : Hid (m + 4 ≤ k2 ∧ k2 ≤ m + 4 + 10 * (LM mFo xs[k].ops + LM mEx xs[k].exits)) := by have a5 := HE1.out; show _ ∧ _; omega
      have hkz2 : k2 ≤ 100000000000000 := by have a1 := HM.out; have a2 := HL.out; have a3 := H1.out; have a4 := HX.out; have a5 := HE2.out; omega
      have HK2 := hidm (HK1.out.trans (hke.mono (Nat.le_refl _) (by simp)))
      have HD2 := hidm (HD1.out.trans hmi)
      clear hmk ha hb hmi hke
      go_wp2
      go_roundw
      case rel => exact ⟨k + 1, k2, by omega, by go_num, rfl, by have a1 := HM.out; have a2 := sumBy_take mFast xs k hlt; have a4 := HX.out; have a5 := HE2.out; show _ ∧ _; rw [a2]; omega, HD2, HK2⟩
      case measure => simp [intOf]; omega
    · have hkn : k = xs.length := by omega
      subst hkn
      go_wp2
      go_ret
      refine ⟨m, rfl, HM.out.1, ?_, HD.out, HK.out⟩
      have := HM.out.2
      rw [sumBy_all] at this
      exact this
end Go.Proofs.Ytopbdjplpnojmaa
