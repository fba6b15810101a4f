/-
  Marks in a copy of a state: the state.
-/
import Derived.Test.YtopbdjplpnojmaaE3
namespace Go.Proofs.Ytopbdjplpnojmaa
open Go.RowKit

set_option maxHeartbeats 400000 in
theorem markStringS_w (lo hi g n cap : Nat) (k0 : Int) (w : World) (hn : n ≤ 1048576) (h0 : 0 ≤ k0) (h1 : k0 ≤ 100000000000000) (hg : lo ≤ g) (hh : g < hi) (hblk0 : TextBlk w g n) :
    Calls Try.prog 53 #[.slice (some ⟨g, 0, none⟩) n cap, .int .i64 k0] w fun e w' => e = .returned (.int .i64 (k0 + n)) ∧ Keeps lo [9] w w' ∧ SameShape w w' ∧ Only (Rng lo hi) w w' := by
  go_enter Try.func53, Try.ntmps53
  go_wp2
  go_loopw [1, 5] (fun q i wr => ∃ (k : Nat), k ≤ n ∧ i = .int .i64 k ∧ q = .int .i64 (k0 + k) ∧ Keeps lo [9] w wr ∧ SameShape w wr ∧ Only (Rng lo hi) w wr) (fun _ i _ => n - (intOf i).toNat)
  case atStart => exact ⟨0, by omega, rfl, by go_num, Keeps.refl _ _ _, SameShape.refl _, Only.refl _ _⟩
  case round =>
    obtain ⟨k, hk, rfl, rfl, hkr, hsh, hor⟩ := hrel
    by_cases hlt : k < n
    · go_wp2_with fail
      refine (markText_any (k0 + k) _ (by omega) (by omega)).mono ?_
      rintro e w1 ⟨s, rfl, hb⟩
      have hk1 : Keeps lo [9] w w1 := hkr.trans (Keeps.below hb)
      have ho1 : Only (Rng lo hi) w w1 := hor.trans (Only.of hb)
      have hs1 : SameShape w w1 := hsh.trans (SameShape.below hb)
      obtain ⟨cur, hblk, hsz⟩ := hblk0.shape hs1
      have hfz := block_free hblk k
      have hcl : w1.cell? ⟨g, k, none⟩ = some cur[k] := by rw [block_cell hblk k]; simp
      go_wp2
      go_roundw
      case rel => exact ⟨k + 1, by omega, by go_num, by go_num, Keeps.set hk1 hblk (by simp) hg _ _, SameShape.set hs1 hblk _ _, ho1.set ⟨hg, hh⟩ _⟩
      case measure => simp [intOf]; omega
    · go_wp2
      go_ret
      exact ⟨ret_int (by omega), hkr, hsh, hor⟩

set_option maxRecDepth 100000 in
set_option maxHeartbeats 2000000 in
theorem markVm_w (lo hi F R g fc hcp oc : Nat) (d : VmD) (k0 : Nat) (w : World) (hx : VmSmall d) (h1 : k0 ≤ 10000000000000) (hl : lo ≤ F) (hl3 : lo ≤ g) (hh : F < hi) (hh3 : g < hi) (hF : FSh w lo hi F d.frames) (hR : RSh w lo hi R d.heap) (hO : TextBlk w g d.out.length) :
    Calls Try.prog 27 #[.agg (vmCells (some ⟨F, 0, none⟩) (some ⟨R, 0, none⟩) (some ⟨g, 0, none⟩) fc hcp oc d), .int .i64 (k0 : Int)] w fun e w' => ∃ k1 : Nat, e = .returned (.int .i64 (k1 : Int)) ∧ k0 ≤ k1 ∧ k1 ≤ 40000000000000 ∧ Keeps lo [122, 39, 9] w w' ∧ SameShape w w' ∧ Only (Rng lo hi) w w' := by
  conv => arg 3; unfold vmCells
  obtain ⟨wA, hwA⟩ : ∃ wA, wA = w.alloc (.cells #[.slice (some ⟨F, 0, none⟩) d.frames.length fc, .slice (some ⟨R, 0, none⟩) d.heap.length hcp, .int .i64 d.made, .slice (some ⟨g, 0, none⟩) d.out.length oc, .int .i64 d.status, .int .i64 d.trap, .int .i64 d.value.k, .int .i64 d.value.n, .string d.value.s, .int .i64 d.steps] 41) := ⟨_, rfl⟩
  have hbA : Below w.heap.size w wA := by rw [hwA]; exact (Below.refl _ _).alloc (Nat.le_refl _) _
  have hI : wA.heap[w.heap.size]? = some (.cells #[.slice (some ⟨F, 0, none⟩) d.frames.length fc, .slice (some ⟨R, 0, none⟩) d.heap.length hcp, .int .i64 d.made, .slice (some ⟨g, 0, none⟩) d.out.length oc, .int .i64 d.status, .int .i64 d.trap, .int .i64 d.value.k, .int .i64 d.value.n, .string d.value.s, .int .i64 d.steps] 41 (0, 0)) := by rw [hwA]; exact block_new _ _ _
  have hkA : Keeps lo [] w wA := Keeps.below hbA
  have hsA : SameShape w wA := SameShape.below hbA
  have hFA : FSh wA lo hi F d.frames := hF.keep (hkA.mono (Nat.le_refl _) (by simp)) hsA
  have hRA : RSh wA lo hi R d.heap := hR.keep hkA (by simp) hsA
  have hOA : TextBlk wA g d.out.length := hO.mono hbA
  go_enter Try.func27, Try.ntmps27
  have i1 := block_cell hI
  have hm1 := markFrameS_w lo hi F fc k0 d.frames wA hx.frames (fun f hf => ⟨(hx.locals f hf).1, (hx.stack f hf).1⟩) (by omega) hl hh hFA
  go_wp2_with fail
  rw [← hwA]
  refine hm1.mono ?_
  rintro e w1 ⟨k1, rfl, ha1, hb1, hk1, hs1, ho1⟩
  have hO1x : Only (Rng lo hi) w w1 := (Only.of hbA).trans ho1
  have hI1 := hk1.cell hI (by decide)
  have hR1 := hRA.keep hk1 (by decide) hs1
  have hO1 := hOA.shape hs1
  have hK1 : Keeps lo [122, 39, 9] w w1 := (hkA.mono (Nat.le_refl _) (by simp)).trans (hk1.mono (Nat.le_refl _) (by simp))
  have hS1 := hsA.trans hs1
  have hfz := hx.frames
  have hk1z : k1 ≤ 20000000000000 := by omega
  clear hm1 hwA hbA hI hkA hsA hFA hRA hOA hk1 hs1 i1 hb1
  have i1 := block_cell hI1
  have hm2 := markRecS_w lo hi R hcp k1 d.heap w1 hx.heap (fun r hr => (hx.fields r hr).1) (by omega) hR1
  go_wp2_with fail
  refine hm2.mono ?_
  rintro e w2 ⟨k2, rfl, ha2, hb2, hk2, hs2, ho2⟩
  have hO2x := hO1x.trans ho2
  have hI2 := hk2.cell hI1 (by decide)
  have hO2 := hO1.shape hs2
  have hK2 : Keeps lo [122, 39, 9] w w2 := hK1.trans (hk2.mono (Nat.le_refl _) (by simp))
  have hS2 := hS1.trans hs2
  have hhz := hx.heap
  have hk2z : k2 ≤ 30000000000000 := by omega
  clear hm2 hI1 hR1 hO1 hK1 hS1 hk2 hs2 i1 hb2
  have i1 := block_cell hI2
  have hoz := hx.out
  have hm3 := markStringS_w lo hi g d.out.length oc (k2 : Int) w2 hx.out (by omega) (by omega) hl3 hh3 hO2
  go_wp2_with fail
  refine hm3.mono ?_
  rintro e w3 ⟨rfl, hk3, hs3, ho3⟩
  have hO3x := hO2x.trans ho3
  have hK3 : Keeps lo [122, 39, 9] w w3 := hK2.trans (hk3.mono (Nat.le_refl _) (by simp))
  have hS3 := hS2.trans hs3
  clear hm3 hI2 hO2 hK2 hS2 hk3 hs3 i1
  go_wp2
  go_ret
  exact ⟨k2 + d.out.length, by simp, by omega, by omega, hK3, hS3, hO3x⟩
end Go.Proofs.Ytopbdjplpnojmaa
