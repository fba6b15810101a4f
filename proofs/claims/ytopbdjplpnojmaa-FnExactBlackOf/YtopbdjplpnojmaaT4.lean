/-
  Marks in a copy of a tier.
-/
import Derived.Test.YtopbdjplpnojmaaT1
import Derived.Test.YtopbdjplpnojmaaKJ
namespace Go.Proofs.Ytopbdjplpnojmaa
open Go.RowKit

theorem But.keepsT {g B : Nat} {w w' : World} {cur : Array Value} {t : TypeId} {fr : Nat × Nat} (h : But g w w') (hb : w.heap[g]? = some (.cells cur t fr)) (hB : B ≤ g) : Keeps B [t] w w' :=
  ⟨h.os, h.tape, h.output, h.size, fun k o hk ho => by
    by_cases e : k = g
    · subst e
      rw [hb] at hk
      cases hk
      rcases ho with ho | ho
      · omega
      · exact absurd (by simp [ofTypes]) ho
    · exact h.kept e hk⟩
theorem TextBlk_at {w : World} {lo : Nat} {g : Nat} {ss : List ByteArray} (h : OB w lo (some ⟨g, 0, none⟩) ss) : lo ≤ g ∧ TextBlk w g ss.length := by
  obtain ⟨-, g', e, h1, h2⟩ := h
  cases e
  exact ⟨h1, h2⟩
set_option maxRecDepth 100000 in
set_option maxHeartbeats 8000000 in
theorem markTier_m (lo g g2 g3 g4 g5 g6 fc hc oc sc cc lc : Nat) (D : TrD) (w : World) (hx : TrSmall D) (hT : TrB w lo g g2 g3 g4 g5 g6 D) :
    Calls Try.prog 10 #[.agg (trCells (some ⟨g, 0, none⟩) (some ⟨g2, 0, none⟩) (some ⟨g3, 0, none⟩) fc hc oc (some ⟨g4, 0, none⟩) sc (some ⟨g5, 0, none⟩) cc (some ⟨g6, 0, none⟩) lc D), .int .i64 1] w fun e w' => ∃ k : Int, e = .returned (.int .i64 k) ∧ 0 ≤ k ∧ Keeps lo [122, 39, 9, 89, 95, 174, 162, 140, 136, 58] w w' := by
  unfold trCells
  obtain ⟨wA, hwA⟩ : ∃ wA, wA = w.alloc (.cells #[.slice (some ⟨g, 0, none⟩) D.vm.frames.length fc, .slice (some ⟨g2, 0, none⟩) D.vm.heap.length hc, .int .i64 D.vm.made, .slice (some ⟨g3, 0, none⟩) D.vm.out.length oc, .int .i64 D.vm.status, .int .i64 D.vm.trap, .int .i64 D.vm.value.k, .int .i64 D.vm.value.n, .string D.vm.value.s, .int .i64 D.vm.steps, .slice (some ⟨g4, 0, none⟩) D.sites.length sc, .slice (some ⟨g5, 0, none⟩) D.codes.length cc, .slice (some ⟨g6, 0, none⟩) D.fails.length lc, .int .i64 D.guards, .int .i64 D.entered] 46) := ⟨_, rfl⟩
  have hbA : Below w.heap.size w wA := by rw [hwA]; exact (Below.refl _ _).alloc (Nat.le_refl _) _
  have hI : wA.heap[w.heap.size]? = some (.cells #[.slice (some ⟨g, 0, none⟩) D.vm.frames.length fc, .slice (some ⟨g2, 0, none⟩) D.vm.heap.length hc, .int .i64 D.vm.made, .slice (some ⟨g3, 0, none⟩) D.vm.out.length oc, .int .i64 D.vm.status, .int .i64 D.vm.trap, .int .i64 D.vm.value.k, .int .i64 D.vm.value.n, .string D.vm.value.s, .int .i64 D.vm.steps, .slice (some ⟨g4, 0, none⟩) D.sites.length sc, .slice (some ⟨g5, 0, none⟩) D.codes.length cc, .slice (some ⟨g6, 0, none⟩) D.fails.length lc, .int .i64 D.guards, .int .i64 D.entered] 46 (0, 0)) := by rw [hwA]; exact block_new _ _ _
  have hTA := hT.mono hbA
  have hK0 : Keeps lo [122, 39, 9, 89, 95, 174, 162, 140, 136, 58] w wA := Keeps.below hbA
  obtain ⟨F, eF, hF1, hF2, hF3⟩ := hTA.vm.frs.sh
  cases eF
  obtain ⟨R, eR, hR1, hR3⟩ := hTA.vm.recs.sh
  cases eR
  obtain ⟨hO1, hO3⟩ := TextBlk_at hTA.vm.out
  have hgO : g3 < wA.heap.size := by obtain ⟨c, hc, -⟩ := hO3; exact lt_block hc
  have hcall := markVm_w lo wA.heap.size g g2 g3 fc hc oc D.vm 1 wA hx.vm (by omega) hF1 hO1 hF2 hgO hF3 hR3 hO3
  unfold vmCells at hcall
  go_enter Try.func10, Try.ntmps10
  have i1 := block_cell hI
  go_wp2_with fail
  rw [← hwA]
  refine hcall.mono ?_
  rintro e w1 ⟨k1, rfl, -, hk1z, hk1, -, -⟩
  have hI1 := hk1.cell hI (by decide)
  have hs1 := hTA.sblk.keeps hk1 (by decide)
  have hc1 := hTA.codes.of.keeps hk1 (by decide) (by decide)
  have hf1 := hTA.fblk.keeps hk1 (by decide)
  have hK1 : Keeps lo [122, 39, 9, 89, 95, 174, 162, 140, 136, 58] w w1 := hK0.trans (hk1.mono (Nat.le_refl _) (by simp))
  clear hcall hwA hbA hI hTA hK0 hF1 hF2 hF3 hR1 hR3 hO1 hO3 hgO hk1 i1 hT
  have i1 := block_cell hI1
  obtain ⟨hsl, cS, hS1, hS2⟩ := hs1
  have hns := hx.sites
  go_wp2_with fail
  refine (markSites_any g4 D.sites.length sc (k1 : Int) _ hx.sites (by omega) (by omega) ⟨cS, hS1, by omega⟩).mono ?_
  rintro e w2 ⟨rfl, hb2, -⟩
  have hk2 := hb2.keepsT hS1 hsl
  have hI2 := hk2.cell hI1 (by decide)
  have hc2 := hc1.keeps hk2 (by decide) (by decide)
  have hf2 := hf1.keeps hk2 (by decide)
  have hK2 : Keeps lo [122, 39, 9, 89, 95, 174, 162, 140, 136, 58] w w2 := hK1.trans (hk2.mono (Nat.le_refl _) (by simp))
  clear hb2 hk2 hI1 hc1 hf1 hK1 i1 hsl hS1 hS2 cS
  have i1 := block_cell hI2
  obtain ⟨k2, hk2e⟩ : ∃ k2 : Nat, (k1 : Int) + 4 * (D.sites.length : Int) = (k2 : Int) := ⟨k1 + 4 * D.sites.length, by omega⟩
  rw [hk2e]
  have hk2z : k2 ≤ 50000000000000 := by omega
  have hmu := hx.much
  clear hk2e hk1z
  have hcall := markFastS_m lo g5 D.codes cc k2 w2 (by omega) hx.codes.1 hx.codes.2 hc2
  have HC := hid hcall
  clear hcall hc2
  go_wp2_with fail
  refine HC.out.mono ?_
  rintro e w3 ⟨k3, rfl, -, hk3z, -, hk3⟩
  have hI3 := hk3.cell hI2 (by decide)
  have hf3 := hf2.keeps hk3 (by decide)
  have hK3 : Keeps lo [122, 39, 9, 89, 95, 174, 162, 140, 136, 58] w w3 := hK2.trans (hk3.mono (Nat.le_refl _) (by simp))
  have hk3y : k3 ≤ 70000000000000 := by omega
  clear HC hk3 hI2 hf2 hK2 i1 hk3z hk2z
  have i1 := block_cell hI3
  obtain ⟨hfl, cF, hF1, hF2⟩ := hf3
  have hnf := hx.fails
  go_wp2_with fail
  refine (markFails_any g6 D.fails.length lc (k3 : Int) _ hx.fails (by omega) (by omega) ⟨cF, hF1, by omega⟩).mono ?_
  rintro e w4 ⟨rfl, hb4, -⟩
  have hk4 := hb4.keepsT hF1 hfl
  have hK4 : Keeps lo [122, 39, 9, 89, 95, 174, 162, 140, 136, 58] w w4 := hK3.trans (hk4.mono (Nat.le_refl _) (by simp))
  clear hb4 hk4 hI3 hK3 i1 hfl hF1 hF2 cF
  go_wp2
  go_ret
  exact ⟨_, rfl, by omega, hK4⟩
end Go.Proofs.Ytopbdjplpnojmaa
