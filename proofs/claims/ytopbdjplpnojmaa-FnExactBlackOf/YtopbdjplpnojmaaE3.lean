/-
  Marks in a copy of a state: records, texts, and the state.
-/
import Derived.Test.YtopbdjplpnojmaaE2
namespace Go.Proofs.Ytopbdjplpnojmaa
open Go.RowKit

/-- The slices of records in a block, and the blocks of their fields. -/
def RSh (w : World) (lo hi R : Nat) (rs : List (List Vl)) : Prop := ∃ cur : Array Value, w.heap[R]? = some (.cells cur 125 (0, 0)) ∧ cur.size = rs.length ∧
  ∀ j (hj : j < rs.length), ∃ g, cur[j]? = some (.slice (some ⟨g, 0, none⟩) rs[j].length rs[j].length) ∧ Rng lo hi g ∧ ValsBlk w g rs[j].length
theorem RB.sh {w : World} {lo : Nat} {a : Option Addr} {rs : List (List Vl)} (h : RB w lo a rs) : ∃ R, a = some ⟨R, 0, none⟩ ∧ lo ≤ R ∧ RSh w lo w.heap.size R rs := by
  obtain ⟨R, cur, h1, h2, h3, h4, h5⟩ := h
  refine ⟨R, h1, h2, cur, h3, by omega, fun j hj => ?_⟩
  obtain ⟨g, d3, ⟨-, x, e, e2, e3⟩⟩ := h5 j hj
  cases e
  exact ⟨g, d3, ⟨e2, by obtain ⟨c, hc, -⟩ := e3; exact lt_block hc⟩, e3⟩
theorem RSh.keep {w w' : World} {lo hi R : Nat} {rs : List (List Vl)} (h : RSh w lo hi R rs) {ts : List Nat} (hk : Keeps lo ts w w') (ht : 125 ∉ ts) (hs : SameShape w w') : RSh w' lo hi R rs := by
  obtain ⟨cur, h1, h2, h3⟩ := h
  refine ⟨cur, hk.cell h1 ht, h2, fun j hj => ?_⟩
  obtain ⟨g, d1, d3, d5⟩ := h3 j hj
  exact ⟨g, d1, d3, d5.shape hs⟩

set_option maxRecDepth 100000 in
set_option maxHeartbeats 2000000 in
theorem markRecS_w (lo hi R cap k0 : Nat) (rs : List (List Vl)) (w : World) (hn : rs.length ≤ 1048576) (hc : ∀ r ∈ rs, r.length ≤ 1048576) (h1 : k0 ≤ 20000000000000) (hR : RSh w lo hi R rs) :
    Calls Try.prog 52 #[.slice (some ⟨R, 0, none⟩) rs.length cap, .int .i64 (k0 : Int)] w fun e w' => ∃ k1 : Nat, e = .returned (.int .i64 (k1 : Int)) ∧ k0 ≤ k1 ∧ k1 ≤ k0 + rs.length * 4000000 ∧ Keeps lo [39] w w' ∧ SameShape w w' ∧ Only (Rng lo hi) w w' := by
  go_enter Try.func52, Try.ntmps52
  go_wp2
  go_loopw [1, 5] (fun q i wr => ∃ (k : Nat) (m : Nat), k ≤ rs.length ∧ i = .int .i64 k ∧ q = .int .i64 (m : Int) ∧ Hid (k0 ≤ m ∧ m ≤ k0 + k * 4000000) ∧ Hid (Keeps lo [39] w wr) ∧ Hid (SameShape w wr) ∧ Hid (Only (Rng lo hi) w wr) ∧ Hid (RSh wr lo hi R rs)) (fun _ i _ => rs.length - (intOf i).toNat)
  case atStart => exact ⟨0, k0, by omega, rfl, rfl, ⟨by omega, by omega⟩, Keeps.refl _ _ _, SameShape.refl _, Only.refl _ _, hR⟩
  case round =>
    obtain ⟨k, m, hk, rfl, rfl, HM, HK, HS, HO, HF⟩ := hrel
    by_cases hlt : k < rs.length
    · have hmz : m ≤ 40000000000000 := by have := HM.out; omega
      obtain ⟨cur, hC, hcs, hcd⟩ := HF.out
      obtain ⟨g, d1, dl, db⟩ := hcd k hlt
      have z2 : wr.cell? ⟨R, k, none⟩ = some (.slice (some ⟨g, 0, none⟩) rs[k].length rs[k].length) := by rw [block_cell hC]; exact d1
      have hcl := hc _ (List.getElem_mem hlt)
      have hmk := markValueS_w lo hi g rs[k].length rs[k].length m wr hcl (by omega) dl.1 dl.2 db
      clear hC hcs hcd db d1
      go_wp2_with fail
      refine hmk.mono ?_
      rintro e w2 ⟨rfl, hk2, hs2, ho2⟩
      have HO2 := hid (HO.out.trans ho2)
      have HF2 := hid (HF.out.keep hk2 (by decide) hs2)
      have HK2 := hid (HK.out.trans hk2)
      have HS2 := hid (HS.out.trans hs2)
      clear hmk hk2 hs2 ho2 z2
      go_wp2
      go_roundw
      case rel => exact ⟨k + 1, m + 3 * rs[k].length, by omega, by go_num, rfl, by have h1 := HM.out; show _ ∧ _; omega, HK2, HS2, HO2, HF2⟩
      case measure => simp [intOf]; omega
    · have hkn : k = rs.length := by omega
      subst hkn
      go_wp2
      go_ret
      exact ⟨m, rfl, HM.out.1, HM.out.2, HK.out, HS.out, HO.out⟩
end Go.Proofs.Ytopbdjplpnojmaa
