/-
  Values in a block of their own, exactly; what meeting all of them does.
-/
import Derived.Test.YtcebgbcgkkfedaaGreatC2
import Derived.Test.YtcebgbcgkkfedaaGreatN1
namespace Go.Proofs.YtcebgbcgkkfedaaGreat
open Go.RowKit

/-- Block g holds just these values. -/
def ValsIs (w : World) (g : Nat) (vs : List Vl) : Prop := w.heap[g]? = some (.cells (flat vs).toArray 36 (0, 0))
theorem ValsIs.mono {w w' : World} {g : Nat} {vs : List Vl} (h : ValsIs w g vs) (hb : Below w.heap.size w w') : ValsIs w' g vs := block_kept h hb
theorem ValsIs.of {w : World} {g lo : Nat} {vs : List Vl} (h : ValsAt w lo (some ⟨g, 0, none⟩) vs) (hb : ValsBlk w g vs.length) : ValsIs w g vs := by
  obtain ⟨cur, hc, hs⟩ := hb
  have e : cur = (flat vs).toArray := by
    apply Array.ext_getElem?
    intro j
    rcases Nat.lt_or_ge j (vs.length * 3) with hj | hj
    · obtain ⟨i, r, hr, rfl⟩ : ∃ i r, r < 3 ∧ j = i * 3 + r := ⟨j / 3, j % 3, Nat.mod_lt _ (by omega), by omega⟩
      have hi : i < vs.length := by omega
      obtain ⟨b', off', e, -, k1, k2, k3⟩ := h i hi
      cases e
      rw [block_cell hc, Nat.zero_add] at k1 k2 k3
      obtain ⟨f1, f2, f3⟩ := flat_at vs i hi
      have ea : ∀ q : Nat, (flat vs).toArray[q]? = (flat vs)[q]? := fun q => List.getElem?_toArray ..
      rw [ea]
      match r, hr with
      | 0, _ => rw [Nat.add_zero, f1, k1]
      | 1, _ => rw [f2, k2]
      | 2, _ => rw [f3, k3]
    · rw [Array.getElem?_eq_none (by omega), Array.getElem?_eq_none (by simp [flat_len]; omega)]
  rw [ValsIs, ← e]
  exact hc
theorem ValsIs.at {w : World} {g lo : Nat} {vs : List Vl} (h : ValsIs w g vs) (hl : lo ≤ g) : ValsAt w lo (some ⟨g, 0, none⟩) vs := fun i hi => by
  obtain ⟨f1, f2, f3⟩ := flat_at vs i hi
  have hc := block_cell h
  exact ⟨g, 0, rfl, hl, by rw [hc, Nat.zero_add, List.getElem?_toArray]; exact f1, by rw [hc, Nat.zero_add, List.getElem?_toArray]; exact f2, by rw [hc, Nat.zero_add, List.getElem?_toArray]; exact f3⟩
theorem flat_app : ∀ xs ys : List Vl, flat (xs ++ ys) = flat xs ++ flat ys
  | [], _ => rfl
  | v :: vs, ys => by rw [List.cons_append, flat, flat, flat_app vs ys]; rfl
theorem flat_put (A D : List Vl) (v : Vl) (n : Int) {k : Nat} (hk : A.length = k) : ((flat (A ++ v :: D)).toArray).setIfInBounds (k * 3 + 1) (.int .i64 n) = (flat (A ++ ⟨v.k, n, v.s⟩ :: D)).toArray := by
  rw [List.setIfInBounds_toArray, flat_app, flat_app, List.set_append_right _ _ (by rw [flat_len]; omega), flat_len, hk, show k * 3 + 1 - k * 3 = 1 by omega]
  rfl
theorem mV_eq (ms : List Nat) (v : Vl) : (⟨v.k, (mV ms v).n, v.s⟩ : Vl) = mV ms v := by
  unfold mV
  split <;> rfl
theorem drop_cons {vs : List Vl} {k : Nat} (h : k < vs.length) : vs.drop k = vs[k] :: vs.drop (k + 1) := (List.getElem_cons_drop ..).symm

set_option maxRecDepth 100000 in
set_option maxHeartbeats 1000000 in
theorem meetAll_any (lo Hb H hcap nb mb : Nat) (mv : Value) (ms : List Nat) (g cap : Nat) (vs : List Vl) (w : World) (hN : NumAt w lo Hb H hcap nb mb mv ms)
    (hV : ValsIs w g vs) (hn : vs.length ≤ 1048576) (hv : ∀ v ∈ vs, Named H v) (hH : H ≤ 1048576) (hM : Met H ms) :
    Calls Tryz.prog 61 #[.pointer (some ⟨nb, 0, none⟩), .slice (some ⟨g, 0, none⟩) vs.length cap] w fun e w' => e = .returned (.tuple #[]) ∧ Kp lo g w w' ∧ (∃ mv', NumAt w' lo Hb H hcap nb mb mv' (lS ms vs)) ∧ ValsIs w' g (lV ms vs) := by
  go_enter Tryz.func61, Tryz.ntmps61
  go_wp2
  go_loopw [7] (fun i wr => ∃ (k : Nat), k ≤ vs.length ∧ i = .int .i64 k ∧ Kp lo g w wr ∧ Hid (∃ mv', NumAt wr lo Hb H hcap nb mb mv' (lS ms (vs.take k))) ∧ Hid (ValsIs wr g (lV ms (vs.take k) ++ vs.drop k))) (fun i _ => vs.length - (intOf i).toNat)
  case atStart => exact ⟨0, by omega, rfl, Kp.refl _ _ _, ⟨mv, hN⟩, hV⟩
  case round =>
    obtain ⟨k, hk, rfl, hK, HN, HV⟩ := hrel
    by_cases hlt : k < vs.length
    · obtain ⟨mv1, hN1⟩ := HN.out
      have hV1 := HV.out
      rw [drop_cons hlt] at hV1
      have hlen : (lV ms (vs.take k)).length = k := by rw [lV_len, List.length_take]; omega
      have hk1 : (flat (lV ms (vs.take k) ++ vs[k] :: vs.drop (k + 1))).toArray[k * 3]? = some (.int .i64 vs[k].k) := by
        have := (flat_at (lV ms (vs.take k) ++ vs[k] :: vs.drop (k + 1)) k (by rw [List.length_append, hlen, List.length_cons]; omega)).1
        simpa [hlen] using this
      have hk2 : (flat (lV ms (vs.take k) ++ vs[k] :: vs.drop (k + 1))).toArray[k * 3 + 1]? = some (.int .i64 vs[k].n) := by
        have := (flat_at (lV ms (vs.take k) ++ vs[k] :: vs.drop (k + 1)) k (by rw [List.length_append, hlen, List.length_cons]; omega)).2.1
        simpa [hlen] using this
      have hM1 : Met H (lS ms (vs.take k)) := hM.lS fun v hx => hv v (List.mem_of_mem_take hx)
      have hmt := meet_any lo Hb H hcap nb mb mv1 (lS ms (vs.take k)) g (k * 3) 36 vs[k] _ wr hN1 hV1 ⟨by decide, by decide⟩ hk1 hk2 (hv _ (List.getElem_mem hlt)) hH hM1
      have HP : Hid (((flat (lV ms (vs.take k) ++ vs[k] :: vs.drop (k + 1))).toArray).setIfInBounds (k * 3 + 1) (.int .i64 (mV (lS ms (vs.take k)) vs[k]).n) = (flat (lV ms (vs.take (k + 1)) ++ vs.drop (k + 1))).toArray) := by
        show _ = _
        rw [flat_put _ _ _ _ hlen, mV_eq, lV_more hlt, List.append_assoc]
        rfl
      have HS : Hid (mS (lS ms (vs.take k)) vs[k] = lS ms (vs.take (k + 1))) := (lS_more hlt).symm
      clear HN HV hN1 hV1 hlen hk1 hk2 hM1
      go_wp2_with fail
      refine hmt.mono ?_
      rintro e w2 ⟨rfl, hK2, ⟨mv2, hN2⟩, hV2⟩
      rw [HP.out] at hV2
      rw [HS.out] at hN2
      have HN2 : Hid (∃ mv', NumAt w2 lo Hb H hcap nb mb mv' (lS ms (vs.take (k + 1)))) := ⟨mv2, hN2⟩
      have HV2 : Hid (ValsIs w2 g (lV ms (vs.take (k + 1)) ++ vs.drop (k + 1))) := hV2
      have hK3 := hK.trans hK2
      clear hN2 hV2 hmt HP HS hK2 hK
      go_wp2
      go_roundw
      case rel => exact ⟨k + 1, by omega, by go_num, hK3, HN2, HV2⟩
      case measure => simp [intOf]; omega
    · have hkn : k = vs.length := by omega
      subst hkn
      go_wp2
      go_end0
      have h1 := HN.out
      have h2 := HV.out
      rw [List.take_length] at h1 h2
      rw [List.drop_length, List.append_nil] at h2
      exact ⟨rfl, hK, h1, h2⟩
end Go.Proofs.YtcebgbcgkkfedaaGreat
