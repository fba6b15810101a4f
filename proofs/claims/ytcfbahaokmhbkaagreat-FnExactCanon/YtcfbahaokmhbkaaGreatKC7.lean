/-
  Values in a block of their own, exactly; what meeting all of them does.
  impl's numbered: the records that were met, with their new fields.
-/
import Derived.Test.YtcfbahaokmhbkaaGreatKC6
import Derived.Test.YtcfbahaokmhbkaaGreatN1
namespace Go.Proofs.YtcfbahaokmhbkaaGreat
open Go.RowKit

/-- Block g holds just these values. -/
def ValsIs (w : World) (g : Nat) (vs : List Vl) : Prop := w.heap[g]? = some (.cells (flat vs).toArray 36 (0, 0))
theorem ValsIs.mono {w w' : World} {g : Nat} {vs : List Vl} (h : ValsIs w g vs) (hb : Below w.heap.size w w') : ValsIs w' g vs := block_kept h hb
theorem ValsIs.of {w : World} {g lo : Nat} {vs : List Vl} (h : ValsAt w lo (some ⟨g, 0, none⟩) vs) (hb : ValsBlk w g vs.length) : ValsIs w g vs := by
  obtain ⟨cur, hc, hs⟩ := hb
  have e : cur = (flat vs).toArray := by
    apply Array.ext_getElem?
    intro j
    rcases Nat.lt_or_ge j (vs.length * 3) with hj | hj
    · obtain ⟨i, r, hr, rfl⟩ : ∃ i r, r < 3 ∧ j = i * 3 + r := ⟨j / 3, j % 3, Nat.mod_lt _ (by omega), by omega⟩
      have hi : i < vs.length := by omega
      obtain ⟨b', off', e, -, k1, k2, k3⟩ := h i hi
      cases e
      rw [block_cell hc, Nat.zero_add] at k1 k2 k3
      obtain ⟨f1, f2, f3⟩ := flat_at vs i hi
      have ea : ∀ q : Nat, (flat vs).toArray[q]? = (flat vs)[q]? := fun q => List.getElem?_toArray ..
      rw [ea]
      match r, hr with
      | 0, _ => rw [Nat.add_zero, f1, k1]
      | 1, _ => rw [f2, k2]
      | 2, _ => rw [f3, k3]
    · rw [Array.getElem?_eq_none (by omega), Array.getElem?_eq_none (by simp [flat_len]; omega)]
  rw [ValsIs, ← e]
  exact hc
theorem ValsIs.at {w : World} {g lo : Nat} {vs : List Vl} (h : ValsIs w g vs) (hl : lo ≤ g) : ValsAt w lo (some ⟨g, 0, none⟩) vs := fun i hi => by
  obtain ⟨f1, f2, f3⟩ := flat_at vs i hi
  have hc := block_cell h
  exact ⟨g, 0, rfl, hl, by rw [hc, Nat.zero_add, List.getElem?_toArray]; exact f1, by rw [hc, Nat.zero_add, List.getElem?_toArray]; exact f2, by rw [hc, Nat.zero_add, List.getElem?_toArray]; exact f3⟩
theorem flat_app : ∀ xs ys : List Vl, flat (xs ++ ys) = flat xs ++ flat ys
  | [], _ => rfl
  | v :: vs, ys => by rw [List.cons_append, flat, flat, flat_app vs ys]; rfl
theorem flat_put (A D : List Vl) (v : Vl) (n : Int) {k : Nat} (hk : A.length = k) : ((flat (A ++ v :: D)).toArray).setIfInBounds (k * 3 + 1) (.int .i64 n) = (flat (A ++ ⟨v.k, n, v.s⟩ :: D)).toArray := by
  rw [List.setIfInBounds_toArray, flat_app, flat_app, List.set_append_right _ _ (by rw [flat_len]; omega), flat_len, hk, show k * 3 + 1 - k * 3 = 1 by omega]
  rfl
theorem mV_eq (ms : List Nat) (v : Vl) : (⟨v.k, (mV ms v).n, v.s⟩ : Vl) = mV ms v := by
  unfold mV
  split <;> rfl
theorem hid {p : Prop} (h : p) : Hid p := h
theorem drop_cons {vs : List Vl} {k : Nat} (h : k < vs.length) : vs.drop k = vs[k] :: vs.drop (k + 1) := (List.getElem_cons_drop ..).symm

set_option maxRecDepth 100000 in
set_option maxHeartbeats 4000000 in
theorem meetAll_any (lo Hb H hcap nb mb : Nat) (mv : Value) (ms : List Nat) (g cap : Nat) (vs : List Vl) (w : World) (hN : NumAt w lo Hb nb mb mv ms)
    (hV : ValsIs w g vs) (hn : vs.length ≤ 1048576) (hv : ∀ v ∈ vs, Named H v) (hH : H ≤ 1048576) (hM : Met H ms) :
    Calls Tryz.prog 63 #[.agg #[.slice (some ⟨Hb, 0, none⟩) H hcap, .pointer (some ⟨nb, 0, none⟩)], .slice (some ⟨g, 0, none⟩) vs.length cap] w fun e w' => e = .returned (.tuple #[]) ∧ Kp lo g w w' ∧ (∃ mv', NumAt w' lo Hb nb mb mv' (lS ms vs)) ∧ ValsIs w' g (lV ms vs) := by
  obtain ⟨wA, hwA⟩ : ∃ wA, wA = w.alloc (.cells #[.slice (some ⟨Hb, 0, none⟩) H hcap, .pointer (some ⟨nb, 0, none⟩)] 113) := ⟨_, rfl⟩
  have hbA : Below w.heap.size w wA := by rw [hwA]; exact (Below.refl _ _).alloc (Nat.le_refl _) _
  have hBX : wA.heap[w.heap.size]? = some (.cells #[.slice (some ⟨Hb, 0, none⟩) H hcap, .pointer (some ⟨nb, 0, none⟩)] 113 (0, 0)) := by rw [hwA]; exact block_new _ _ _
  have hNA := hN.mono hbA
  have hVA := hV.mono hbA
  have hgw : g ≠ w.heap.size := by have := lt_block hV; omega
  go_enter Tryz.func63, Tryz.ntmps63
  go_upto_region 1 with fail
  rw [← hwA]
  clear hwA
  go_wp2
  go_loopw [7] (fun i wr => ∃ (k : Nat), k ≤ vs.length ∧ i = .int .i64 k ∧ Kp lo g w wr ∧ Hid (wr.heap[w.heap.size]? = some (.cells #[.slice (some ⟨Hb, 0, none⟩) H hcap, .pointer (some ⟨nb, 0, none⟩)] 113 (0, 0))) ∧ Hid (∃ mv', NumAt wr lo Hb nb mb mv' (lS ms (vs.take k))) ∧ Hid (ValsIs wr g (lV ms (vs.take k) ++ vs.drop k))) (fun i _ => vs.length - (intOf i).toNat)
  case atStart => exact ⟨0, by omega, rfl, Kp.of hbA, hBX, ⟨mv, hNA⟩, hVA⟩
  case round =>
    obtain ⟨k, hk, rfl, hK, HX, HN, HV⟩ := hrel
    by_cases hlt : k < vs.length
    · obtain ⟨mv1, hN1⟩ := HN.out
      have hV1 := HV.out
      rw [drop_cons hlt] at hV1
      have hlen : (lV ms (vs.take k)).length = k := by rw [lV_len, List.length_take]; omega
      have hk1 : (flat (lV ms (vs.take k) ++ vs[k] :: vs.drop (k + 1))).toArray[k * 3]? = some (.int .i64 vs[k].k) := by
        have := (flat_at (lV ms (vs.take k) ++ vs[k] :: vs.drop (k + 1)) k (by rw [List.length_append, hlen, List.length_cons]; omega)).1
        simpa [hlen] using this
      have hk2 : (flat (lV ms (vs.take k) ++ vs[k] :: vs.drop (k + 1))).toArray[k * 3 + 1]? = some (.int .i64 vs[k].n) := by
        have := (flat_at (lV ms (vs.take k) ++ vs[k] :: vs.drop (k + 1)) k (by rw [List.length_append, hlen, List.length_cons]; omega)).2.1
        simpa [hlen] using this
      have hM1 : Met H (lS ms (vs.take k)) := hM.lS fun v hx => hv v (List.mem_of_mem_take hx)
      have hbd : Below wr.heap.size wr wr.drew := (Below.refl _ _).drew
      have hmt := meet_any lo Hb H hcap nb mb mv1 (lS ms (vs.take k)) g (k * 3) 36 vs[k] _ wr.drew (hN1.mono hbd) (block_kept hV1 hbd) ⟨by decide, by decide⟩ hk1 hk2 (hv _ (List.getElem_mem hlt)) hH hM1
      have HP : Hid (((flat (lV ms (vs.take k) ++ vs[k] :: vs.drop (k + 1))).toArray).setIfInBounds (k * 3 + 1) (.int .i64 (mV (lS ms (vs.take k)) vs[k]).n) = (flat (lV ms (vs.take (k + 1)) ++ vs.drop (k + 1))).toArray) := by
        show _ = _
        rw [flat_put _ _ _ _ hlen, mV_eq, lV_more hlt, List.append_assoc]
        rfl
      have HS : Hid (mS (lS ms (vs.take k)) vs[k] = lS ms (vs.take (k + 1))) := (lS_more hlt).symm
      have hh : (fun w' : World => w'.cell? ⟨w.heap.size, 0, none⟩ = some (.slice (some ⟨Hb, 0, none⟩) H hcap) ∧ w'.cell? ⟨w.heap.size, 1, none⟩ = some (.pointer (some ⟨nb, 0, none⟩))) wr.drew := ⟨by rw [block_cell (block_kept HX.out hbd)]; rfl, by rw [block_cell (block_kept HX.out hbd)]; rfl⟩
      have hkI : (k : Int) < (vs.length : Int) := by omega
      have HX1 := hid (block_kept HX.out hbd)
      clear HN HV hN1 hV1 hlen hk1 hk2 hM1
      go_upto_region 4 with fail
      refine wp_region_T (RS [4] (fun w' : World => w'.cell? ⟨w.heap.size, 0, none⟩ = some (.slice (some ⟨Hb, 0, none⟩) H hcap) ∧ w'.cell? ⟨w.heap.size, 1, none⟩ = some (.pointer (some ⟨nb, 0, none⟩)))) (by kernel_rfl) ?_
      refine tkS (i := 0) [4] (v := ?_) rfl (by kernel_rfl) (by kernel_rfl) (fun _ _ _ h => h) ?_ hh ?_
      rotate_left
      · intro w' hSw
        obtain ⟨y0, y1⟩ := hSw
        go_simp
        try with_reducible rfl
      simp only [Act.put, List.setIfInBounds_toArray]
      refine tkP (i := 1) (v := ?_) rfl (by kernel_rfl) (fun _ _ _ h => h) ?_ ?_
      rotate_left
      · intro w'
        go_simp
        try with_reducible rfl
      simp only [Act.put]
      refine tkP (i := 2) (v := ?_) rfl (by kernel_rfl) (fun _ _ _ h => h) ?_ ?_
      rotate_left
      · intro w'
        go_simp
        try with_reducible rfl
      simp only [Act.put]
      refine tkP (i := 3) (v := ?_) rfl (by kernel_rfl) (fun _ _ _ h => h) ?_ ?_
      rotate_left
      · intro w'
        go_simp
        try with_reducible rfl
      simp only [Act.put]
      refine wpAnyT_one (i := 4) (o := _) (by kernel_rfl) rfl (fun Kq hKq => ?_)
      go_simp
      refine hmt.mono ?_
      rintro e w2 ⟨rfl, hK2, ⟨mv2, hN2⟩, hV2⟩
      refine hKq.out _ _ (.inl (by decide)) ?_
      clear hKq Kq
      try simp only [Act.put]
      refine wpAnyT_done (by kernel_rfl) ?_ _
      rw [HP.out] at hV2
      rw [HS.out] at hN2
      have HN2 : Hid (∃ mv', NumAt w2 lo Hb nb mb mv' (lS ms (vs.take (k + 1)))) := ⟨mv2, hN2⟩
      have HV2 : Hid (ValsIs w2 g (lV ms (vs.take (k + 1)) ++ vs.drop (k + 1))) := hV2
      have HX2 := hid (hK2.kept HX1.out (fun e => hgw e.symm) ⟨by decide, by decide⟩)
      have hK3 := hK.trans ((Kp.of hbd).trans hK2)
      clear hN2 hV2 hmt HP HS hK2 hK hh hbd HX HX1
      go_simp
      go_wp2
      go_roundw
      case rel => exact ⟨k + 1, by omega, by go_num, hK3, HX2, HN2, HV2⟩
      case measure => simp [intOf]; omega
    · have hkn : k = vs.length := by omega
      subst hkn
      go_wp2
      go_end0
      have h1 := HN.out
      have h2 := HV.out
      rw [List.take_length] at h1 h2
      rw [List.drop_length, List.append_nil] at h2
      exact ⟨rfl, hK, h1, h2⟩
end Go.Proofs.YtcfbahaokmhbkaaGreat

namespace Go.Proofs.YtcfbahaokmhbkaaGreat
open Go.RowKit

theorem mS_pre (ms : List Nat) (v : Vl) : ms <+: mS ms v := by
  unfold mS
  split
  · unfold seen
    split
    · exact List.prefix_refl _
    · exact List.prefix_append _ _
  · exact List.prefix_refl _
theorem lS_pre (vs : List Vl) : ∀ ms : List Nat, ms <+: lS ms vs := by
  induction vs with
  | nil => intro ms; exact List.prefix_refl _
  | cons v vs ih => intro ms; exact (mS_pre ms v).trans (ih (mS ms v))
theorem rIter_next {hp : List (List Vl)} {ms0 : List Nat} {i : Nat} (h : i < (rIter hp ms0 i).1.length) (hj : (rIter hp ms0 i).1[i] < hp.length) :
    rIter hp ms0 (i + 1) = (lS (rIter hp ms0 i).1 hp[(rIter hp ms0 i).1[i]], (rIter hp ms0 i).2 ++ [lV (rIter hp ms0 i).1 hp[(rIter hp ms0 i).1[i]]]) := by
  have e : hp.getD ((rIter hp ms0 i).1.getD i 0) [] = hp[(rIter hp ms0 i).1[i]] := by
    rw [List.getD_eq_getElem?_getD, List.getD_eq_getElem?_getD, List.getElem?_eq_getElem h]
    simp [hj]
  rw [rIter, if_pos h, e]

/-- The records: block Hb holds a slice for each, its fields lie in block rb of it. -/
structure RecRow (w : World) (lo Hb : Nat) (rb : Nat → Nat) (hp : List (List Vl)) : Prop where
  row : ∃ cur : Array Value, w.heap[Hb]? = some (.cells cur 94 (0, 0)) ∧ ∀ j (h : j < hp.length), cur[j]? = some (.slice (some ⟨rb j, 0, none⟩) hp[j].length hp[j].length)
  hlo : Hb < lo
  lt : ∀ j, j < hp.length → rb j < lo
  inj : ∀ i j, i < hp.length → j < hp.length → rb i = rb j → i = j
  off : ∀ j, j < hp.length → rb j ≠ Hb

/-- Behind i records. -/
structure RecDone (w : World) (rb : Nat → Nat) (hp : List (List Vl)) (ms : List Nat) (rs : List (List Vl)) (i : Nat) : Prop where
  todo : ∀ j (h : j < hp.length), j ∉ ms.take i → ValsIs w (rb j) hp[j]
  done : ∀ q (h : q < rs.length) (h2 : q < ms.length), ValsIs w (rb ms[q]) rs[q]
  len : ∀ q (h : q < rs.length) (h2 : q < ms.length) (h3 : ms[q] < hp.length), rs[q].length = hp[ms[q]].length

/-- Of what was there only the fields of the records, and from lo on what belongs to the numbering and rows of records, was written. -/
structure KpR (lo H : Nat) (rb : Nat → Nat) (w w' : World) : Prop where
  os : w'.os = w.os
  tape : w'.tape = w.tape
  output : w'.output = w.output
  size : w.heap.size ≤ w'.heap.size
  block : ∀ k o, w.heap[k]? = some o → (∀ j, j < H → k ≠ rb j) → (k < lo ∨ (Other o ∧ ¬ ofTypes [94] o)) → w'.heap[k]? = some o
theorem KpR.refl (lo H : Nat) (rb : Nat → Nat) (w : World) : KpR lo H rb w w := ⟨rfl, rfl, rfl, Nat.le_refl _, fun _ _ h _ _ => h⟩
theorem KpR.trans {lo H : Nat} {rb : Nat → Nat} {a b c : World} (h : KpR lo H rb a b) (k : KpR lo H rb b c) : KpR lo H rb a c :=
  ⟨k.os.trans h.os, k.tape.trans h.tape, k.output.trans h.output, Nat.le_trans h.size k.size, fun i o hi hg ho => k.block i o (h.block i o hi hg ho) hg ho⟩
theorem KpR.of {lo H : Nat} {rb : Nat → Nat} {w w' : World} (h : Below w.heap.size w w') : KpR lo H rb w w' :=
  ⟨h.os, h.tape, h.output, h.size, fun _ _ hi _ _ => block_kept hi h⟩
theorem KpR.kp {lo H g : Nat} {rb : Nat → Nat} {w w' : World} (h : Kp lo g w w') {j : Nat} (hj : j < H) (e : g = rb j) : KpR lo H rb w w' :=
  ⟨h.os, h.tape, h.output, h.size, fun k o hk hg ho => h.block k o hk (by rw [e]; exact hg j hj) (ho.imp id And.left)⟩
theorem KpR.grown {lo H B n : Nat} {rb : Nat → Nat} {v : Value} {xs : List Value} {w w' : World} (hown : w.ownsRow B 94 1 v n xs) (hg : w.grownBy w' v.ownBlock) (hlo : lo ≤ B) : KpR lo H rb w w' := by
  refine ⟨hg.os, hg.tape, hg.output, hg.size, fun k o hk _ ho => ?_⟩
  rw [hg.block k (lt_block hk) ?_]
  · exact hk
  · intro hkv
    rcases hown.2 with ⟨rfl, -⟩ | ⟨b, cap, cur, rfl, hb, hh, -⟩
    · simp [Value.ownBlock] at hkv
    · simp [Value.ownBlock] at hkv
      subst hkv
      rw [hh] at hk
      cases hk
      rcases ho with ho | ho
      · omega
      · exact ho.2 (by simp [ofTypes])

theorem NumAt.grown {w w' : World} {lo Hb nb mb base n : Nat} {mv v : Value} {ms : List Nat} {xs : List Value} (h : NumAt w lo Hb nb mb mv ms) (hown : w.ownsRow base 94 1 v n xs) (hg : w.grownBy w' v.ownBlock) : NumAt w' lo Hb nb mb mv ms := by
  refine ⟨grown_other hown h.num (by decide) hg, grown_map hown h.map hg, ⟨h.met.1, ?_⟩, h.lom, h.mbn⟩
  rcases h.met.2 with ⟨e, hn⟩ | ⟨b, cap, cur, e, hb, hh, r⟩
  · exact .inl ⟨e, hn⟩
  · exact .inr ⟨b, cap, cur, e, hb, grown_other hown hh (by decide) hg, r⟩

theorem RecDone.step {w w' : World} {lo H Hb : Nat} {rb : Nat → Nat} {hp : List (List Vl)} {ms : List Nat} {rs : List (List Vl)} {i : Nat} (h : RecDone w rb hp ms rs i) (hH : H = hp.length) (hR : RecRow w lo Hb rb hp) (hM : Met H ms) (hi : i < ms.length) (hl : rs.length = i) (hj : ms[i] < hp.length)
    (hk : Kp lo (rb ms[i]) w w') (hv : ValsIs w' (rb ms[i]) (lV ms hp[ms[i]])) : RecDone w' rb hp (lS ms hp[ms[i]]) (rs ++ [lV ms hp[ms[i]]]) (i + 1) := by
  subst hH
  have hpre := lS_pre hp[ms[i]] ms
  have get : ∀ q (h : q < ms.length) (h2 : q < (lS ms hp[ms[i]]).length), (lS ms hp[ms[i]])[q] = ms[q] := fun q h h2 => (hpre.getElem h).symm
  have htk : (lS ms hp[ms[i]]).take (i + 1) = ms.take i ++ [ms[i]] := by
    obtain ⟨ys, hy⟩ := hpre
    rw [← hy, List.take_append_of_le_length (by omega), take_more hi]
  refine ⟨fun j hjl hnm => ?_, fun q hq hq2 => ?_, fun q hq hq2 hq3 => ?_⟩
  · rw [htk] at hnm
    simp only [List.mem_append, List.mem_singleton, not_or] at hnm
    exact hk.low (h.todo j hjl hnm.1) (fun e => hnm.2 (hR.inj _ _ hjl hj e)) (hR.lt j hjl)
  · rw [List.length_append, List.length_singleton] at hq
    by_cases e : q = i
    · subst e
      rw [get q hi hq2, List.getElem_append_right (by omega)]
      simpa [hl] using hv
    · have hqi : q < i := by omega
      rw [get q (by omega) hq2, List.getElem_append_left (by omega)]
      refine hk.low (h.done q (by omega) (by omega)) (fun e2 => e ?_) (hR.lt _ (hM.lt _ (List.getElem_mem _)))
      have := hR.inj _ _ (hM.lt _ (List.getElem_mem _)) hj e2
      exact (List.getElem_inj hM.once).1 this
  · rw [List.length_append, List.length_singleton] at hq
    by_cases e : q = i
    · subst e
      have e1 := get q hi hq2
      simp only [e1]
      rw [List.getElem_append_right (by omega)]
      simp [hl, lV_len]
    · have e1 := get q (by omega) hq2
      simp only [e1]
      rw [List.getElem_append_left (by omega)]
      exact h.len q (by omega) (by omega) (by rw [← e1]; exact hq3)

theorem RecDone.kept {w w' : World} {lo Hb : Nat} {rb : Nat → Nat} {hp : List (List Vl)} {ms : List Nat} {rs : List (List Vl)} {i : Nat} (h : RecDone w rb hp ms rs i) (hR : RecRow w lo Hb rb hp) (hM : Met hp.length ms) (hb : ∀ k o, k < lo → w.heap[k]? = some o → w'.heap[k]? = some o) : RecDone w' rb hp ms rs i :=
  ⟨fun j hj hn => hb _ _ (hR.lt j hj) (h.todo j hj hn), fun q hq hq2 => hb _ _ (hR.lt _ (hM.lt _ (List.getElem_mem _))) (h.done q hq hq2), h.len⟩
theorem RecRow.kept {w w' : World} {lo Hb : Nat} {rb : Nat → Nat} {hp : List (List Vl)} (h : RecRow w lo Hb rb hp) (hb : ∀ o, w.heap[Hb]? = some o → w'.heap[Hb]? = some o) : RecRow w' lo Hb rb hp := by
  obtain ⟨c, h1, h2⟩ := h.row
  exact ⟨⟨c, hb _ h1, h2⟩, h.hlo, h.lt, h.inj, h.off⟩
end Go.Proofs.YtcfbahaokmhbkaaGreat
