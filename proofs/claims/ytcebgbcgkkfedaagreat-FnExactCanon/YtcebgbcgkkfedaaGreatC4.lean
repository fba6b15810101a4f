/-
  impl's numbered: the records that were met, with their new fields.
-/
import Derived.Test.YtcebgbcgkkfedaaGreatC3
namespace Go.Proofs.YtcebgbcgkkfedaaGreat
open Go.RowKit

theorem mS_pre (ms : List Nat) (v : Vl) : ms <+: mS ms v := by
  unfold mS
  split
  · unfold seen
    split
    · exact List.prefix_refl _
    · exact List.prefix_append _ _
  · exact List.prefix_refl _
theorem lS_pre (vs : List Vl) : ∀ ms : List Nat, ms <+: lS ms vs := by
  induction vs with
  | nil => intro ms; exact List.prefix_refl _
  | cons v vs ih => intro ms; exact (mS_pre ms v).trans (ih (mS ms v))
theorem rIter_next {hp : List (List Vl)} {ms0 : List Nat} {i : Nat} (h : i < (rIter hp ms0 i).1.length) (hj : (rIter hp ms0 i).1[i] < hp.length) :
    rIter hp ms0 (i + 1) = (lS (rIter hp ms0 i).1 hp[(rIter hp ms0 i).1[i]], (rIter hp ms0 i).2 ++ [lV (rIter hp ms0 i).1 hp[(rIter hp ms0 i).1[i]]]) := by
  have e : hp.getD ((rIter hp ms0 i).1.getD i 0) [] = hp[(rIter hp ms0 i).1[i]] := by
    rw [List.getD_eq_getElem?_getD, List.getD_eq_getElem?_getD, List.getElem?_eq_getElem h]
    simp [hj]
  rw [rIter, if_pos h, e]

/-- The records: block Hb holds a slice for each, its fields lie in block rb of it. -/
structure RecRow (w : World) (lo Hb : Nat) (rb : Nat → Nat) (hp : List (List Vl)) : Prop where
  row : ∃ cur : Array Value, w.heap[Hb]? = some (.cells cur 94 (0, 0)) ∧ ∀ j (h : j < hp.length), cur[j]? = some (.slice (some ⟨rb j, 0, none⟩) hp[j].length hp[j].length)
  hlo : Hb < lo
  lt : ∀ j, j < hp.length → rb j < lo
  inj : ∀ i j, i < hp.length → j < hp.length → rb i = rb j → i = j
  off : ∀ j, j < hp.length → rb j ≠ Hb

/-- Behind i records. -/
structure RecDone (w : World) (rb : Nat → Nat) (hp : List (List Vl)) (ms : List Nat) (rs : List (List Vl)) (i : Nat) : Prop where
  todo : ∀ j (h : j < hp.length), j ∉ ms.take i → ValsIs w (rb j) hp[j]
  done : ∀ q (h : q < rs.length) (h2 : q < ms.length), ValsIs w (rb ms[q]) rs[q]
  len : ∀ q (h : q < rs.length) (h2 : q < ms.length) (h3 : ms[q] < hp.length), rs[q].length = hp[ms[q]].length

/-- Of what was there only the fields of the records, and from lo on what belongs to the numbering and rows of records, was written. -/
structure KpR (lo H : Nat) (rb : Nat → Nat) (w w' : World) : Prop where
  os : w'.os = w.os
  tape : w'.tape = w.tape
  output : w'.output = w.output
  size : w.heap.size ≤ w'.heap.size
  block : ∀ k o, w.heap[k]? = some o → (∀ j, j < H → k ≠ rb j) → (k < lo ∨ (Other o ∧ ¬ ofTypes [94] o)) → w'.heap[k]? = some o
theorem KpR.refl (lo H : Nat) (rb : Nat → Nat) (w : World) : KpR lo H rb w w := ⟨rfl, rfl, rfl, Nat.le_refl _, fun _ _ h _ _ => h⟩
theorem KpR.trans {lo H : Nat} {rb : Nat → Nat} {a b c : World} (h : KpR lo H rb a b) (k : KpR lo H rb b c) : KpR lo H rb a c :=
  ⟨k.os.trans h.os, k.tape.trans h.tape, k.output.trans h.output, Nat.le_trans h.size k.size, fun i o hi hg ho => k.block i o (h.block i o hi hg ho) hg ho⟩
theorem KpR.of {lo H : Nat} {rb : Nat → Nat} {w w' : World} (h : Below w.heap.size w w') : KpR lo H rb w w' :=
  ⟨h.os, h.tape, h.output, h.size, fun _ _ hi _ _ => block_kept hi h⟩
theorem KpR.kp {lo H g : Nat} {rb : Nat → Nat} {w w' : World} (h : Kp lo g w w') {j : Nat} (hj : j < H) (e : g = rb j) : KpR lo H rb w w' :=
  ⟨h.os, h.tape, h.output, h.size, fun k o hk hg ho => h.block k o hk (by rw [e]; exact hg j hj) (ho.imp id And.left)⟩
theorem KpR.grown {lo H B n : Nat} {rb : Nat → Nat} {v : Value} {xs : List Value} {w w' : World} (hown : w.ownsRow B 94 1 v n xs) (hg : w.grownBy w' v.ownBlock) (hlo : lo ≤ B) : KpR lo H rb w w' := by
  refine ⟨hg.os, hg.tape, hg.output, hg.size, fun k o hk _ ho => ?_⟩
  rw [hg.block k (lt_block hk) ?_]
  · exact hk
  · intro hkv
    rcases hown.2 with ⟨rfl, -⟩ | ⟨b, cap, cur, rfl, hb, hh, -⟩
    · simp [Value.ownBlock] at hkv
    · simp [Value.ownBlock] at hkv
      subst hkv
      rw [hh] at hk
      cases hk
      rcases ho with ho | ho
      · omega
      · exact ho.2 (by simp [ofTypes])

theorem NumAt.grown {w w' : World} {lo Hb H hcap nb mb base n : Nat} {mv v : Value} {ms : List Nat} {xs : List Value} (h : NumAt w lo Hb H hcap nb mb mv ms) (hown : w.ownsRow base 94 1 v n xs) (hg : w.grownBy w' v.ownBlock) : NumAt w' lo Hb H hcap nb mb mv ms := by
  refine ⟨grown_other hown h.num (by decide) hg, grown_map hown h.map hg, ⟨h.met.1, ?_⟩, h.lom, h.mbn⟩
  rcases h.met.2 with ⟨e, hn⟩ | ⟨b, cap, cur, e, hb, hh, r⟩
  · exact .inl ⟨e, hn⟩
  · exact .inr ⟨b, cap, cur, e, hb, grown_other hown hh (by decide) hg, r⟩

theorem RecDone.step {w w' : World} {lo H Hb : Nat} {rb : Nat → Nat} {hp : List (List Vl)} {ms : List Nat} {rs : List (List Vl)} {i : Nat} (h : RecDone w rb hp ms rs i) (hH : H = hp.length) (hR : RecRow w lo Hb rb hp) (hM : Met H ms) (hi : i < ms.length) (hl : rs.length = i) (hj : ms[i] < hp.length)
    (hk : Kp lo (rb ms[i]) w w') (hv : ValsIs w' (rb ms[i]) (lV ms hp[ms[i]])) : RecDone w' rb hp (lS ms hp[ms[i]]) (rs ++ [lV ms hp[ms[i]]]) (i + 1) := by
  subst hH
  have hpre := lS_pre hp[ms[i]] ms
  have get : ∀ q (h : q < ms.length) (h2 : q < (lS ms hp[ms[i]]).length), (lS ms hp[ms[i]])[q] = ms[q] := fun q h h2 => (hpre.getElem h).symm
  have htk : (lS ms hp[ms[i]]).take (i + 1) = ms.take i ++ [ms[i]] := by
    obtain ⟨ys, hy⟩ := hpre
    rw [← hy, List.take_append_of_le_length (by omega), take_more hi]
  refine ⟨fun j hjl hnm => ?_, fun q hq hq2 => ?_, fun q hq hq2 hq3 => ?_⟩
  · rw [htk] at hnm
    simp only [List.mem_append, List.mem_singleton, not_or] at hnm
    exact hk.low (h.todo j hjl hnm.1) (fun e => hnm.2 (hR.inj _ _ hjl hj e)) (hR.lt j hjl)
  · rw [List.length_append, List.length_singleton] at hq
    by_cases e : q = i
    · subst e
      rw [get q hi hq2, List.getElem_append_right (by omega)]
      simpa [hl] using hv
    · have hqi : q < i := by omega
      rw [get q (by omega) hq2, List.getElem_append_left (by omega)]
      refine hk.low (h.done q (by omega) (by omega)) (fun e2 => e ?_) (hR.lt _ (hM.lt _ (List.getElem_mem _)))
      have := hR.inj _ _ (hM.lt _ (List.getElem_mem _)) hj e2
      exact (List.getElem_inj hM.once).1 this
  · rw [List.length_append, List.length_singleton] at hq
    by_cases e : q = i
    · subst e
      have e1 := get q hi hq2
      simp only [e1]
      rw [List.getElem_append_right (by omega)]
      simp [hl, lV_len]
    · have e1 := get q (by omega) hq2
      simp only [e1]
      rw [List.getElem_append_left (by omega)]
      exact h.len q (by omega) (by omega) (by rw [← e1]; exact hq3)

theorem RecDone.kept {w w' : World} {lo Hb : Nat} {rb : Nat → Nat} {hp : List (List Vl)} {ms : List Nat} {rs : List (List Vl)} {i : Nat} (h : RecDone w rb hp ms rs i) (hR : RecRow w lo Hb rb hp) (hM : Met hp.length ms) (hb : ∀ k o, k < lo → w.heap[k]? = some o → w'.heap[k]? = some o) : RecDone w' rb hp ms rs i :=
  ⟨fun j hj hn => hb _ _ (hR.lt j hj) (h.todo j hj hn), fun q hq hq2 => hb _ _ (hR.lt _ (hM.lt _ (List.getElem_mem _))) (h.done q hq hq2), h.len⟩
theorem RecRow.kept {w w' : World} {lo Hb : Nat} {rb : Nat → Nat} {hp : List (List Vl)} (h : RecRow w lo Hb rb hp) (hb : ∀ o, w.heap[Hb]? = some o → w'.heap[Hb]? = some o) : RecRow w' lo Hb rb hp := by
  obtain ⟨c, h1, h2⟩ := h.row
  exact ⟨⟨c, hb _ h1, h2⟩, h.hlo, h.lt, h.inj, h.off⟩
end Go.Proofs.YtcebgbcgkkfedaaGreat
