/-
  What the document's ScriptText gives.
-/
import Derived.Test.YtedjabgkdogkfaaDoorSP1
import Derived.Test.YtedjabgkdogkfaaDoorST1
namespace Go.Proofs.YtedjabgkdogkfaaDoor
open Go.RowKit

theorem iff_no' {p : Prop} (h : false = true ↔ p) : ¬ p := fun h' => by have := h.2 h'; cases this

set_option maxRecDepth 100000 in
set_option maxHeartbeats 4000000 in
theorem sScript_any (a : Option Addr) (xs : List Ac) (cap : Nat) (w : World) (hn : xs.length ≤ 1048576) (hc : ActsSmall xs) (hr : ∀ x ∈ xs, ∀ y ∈ x.ss, siR y) (hm : ActsAt w a xs) :
    Calls Tryd.prog 5 #[.slice a xs.length cap] w fun e w' => ∃ s, e = .returned (.string s) ∧ TextIs xs s ∧ Below w.heap.size w w' := by
  obtain ⟨i0, hi, hz0, hz1, hz2⟩ := info_parts info5
  have HM := hid hm
  have HR := hid hr
  have HC := hid hc
  clear hm hr hc
  by_cases h60 : 60 < xs.length
  · go_enter Tryd.func5, Tryd.ntmps5
    go_wp2
    go_ret
    exact ⟨⟨#[]⟩, rfl, ⟨fun h => by have := h.1; omega, fun _ => rfl⟩, (Below.refl _ _).alloc (Nat.le_refl _) _⟩
  have hb0 : Below w.heap.size w (w.alloc (.cells #[] 5)) := (Below.refl _ _).alloc (Nat.le_refl _) _
  go_enter Tryd.func5, Tryd.ntmps5
  have hown0 : (w.alloc (.cells #[] 5)).ownsRow w.heap.size 5 1 (.slice (some ⟨w.heap.size, 0, none⟩) 0 0) 0 [] := World.ownsRow_lit w #[] 0 (Nat.le_refl _) (by decide) rfl
  have hT0 : TBuf (w.alloc (.cells #[] 5)) w.heap.size (.slice (some ⟨w.heap.size, 0, none⟩) 0 0) (linesT ⟨#[]⟩ (acsW (xs.take 0))) := hown0
  obtain ⟨W, hW⟩ : ∃ W, W = w.alloc (.cells #[] 5) := ⟨_, rfl⟩
  obtain ⟨va, hva⟩ : ∃ v, v = Value.slice (some ⟨w.heap.size, 0, none⟩) 0 0 := ⟨_, rfl⟩
  rw [← hW] at hb0 hT0
  rw [← hva] at hT0
  have hE : a.isSome = true ∨ xs = [] := by
    by_cases e : xs = []
    · exact .inr e
    · obtain ⟨b, off, sa, cp, rfl, -⟩ := HM.out 0 (by cases xs <;> simp_all)
      exact .inl rfl
  clear hown0 hE
  go_upto_region 4 with fail
  rw [← hW, ← hva]
  clear hW hva
  have HB := hid hb0
  clear hb0
  go_wp2_with fail
  go_loopw [3, 4] (fun v i wr => ∃ (k : Nat), k ≤ xs.length ∧ i = .int .i64 k ∧ Hid (∀ x ∈ xs.take k, AcOk x) ∧ TBuf wr w.heap.size v (linesT ⟨#[]⟩ (acsW (xs.take k))) ∧ Below w.heap.size w wr) (fun _ i _ => xs.length - (intOf i).toNat)
  case atStart => exact ⟨0, by omega, rfl, (by intro f hf; simp at hf), hT0, HB.out⟩
  case round =>
    clear hT0
    obtain ⟨k, hk, rfl, hall, hbuf, hb⟩ := hrel
    by_cases hlt : k < xs.length
    · obtain ⟨b, off, sa, cp, rfl, c1, c2, c3, c4, c5, c6, c7⟩ := (HM.out.mono hb) k hlt
      have HA := hid (sAct_any xs[k].k xs[k].a xs[k].b xs[k].l xs[k].s sa xs[k].ss.length cp wr (HC.out _ (List.getElem_mem hlt)))
      have HX : Hid (xs[k] ∈ xs) := List.getElem_mem hlt
      have HT : Hid (AcOk xs[k] → ∀ x ∈ xs.take (k + 1), AcOk x) := fun h => take_succ_mem (p := AcOk) hlt hall.out h
      have HSI := hid c7
      have HC2 : Hid (∀ w', Below wr.heap.size wr w' → w'.cell? ⟨b, off + k * 6, none⟩ = some (.int .i64 xs[k].k) ∧ w'.cell? ⟨b, off + k * 6 + 1, none⟩ = some (.int .i64 xs[k].a) ∧ w'.cell? ⟨b, off + k * 6 + 2, none⟩ = some (.int .i64 xs[k].b) ∧ w'.cell? ⟨b, off + k * 6 + 3, none⟩ = some (.int .i64 xs[k].l) ∧ w'.cell? ⟨b, off + k * 6 + 4, none⟩ = some (.bool xs[k].s) ∧ w'.cell? ⟨b, off + k * 6 + 5, none⟩ = some (.slice sa xs[k].ss.length cp)) := fun w' h => ⟨cell_later h c1, cell_later h c2, cell_later h c3, cell_later h c4, cell_later h c5, cell_later h c6⟩
      have HS : Hid (linesT ⟨#[]⟩ (acsW (xs.take (k + 1))) = linesT ⟨#[]⟩ (acsW (xs.take k)) ++ (lineJ (actW xs[k]) ++ ⟨#[10]⟩)) := by
        show _ = _
        unfold acsW
        rw [List.map_take, List.map_take, linesT_succ _ _ _ (by simpa using hlt), List.getElem_map]
      have HSZ : Hid ((∀ x ∈ xs.take k, AcOk x) → (linesT ⟨#[]⟩ (acsW (xs.take k))).size ≤ 12000000000) := fun h => by
        have h1 := linesT_size (acsW (xs.take k)) (fun l hl => by
          unfold acsW at hl
          obtain ⟨x, hx, rfl⟩ := List.mem_map.1 hl
          exact actW_ok x (h x hx) (HR.out x (List.mem_of_mem_take hx))) (acsW (xs.take k)).length (Nat.le_refl _)
        rw [List.take_length] at h1
        have h2 : (acsW (xs.take k)).length ≤ 60 := by unfold acsW; rw [List.length_map, List.length_take]; omega
        have h3 : 200000000 * (acsW (xs.take k)).length ≤ 200000000 * 60 := Nat.mul_le_mul_left _ h2
        omega
      have hz := HSZ.out hall.out
      clear HSZ c7
      go_wp2_with fail
      refine HA.out.mono ?_
      rintro e w2 ⟨⟨r, rfl, hrr⟩, hb'⟩
      have hB := hb.trans (hb'.mono hb.size)
      have hbuf2 := hbuf.below hb'
      have hcs := HC2.out w2 hb'
      clear c1 c2 c3 c4 c5 c6 HA hbuf hb
      cases r
      · have HN : Hid (¬ AcOk xs[k]) := iff_no' hrr
        clear hrr hcs hbuf2
        go_wp2
        go_ret
        exact ⟨⟨#[]⟩, rfl, ⟨fun h => absurd (h.2 _ HX.out) HN.out, fun _ => rfl⟩, hB⟩
      · have hok : AcOk xs[k] := hrr.1 rfl
        have HLN := hid (sline_any xs[k] sa cp w2 hok (HR.out _ HX.out) (HSI.out.mono hb'))
        have hjs := lineJ_size (actW xs[k]) (actW_ok _ hok (HR.out _ HX.out)).2
        have hjl := (actW_ok _ hok (HR.out _ HX.out)).1
        have hjz : (lineJ (actW xs[k])).size ≤ 183000000 := by omega
        have HOK := hid (HT.out hok)
        obtain ⟨d1, d2, d3, d4, d5, d6⟩ := hcs
        clear hrr hok hjs hjl HT hb' HC2
        generalize lineJ (actW xs[k]) = t at *
        generalize linesT ⟨#[]⟩ (acsW (xs.take k)) = sj at *
        have z1 : ¬ 9223372036854775807 < t.size + 1 := by omega
        have e10 : (t ++ ⟨#[10]⟩ : ByteArray).size = t.size + 1 := by rw [ByteArray.size_append]; rfl
        obtain ⟨u, hu⟩ : ∃ u, t ++ ⟨#[10]⟩ = u := ⟨_, rfl⟩
        rw [hu] at e10 HS
        go_wp2_with fail
        refine HLN.out.mono ?_
        rintro e w3 ⟨rfl, hb3⟩
        have hB3 := hB.trans (hb3.mono hB.size)
        have hbuf3 := hbuf2.below hb3
        clear d1 d2 d3 d4 d5 d6 HLN hb3 hB hbuf2
        go_wp2_with (first | (at_builtin; refine Lib.wpList_append_own_string _ rfl _ _ 33 9 rfl w.heap.size 5 i0 Tryd.underlying33 Tryd.underlying9 hi hz0 hz1 hz2 _ _ _ rfl hbuf3 u rfl (by unfold maxLen; omega) (by omega) hB3.size ?_; intro v4 w4 hown4 hgrow4 hnil4))
        have hbufN : TBuf w4 w.heap.size v4 (sj ++ u) := TBuf.add hown4
        have hB4 := hB3.trans ((Keeps.grown (ts := [5]) hbuf3 hgrow4 (by decide)).toBelow hB3.size)
        clear hown4 hgrow4 hnil4 hbuf3 hB3 e10 hu z1
        go_wp2
        go_roundw
        case rel => exact ⟨k + 1, by omega, by go_num, HOK.out, by rw [HS.out]; exact hbufN, hB4⟩
        case measure => simp [intOf]; omega
    · have HE : Hid (∀ x ∈ xs, AcOk x) := by
        have := hall.out
        rwa [List.take_of_length_le (by omega)] at this
      rw [List.take_of_length_le (by omega)] at hbuf
      have hcv := TBuf.text hbuf
      have HF : Hid (TextIs xs (linesT ⟨#[]⟩ (acsW xs))) := ⟨fun _ => rfl, fun h => absurd ⟨by omega, HE.out⟩ h⟩
      generalize linesT ⟨#[]⟩ (acsW xs) = t at *
      clear hbuf
      go_wp2
      go_ret
      exact ⟨t, rfl, HF.out, hb⟩
end Go.Proofs.YtedjabgkdogkfaaDoor
