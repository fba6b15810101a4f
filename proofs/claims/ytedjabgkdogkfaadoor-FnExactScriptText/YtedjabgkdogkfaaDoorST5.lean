/-
  The rows of words of all acts; impl.ScriptText.
-/
import Derived.Test.YtedjabgkdogkfaaDoorST4
namespace Go.Proofs.YtedjabgkdogkfaaDoor
open Go.RowKit

theorem LineAt.setCell {w : World} {lo : Nat} {v : Value} {ws : List ByteArray} (h : LineAt w lo v ws) {p : Addr} (hp : p.block < lo) (u : Value) : LineAt (w.setCell p u) lo v ws := by
  obtain ⟨g, cap, cur, h1, h2, h3, h4⟩ := h
  exact ⟨g, cap, cur, h1, h2, by rw [Below.heap_setCell _ _ _ _ (by omega)]; exact h3, h4⟩
theorem actW_pos (x : Ac) : 0 < (actW x).length := by
  unfold actW
  split
  · simp
  split
  · simp
  split
  · simp
  split
  · simp
  · simp

set_option maxRecDepth 100000 in
set_option maxHeartbeats 2000000 in
theorem eachA_any (a : Option Addr) (xs : List Ac) (cap : Nat) (w : World) (hn : xs.length ≤ 60) (hok : ∀ x ∈ xs, AcOk x) (hr : ∀ x ∈ xs, ∀ y ∈ x.ss, siR y) (hm : ActsAt w a xs) (htab : TabP w) :
    Calls Tryd.prog 17 #[.slice a xs.length cap, .func (.func 18) #[] #[]] w fun e w' => e = .returned (.slice (some ⟨w.heap.size, 0, none⟩) xs.length xs.length) ∧ RowsAt w' (some ⟨w.heap.size, 0, none⟩) (acsW xs) ∧ Below w.heap.size w w' := by
  obtain ⟨i0, hi, hz0, hz1, hz2⟩ := info_parts infoS44
  have HM := hid hm
  have HT := hid htab
  have HO := hid hok
  have HR := hid hr
  clear hm htab hok hr
  go_enter Tryd.func17, Tryd.ntmps17
  go_wp2_with (first | (at_make; refine wpList_make_full _ rfl _ _ 42 rfl w.heap.size 44 i0 (.slice none 0 0) 1 Tryd.underlying42 hi hz0 hz1 _ _ _ _ xs.length rfl rfl rfl rfl (by rw [hz2]; omega) (by unfold maxLen; omega) (Nat.le_refl _) ?_; intro w1 hown hgrow))
  obtain ⟨cur0, hblk, hsz⟩ := made_block hown
  have hb0 : Below w.heap.size w w1 := (Below.refl _ _).grown hgrow (Nat.le_refl _) (by intro k hk; cases hk)
  clear hown hgrow hi hz0 hz1 hz2
  go_loopw [13] (fun i wr => ∃ (k : Nat) (cur : Array Value), k ≤ xs.length ∧ i = .int .i64 k ∧ wr.heap[w.heap.size]? = some (.cells cur 44 (0, 0)) ∧ cur.size = xs.length ∧ (∀ j (h : j < xs.length), j < k → ∃ u, cur[j]? = some u ∧ LineAt wr (w.heap.size + 1) u (actW xs[j])) ∧ Below w.heap.size w wr) (fun i _ => xs.length - (intOf i).toNat)
  case atStart => exact ⟨0, cur0, by omega, rfl, hblk, by omega, fun j _ h => by omega, hb0⟩
  case round =>
    obtain ⟨k, cur, hk, rfl, hblk, hsz, hdone, hbr⟩ := hrel
    by_cases hlt : k < xs.length
    · obtain ⟨b, off, sa, cp, rfl, c1, c2, c3, c4, c5, c6, c7⟩ := (HM.out.mono hbr) k hlt
      have hbA : Below wr.heap.size wr (wr.alloc (.cells #[.int .i64 xs[k].k, .int .i64 xs[k].a, .int .i64 xs[k].b, .int .i64 xs[k].l, .bool xs[k].s, .slice sa xs[k].ss.length cp] 37)) := (Below.refl _ _).alloc (Nat.le_refl _) _
      have hBA := hbr.trans (hbA.mono hbr.size)
      have hblkA := block_kept hblk hbA
      have hszA := lt_block hblkA
      have HC := hid (line_any xs[k] sa cp _ (HO.out _ (List.getElem_mem hlt)) (HR.out _ (List.getElem_mem hlt)) (c7.mono hbA) (HT.out.below hBA))
      have HP : Hid (0 < (actW xs[k]).length) := actW_pos _
      have HD : Hid (∀ j (h : j < xs.length), j < k → ∃ u, cur[j]? = some u ∧ LineAt (wr.alloc (.cells #[.int .i64 xs[k].k, .int .i64 xs[k].a, .int .i64 xs[k].b, .int .i64 xs[k].l, .bool xs[k].s, .slice sa xs[k].ss.length cp] 37)) (w.heap.size + 1) u (actW xs[j])) := fun j h h2 => by
        obtain ⟨u, hu, hl⟩ := hdone j h h2
        exact ⟨u, hu, hl.mono hbA⟩
      clear hdone hbA hbr hblk c7
      go_wp2_with fail
      refine HC.out.mono ?_
      rintro e w2 ⟨v, rfl, hown, hb2⟩
      have hline : LineAt w2 (w.heap.size + 1) v (actW xs[k]) := (LineAt.of_own hown HP.out).low hszA
      obtain ⟨gv, cpv, curv, rfl, q1, q2⟩ := hline
      have hline : LineAt w2 (w.heap.size + 1) (.slice (some ⟨gv, 0, none⟩) (actW xs[k]).length cpv) (actW xs[k]) := ⟨gv, cpv, curv, rfl, q1, q2⟩
      clear q1 q2
      have hblk2 := block_kept hblkA hb2
      have hfz := block_free hblk2
      have hcl : w2.cell? ⟨w.heap.size, k, none⟩ = some cur[k] := by rw [block_cell hblk2]; simp
      have HB : Hid (Below w.heap.size w w2) := hBA.trans (hb2.mono hBA.size)
      have HD2 : Hid (∀ j (h : j < xs.length), j < k → ∃ u, cur[j]? = some u ∧ LineAt w2 (w.heap.size + 1) u (actW xs[j])) := fun j h h2 => by
        obtain ⟨u, hu, hl⟩ := HD.out j h h2
        exact ⟨u, hu, hl.mono hb2⟩
      have HL := hid hline
      clear hb2 hBA hblkA HC hown hline HD HP hszA c1 c2 c3 c4 c5 c6
      go_wp2
      go_roundw
      case rel =>
        refine ⟨k + 1, cur.setIfInBounds k (.slice (some ⟨gv, 0, none⟩) (actW xs[k]).length cpv), by omega, by go_num, block_set hblk2 _, by simpa using hsz, ?_, HB.out.setCell (Nat.le_refl _) _⟩
        intro j hj hjk
        by_cases e : j = k
        · subst e
          exact ⟨_, set_self _ (by omega), HL.out.setCell (by simp) _⟩
        · obtain ⟨u, hu, hl⟩ := HD2.out j hj (by omega)
          exact ⟨u, by rw [set_else _ (by omega)]; exact hu, hl.setCell (by simp) _⟩
      case measure => simp [intOf]; omega
    · have hkl : k = xs.length := by omega
      have HD : Hid (RowsAt wr (some ⟨w.heap.size, 0, none⟩) (acsW xs) ∧ Below w.heap.size w wr) := by
        refine ⟨?_, hbr⟩
        intro j hj
        have hj' : j < xs.length := by unfold acsW at hj; rwa [List.length_map] at hj
        obtain ⟨u, hu, hl⟩ := hdone j hj' (by omega)
        refine ⟨w.heap.size, 0, u, rfl, by rw [block_cell hblk, Nat.zero_add]; exact hu, ?_⟩
        have e : (acsW xs)[j] = actW xs[j] := by simp [acsW]
        rw [e]
        exact hl.low (Nat.zero_le _)
      clear hdone hbr
      go_wp2
      go_ret
      exact ⟨rfl, HD.out.1, HD.out.2⟩

set_option maxRecDepth 100000 in
set_option maxHeartbeats 2000000 in
theorem iScript_any (a : Option Addr) (xs : List Ac) (cap : Nat) (w : World) (hn : xs.length ≤ 1048576) (hc : ActsSmall xs) (hr : ∀ x ∈ xs, ∀ y ∈ x.ss, siR y) (hm : ActsAt w a xs) (hL : LimAt w) (htab : TabP w) :
    Calls Tryd.prog 7 #[.slice a xs.length cap] w fun e w' => ∃ s, e = .returned (.string s) ∧ TextIs xs s ∧ Below w.heap.size w w' := by
  have HM := hid hm
  have HT := hid htab
  have HR := hid hr
  have HL := hid hL
  have HC := hid hc
  clear hm htab hr hL hc
  by_cases h60 : 60 < xs.length
  · go_enter Tryd.func7, Tryd.ntmps7
    go_wp2
    go_ret
    exact ⟨⟨#[]⟩, rfl, ⟨fun h => by have := h.1; omega, fun _ => rfl⟩, Below.refl _ _⟩
  have HK := hid (contains_any a xs cap w HL.out hn HC.out HM.out)
  go_enter Tryd.func7, Tryd.ntmps7
  go_wp2_with fail
  refine HK.out.mono ?_
  rintro e w1 ⟨r, rfl, hrr, hb1⟩
  clear HK
  cases r
  case true =>
    have HN : Hid (¬ Acts1 xs) := fun h => of_yes hrr h.2
    clear hrr
    go_wp2
    go_ret
    exact ⟨⟨#[]⟩, rfl, ⟨fun h => absurd h HN.out, fun _ => rfl⟩, hb1⟩
  case false =>
    have hall : ∀ x ∈ xs, AcOk x := Classical.byContradiction (of_no hrr)
    have HE := hid (eachA_any a xs cap w1 (by omega) hall HR.out (HM.out.mono hb1) (HT.out.below hb1))
    have HA := hid hall
    clear hrr hall
    go_wp2_with fail
    refine HE.out.mono ?_
    rintro e w2 ⟨rfl, hrow, hb2⟩
    have HLT := hid (linesText_any (some ⟨w1.heap.size, 0, none⟩) (acsW xs) xs.length w2 (by unfold acsW; rw [List.length_map]; omega) (by
      intro l hl
      unfold acsW at hl
      obtain ⟨x, hx, rfl⟩ := List.mem_map.1 hl
      exact actW_ok x (HA.out x hx) (HR.out x hx)) hrow)
    rw [show (acsW xs).length = xs.length by unfold acsW; rw [List.length_map]] at HLT
    have hB := hb1.trans (hb2.mono hb1.size)
    clear hrow HE hb1 hb2
    go_wp2_with fail
    refine HLT.out.mono ?_
    rintro e w3 ⟨rfl, hb3⟩
    have hB3 := hB.trans (hb3.mono hB.size)
    have HF : Hid (TextIs xs (linesT ⟨#[]⟩ (acsW xs))) := ⟨fun _ => rfl, fun h => absurd ⟨by omega, HA.out⟩ h⟩
    obtain ⟨s, hs⟩ : ∃ s, s = linesT ⟨#[]⟩ (acsW xs) := ⟨_, rfl⟩
    rw [← hs] at HF ⊢
    clear hs HLT hb3 hB
    go_wp2
    go_ret
    exact ⟨s, rfl, HF.out, hB3⟩
end Go.Proofs.YtedjabgkdogkfaaDoor
