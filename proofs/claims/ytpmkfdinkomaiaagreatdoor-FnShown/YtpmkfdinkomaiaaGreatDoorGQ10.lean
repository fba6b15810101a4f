/-
  The program's line reader: what takeFunc does.
  What the program's opsByWord gives: a map of the words.
-/
import Derived.Test.YtpmkfdinkomaiaaGreatDoorR6
import Derived.Maps.Own
import Derived.Maps.OwnSet
namespace Go.Proofs.YtpmkfdinkomaiaaGreatDoor
open Go.RowKit

theorem own_strs {w : World} {B c : Nat} {a : Option Addr} {ws : List ByteArray} (h : w.ownsRow B 9 1 (.slice a ws.length c) ws.length (ws.map .string)) (h0 : 0 < ws.length) : ∃ g, a = some ⟨g, 0, none⟩ ∧ ∀ i (hi : i < ws.length), w.cell? ⟨g, i, none⟩ = some (.string ws[i]) := by
  rcases h.2 with ⟨-, hn⟩ | ⟨g, cap, cur, hv, hb, hh, hn, -, hs, htake⟩
  · omega
  · cases hv
    refine ⟨g, rfl, fun i hi => ?_⟩
    rw [block_cell hh]
    have h1 : (cur.toList.take (ws.length * 1))[i]? = (ws.map Value.string)[i]? := by rw [htake]
    rw [List.getElem?_take_of_lt (by omega)] at h1
    simpa [hi] using h1
theorem info55c : (Tryz.prog.info? 48).map (fun i => (i.zero, i.size, i.bytes)) = some (some (.agg #[.int .i64 0, .int .i64 0, .slice none 0 0]), 3, 40) := by kernel_rfl

def funcT : ByteArray := ⟨#[102, 117, 110, 99]⟩
def FuncPost (R base : Nat) (mv : Value) (a1 : Option Addr) (c1 : Nat) (a2 : Option Addr) (c2 : Nat) (ts : List ByteArray) (fs : List Fn) (cs : List (Option Addr × Nat)) (line : ByteArray) (w : World) (e : Ending) (w' : World) : Prop :=
  ∃ ws, WordsOf line ws ∧ Below R w w' ∧
    ((∃ p l a2' c2', e = .returned (.bool true) ∧ (∀ P L, Fits P → Fits L → ws = [funcT, numText P, numText L] → p = P ∧ l = L) ∧ LineAt w' R mv a1 ts.length c1 a2' (fs.length + 1) c2' ∧ ModOwn w' base a1 c1 a2' c2' ts (fs ++ [⟨p, l, []⟩]) (cs ++ [(none, 0)])) ∨
     (e = .returned (.bool false) ∧ (∀ P L, Fits P → Fits L → ws ≠ [funcT, numText P, numText L]) ∧ LineAt w' R mv a1 ts.length c1 a2 fs.length c2 ∧ ModOwn w' base a1 c1 a2 c2 ts fs cs))

set_option maxRecDepth 100000 in
set_option maxHeartbeats 4000000 in
theorem takeFunc_any (R base : Nat) (mv : Value) (a1 a2 : Option Addr) (c1 c2 : Nat) (ts : List ByteArray) (fs : List Fn) (cs : List (Option Addr × Nat)) (line : ByteArray) (w : World)
    (hR : LineAt w R mv a1 ts.length c1 a2 fs.length c2) (hm : ModOwn w base a1 c1 a2 c2 ts fs cs) (hRb : R < base) (hbw : base ≤ w.heap.size) (hfs : fs.length ≤ 1048576) (hls : line.size ≤ 1048576) (hv : Vars w) :
    Calls Tryz.prog 47 #[.pointer (some ⟨R, 0, none⟩), .string line] w (FuncPost R base mv a1 c1 a2 c2 ts fs cs line w) := by
  obtain ⟨i0, hi, hz0, hz1, hz2⟩ := info_parts info55c
  go_enter Tryz.func47, Tryz.ntmps47
  go_wp2_with fail
  refine (words_any line _ hls).mono ?_
  rintro e w1 ⟨ws, a, c, rfl, hW, hown1, hb1⟩
  have hR1 : LineAt w1 R mv a1 ts.length c1 a2 fs.length c2 := block_kept hR hb1
  have hm1 := hm.below hb1
  have hv1 := hv.below hb1
  have hbR1 : Below R w w1 := hb1.mono (by omega)
  have hz1' : base ≤ w1.heap.size := Nat.le_trans hbw hb1.size
  obtain ⟨g, rfl, hcs⟩ := own_strs hown1 hW.one
  have hwl := hW.few
  by_cases h3 : ws.length = 3
  · obtain ⟨x0, x1, x2, rfl⟩ : ∃ x0 x1 x2, ws = [x0, x1, x2] := by
      match ws, h3 with
      | [x0, x1, x2], _ => exact ⟨x0, x1, x2, rfl⟩
    have k0 := hcs 0 (by simp)
    have k1 := hcs 1 (by simp)
    have k2 := hcs 2 (by simp)
    simp only [List.getElem_cons_zero, List.getElem_cons_succ] at k0 k1 k2
    have s1 := Nat.le_trans (hW.small x1 (by simp)) hls
    have s2 := Nat.le_trans (hW.small x2 (by simp)) hls
    clear hcs hown1 h3
    by_cases hf : x0 = funcT
    · have hq : (x0.toList == [102, 117, 110, 99]) = true := by rw [hf, ByteArray.toList_eq]; rfl
      subst hf
      go_wp2_with fail
      refine (iAtoi_any x1 _ s1 hv1).mono ?_
      rintro e w2 ⟨hE1, hb2⟩
      have hR2 : LineAt w2 R mv a1 ts.length c1 a2 fs.length c2 := block_kept hR1 hb2
      have hm2 := hm1.below hb2
      have hv2 := hv1.below hb2
      have hbR2 : Below R w w2 := hbR1.trans (hb2.mono (by omega))
      have hz2' : base ≤ w2.heap.size := Nat.le_trans hz1' hb2.size
      have k2' := cell_later hb2 k2
      have k1' := cell_later hb2 k1
      clear hb2 hR1 hm1 hv1 hbR1 k0 k1 k2
      rcases hE1 with ⟨v1, rfl, hv1⟩ | ⟨v1, N1, rfl, hv1⟩
      · go_wp2_with fail
        refine (iAtoi_any x2 _ s2 hv2).mono ?_
        rintro e w3 ⟨hE2, hb3⟩
        have hR3 : LineAt w3 R mv a1 ts.length c1 a2 fs.length c2 := block_kept hR2 hb3
        have hm3 := hm2.below hb3
        have hbR3 : Below R w w3 := hbR2.trans (hb3.mono (by omega))
        have hz3' : base ≤ w3.heap.size := Nat.le_trans hz2' hb3.size
        clear hb3 hR2 hm2 hbR2 k2' k1' hv2
        rcases hE2 with ⟨v2, rfl, hv2⟩ | ⟨v2, N2, rfl, hv2⟩
        · have HV : Hid (∀ P L, Fits P → Fits L → [funcT, x1, x2] = [funcT, numText P, numText L] → v1 = P ∧ v2 = L) := by
            intro P L hP hL e
            injection e with _ e
            injection e with e1 e
            injection e with e2 _
            exact ⟨hv1 P hP e1, hv2 L hL e2⟩
          clear hv1 hv2
          have rc := block_cell hR3
          have rf := block_free hR3
          have hlen : Hid (fs.length = cs.length) := hm3.codes.len
          go_wp2_with (first | (at_builtin; refine wpList_append_lies _ rfl _ _ 25 rfl base 48 i0 (.agg #[.int .i64 0, .int .i64 0, .slice none 0 0]) 3 40 Tryz.underlying25 hi hz0 hz1 hz2 rfl (by decide) _ _ _ rfl (World.ownsRow.alloc hm3.funcs _) ⟨w3.heap.size, 0, none⟩ 1 1 [.int .i64 v1, .int .i64 v2, .slice none 0 0] rfl rfl (cell_three_new _ _ _ _ _) (by intro u hu; simp at hu; rcases hu with rfl | rfl | rfl <;> rfl) (by decide) (by unfold maxLen; omega) (by omega) (by simp; omega) _ rfl ?_; intro g4 cp w4 hown4 hgrow4 hat4 hlt4; have hR4 := grown_kept (World.ownsRow.alloc hm3.funcs _) hRb (block_old hR3 _) hgrow4; have rc4 := block_cell hR4; have rf4 := block_free hR4))
          have hk4 : Keeps base [48] (w3.alloc (.cells #[.int .i64 v1, .int .i64 v2, .slice none 0 0] 48)) w4 := Keeps.grown (World.ownsRow.alloc hm3.funcs _) hgrow4 (by simp)
          have hbA : Below w3.heap.size w3 (w3.alloc (.cells #[.int .i64 v1, .int .i64 v2, .slice none 0 0] 48)) := (Below.refl _ _).alloc (Nat.le_refl _) _
          have hcodes : CodesOwn w4 base (fs ++ [⟨v1, v2, []⟩]) (cs ++ [(none, 0)]) := CodesOwn.snoc2 ((hm3.codes.below hbA).keeps hk4 (by simp)) (X := w3.heap.size) (X' := w3.heap.size) hm3.lt.codes (Nat.le_refl _) hz3' (World.ownsRow_nil _ _ _ _)
          have hm4 : ModOwn w4 base a1 c1 (some ⟨g4, 0, none⟩) cp ts (fs ++ [⟨v1, v2, []⟩]) (cs ++ [(none, 0)]) := ⟨own_keeps (World.ownsRow.alloc hm3.texts _) hk4 (by simp), by rw [fnVals_snoc hlen.out]; simpa using hown4, hcodes⟩
          have hm5 := hm4.set (p := ⟨R, 2, none⟩) hRb (.slice (some ⟨g4, 0, none⟩) (fs.length + 1) cp)
          have hR5 : LineAt (w4.setCell ⟨R, 2, none⟩ (.slice (some ⟨g4, 0, none⟩) (fs.length + 1) cp)) R mv a1 ts.length c1 (some ⟨g4, 0, none⟩) (fs.length + 1) cp := by
            have := block_set (i := 2) hR4 (.slice (some ⟨g4, 0, none⟩) (fs.length + 1) cp)
            simpa [LineAt] using this
          have hb4 : Below R w w4 := (hbR3.trans (hbA.mono (by omega))).trans ((hk4.toBelow (by simp; omega)).mono (by omega))
          have hb5 : Below R w (w4.setCell ⟨R, 2, none⟩ (.slice (some ⟨g4, 0, none⟩) (fs.length + 1) cp)) := hb4.setCell (Nat.le_refl _) _
          clear hk4 hbA hm4 hb4 hown4 hgrow4 hat4 hR4 rc4 rf4 hcodes rc rf hm3 hR3 hbR3
          go_ret
          exact ⟨_, hW, hb5, Or.inl ⟨v1, v2, some ⟨g4, 0, none⟩, cp, rfl, HV.out, hR5, hm5⟩⟩
        · go_wp2
          go_ret
          exact ⟨_, hW, hbR3, Or.inr ⟨rfl, fun P L _ hL e => hv2 L hL (by injection e with _ e; injection e with _ e; injection e), hR3, hm3⟩⟩
      · go_wp2_with fail
        refine (iAtoi_any x2 _ s2 hv2).mono ?_
        rintro e w3 ⟨hE2, hb3⟩
        have hR3 : LineAt w3 R mv a1 ts.length c1 a2 fs.length c2 := block_kept hR2 hb3
        have hm3 := hm2.below hb3
        have hbR3 : Below R w w3 := hbR2.trans (hb3.mono (by omega))
        clear hb3 hR2 hm2 hbR2 k2' k1' hv2
        rcases hE2 with ⟨v2, rfl, -⟩ | ⟨v2, N2, rfl, -⟩
        all_goals
          go_wp2
          go_ret
          exact ⟨_, hW, hbR3, Or.inr ⟨rfl, fun P L hP _ e => hv1 P hP (by injection e with _ e; injection e), hR3, hm3⟩⟩
    · have hq : (x0.toList == [102, 117, 110, 99]) = false := by
        rw [ByteArray.toList_eq, beq_eq_false_iff_ne]
        intro e
        exact hf (ByteArray.ext (by rw [← Array.toList_inj]; exact e))
      go_wp2
      go_ret
      exact ⟨_, hW, hbR1, Or.inr ⟨rfl, fun P L _ _ e => hf (by injection e), hR1, hm1⟩⟩
  · have h3' : ((ws.length : Int) == 3) = false := by simp; omega
    go_wp2
    go_ret
    exact ⟨_, hW, hbR1, Or.inr ⟨rfl, fun P L _ _ e => h3 (by rw [e]; rfl), hR1, hm1⟩⟩
end Go.Proofs.YtpmkfdinkomaiaaGreatDoor

namespace Go.Proofs.YtpmkfdinkomaiaaGreatDoor
open Go.RowKit Go.Maps

/-- The map behind the first k words. -/
def dOps {H : Type} : Nat → DataW H
  | 0 => .map []
  | k + 1 => (dOps k).put (.string (words.getD (k + 1) ⟨#[]⟩).data.toList) (.lit (.int .i64 ((k + 1 : Nat) : Int)))
theorem law9 : Keyed Tryz.prog 9 := string_keyed Tryz.underlying9
theorem words_size : ∀ s ∈ words, s.size ≤ 10 := by decide

set_option maxRecDepth 100000 in
set_option maxHeartbeats 1600000 in
theorem ops_any {H : Type} (w : World) (hw : Hid (∀ k s, words[k]? = some s → w.cell? ⟨0, k, none⟩ = some (.string s))) :
    Calls Tryz.prog 25 #[] w fun e w' => e = .returned (.map (some w.heap.size)) ∧ w'.ownsMap Tryz.prog 9 (plainElem (H := H) Tryz.prog 3) w.heap.size 26 (dOps 26) ∧ Below w.heap.size w w' := by
  have hmm : ∀ W : World, (Instr.makeMap 57 (some (.int .i64 26))).run Tryz.prog W = .ok (.map (some W.heap.size)) (W.alloc (.map #[] 0)) := fun _ => rfl
  go_enter Tryz.func25, Tryz.ntmps25
  go_wp2_with fail
  go_loopw [2] (fun i wr => ∃ (k : Nat), k ≤ 26 ∧ i = .int .i64 ((k : Int) + 1) ∧ wr.ownsMap Tryz.prog 9 (plainElem (H := H) Tryz.prog 3) w.heap.size k (dOps k) ∧ Below w.heap.size w wr) (fun i _ => 27 - (intOf i).toNat)
  case atStart => exact ⟨0, by omega, rfl, World.ownsMap_made _ _ _ _, (Below.refl _ _).alloc (Nat.le_refl _) _⟩
  case round =>
    obtain ⟨k, hk, rfl, hown, hbr⟩ := hrel
    by_cases hlt : k < 26
    · obtain ⟨s, hs⟩ : ∃ s, words[k + 1]? = some s := ⟨_, List.getElem?_eq_getElem (by simp [words]; omega)⟩
      have hc := cell_later hbr (hw.out (k + 1) s hs)
      have HD : Hid ((dOps (H := H) (k + 1)) = (dOps k).put (.string s.data.toList) (.lit (.int .i64 ((k : Int) + 1)))) := by
        show dOps (k + 1) = _
        rw [dOps, List.getD_eq_getElem?_getD, hs]
        rfl
      have hsz : s.size ≤ maxLen := Nat.le_trans (words_size s (List.mem_of_getElem? hs)) (by unfold maxLen; omega)
      have hkey : keyOf Tryz.prog 9 (.string s) = some (.string s.data.toList) := Go.WideMaps.keyOf_string_mk Tryz.underlying9 hsz
      clear hs
      go_wp2_with (first | (at_mapUpdate; refine wpList_mapUpdate_own _ rfl _ _ _ 57 rfl 9 3 law9 Tryz.underlying57 _ w.heap.size k _ rfl hown (by unfold maxLen; omega) _ _ _ rfl rfl hkey _ [] (plainElem_int Tryz.underlying3 (WalkArith.wf_i64 (by omega))) ?_; intro w1 hown1 hgrow1) | go_in)
      have hb1 := hbr.trans ⟨hgrow1.os, hgrow1.tape, hgrow1.output, hgrow1.size, fun j hj => hgrow1.block j (Nat.lt_of_lt_of_le hj hbr.size) (fun e => by simp at e; omega)⟩
      rw [← HD.out] at hown1
      go_roundw
      case rel => exact ⟨k + 1, by omega, by go_num, hown1, hb1⟩
      case measure => simp [intOf]; omega
    · obtain rfl : k = 26 := by omega
      go_wp2
      go_ret
      exact ⟨rfl, hown, hbr⟩
end Go.Proofs.YtpmkfdinkomaiaaGreatDoor
