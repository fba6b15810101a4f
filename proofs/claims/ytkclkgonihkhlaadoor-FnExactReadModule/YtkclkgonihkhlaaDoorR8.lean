/-
  What the program's opsByWord gives: a map of the words.
-/
import Derived.Test.YtkclkgonihkhlaaDoorR7
import Derived.Maps.Own
import Derived.Maps.OwnSet
namespace Go.Proofs.YtkclkgonihkhlaaDoor
open Go.RowKit Go.Maps

/-- The map behind the first k words. -/
def dOps {H : Type} : Nat → DataW H
  | 0 => .map []
  | k + 1 => (dOps k).put (.string (words.getD (k + 1) ⟨#[]⟩).data.toList) (.lit (.int .i64 ((k + 1 : Nat) : Int)))
theorem law9 : Keyed Tryd.prog 9 := string_keyed Tryd.underlying9
theorem words_size : ∀ s ∈ words, s.size ≤ 10 := by decide

set_option maxRecDepth 100000 in
set_option maxHeartbeats 1600000 in
theorem ops_any {H : Type} (w : World) (hw : Hid (∀ k s, words[k]? = some s → w.cell? ⟨0, k, none⟩ = some (.string s))) :
    Calls Tryd.prog 36 #[] w fun e w' => e = .returned (.map (some w.heap.size)) ∧ w'.ownsMap Tryd.prog 9 (plainElem (H := H) Tryd.prog 3) w.heap.size 26 (dOps 26) ∧ Below w.heap.size w w' := by
  have hmm : ∀ W : World, (Instr.makeMap 71 (some (.int .i64 26))).run Tryd.prog W = .ok (.map (some W.heap.size)) (W.alloc (.map #[] 0)) := fun _ => rfl
  go_enter Tryd.func36, Tryd.ntmps36
  go_wp2_with fail
  go_loopw [2] (fun i wr => ∃ (k : Nat), k ≤ 26 ∧ i = .int .i64 ((k : Int) + 1) ∧ wr.ownsMap Tryd.prog 9 (plainElem (H := H) Tryd.prog 3) w.heap.size k (dOps k) ∧ Below w.heap.size w wr) (fun i _ => 27 - (intOf i).toNat)
  case atStart => exact ⟨0, by omega, rfl, World.ownsMap_made _ _ _ _, (Below.refl _ _).alloc (Nat.le_refl _) _⟩
  case round =>
    obtain ⟨k, hk, rfl, hown, hbr⟩ := hrel
    by_cases hlt : k < 26
    · obtain ⟨s, hs⟩ : ∃ s, words[k + 1]? = some s := ⟨_, List.getElem?_eq_getElem (by simp [words]; omega)⟩
      have hc := cell_later hbr (hw.out (k + 1) s hs)
      have HD : Hid ((dOps (H := H) (k + 1)) = (dOps k).put (.string s.data.toList) (.lit (.int .i64 ((k : Int) + 1)))) := by
        show dOps (k + 1) = _
        rw [dOps, List.getD_eq_getElem?_getD, hs]
        rfl
      have hsz : s.size ≤ maxLen := Nat.le_trans (words_size s (List.mem_of_getElem? hs)) (by unfold maxLen; omega)
      have hkey : keyOf Tryd.prog 9 (.string s) = some (.string s.data.toList) := Go.WideMaps.keyOf_string_mk Tryd.underlying9 hsz
      clear hs
      go_wp2_with (first | (at_mapUpdate; refine wpList_mapUpdate_own _ rfl _ _ _ 71 rfl 9 3 law9 Tryd.underlying71 _ w.heap.size k _ rfl hown (by unfold maxLen; omega) _ _ _ rfl rfl hkey _ [] (plainElem_int Tryd.underlying3 (WalkArith.wf_i64 (by omega))) ?_; intro w1 hown1 hgrow1) | go_in)
      have hb1 := hbr.trans ⟨hgrow1.os, hgrow1.tape, hgrow1.output, hgrow1.size, fun j hj => hgrow1.block j (Nat.lt_of_lt_of_le hj hbr.size) (fun e => by simp at e; omega)⟩
      rw [← HD.out] at hown1
      go_roundw
      case rel => exact ⟨k + 1, by omega, by go_num, hown1, hb1⟩
      case measure => simp [intOf]; omega
    · obtain rfl : k = 26 := by omega
      go_wp2
      go_ret
      exact ⟨rfl, hown, hbr⟩
end Go.Proofs.YtkclkgonihkhlaaDoor
