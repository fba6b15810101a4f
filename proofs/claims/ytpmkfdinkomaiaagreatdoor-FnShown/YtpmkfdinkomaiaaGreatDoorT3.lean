/-
  What the document's and the program's texts of an instruction are.
-/
import Derived.Test.YtpmkfdinkomaiaaGreatDoorGQ3
import Derived.Test.YtpmkfdinkomaiaaGreatDoorGQ5
import Derived.Lib.AppendIntMem
namespace Go.Proofs.YtpmkfdinkomaiaaGreatDoor
open Go.RowKit

theorem words_at (k : Nat) (h : k < 27) : ∃ s : ByteArray, words[k]? = some s ∧ words.getD k ⟨#[]⟩ = s ∧ s.size ≤ 6 := by
  have hall : ∀ i : Fin 27, (words[i.val]?).isSome = true ∧ (words.getD i.val ⟨#[]⟩).size ≤ 6 := by decide
  have := hall ⟨k, h⟩
  obtain ⟨s, hs⟩ := Option.isSome_iff_exists.1 this.1
  have hd : words.getD k ⟨#[]⟩ = s := by rw [List.getD_eq_getElem?_getD]; simp only at hs; rw [hs]; rfl
  exact ⟨s, hs, hd, by rw [← hd]; exact this.2⟩

set_option maxHeartbeats 400000 in
theorem sWords_any (w : World) : Calls Tryz.prog 32 #[] w fun e w' => e = .returned (.slice (some ⟨w.heap.size, 0, none⟩) 27 27) ∧ w' = w.alloc (.cells (words.map Value.string).toArray 9) := by
  go_enter Tryz.func32, Tryz.ntmps32
  go_wp2
  go_ret
  exact ⟨rfl, rfl⟩

theorem sWords_at (k : Nat) (s : ByteArray) (hs : words[k]? = some s) (w : World) : Calls Tryz.prog 32 #[] w fun e w' => ∃ g, e = .returned (.slice (some ⟨g, 0, none⟩) 27 27) ∧ w'.cell? ⟨g, k, none⟩ = some (.string s) ∧ Below w.heap.size w w' := by
  refine (sWords_any w).mono ?_
  rintro e w' ⟨rfl, rfl⟩
  refine ⟨_, rfl, ?_, (Below.refl _ _).alloc (Nat.le_refl _) _⟩
  rw [cell_new]
  simp [hs]

set_option maxRecDepth 100000 in
set_option maxHeartbeats 1600000 in
theorem sInsText_any (op a : Int) (w : World) (h0 : Hid (-9223372036854775808 ≤ a)) (h1 : Hid (a ≤ 9223372036854775807)) : Calls Tryz.prog 21 #[.agg #[.int .i64 op, .int .i64 a]] w fun e w' => e = .returned (.string (insText op a)) ∧ Below w.heap.size w w' := by
  by_cases hop : op < 1 ∨ 26 < op
  · unfold insText
    rw [if_pos hop]
    have hd : (decide ((1 : Int) ≤ op) && decide (op ≤ (26 : Int))) = false := by simp; omega
    clear hop
    go_enter Tryz.func21, Tryz.ntmps21
    go_wp2_with (go_at_call 22; refine (between_any _ _ _ _).mono ?_; rintro e w1 ⟨rfl, rfl⟩; rw [hd])
    go_ret
    exact ⟨rfl, (Below.refl _ _).alloc (Nat.le_refl _) _⟩
  · obtain ⟨k, rfl⟩ := Int.eq_ofNat_of_zero_le (show 0 ≤ op by omega)
    have hk : k < 27 := by omega
    obtain ⟨s, hs, hsd, hsz⟩ := words_at k hk
    have hd : (decide ((1 : Int) ≤ (k : Int)) && decide ((k : Int) ≤ (26 : Int))) = true := by simp; omega
    have hk' : (k : Int) < 27 := by omega
    have hnz := numText_size a h0.out h1.out
    unfold insText
    rw [if_neg hop, Int.toNat_natCast, hsd]
    clear hop
    go_enter Tryz.func21, Tryz.ntmps21
    go_wp2_with (go_at_call 22; refine (between_any _ _ _ _).mono ?_; rintro e w1 ⟨rfl, rfl⟩; rw [hd])
    have c0 : ∀ W', Below (w.alloc (.cells #[.int .i64 k, .int .i64 a] 51)).drew.heap.size (w.alloc (.cells #[.int .i64 k, .int .i64 a] 51)).drew W' → W'.cell? ⟨w.heap.size, 0, none⟩ = some (.int .i64 k) ∧ W'.cell? ⟨w.heap.size, 1, none⟩ = some (.int .i64 a) ∧ Below w.heap.size w W' := by
      intro W' hb
      have hW2 : Below w.heap.size w (w.alloc (.cells #[.int .i64 k, .int .i64 a] 51)).drew := ((Below.refl _ _).alloc (Nat.le_refl _) _).drew
      exact ⟨cell_later hb (cell_new w #[.int .i64 k, .int .i64 a] 51 0), cell_later hb (cell_new w #[.int .i64 k, .int .i64 a] 51 1), hW2.trans (hb.mono hW2.size)⟩
    go_region_with (go_at_call 32; refine (sWords_at k s hs _).mono ?_; rintro e w1 ⟨g, rfl, hc1, hb1⟩; obtain ⟨hA, hB, hC⟩ := c0 _ hb1)
    all_goals clear c0
    all_goals cases hbare : bareB (k : Int)
    all_goals go_wp2_with (first | (go_at_call 41; refine (sBare_any _ _).mono ?_; rintro e w2 ⟨rfl, rfl⟩; rw [hbare]) | (go_at_call 20; refine (sDigits_any _ h0.out h1.out _).mono ?_; rintro e w2 ⟨rfl, hb2⟩))
    all_goals go_ret
    all_goals first | exact ⟨rfl, hC⟩ | exact ⟨rfl, hC.trans (hb2.mono hC.size)⟩

theorem itoa_any (a : Int) (w : World) (h0 : Hid (-9223372036854775808 ≤ a)) (h1 : Hid (a ≤ 9223372036854775807)) (htab : Lib.TabIs Tryz.prog w "internal/strconv.uint64pow10" .u64 Lib.pow10Tab) :
    Calls Tryz.prog 17 #[.int .i64 a] w fun e w' => e = .returned (.string (numText a)) ∧ Below w.heap.size w w' := by
  refine (Tryz.strconv_Itoa a h0.out h1.out w htab).mono ?_
  rintro e w1 ⟨rfl, k, os, rfl⟩
  exact ⟨rfl, Lib.below_grow _ _ (Nat.le_refl _) k os⟩

set_option maxRecDepth 100000 in
set_option maxHeartbeats 1600000 in
theorem iInsText_any (op a : Int) (w : World) (h0 : Hid (-9223372036854775808 ≤ a)) (h1 : Hid (a ≤ 9223372036854775807)) (hw : ∀ k s, words[k]? = some s → w.cell? ⟨0, k, none⟩ = some (.string s))
    (htab : Lib.TabIs Tryz.prog w "internal/strconv.uint64pow10" .u64 Lib.pow10Tab) : Calls Tryz.prog 18 #[.agg #[.int .i64 op, .int .i64 a]] w fun e w' => e = .returned (.string (insText op a)) ∧ Below w.heap.size w w' := by
  by_cases hop : op < 1 ∨ 26 < op
  · unfold insText
    rw [if_pos hop]
    rcases hop with hop | hop
    · go_enter Tryz.func18, Tryz.ntmps18
      go_wp2
      go_ret
      exact ⟨rfl, (Below.refl _ _).alloc (Nat.le_refl _) _⟩
    · have hop2 : (1 : Int) ≤ op := by omega
      go_enter Tryz.func18, Tryz.ntmps18
      go_wp2
      go_ret
      exact ⟨rfl, (Below.refl _ _).alloc (Nat.le_refl _) _⟩
  · obtain ⟨k, rfl⟩ := Int.eq_ofNat_of_zero_le (show 0 ≤ op by omega)
    have hk : k < 27 := by omega
    obtain ⟨s, hs, hsd, hsz⟩ := words_at k hk
    have hnz := numText_size a h0.out h1.out
    have hk' : (k : Int) < 27 := by omega
    have hk1 : (1 : Int) ≤ (k : Int) := by omega
    have hk2 : (k : Int) ≤ 26 := by omega
    unfold insText
    rw [if_neg hop, Int.toNat_natCast, hsd]
    clear hop
    have hc := hw k s hs
    have hc1 : (w.alloc (.cells #[.int .i64 k, .int .i64 a] 51)).cell? ⟨0, k, none⟩ = some (.string s) := cell_later ((Below.refl _ _).alloc (Nat.le_refl _) _) hc
    cases hbare : bareB (k : Int)
    · have c0 : ∀ W', Below (w.alloc (.cells #[.int .i64 k, .int .i64 a] 51)).drew.heap.size (w.alloc (.cells #[.int .i64 k, .int .i64 a] 51)).drew W' → W'.cell? ⟨w.heap.size, 0, none⟩ = some (.int .i64 k) ∧ W'.cell? ⟨0, k, none⟩ = some (.string s) ∧ Below w.heap.size w W' := by
        intro W' hb
        have hW2 : Below w.heap.size w (w.alloc (.cells #[.int .i64 k, .int .i64 a] 51)).drew := ((Below.refl _ _).alloc (Nat.le_refl _) _).drew
        exact ⟨cell_later hb (cell_new w #[.int .i64 k, .int .i64 a] 51 0), cell_later hb hc1, hW2.trans (hb.mono hW2.size)⟩
      have ht : Lib.TabIs Tryz.prog (w.alloc (.cells #[.int .i64 k, .int .i64 a] 51)).drew "internal/strconv.uint64pow10" .u64 Lib.pow10Tab := Lib.tabBelow_of_tabIs htab _ ((Below.refl _ _).alloc (Nat.le_refl _) _).drew
      have hC0 : Below w.heap.size w (w.alloc (.cells #[.int .i64 k, .int .i64 a] 51)).drew := ((Below.refl _ _).alloc (Nat.le_refl _) _).drew
      clear htab hw
      go_enter Tryz.func18, Tryz.ntmps18
      go_wp2_with (go_at_call 40; refine (iBare_any _ _).mono ?_; rintro e w2 ⟨rfl, rfl⟩; rw [hbare])
      go_region_with (go_at_call 17; refine (itoa_any a _ h0 h1 ht).mono ?_; rintro e w1 ⟨rfl, hb1⟩; obtain ⟨hA, hB, hC⟩ := c0 _ hb1)
      all_goals clear c0
      all_goals go_wp2
      all_goals go_ret
      all_goals exact ⟨rfl, hC⟩
    · go_enter Tryz.func18, Tryz.ntmps18
      go_wp2_with (go_at_call 40; refine (iBare_any _ _).mono ?_; rintro e w2 ⟨rfl, rfl⟩; rw [hbare])
      go_ret
      exact ⟨rfl, (Below.refl _ _).alloc (Nat.le_refl _) _⟩
end Go.Proofs.YtpmkfdinkomaiaaGreatDoor
