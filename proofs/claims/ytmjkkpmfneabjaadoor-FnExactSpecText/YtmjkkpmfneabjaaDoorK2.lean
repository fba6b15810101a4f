/-
  What the law on the text of a guess answers, and what the library's own tables hold when it begins.
-/
import Derived.Test.YtmjkkpmfneabjaaDoorK1
import Derived.Test.YtmjkkpmfneabjaaDoorRows
import Derived.Lib.LaidTab
import Derived.MakeChecks
import Derived.Stop.LaidErr
namespace Go.Proofs.YtmjkkpmfneabjaaDoor
open Go.RowKit

set_option maxHeartbeats 400000 in
theorem toSpec_any (f p k t : Int) (w : World) : Calls Tryd.prog 5 #[.agg #[.int .i64 f, .int .i64 p, .int .i64 k, .int .i64 t]] w fun e w' => e = .returned (.agg #[.int .i64 f, .int .i64 p, .int .i64 k, .int .i64 t]) ∧ Below w.heap.size w w' := by
  go_enter Tryd.func5, Tryd.ntmps5
  go_wp2
  refine bodyPost_ret (v := .agg #[.int .i64 f, .int .i64 p, .int .i64 k, .int .i64 t]) (by simp [results, Tryd.results5, go_sem]) rfl ⟨rfl, ?_⟩
  exact (((Below.refl _ _).alloc (Nat.le_refl _) _).alloc (by simp) _).alloc (by simp only [World.size_alloc]; omega) _

set_option maxRecDepth 100000 in
set_option maxHeartbeats 800000 in
theorem lawSpecText (f p k t : Int) (w : World) (hf0 : Hid (-9223372036854775808 ≤ f)) (hf1 : Hid (f ≤ 9223372036854775807)) (hp0 : Hid (-9223372036854775808 ≤ p)) (hp1 : Hid (p ≤ 9223372036854775807)) (ht0 : Hid (-9223372036854775808 ≤ t)) (ht1 : Hid (t ≤ 9223372036854775807))
    (htab : Lib.TabIs Tryd.prog w "internal/strconv.uint64pow10" .u64 Lib.pow10Tab) : Calls Tryd.prog 3 #[.agg #[.int .i64 f, .int .i64 p, .int .i64 k, .int .i64 t]] w fun e w' => e = .returned (.bool true) ∧ Below w.heap.size w w' := by
  have hb0 : Below w.heap.size w (w.alloc (.cells #[.int .i64 f, .int .i64 p, .int .i64 k, .int .i64 t] 23)) := (Below.refl _ _).alloc (Nat.le_refl _) _
  have hn0 := block_new w #[.int .i64 f, .int .i64 p, .int .i64 k, .int .i64 t] 23
  go_enter Tryd.func3, Tryd.ntmps3
  go_wp2_with fail
  refine (toSpec_any _ _ _ _ _).mono ?_
  rintro e w1 ⟨rfl, hb1⟩
  have b1 := hb0.trans (hb1.mono hb0.size)
  have n1 := block_kept hn0 hb1
  go_wp2_with fail
  refine (sSpecText_any _ _ _ _ _ hf0 hf1 hp0 hp1 ht0 ht1).mono ?_
  rintro e w2 ⟨rfl, hb2⟩
  have b2 := b1.trans (hb2.mono b1.size)
  have n2 := block_kept n1 hb2
  have c2 := block_cell n2
  clear hb1 hb2 n1 hn0
  go_wp2_with fail
  refine (toSpec_any _ _ _ _ _).mono ?_
  rintro e w3 ⟨rfl, hb3⟩
  have b3 := b2.trans (hb3.mono b2.size)
  clear hb3 c2 n2
  go_wp2_with fail
  refine (iSpecText_any _ _ _ _ _ hf0 hf1 hp0 hp1 ht0 ht1 (Lib.tabBelow_of_tabIs htab _ b3)).mono ?_
  rintro e w4 ⟨rfl, hb4⟩
  have b4 := b3.trans (hb4.mono b3.size)
  clear hb4
  generalize specText f p k t = s
  go_wp2
  go_ret
  exact ⟨rfl, b4⟩

theorem gPow : Tryd.prog.globalNamed "internal/strconv.uint64pow10" = some 0 := by kernel_rfl
theorem ePow : (Rows.laid_internal_strconv_uint64pow10 : DataW Unit) = Lib.tabData .u64 Lib.pow10Tab := by kernel_rfl
/-- What the listed tables give the walk. -/
theorem of_laid {W : World} (h : laidMetH Tryd.prog Rows.fnExactSpecTextRow.laid W) : Lib.TabIs Tryd.prog W "internal/strconv.uint64pow10" .u64 Lib.pow10Tab := by
  rw [MakeChecks.laidMetH_plain _ _ _ (by kernel_rfl)] at h
  have h2 : laidMet Tryd.prog (("internal/strconv.uint64pow10", Lib.tabData .u64 Lib.pow10Tab) :: []) W := by
    rw [← ePow]
    exact h.tail.tail
  exact Lib.tabIs_of_head gPow (t := 39) (e := 32) (by kernel_rfl) Tryd.underlying39 Tryd.underlying32 (by kernel_rfl) (by kernel_rfl) h2
end Go.Proofs.YtmjkkpmfneabjaaDoor
