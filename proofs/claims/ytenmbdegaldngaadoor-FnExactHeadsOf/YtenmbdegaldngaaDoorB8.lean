/-
  What the table of math/bits holds when a law begins.
-/
import Derived.Test.YtenmbdegaldngaaDoorB2
import Derived.Test.YtenmbdegaldngaaDoorRows
import Derived.Lib.LaidTab
import Derived.MakeChecks
import Derived.Stop.LaidErr
namespace Go.Proofs.YtenmbdegaldngaaDoor
open Go.RowKit

theorem gTab : Tryd.prog.globalNamed "math/bits.deBruijn64tab" = some 0 := by kernel_rfl
def dbZ : List Int := dbT.map fun (k : Nat) => (k : Int)
theorem eTab : (Rows.laid_math_bits_deBruijn64tab : DataW Unit) = Lib.tabData .u8 dbZ := by kernel_rfl
theorem dbZ_at (i : Nat) : dbZ.getD i 0 = ((dbT[i]?.getD 0 : Nat) : Int) := by
  unfold dbZ
  rw [List.getD_eq_getElem?_getD, List.getElem?_map]
  cases dbT[i]? <;> rfl
theorem of_laid {L : List (String × DataW Unit)} {W : World} (hL : L = [("math/bits.deBruijn64tab", Rows.laid_math_bits_deBruijn64tab)]) (h : laidMetH Tryd.prog L W) : DB W := by
  subst hL
  rw [MakeChecks.laidMetH_plain _ _ _ (by kernel_rfl)] at h
  rw [eTab] at h
  have ht := Lib.tabIs_of_head gTab (t := 105) (e := 5) (by kernel_rfl) Tryd.underlying105 Tryd.underlying5 (by kernel_rfl) (by kernel_rfl) h
  intro i hi
  have := ht.cell gTab i hi
  rw [this, dbZ_at]
end Go.Proofs.YtenmbdegaldngaaDoor
