/-
  Numbers as words.
-/
import Derived.Test.YtedjabgkdogkfaaDoorT2
import Derived.Test.YtedjabgkdogkfaaDoorShelf
import Derived.Lib.AppendIntMem
namespace Go.Proofs.YtedjabgkdogkfaaDoor
open Go.RowKit

/-- The table of powers of ten lies in memory. -/
def TabP (w : World) : Prop := Lib.TabIs Tryd.prog w "internal/strconv.uint64pow10" .u64 Lib.pow10Tab
theorem TabP.mono {w w' : World} {B : Nat} (h : TabP w) (hB : B = w.heap.size) (hb : Below B w w') : TabP w' := Lib.tabBelow_of_tabIs h _ (by rw [← hB]; exact hb)
theorem TabP.below {w w' : World} (h : TabP w) (hb : Below w.heap.size w w') : TabP w' := Lib.tabBelow_of_tabIs h _ hb
theorem itoa_any (a : Int) (w : World) (h0 : Hid (-9223372036854775808 ≤ a)) (h1 : Hid (a ≤ 9223372036854775807)) (htab : TabP w) :
    Calls Tryd.prog 36 #[.int .i64 a] w fun e w' => e = .returned (.string (numText a)) ∧ Below w.heap.size w w' := by
  refine (Tryd.strconv_Itoa a h0.out h1.out w htab).mono ?_
  rintro e w1 ⟨rfl, k, os, rfl⟩
  exact ⟨rfl, Lib.below_grow _ _ (Nat.le_refl _) k os⟩

end Go.Proofs.YtedjabgkdogkfaaDoor
