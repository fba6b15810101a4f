/-
  What spec.l01Text, impl.textOk and impl.argBounds return, for every argument within the stated sizes.
-/
import Derived.Test.YtopbdjplpnojmaaW1
import Derived.Test.YtopbdjplpnojmaaPlain
import Derived.Deep.QuietTactic
import Derived.BigQuiet
import Derived.Deep.RegionWith
namespace Go.Proofs.Ytopbdjplpnojmaa
open Go.RowKit


theorem ret_two {a b c d : Int} (h : a = c) (k : b = d) : Ending.returned (.tuple #[.int .i64 a, .int .i64 b]) = .returned (.tuple #[.int .i64 c, .int .i64 d]) := by rw [h, k]

end Go.Proofs.Ytopbdjplpnojmaa
