/-
  What impl.InsOk and spec.InsOk return at a function of the module, the second where the number of locals is small.
-/
import Derived.Test.YtopbdjplpnojmaaW4
import Derived.Deep.RegionHeld3
namespace Go.Proofs.Ytopbdjplpnojmaa
open Go.RowKit

end Go.Proofs.Ytopbdjplpnojmaa
