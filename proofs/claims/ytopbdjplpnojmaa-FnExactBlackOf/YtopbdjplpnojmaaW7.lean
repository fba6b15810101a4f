/-
  What impl.ModuleOk returns, for every module within the stated sizes.
-/
import Derived.Test.YtopbdjplpnojmaaW6
namespace Go.Proofs.Ytopbdjplpnojmaa
open Go.RowKit

end Go.Proofs.Ytopbdjplpnojmaa
