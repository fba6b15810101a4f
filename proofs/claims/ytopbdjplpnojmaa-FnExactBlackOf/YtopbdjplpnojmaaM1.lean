/-
  What the size functions of the laws return of lists of values, frames, records, and of states.
  What szVm returns.
-/
import Derived.Test.YtopbdjplpnojmaaM0
import Derived.Test.YtopbdjplpnojmaaX1
namespace Go.Proofs.Ytopbdjplpnojmaa
open Go.RowKit

end Go.Proofs.Ytopbdjplpnojmaa
namespace Go.Proofs.Ytopbdjplpnojmaa
open Go.RowKit

end Go.Proofs.Ytopbdjplpnojmaa
