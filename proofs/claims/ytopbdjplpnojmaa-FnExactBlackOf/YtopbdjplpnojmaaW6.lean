/-
  What impl.funcOk returns at a function of the module.
-/
import Derived.Test.YtopbdjplpnojmaaW5
import Derived.Test.YtopbdjplpnojmaaPlain2
namespace Go.Proofs.Ytopbdjplpnojmaa
open Go.RowKit

end Go.Proofs.Ytopbdjplpnojmaa
