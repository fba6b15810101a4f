/-
  What spec.ModuleOk returns, for every module within the stated sizes.
-/
import Derived.Test.YtopbdjplpnojmaaW5
import Derived.Test.YtopbdjplpnojmaaPlain2
namespace Go.Proofs.Ytopbdjplpnojmaa
open Go.RowKit

theorem below_undraw {w w' : World} (h : Below w.drew.heap.size w.drew w') : Below w.heap.size w w' := ⟨h.os, h.tape, h.output, h.size, h.block⟩

end Go.Proofs.Ytopbdjplpnojmaa
