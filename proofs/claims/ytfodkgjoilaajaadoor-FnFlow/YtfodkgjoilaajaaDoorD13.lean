/-
  The drawing functions of the document's model: an odd module.
-/
import Derived.Test.YtfodkgjoilaajaaDoorD12
import Derived.Deep.CutRange
namespace Go.Proofs.YtfodkgjoilaajaaDoor
open Go.RowKit

end Go.Proofs.YtfodkgjoilaajaaDoor
