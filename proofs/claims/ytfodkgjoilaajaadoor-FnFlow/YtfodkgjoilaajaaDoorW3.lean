/-
  The comparing functions of the laws (eq..) return true where both arguments read as the same data.
-/
import Derived.Test.YtfodkgjoilaajaaDoorW1
import Derived.Deep.QuietTactic
import Derived.BigQuiet
import Derived.Deep.RegionWith
namespace Go.Proofs.YtfodkgjoilaajaaDoor
open Go.RowKit


end Go.Proofs.YtfodkgjoilaajaaDoor
