/-
  Nothing of its own: what stood here stands in Mem3.
-/
import Derived.Test.YtenmbdegaldngaaDoorMem3
