/-
  The comparing functions of the laws return true of lists of values, frames, records, and of states that read as the same data.
-/
import Derived.Test.YtopbdjplpnojmaaM3
import Derived.Test.YtopbdjplpnojmaaW3
namespace Go.Proofs.Ytopbdjplpnojmaa
open Go.RowKit

set_option maxHeartbeats 400000 in
theorem eqValue_same (k n : Int) (s : ByteArray) (w : World) :
    Calls Try.prog 47 #[.agg #[.int .i64 k, .int .i64 n, .string s], .agg #[.int .i64 k, .int .i64 n, .string s]] w fun e w' => e = .returned (.bool true) ∧ Below w.heap.size w w' := by
  go_enter Try.func47, Try.ntmps47
  go_wp2
  go_ret
  exact ⟨rfl, ((Below.refl _ _).alloc (Nat.le_refl _) _).alloc (by simp) _⟩

end Go.Proofs.Ytopbdjplpnojmaa
