/-
  What the laws' functions over bytes (eqByteS, markByteS, heldByteS) and markText return.
-/
import Derived.Test.YtopbdjplpnojmaaW1
import Derived.Test.YtopbdjplpnojmaaMem3
namespace Go.Proofs.Ytopbdjplpnojmaa
open Go.RowKit

/-- The marks of n bytes, from k on. -/
def marks (k : Int) (n : Nat) : List Int := (List.range n).map fun (i : Nat) => (k + (i : Int)) % 256
theorem marks_len (k : Int) (n : Nat) : (marks k n).length = n := by simp [marks]
theorem marks_at (k : Int) (n i : Nat) (h : i < (marks k n).length) : (marks k n)[i] = (k + i) % 256 := by simp [marks]

set_option maxHeartbeats 400000 in
theorem markText_any (k0 : Int) (w : World) (h0 : 0 ≤ k0) (h1 : k0 ≤ 1000000000000000) :
    Calls Try.prog 69 #[.int .i64 k0] w fun e w' => ∃ s : ByteArray, e = .returned (.string s) ∧ Below w.heap.size w w' := by
  by_cases hz : k0 ≤ 0
  · go_enter Try.func69, Try.ntmps69
    go_wp2
    go_ret
    exact ⟨_, rfl, Below.refl _ _⟩
  · go_enter Try.func69, Try.ntmps69
    go_wp2
    go_loopw [0, 3] (fun q o wr => ∃ (x : Nat) (s : ByteArray), q = .int .i64 x ∧ o = .string s ∧ s.size + x ≤ k0 ∧ Below w.heap.size w wr) (fun q _ _ => (intOf q).toNat)
    case atStart => exact ⟨k0.toNat, ByteArray.empty, by go_num, rfl, by simp; omega, Below.refl _ _⟩
    case round =>
      obtain ⟨x, s, rfl, rfl, hsz, hb⟩ := hrel
      by_cases hx : 0 < x
      · have hx' : (0 : Int) < (x : Int) := by omega
        have hcv := run_convert_bytes_arg (P := Try.prog) (wr.alloc (.cells #[.int .u8 (48 + (x : Int) % 10)] 5)) 159 5 Try.underlying159 Try.underlying5 wr.heap.size 0 1 1 [48 + (x : Int) % 10] rfl
          (fun i hi => by have : i = 0 := by omega
                          subst this
                          rw [cell_new]; rfl) 9 Try.underlying9
        have hsn : (strOfNums [48 + (x : Int) % 10]).size ≤ 1 := by simp [strOfNums, ByteArray.size]
        generalize strOfNums [48 + (x : Int) % 10] = t at *
        go_wp2
        go_roundw
        case rel => exact ⟨x / 10, t ++ s, by go_num, rfl, by rw [ByteArray.size_append]; omega, hb.alloc hb.size _⟩
        case measure => simp [intOf]; omega
      · have hx' : (x : Int) ≤ 0 := by omega
        go_wp2
        go_ret
        exact ⟨_, rfl, hb⟩

end Go.Proofs.Ytopbdjplpnojmaa
