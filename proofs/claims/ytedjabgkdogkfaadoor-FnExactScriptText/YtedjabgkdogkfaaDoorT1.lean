/-
  The text of an instruction on plain data, and what the document's numerals, words and the table of Ops without an A answer.
-/
import Derived.Test.YtedjabgkdogkfaaDoorW1
import Derived.Lib.ItoaMem
import Derived.Deep.RegionHeld3
namespace Go.Proofs.YtedjabgkdogkfaaDoor
open Go.RowKit

/-- The words of the Ops, at their numbers. -/
def words : List ByteArray := [⟨#[]⟩, ⟨#[105, 110, 116]⟩, ⟨#[98, 111, 111, 108]⟩, ⟨#[116, 101, 120, 116]⟩, ⟨#[110, 105, 108]⟩, ⟨#[102, 117, 110]⟩, ⟨#[108, 111, 97, 100]⟩, ⟨#[115, 116, 111, 114, 101]⟩, ⟨#[100, 117, 112]⟩, ⟨#[100, 114, 111, 112]⟩, ⟨#[115, 119, 97, 112]⟩, ⟨#[97, 100, 100]⟩, ⟨#[115, 117, 98]⟩, ⟨#[109, 117, 108]⟩, ⟨#[108, 101, 115, 115]⟩, ⟨#[115, 97, 109, 101]⟩, ⟨#[110, 111, 116]⟩, ⟨#[106, 117, 109, 112]⟩, ⟨#[105, 102]⟩, ⟨#[105, 102, 110, 111, 116]⟩, ⟨#[110, 101, 119]⟩, ⟨#[103, 101, 116]⟩, ⟨#[112, 117, 116]⟩, ⟨#[99, 97, 108, 108]⟩, ⟨#[105, 110, 118, 111, 107, 101]⟩, ⟨#[114, 101, 116, 117, 114, 110]⟩, ⟨#[112, 114, 105, 110, 116]⟩]
def bareB (op : Int) : Bool := decide (op = 4) || (decide (8 ≤ op) && decide (op ≤ 16)) || decide (op = 25) || decide (op = 26)
def numText (n : Int) : ByteArray := ⟨(Lib.itoa n).toArray⟩
/-- The text of an instruction. -/
def insText (op a : Int) : ByteArray := if op < 1 ∨ 26 < op then ⟨#[]⟩ else if bareB op = true then words.getD op.toNat ⟨#[]⟩ else words.getD op.toNat ⟨#[]⟩ ++ ⟨#[32]⟩ ++ numText a

theorem strOfNums_dig (n : Nat) : strOfNums [48 + (n : Int) % 10] = ⟨#[UInt8.ofNat (48 + n % 10)]⟩ := by
  have : (48 + (n : Int) % 10).toNat = 48 + n % 10 := by omega
  unfold strOfNums
  simp only [List.map_cons, List.map_nil]
  rw [this]
theorem bytes_append (a b : List UInt8) : (⟨(a ++ b).toArray⟩ : ByteArray) = ⟨a.toArray⟩ ++ ⟨b.toArray⟩ := by
  apply ByteArray.ext
  simp
theorem dig_new (n : Nat) (W : World) : (convert 33 9 (.slice (some ⟨W.heap.size, 0, none⟩) 1 1)).run Tryd.prog (W.alloc (.cells #[.int .u8 (48 + (n : Int) % 10)] 5)) = .ok (.string ⟨#[UInt8.ofNat (48 + n % 10)]⟩) (W.alloc (.cells #[.int .u8 (48 + (n : Int) % 10)] 5)) := by
  have hcv := run_convert_bytes_arg (P := Tryd.prog) (W.alloc (.cells #[.int .u8 (48 + (n : Int) % 10)] 5)) 33 5 Tryd.underlying33 Tryd.underlying5 W.heap.size 0 1 1 [48 + (n : Int) % 10] rfl
    (fun i hi => by have : i = 0 := by omega
                    subst this
                    rw [cell_new]; rfl) 9 Tryd.underlying9
  rw [strOfNums_dig] at hcv
  exact hcv
theorem dig_old (n : Nat) {W W' : World} (hb : Below (W.alloc (.cells #[.int .u8 (48 + (n : Int) % 10)] 5)).heap.size (W.alloc (.cells #[.int .u8 (48 + (n : Int) % 10)] 5)) W') : (convert 33 9 (.slice (some ⟨W.heap.size, 0, none⟩) 1 1)).run Tryd.prog W' = .ok (.string ⟨#[UInt8.ofNat (48 + n % 10)]⟩) W' := by
  have hcv := run_convert_bytes_arg (P := Tryd.prog) W' 33 5 Tryd.underlying33 Tryd.underlying5 W.heap.size 0 1 1 [48 + (n : Int) % 10] rfl
    (fun i hi => by have : i = 0 := by omega
                    subst this
                    refine cell_later hb ?_
                    rw [cell_new]; rfl) 9 Tryd.underlying9
  rw [strOfNums_dig] at hcv
  exact hcv

set_option maxHeartbeats 1600000 in
theorem sDigits_one (n : Nat) (h : n < 10) (w : World) : Calls Tryd.prog 22 #[.int .i64 n] w fun e w' => e = .returned (.string ⟨(Lib.decDigits n).toArray⟩) ∧ Below w.heap.size w w' := by
  have hcv := dig_new n w
  rw [Lib.decDigits, dif_pos h]
  rcases (show n = 0 ∨ n = 1 ∨ n = 2 ∨ n = 3 ∨ n = 4 ∨ n = 5 ∨ n = 6 ∨ n = 7 ∨ n = 8 ∨ n = 9 by omega) with rfl | rfl | rfl | rfl | rfl | rfl | rfl | rfl | rfl | rfl
  all_goals
    simp at hcv
    go_enter Tryd.func22, Tryd.ntmps22
    go_wp2
    go_ret
    exact ⟨rfl, (Below.refl _ _).alloc (Nat.le_refl _) _⟩
end Go.Proofs.YtedjabgkdogkfaaDoor
