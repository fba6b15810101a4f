/-
  The bytes of a number and of a module as lists of numbers.
-/
import Derived.Test.YtkclkgonihkhlaaDoorPlain2
namespace Go.Proofs.YtkclkgonihkhlaaDoor

def zig (n : Int) : Nat := if n < 0 then (-2 * n - 1).toNat else (2 * n).toNat
def groups : Nat → Nat → List Int
  | 0, u => [(u : Int)]
  | f + 1, u => if u < 128 then [(u : Int)] else ((u : Int) % 128 + 128) :: groups f (u / 128)
/-- The bytes of a number. -/
def num (n : Int) : List Int := groups (zig n) (zig n)

theorem groups_small {f x : Nat} (h : x < 128) : groups f x = [(x : Int)] := by
  cases f with
  | zero => rfl
  | succ f => simp [groups, h]
theorem groups_big {f x : Nat} (h : 128 ≤ x) (hf : x ≤ f) : ∃ f', groups f x = ((x : Int) % 128 + 128) :: groups f' (x / 128) ∧ x / 128 ≤ f' := by
  cases f with
  | zero => omega
  | succ f => exact ⟨f, by rw [groups, if_neg (by omega)], by omega⟩
theorem groups_len (k : Nat) : ∀ f x, x < 128 ^ (k + 1) → (groups f x).length ≤ k + 1 := by
  induction k with
  | zero => intro f x h; rw [groups_small (by simpa using h)]; simp
  | succ k ih =>
    intro f x h
    cases f with
    | zero => simp [groups]
    | succ f =>
      unfold groups
      split
      · simp
      · have := ih f (x / 128) (Nat.div_lt_of_lt_mul (by rw [Nat.pow_succ] at h; omega))
        simp only [List.length_cons]
        omega
theorem num_len {n : Int} (h0 : -1000000000 ≤ n) (h1 : n ≤ 1000000000) : (num n).length ≤ 5 :=
  groups_len 4 _ _ (by unfold zig; split <;> omega)
end Go.Proofs.YtkclkgonihkhlaaDoor
