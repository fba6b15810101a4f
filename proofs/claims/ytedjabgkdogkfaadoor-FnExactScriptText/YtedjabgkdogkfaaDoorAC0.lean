/-
  Acts as plain data: which are ok; the cells of the table of their limits.
-/
import Derived.Test.YtedjabgkdogkfaaDoorY1
namespace Go.Proofs.YtedjabgkdogkfaaDoor
open Go.RowKit

theorem hid {p : Prop} (h : p) : Hid p := h
/-- An act that is ok: its kind, A, B, Lay, Bare, and how many sites. -/
def AOK (k a b l : Int) (s : Bool) (n : Nat) : Prop :=
  (k = 1 ∧ (0 ≤ a ∧ a ≤ 500) ∧ b = 0 ∧ l = 0 ∧ s = false ∧ n = 0) ∨ (k = 2 ∧ (0 ≤ a ∧ a ≤ 11) ∧ b = 0 ∧ (0 ≤ l ∧ l ≤ 3) ∧ n = 0) ∨
  (k = 3 ∧ (0 ≤ a ∧ a ≤ 11) ∧ (0 ≤ b ∧ b ≤ 119) ∧ (0 ≤ l ∧ l ≤ 3) ∧ n = 0) ∨ (k = 4 ∧ (0 ≤ a ∧ a ≤ 11) ∧ b = 0 ∧ l = 0 ∧ s = false ∧ n = 0) ∨
  (k = 5 ∧ a = 0 ∧ b = 0 ∧ l = 0 ∧ s = false ∧ n ≤ 150)
/-- What is answered. -/
def ActPost (k a b l : Int) (s : Bool) (n : Nat) (e : Ending) : Prop := ∃ r, e = .returned (.bool r) ∧ (r = true ↔ AOK k a b l s n)
theorem ActPost.one {k a b l : Int} {s : Bool} {n : Nat} {r r' : Bool} (h : r = true ↔ AOK k a b l s n) (h' : r' = true ↔ AOK k a b l s n) : r = r' := by
  cases r <;> cases r' <;> simp_all
theorem ActPost.no {k a b l : Int} {s : Bool} {n : Nat} (h : ¬ AOK k a b l s n) : ActPost k a b l s n (.returned (.bool false)) := ⟨false, rfl, fun h' => (by cases h'), fun h' => absurd h' h⟩
theorem ActPost.yes {k a b l : Int} {s : Bool} {n : Nat} (h : AOK k a b l s n) : ActPost k a b l s n (.returned (.bool true)) := ⟨true, rfl, fun _ => h, fun _ => rfl⟩
/-- The limits of each kind. -/
def lims : List (Int × Int × Int × Bool × Int) := [(0, 0, 0, false, 0), (500, 0, 0, false, 0), (11, 0, 3, true, 0), (11, 119, 3, true, 0), (11, 0, 0, false, 0), (0, 0, 0, false, 150)]
/-- The table in memory. -/
def LimAt (w : World) : Prop := ∀ k (h : k < lims.length), w.cell? ⟨0, k * 5, none⟩ = some (.int .i64 lims[k].1) ∧ w.cell? ⟨0, k * 5 + 1, none⟩ = some (.int .i64 lims[k].2.1) ∧ w.cell? ⟨0, k * 5 + 2, none⟩ = some (.int .i64 lims[k].2.2.1) ∧ w.cell? ⟨0, k * 5 + 3, none⟩ = some (.bool lims[k].2.2.2.1) ∧ w.cell? ⟨0, k * 5 + 4, none⟩ = some (.int .i64 lims[k].2.2.2.2)
theorem LimAt.mono {w w' : World} (h : LimAt w) (hb : Below w.heap.size w w') : LimAt w' := by
  intro k hk
  obtain ⟨h1, h2, h3, h4, h5⟩ := h k hk
  exact ⟨cell_later hb h1, cell_later hb h2, cell_later hb h3, cell_later hb h4, cell_later hb h5⟩
end Go.Proofs.YtedjabgkdogkfaaDoor
