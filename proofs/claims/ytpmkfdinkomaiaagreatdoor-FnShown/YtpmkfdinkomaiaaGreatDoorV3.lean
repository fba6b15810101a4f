/-
  What spec.l03Next returns: the places that may follow, in memory of the call's own.
-/
import Derived.Test.YtpmkfdinkomaiaaGreatDoorGQ1
import Derived.Test.YtpmkfdinkomaiaaGreatDoorV0
import Derived.Test.YtpmkfdinkomaiaaGreatDoorMem3
namespace Go.Proofs.YtpmkfdinkomaiaaGreatDoor
open Go.RowKit

theorem info3 : (Tryz.prog.info? 3).map (fun i => (i.zero, i.size, i.bytes)) = some (some (.int .i64 0), 1, 8) := by kernel_rfl

/-- The cells of a slice of numbers. -/
def IntsAt (w : World) (lo : Nat) (a : Option Addr) (xs : List Int) : Prop :=
  ∀ i (h : i < xs.length), ∃ b off, a = some ⟨b, off, none⟩ ∧ lo ≤ b ∧ w.cell? ⟨b, off + i, none⟩ = some (.int .i64 xs[i])

theorem IntsAt.mono {w w' : World} {lo : Nat} {a : Option Addr} {xs : List Int} (h : IntsAt w lo a xs) (hb : Below w.heap.size w w') : IntsAt w' lo a xs := by
  intro i hi
  obtain ⟨b, off, h1, h2, h3⟩ := h i hi
  exact ⟨b, off, h1, h2, cell_later hb h3⟩
theorem IntsAt.low {w : World} {lo lo' : Nat} {a : Option Addr} {xs : List Int} (h : IntsAt w lo a xs) (hl : lo' ≤ lo) : IntsAt w lo' a xs := fun i hi => by
  obtain ⟨b, off, h1, h2, h3⟩ := h i hi
  exact ⟨b, off, h1, by omega, h3⟩
theorem IntsAt.above {w w' : World} {lo : Nat} {a : Option Addr} {xs : List Int} (h : IntsAt w lo a xs) (hb : Above lo w w') : IntsAt w' lo a xs := by
  intro i hi
  obtain ⟨b, off, h1, h2, h3⟩ := h i hi
  exact ⟨b, off, h1, h2, hb.cell h2 h3⟩

theorem IntsAt.own {w : World} {B n cap : Nat} {a : Option Addr} {xs : List Int} {vs : List Value} (h : w.ownsRow B 3 1 (.slice a n cap) n vs) (hv : vs = xs.map (Value.int .i64)) (hn : n = xs.length) : IntsAt w B a xs := by
  subst hv
  subst hn
  rcases h.2 with ⟨-, hn⟩ | ⟨g, cap, cur, hv, hb, hh, hn, -, hs, htake⟩
  · exact fun i hi => by omega
  · cases hv
    refine fun i hi => ⟨g, 0, rfl, hb, ?_⟩
    rw [block_cell hh, Nat.zero_add]
    have h1 : (cur.toList.take (xs.length * 1))[i]? = (xs.map (Value.int .i64))[i]? := by rw [htake]
    rw [List.getElem?_take_of_lt (by omega)] at h1
    simpa [hi] using h1

theorem next25 (a : Int) (pc : Nat) : nextB 25 a pc = [] := rfl
theorem next17 (a : Int) (pc : Nat) : nextB 17 a pc = [a] := rfl
theorem next18 (a : Int) (pc : Nat) : nextB 18 a pc = [(pc : Int) + 1, a] := rfl
theorem next19 (a : Int) (pc : Nat) : nextB 19 a pc = [(pc : Int) + 1, a] := rfl
theorem next_else {op : Int} (a : Int) (pc : Nat) (h1 : op ≠ 25) (h2 : op ≠ 17) (h3 : op ≠ 18) (h4 : op ≠ 19) : nextB op a pc = [(pc : Int) + 1] := by
  unfold nextB
  rw [if_neg h1, if_neg h2, if_neg (by omega)]

theorem one_new (W : World) (n : Nat) (hn : W.heap.size = n) (v : Value) (t : TypeId) : ∀ (j : Nat) (u : Value), [v][j]? = some u → (W.alloc (.cells #[v] t)).cell? ((⟨n, 0, none⟩ : Addr).add j) = some u := by
  subst hn
  exact cell_one_new _ _ _

end Go.Proofs.YtpmkfdinkomaiaaGreatDoor
