/-
  Marks in a plan's guesses, and whether they are held.
-/
import Derived.Test.YtmjkkpmfneabjaaJ17
namespace Go.Proofs.Ytmjkkpmfneabjaa
open Go.RowKit

/-- The guesses of a plan bear marks from 1 on. -/
def RowM (w : World) (xa : Option Addr) (n : Nat) : Prop := n = 0 ∨ ∃ g, xa = some ⟨g, 0, none⟩ ∧ Marked w g 44 n 1
theorem RowM.mono {w w' : World} {xa : Option Addr} {n : Nat} (h : RowM w xa n) (hb : Below w.heap.size w w') : RowM w' xa n := by
  rcases h with h | ⟨g, h1, h2⟩
  · exact .inl h
  · exact .inr ⟨g, h1, h2.mono hb⟩
theorem But.grown {g : Nat} {w w' : World} (h : But g w w') : w.grownBy w' (some g) := ⟨h.os, h.tape, h.output, h.size, fun k hk hr => h.block k hk (fun e => hr (by rw [e]))⟩
theorem below_grown {r : Option Nat} {w w' : World} (h : Below w.heap.size w w') : w.grownBy w' r := ⟨h.os, h.tape, h.output, h.size, fun k hk _ => h.block k hk⟩
theorem grown_trans {r : Option Nat} {a b c : World} (h : a.grownBy b r) (k : b.grownBy c r) : a.grownBy c r :=
  ⟨k.os.trans h.os, k.tape.trans h.tape, k.output.trans h.output, Nat.le_trans h.size k.size, fun i hi hr => (k.block i (Nat.lt_of_lt_of_le hi h.size) hr).trans (h.block i hi hr)⟩
/-- A row of another type than the one that grows is as it was. -/
theorem grown_other {w w' : World} {base e size n k : Nat} {v : Value} {xs : List Value} {c : Array Value} {t : TypeId} {fr : Nat × Nat} (hown : w.ownsRow base e size v n xs) (ho : w.heap[k]? = some (.cells c t fr)) (ht : t ≠ e) (hg : w.grownBy w' v.ownBlock) : w'.heap[k]? = some (.cells c t fr) := by
  rw [hg.block k (lt_size ho) ?_]
  · exact ho
  · intro hkv
    rcases hown.2 with ⟨rfl, -⟩ | ⟨b, cap, cur, rfl, hb, hh, -⟩
    · simp [Value.ownBlock] at hkv
    · simp [Value.ownBlock] at hkv
      subst hkv
      rw [ho] at hh
      cases hh
      exact ht rfl

theorem markNone (c : Nat) (a : Option Addr) (k0 : Int) (w : World) : Calls Try.prog 27 #[.slice a 0 c, .int .i64 k0] w fun e w' => e = .returned (.int .i64 k0) ∧ w' = w := by
  go_enter Try.func27, Try.ntmps27
  go_wp2
  go_loopw [1, 5] (fun q i wr => q = .int .i64 k0 ∧ i = .int .i64 0 ∧ wr = w) (fun _ _ _ => 0)
  case atStart => exact ⟨rfl, rfl, rfl⟩
  case round =>
    obtain ⟨rfl, rfl, rfl⟩ := hrel
    go_wp2
    go_ret
    exact ⟨rfl, rfl⟩
theorem heldNone (c : Nat) (a : Option Addr) (k0 : Int) (w : World) : Calls Try.prog 51 #[.slice a 0 c, .int .i64 k0] w fun e w' => e = .returned (.int .i64 k0) ∧ w' = w := by
  go_enter Try.func51, Try.ntmps51
  go_wp2
  go_loopw [1, 5] (fun q i wr => q = .int .i64 k0 ∧ i = .int .i64 0 ∧ wr = w) (fun _ _ _ => 0)
  case atStart => exact ⟨rfl, rfl, rfl⟩
  case round =>
    obtain ⟨rfl, rfl, rfl⟩ := hrel
    go_wp2
    go_ret
    exact ⟨rfl, rfl⟩

theorem markSpecs_own (B n xc : Nat) (xa : Option Addr) (xs : List Value) (w : World) (hn : n ≤ 1048576) (ho : w.ownsRow B 44 4 (.slice xa n xc) n xs) :
    Calls Try.prog 27 #[.slice xa n xc, .int .i64 1] w fun e w' => e = .returned (.int .i64 (1 + 4 * n)) ∧ w.grownBy w' (Value.slice xa n xc).ownBlock ∧ RowM w' xa n := by
  by_cases h0 : n = 0
  · subst h0
    refine (markNone xc xa 1 w).mono ?_
    rintro e w' ⟨rfl, rfl⟩
    exact ⟨by simp, below_grown (Below.refl _ _), .inl rfl⟩
  · rcases ho.2 with ⟨e, h1⟩ | ⟨b, cap, cur, e, hb, hh, h1, h2, h3, h4⟩
    · exact absurd h1 h0
    · cases e
      refine (markSpecs_any b n xc 1 w hn (by omega) (by omega) ⟨cur, hh, by rw [h3]; omega⟩).mono ?_
      rintro e w' ⟨rfl, hB, hM⟩
      exact ⟨rfl, hB.grown, .inr ⟨b, rfl, hM⟩⟩
theorem heldSpecs_own (n xc : Nat) (xa : Option Addr) (w : World) (hn : n ≤ 1048576) (ho : RowM w xa n) :
    Calls Try.prog 51 #[.slice xa n xc, .int .i64 1] w fun e w' => e = .returned (.int .i64 (1 + 4 * n)) ∧ Below w.heap.size w w' := by
  rcases ho with rfl | ⟨g, rfl, hM⟩
  · refine (heldNone xc xa 1 w).mono ?_
    rintro e w' ⟨rfl, rfl⟩
    exact ⟨by simp, Below.refl _ _⟩
  · exact heldSpecs_any g n xc 1 w hn (by omega) (by omega) hM

set_option maxHeartbeats 400000 in
theorem markPlan_any (B n xc : Nat) (xa : Option Addr) (xs : List Value) (lay : Int) (bare : Bool) (w : World) (hn : n ≤ 1048576) (ho : w.ownsRow B 44 4 (.slice xa n xc) n xs) :
    Calls Try.prog 28 #[.agg #[.slice xa n xc, .int .i64 lay, .bool bare], .int .i64 1] w fun e w' => e = .returned (.int .i64 (1 + 4 * n)) ∧ w.grownBy w' (Value.slice xa n xc).ownBlock ∧ RowM w' xa n := by
  have hb : Below w.heap.size w (w.alloc (.cells #[.slice xa n xc, .int .i64 lay, .bool bare] 38)) := (Below.refl _ _).alloc (Nat.le_refl _) _
  go_enter Try.func28, Try.ntmps28
  go_wp2_with fail
  refine (markSpecs_own B n xc xa xs _ hn (own_later ho hb)).mono ?_
  rintro e w1 ⟨rfl, hg, hM⟩
  have HG := hid (grown_trans (below_grown (r := (Value.slice xa n xc).ownBlock) hb) hg)
  have HM := hid hM
  clear hg hM
  go_wp2
  go_ret
  exact ⟨rfl, HG.out, HM.out⟩
set_option maxHeartbeats 400000 in
theorem heldPlan_any (n xc : Nat) (xa : Option Addr) (lay : Int) (bare : Bool) (w : World) (hn : n ≤ 1048576) (ho : RowM w xa n) :
    Calls Try.prog 29 #[.agg #[.slice xa n xc, .int .i64 lay, .bool bare], .int .i64 1] w fun e w' => e = .returned (.int .i64 (1 + 4 * n)) ∧ Below w.heap.size w w' := by
  have hb : Below w.heap.size w (w.alloc (.cells #[.slice xa n xc, .int .i64 lay, .bool bare] 38)) := (Below.refl _ _).alloc (Nat.le_refl _) _
  have hnn : ¬ (1 + 4 * (n : Int)) < 0 := by omega
  go_enter Try.func29, Try.ntmps29
  go_wp2_with fail
  refine (heldSpecs_own n xc xa _ hn (ho.mono hb)).mono ?_
  rintro e w1 ⟨rfl, hb1⟩
  have HB := hid (hb.trans (hb1.mono hb.size))
  clear hb1
  go_wp2
  go_ret
  exact ⟨rfl, HB.out⟩
end Go.Proofs.Ytmjkkpmfneabjaa
