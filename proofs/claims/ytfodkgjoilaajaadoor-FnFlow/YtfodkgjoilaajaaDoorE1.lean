/-
  The laws' sameInts and member.
-/
import Derived.Test.YtfodkgjoilaajaaDoorGd
namespace Go.Proofs.YtfodkgjoilaajaaDoor
open Go.RowKit

set_option maxHeartbeats 400000 in
theorem sameInts_any (a a2 : Option Addr) (bs : List Int) (cap cap2 : Nat) (w : World) (hn : bs.length ≤ 1048576) (hm : IntsAt w 0 a bs) (hm2 : IntsAt w 0 a2 bs) :
    Calls Tryd.prog 9 #[.slice a bs.length cap, .slice a2 bs.length cap2] w fun e w' => e = .returned (.bool true) ∧ Below w.heap.size w w' := by
  go_enter Tryd.func9, Tryd.ntmps9
  go_wp2
  go_loopw [5] (fun i wr => ∃ (k : Nat), k ≤ bs.length ∧ i = .int .i64 k ∧ Below w.heap.size w wr) (fun i _ => bs.length - (intOf i).toNat)
  case atStart => exact ⟨0, by omega, rfl, Below.refl _ _⟩
  case round =>
    obtain ⟨k, hk, rfl, hb⟩ := hrel
    by_cases hlt : k < bs.length
    · obtain ⟨b, off, rfl, -, c1⟩ := hm k hlt
      obtain ⟨b2, off2, rfl, -, c2⟩ := hm2 k hlt
      have c1' := cell_later hb c1
      have c2' := cell_later hb c2
      clear c1 c2
      go_wp2
      go_quiet (fail)
      go_wp2
      go_roundw
      case rel => exact ⟨k + 1, by omega, by go_num, below_draws hb _⟩
      case measure => simp [intOf]; omega
    · go_wp2
      go_ret
      exact ⟨rfl, hb⟩

set_option maxHeartbeats 400000 in
theorem member_any (a : Option Addr) (l : List Int) (n : Int) (cap : Nat) (w : World) (hn : l.length ≤ 1048576) (hm : IntsAt w 0 a l) :
    Calls Tryd.prog 16 #[.slice a l.length cap, .int .i64 n] w fun e w' => e = .returned (.bool (pB (n ∈ l))) ∧ w' = w := by
  go_enter Tryd.func16, Tryd.ntmps16
  go_wp2
  go_loopw [5] (fun i wr => ∃ (k : Nat), k ≤ l.length ∧ i = .int .i64 k ∧ Hid (∀ j (hj : j < l.length), j < k → l[j] ≠ n) ∧ wr = w) (fun i _ => l.length - (intOf i).toNat)
  case atStart => exact ⟨0, by omega, rfl, fun _ _ h => absurd h (Nat.not_lt_zero _), rfl⟩
  case round =>
    obtain ⟨k, hk, rfl, hno, rfl⟩ := hrel
    by_cases hlt : k < l.length
    · obtain ⟨b, off, rfl, -, c1⟩ := hm k hlt
      obtain ⟨z, hz⟩ : ∃ z, z = l[k] := ⟨_, rfl⟩
      rw [← hz] at c1
      have HZ : Hid (l[k] = z) := hz.symm
      clear hz
      by_cases he : z = n
      · subst he
        have HY : Hid (pB (z ∈ l) = true) := pB_yes (by rw [← HZ.out]; exact List.getElem_mem _)
        go_wp2
        go_ret
        exact ⟨ret_bool HY.out.symm, rfl⟩
      · have he' : (z == n) = false := by simpa using he
        have HNO : Hid (∀ j (hj : j < l.length), j < k + 1 → l[j] ≠ n) := fun j hj hjk => by
          by_cases e : j = k
          · subst e; rw [HZ.out]; exact he
          · exact hno.out j hj (by omega)
        go_wp2
        go_roundw
        case rel => exact ⟨k + 1, by omega, by go_num, HNO.out, trivial⟩
        case measure => simp [intOf]; omega
    · have HY : Hid (pB (n ∈ l) = false) := pB_no (fun h => by
        obtain ⟨j, hj, e⟩ := List.getElem_of_mem h
        exact hno.out j hj (by omega) e)
      go_wp2
      go_ret
      exact ⟨ret_bool HY.out.symm, rfl⟩
end Go.Proofs.YtfodkgjoilaajaaDoor
