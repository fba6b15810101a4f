/-
  What the laws' functions over slices of numbers (eqIntS, markIntS, heldIntS) return.
-/
import Derived.Test.YtenmbdegaldngaaDoorV10
namespace Go.Proofs.YtenmbdegaldngaaDoor
open Go.RowKit

theorem DSl.ints {w : World} {B n cap : Nat} {a : Option Addr} {d : List Int} (h : DSl w B (.slice a n cap) d) : IntsAt w 0 a d := by
  obtain ⟨a', cap', hv, hi⟩ := h.form
  cases hv
  exact hi.low (Nat.zero_le _)

set_option maxHeartbeats 400000 in
theorem eqIntS_any (a a2 : Option Addr) (bs : List Int) (cap cap2 : Nat) (w : World) (hn : bs.length ≤ 1048576) (hm : IntsAt w 0 a bs) (hm2 : IntsAt w 0 a2 bs) :
    Calls Tryd.prog 10 #[.slice a bs.length cap, .slice a2 bs.length cap2] w fun e w' => e = .returned (.bool true) ∧ Below w.heap.size w w' := by
  go_enter Tryd.func10, Tryd.ntmps10
  go_wp2
  go_loopw [5] (fun i wr => ∃ (k : Nat), k ≤ bs.length ∧ i = .int .i64 k ∧ Below w.heap.size w wr) (fun i _ => bs.length - (intOf i).toNat)
  case atStart => exact ⟨0, by omega, rfl, Below.refl _ _⟩
  case round =>
    obtain ⟨k, hk, rfl, hb⟩ := hrel
    by_cases hlt : k < bs.length
    · obtain ⟨b, off, rfl, -, c1⟩ := hm k hlt
      obtain ⟨b2, off2, rfl, -, c2⟩ := hm2 k hlt
      have c1' := cell_later hb c1
      have c2' := cell_later hb c2
      clear c1 c2
      go_wp2
      go_quiet (fail)
      go_wp2
      go_roundw
      case rel => exact ⟨k + 1, by omega, by go_num, below_draws hb _⟩
      case measure => simp [intOf]; omega
    · go_wp2
      go_ret
      exact ⟨rfl, hb⟩

/-- The marks of n numbers, from k on. -/
def imarks (k : Int) (n : Nat) : List Int := (List.range n).map fun (i : Nat) => k + (i : Int)
theorem imarks_len (k : Int) (n : Nat) : (imarks k n).length = n := by simp [imarks]
theorem imarks_at (k : Int) (n i : Nat) (h : i < (imarks k n).length) : (imarks k n)[i] = k + i := by simp [imarks]

set_option maxHeartbeats 400000 in
theorem heldIntS_any (a : Option Addr) (n : Nat) (cap : Nat) (k0 : Int) (w : World) (hn : n ≤ 1048576) (h0 : 0 ≤ k0) (h1 : k0 ≤ 1000) (hm : IntsAt w 0 a (imarks k0 n)) :
    Calls Tryd.prog 14 #[.slice a n cap, .int .i64 k0] w fun e w' => e = .returned (.int .i64 (k0 + n)) ∧ Below w.heap.size w w' := by
  go_enter Tryd.func14, Tryd.ntmps14
  go_wp2
  go_loopw [1, 5] (fun q i wr => ∃ (k : Nat), k ≤ n ∧ i = .int .i64 k ∧ q = .int .i64 (k0 + k) ∧ Below w.heap.size w wr) (fun _ i _ => n - (intOf i).toNat)
  case atStart => exact ⟨0, by omega, rfl, by go_num, Below.refl _ _⟩
  case round =>
    obtain ⟨k, hk, rfl, rfl, hb⟩ := hrel
    by_cases hlt : k < n
    · obtain ⟨b, off, rfl, -, c1⟩ := hm k (by rw [imarks_len]; exact hlt)
      rw [imarks_at] at c1
      have c1' := cell_later hb c1
      clear c1
      go_wp2
      go_roundw
      case rel => exact ⟨k + 1, by omega, by go_num, by go_num, hb⟩
      case measure => simp [intOf]; omega
    · go_wp2
      go_ret
      exact ⟨ret_int (by omega), hb⟩

set_option maxHeartbeats 400000 in
theorem markIntS_any (B : Nat) (a : Option Addr) (bs : List Int) (cap : Nat) (k0 : Int) (w : World) (hn : bs.length ≤ 1048576) (h0 : 0 ≤ k0) (h1 : k0 ≤ 1000) (hown : DSl w B (.slice a bs.length cap) bs) :
    Calls Tryd.prog 13 #[.slice a bs.length cap, .int .i64 k0] w fun e w' => e = .returned (.int .i64 (k0 + bs.length)) ∧ DSl w' B (.slice a bs.length cap) (imarks k0 bs.length) ∧ Keeps B [3] w w' := by
  rcases hown with ⟨rfl, a', cap', hv⟩ | ⟨g, cp, hv, hgB, hH0⟩
  · go_enter Tryd.func13, Tryd.ntmps13
    go_wp2
    go_loopw [1, 5] (fun q i wr => q = .int .i64 k0 ∧ i = .int .i64 0 ∧ wr = w) (fun _ i _ => (intOf i).toNat)
    case atStart => exact ⟨rfl, rfl, rfl⟩
    case round =>
      obtain ⟨rfl, rfl, rfl⟩ := hrel
      go_wp2
      go_ret
      exact ⟨ret_int (by simp), .inl ⟨rfl, _, _, rfl⟩, Keeps.refl _ _ _⟩
  · cases hv
    go_enter Tryd.func13, Tryd.ntmps13
    go_wp2
    go_loopw [1, 5] (fun q i wr => ∃ (k : Nat) (cur : List Int), k ≤ bs.length ∧ i = .int .i64 k ∧ q = .int .i64 (k0 + k) ∧ Ht wr g cap cur ∧ Hid (cur.length = bs.length) ∧ Hid (∀ j (hj : j < cur.length), j < k → cur[j] = k0 + j) ∧ Keeps B [3] w wr) (fun _ i _ => bs.length - (intOf i).toNat)
    case atStart => exact ⟨0, bs, by omega, rfl, by go_num, hH0, rfl, fun j _ h => absurd h (Nat.not_lt_zero _), Keeps.refl _ _ _⟩
    case round =>
      obtain ⟨k, cur, hk, rfl, rfl, hH, hlen, hdone, hkr⟩ := hrel
      by_cases hlt : k < bs.length
      · have hkl : k < cur.length := by rw [hlen.out]; exact hlt
        have hfz := hH.free k
        have hcl := hH.cell hkl
        have hH2 := hH.set hkl (k0 + k)
        obtain ⟨c, hblk, -⟩ := hH
        have hk2 := Keeps.set hkr hblk (by simp) hgB k (.int .i64 (k0 + k))
        clear hblk
        go_wp2
        go_roundw
        case rel =>
          refine ⟨k + 1, cur.set k (k0 + k), by omega, by go_num, by go_num, hH2, ?_, ?_, hk2⟩
          · show _ = _
            rw [List.length_set]
            exact hlen.out
          · intro j hj hjk
            rw [List.length_set] at hj
            by_cases e : j = k
            · subst e; simp
            · rw [List.getElem_set_ne (fun q => e q.symm)]; exact hdone.out j hj (by omega)
        case measure => simp [intOf]; omega
      · have hce : Hid (cur = imarks k0 bs.length) := by
          show _ = _
          apply List.ext_getElem
          · rw [imarks_len]; exact hlen.out
          · intro j h1 h2
            rw [imarks_at]
            exact hdone.out j h1 (by rw [imarks_len] at h2; omega)
        go_wp2
        go_ret
        refine ⟨ret_int (by omega), .inr ⟨g, cap, by rw [imarks_len], hgB, by rw [← hce.out]; exact hH⟩, hkr⟩
end Go.Proofs.YtenmbdegaldngaaDoor
