/-
  The drawing functions of the document's model: a number off the cursor, a cursor laid over bytes, whether bytes are too many.
-/
import Derived.Test.YtpmkfdinkomaiaaGreatDoorD8
namespace Go.Proofs.YtpmkfdinkomaiaaGreatDoor
open Go.RowKit

set_option maxRecDepth 100000 in
set_option maxHeartbeats 1000000 in
theorem number_any (W : World) (C xc M : Nat) (xa : Option Addr) (bs : List Int) (w : World) (h : CurAt W w C xa bs xc M) (hM : M ≤ 10000000) :
    Calls Tryz.prog 53 #[.pointer (some ⟨C, 0, none⟩)] w fun e w' => ∃ r : Int, e = .returned (.int .i64 r) ∧ CurAt W w' C xa bs xc (M + 2) ∧ Fr C C w.heap.size w w' := by
  obtain ⟨p, s, hc, -⟩ := h.blk
  have hlt := lt_block hc
  clear hc p s
  go_enter Tryz.func53, Tryz.ntmps53
  go_wp2_with fail
  refine (pick_any W C xc M xa bs _ _ h (by omega)).mono ?_
  rintro e w1 ⟨r, rfl, r0, r1, hC, hP⟩
  have hsz := hP.size
  have HZ : Hid (w1.heap.size = w.heap.size) := hsz
  have hF : Fr C C w.heap.size w w1 := Fr.px hP
  by_cases h0 : r = 0
  · subst h0
    go_wp2_with fail
    refine (pick_any W C xc _ xa bs _ _ hC (by omega)).mono ?_
    rintro e w2 ⟨r2, rfl, r20, r21, hC2, hP2⟩
    go_wp2
    go_ret
    exact ⟨_, rfl, hC2, hF.trans (Fr.px hP2)⟩
  by_cases h1 : r = 1
  · subst h1
    have hne : w1.heap.size ≠ C := by omega
    clear hsz
    go_wp2_with fail
    refine (pick_any W C xc _ xa bs _ _ (hC.later ((Below.refl _ _).alloc (Nat.le_refl _) _)) (by omega)).mono ?_
    rintro e w2 ⟨r2, rfl, r20, r21, hC2, hP2⟩
    obtain ⟨k, rfl⟩ : ∃ k : Nat, r2 = k := ⟨r2.toNat, by omega⟩
    have hk8 : (k : Int) < 8 := by omega
    have hF2 : Fr C C w.heap.size w w2 := (hF.trans (Fr.below ((Below.refl _ _).alloc (Nat.le_refl _) _) (by have := HZ.out; omega))).trans (Fr.px hP2)
    obtain ⟨z, hz⟩ := lit_cell (k := k) hP2 hne rfl (by simp; omega)
    clear hP2
    go_wp2
    go_ret
    exact ⟨_, rfl, hC2, hF2⟩
  · have b0 : (r == 0) = false := by simpa using h0
    have b1 : (r == 1) = false := by simpa using h1
    clear h0 h1 hsz
    go_wp2_with fail
    refine (pick_any W C xc _ xa bs _ _ hC (by omega)).mono ?_
    rintro e w2 ⟨r2, rfl, r20, r21, hC2, hP2⟩
    go_wp2
    go_ret
    exact ⟨_, rfl, hC2, hF.trans (Fr.px hP2)⟩

set_option maxHeartbeats 400000 in
theorem big_any (a : Option Addr) (n cap : Nat) (w : World) :
    Calls Tryz.prog 4 #[.slice a n cap] w fun e w' => e = .returned (.bool (decide ((1048576 : Int) < n))) ∧ w' = w := by
  go_enter Tryz.func4, Tryz.ntmps4
  go_wp2
  go_ret
  exact ⟨rfl, rfl⟩

set_option maxHeartbeats 400000 in
theorem open_any (xa : Option Addr) (bs : List Int) (xc : Nat) (w : World) (hn : bs.length ≤ 1048576) (hB : BytesAt w 0 xa bs) (hv : ∀ x ∈ bs, 0 ≤ x ∧ x ≤ 255) :
    Calls Tryz.prog 13 #[.slice xa bs.length xc] w fun e w' => e = .returned (.pointer (some ⟨w.heap.size, 0, none⟩)) ∧ CurAt w w' w.heap.size xa bs xc 0 := by
  go_enter Tryz.func13, Tryz.ntmps13
  go_wp2
  go_ret
  refine ⟨rfl, ⟨_, _, block_new _ _ _, by omega, by omega, by omega, by omega⟩, Nat.le_refl _, (Below.refl _ _).alloc (Nat.le_refl _) _, hB, hn, hv⟩
end Go.Proofs.YtpmkfdinkomaiaaGreatDoor
