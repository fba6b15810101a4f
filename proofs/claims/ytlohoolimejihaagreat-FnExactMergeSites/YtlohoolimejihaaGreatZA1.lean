/-
  A watcher is made; what it tells.
-/
import Derived.Test.YtlohoolimejihaaGreatZJ
namespace Go.Proofs.YtlohoolimejihaaGreat
open Go.RowKit

def NewPost (c : Bool) (w : World) : Ending → World → Prop := fun e w' => e = .returned (valW ⟨0, 0, w.heap.size, c, 0, 0, 0⟩) ∧ WAt w' ⟨0, 0, w.heap.size, c, 0, 0, 0⟩ ∧ Below w.heap.size w w'
set_option maxHeartbeats 400000 in
theorem newWatcher_any (op : Int) (w : World) :
    Calls Tryz.prog 109 #[.int .i64 op] w (NewPost (decide (op = 23)) w) := by
  by_cases h : op = 23
  · subst h
    have HR : Hid (NewPost (decide ((23 : Int) = 23)) w (.returned (.iface 197 (.pointer (some ⟨w.heap.size, 0, none⟩)))) (w.alloc (.cells #[.int .i64 0, .int .i64 0, .int .i64 0] 201))) :=
      ⟨rfl, block_new _ _ _, (Below.refl _ _).alloc (Nat.le_refl _) _⟩
    obtain ⟨c, hc⟩ : ∃ c, c = decide ((23 : Int) = 23) := ⟨_, rfl⟩
    rw [← hc] at HR ⊢
    clear hc
    go_enter Tryz.func109, Tryz.ntmps109
    go_wp2
    go_ret
    exact HR.out
  · have HR : Hid (NewPost (decide (op = 23)) w (.returned (.iface 202 (.pointer (some ⟨w.heap.size, 0, none⟩)))) (w.alloc (.cells #[.int .i64 0, .int .i64 0] 204))) := by
      rw [decide_eq_false h]
      exact ⟨rfl, block_new _ _ _, (Below.refl _ _).alloc (Nat.le_refl _) _⟩
    obtain ⟨c, hc⟩ : ∃ c, c = decide (op = 23) := ⟨_, rfl⟩
    rw [← hc] at HR ⊢
    clear hc
    go_enter Tryz.func109, Tryz.ntmps109
    go_wp2
    go_ret
    exact HR.out

def ToldPost (W : Wt) (w : World) : Ending → World → Prop := fun e w' => e = .returned (.tuple #[.int .i64 (told W).1, .int .i64 (told W).2]) ∧ Below w.heap.size w w'
set_option maxHeartbeats 1000000 in
theorem toldNum_any (W : Wt) (w : World) (hc : W.c = false) (h : WAt w W) :
    Calls Tryz.prog 186 #[.pointer (some ⟨W.g, 0, none⟩)] w (ToldPost W w) := by
  have hb : w.heap[W.g]? = some (.cells #[.int .i64 W.x, .int .i64 W.o] 204 (0, 0)) := by unfold WAt cellsW tyW at h; rw [hc] at h; exact h
  have HT : Hid (told W = if W.o = 0 then (1, 0) else if W.x = 0 then (2, 0) else (3, 0)) := by show _ = _; unfold told; rw [if_neg (by rw [hc]; simp)]
  have k0 : w.cell? ⟨W.g, 0, none⟩ = some (.int .i64 W.x) := by rw [block_cell hb]; rfl
  have HO : Hid (Calls Tryz.prog 184 #[.pointer (some ⟨W.g, 0, none⟩)] w fun e w' => e = .returned (.bool (decide (W.o = 0))) ∧ w' = w) := only_any W.g W.o w (by rw [block_cell hb]; rfl)
  clear hb h hc
  go_enter Tryz.func186, Tryz.ntmps186
  go_wp2_with fail
  refine HO.out.mono ?_
  rintro e w1 ⟨rfl, rfl⟩
  by_cases ho : W.o = 0
  · have HQ := hidz (HT.out.trans (by rw [if_pos ho]))
    rw [decide_eq_true ho]
    clear HT ho
    go_wp2
    go_ret2
    unfold ToldPost; rw [HQ.out]; exact ⟨rfl, Below.refl _ _⟩
  · by_cases hx : W.x = 0
    · have HQ := hidz (HT.out.trans (by rw [if_neg ho, if_pos hx]))
      rw [decide_eq_false ho]
      rw [hx] at k0
      clear HT ho hx
      go_wp2
      go_ret2
      unfold ToldPost
      rw [HQ.out]
      exact ⟨rfl, Below.refl _ _⟩
    · have HQ := hidz (HT.out.trans (by rw [if_neg ho, if_neg hx]))
      rw [decide_eq_false ho]
      clear HT ho
      go_wp2
      go_ret2
      unfold ToldPost
      rw [HQ.out]
      exact ⟨rfl, Below.refl _ _⟩
set_option maxHeartbeats 1000000 in
theorem toldCall_any (W : Wt) (w : World) (hc : W.c = true) (h : WAt w W) :
    Calls Tryz.prog 182 #[.pointer (some ⟨W.g, 0, none⟩)] w (ToldPost W w) := by
  have hb : w.heap[W.g]? = some (.cells #[.int .i64 W.x, .int .i64 W.o, .int .i64 W.t] 201 (0, 0)) := by unfold WAt cellsW tyW at h; rw [hc] at h; exact h
  have HT : Hid (told W = if W.o = 0 then (1, W.t) else (2, 0)) := by show _ = _; unfold told; rw [if_pos hc]
  have k2 : w.cell? ⟨W.g, 2, none⟩ = some (.int .i64 W.t) := by rw [block_cell hb]; rfl
  have HO : Hid (Calls Tryz.prog 184 #[.pointer (some ⟨W.g, 0, none⟩)] w fun e w' => e = .returned (.bool (decide (W.o = 0))) ∧ w' = w) := only_any W.g W.o w (by rw [block_cell hb]; rfl)
  clear hb h hc
  go_enter Tryz.func182, Tryz.ntmps182
  go_wp2_with fail
  refine HO.out.mono ?_
  rintro e w1 ⟨rfl, rfl⟩
  by_cases ho : W.o = 0
  · have HQ := hidz (HT.out.trans (by rw [if_pos ho]))
    rw [decide_eq_true ho]
    clear HT ho
    go_upto_region 2 with fail
    go_quiet (fail)
    go_wp2
    go_ret2
    unfold ToldPost
    rw [HQ.out]
    exact ⟨rfl, below_draws (Below.refl _ _) _⟩
  · have HQ := hidz (HT.out.trans (by rw [if_neg ho]))
    rw [decide_eq_false ho]
    clear HT ho
    go_wp2
    go_ret2
    unfold ToldPost
    rw [HQ.out]
    exact ⟨rfl, Below.refl _ _⟩
end Go.Proofs.YtlohoolimejihaaGreat
