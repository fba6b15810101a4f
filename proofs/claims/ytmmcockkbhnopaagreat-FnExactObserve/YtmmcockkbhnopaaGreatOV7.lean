/-
  What impl.InsOk and spec.InsOk return at a function of the module, the second where the number of locals is small.
-/
import Derived.Test.YtmmcockkbhnopaaGreatOV5
import Derived.Deep.RegionHeld3
namespace Go.Proofs.YtmmcockkbhnopaaGreat
open Go.RowKit

theorem argBounds_is (a1 a2 a3 : Option Addr) (nt c1 nf c2 nc c3 : Nat) (p l op lo hi : Int) (w : World) (h : boundsB nt nf l nc op = (lo, hi)) :
    Calls Tryz.prog 155 #[.agg #[.slice a1 nt c1, .slice a2 nf c2], .agg #[.int .i64 p, .int .i64 l, .slice a3 nc c3], .int .i64 op] w fun e w' => e = .returned (.tuple #[.int .i64 lo, .int .i64 hi]) ∧ Below w.heap.size w w' := by
  have := argBounds_any a1 a2 a3 nt c1 nf c2 nc c3 p l op w
  rwa [h] at this

set_option maxHeartbeats 800000 in
theorem iInsOk_any (a1 a2 : Option Addr) (nt c1 c2 : Nat) (fs : List Fn) (f : Nat) (op a : Int) (w : World) (hf : f < fs.length) (hm : FnsAt w 0 a2 fs) :
    Calls Tryz.prog 140 #[.agg #[.slice a1 nt c1, .slice a2 fs.length c2], .int .i64 f, .agg #[.int .i64 op, .int .i64 a]] w fun e w' => e = .returned (.bool (insB nt fs.length fs[f].locals fs[f].code.length op a)) ∧ Below w.heap.size w w' := by
  obtain ⟨b, off, ca, cc, rfl, -, d1, d2, d3, -⟩ := hm f hf
  have hins := insB_bounds nt fs.length fs[f].locals fs[f].code.length op a
  generalize hr : insB nt fs.length fs[f].locals fs[f].code.length op a = r at *
  obtain ⟨lo, hi, hlh⟩ : ∃ lo hi, boundsB nt fs.length fs[f].locals fs[f].code.length op = (lo, hi) := ⟨_, _, rfl⟩
  rw [hlh] at hins
  dsimp only at hins
  have HL : Hid (boundsB nt fs.length fs[f].locals fs[f].code.length op = (lo, hi)) := hlh
  have HR : Hid ((decide (lo ≤ a) && decide (a < hi)) = r) := hins
  clear hlh hins hr
  have hbA : Below w.heap.size w ((w.alloc (.cells #[.slice a1 nt c1, .slice (some ⟨b, off, none⟩) fs.length c2] 40)).alloc (.cells #[.int .i64 op, .int .i64 a] 152)) := ((Below.refl _ _).alloc (Nat.le_refl _) _).alloc (by simp) _
  have n1 := World.block_lt_of_cell? _ _ d1
  simp only at n1
  rcases (show (lo ≤ a ∧ a < hi) ∨ (lo ≤ a ∧ ¬ a < hi) ∨ ¬ lo ≤ a by omega) with ⟨k1, k2⟩ | ⟨k1, k2⟩ | k1
  all_goals
    go_enter Tryz.func140, Tryz.ntmps140
    go_wp2
    go_region_held3 (fun w' => w'.cell? ⟨w.heap.size, 0, none⟩ = some (.slice a1 nt c1) ∧ w'.cell? ⟨w.heap.size, 1, none⟩ = some (.slice (some ⟨b, off, none⟩) fs.length c2) ∧ w'.cell? ⟨w.heap.size + 1, 0, none⟩ = some (.int .i64 op) ∧ w'.cell? ⟨w.heap.size + 1, 1, none⟩ = some (.int .i64 a) ∧ w'.cell? ⟨b, off + f * 3, none⟩ = some (.int .i64 fs[f].params) ∧ w'.cell? ⟨b, off + f * 3 + 1, none⟩ = some (.int .i64 fs[f].locals) ∧ w'.cell? ⟨b, off + f * 3 + 2, none⟩ = some (.slice ca fs[f].code.length cc))
      (first | go_keep | (refine ⟨cell_later hb1 ?_, cell_later hb1 ?_, cell_later hb1 ?_, cell_later hb1 ?_, cell_later hb1 ?_, cell_later hb1 ?_, cell_later hb1 ?_⟩ <;> go_keep))
      (first | (go_at_call 155; refine (argBounds_is _ _ _ _ _ _ _ _ _ _ _ _ lo hi _ HL.out).mono ?_; rintro e w1 ⟨rfl, hb1⟩))
    go_wp2
    go_ret
    exact ⟨ret_bool (by rw [← HR.out, Bool.eq_iff_iff]; simp; omega), hbA.drew.trans (hb1.mono (by simp; omega))⟩

set_option maxHeartbeats 4000000 in
theorem sInsOk_any (a1 a2 : Option Addr) (nt c1 c2 : Nat) (fs : List Fn) (f : Nat) (op a : Int) (w : World) (hnt : nt ≤ 1048576) (hnf : fs.length ≤ 1048576) (hf : f < fs.length) (hm : FnsAt w 0 a2 fs) (hl0 : -1000 ≤ fs[f].locals) (hl1 : fs[f].locals ≤ 1000) (hc : fs[f].code.length ≤ 1048576) :
    Calls Tryz.prog 139 #[.agg #[.slice a1 nt c1, .slice a2 fs.length c2], .int .i64 f, .agg #[.int .i64 op, .int .i64 a]] w fun e w' => e = .returned (.bool (insB nt fs.length fs[f].locals fs[f].code.length op a)) ∧ Below w.heap.size w w' := by
  obtain ⟨b, off, ca, cc, rfl, -, d1, d2, d3, -⟩ := hm f hf
  have n1 := World.block_lt_of_cell? _ _ d1
  simp only at n1
  have hbA : Below w.heap.size w ((w.alloc (.cells #[.slice a1 nt c1, .slice (some ⟨b, off, none⟩) fs.length c2] 40)).alloc (.cells #[.int .i64 op, .int .i64 a] 152)) := ((Below.refl _ _).alloc (Nat.le_refl _) _).alloc (by simp) _
  have hf' : (f : Int) ≤ (fs.length : Int) - 1 := by omega
  generalize hloc : fs[f].locals = loc at *
  clear hloc
  rcases ops_cases op with rfl | rfl | rfl | rfl | rfl | rfl | rfl | rfl | rfl | rfl | rfl | rfl | rfl | rfl | rfl | rfl | rfl | rfl | rfl | rfl | rfl | rfl | rfl | rfl | rfl | rfl | h | h
  case inr.inr.inr.inr.inr.inr.inr.inr.inr.inr.inr.inr.inr.inr.inr.inr.inr.inr.inr.inr.inr.inr.inr.inr.inr.inr.inl =>
    have e1 : insB nt fs.length loc fs[f].code.length op a = false := insB_out (Or.inl h)
    rw [e1]
    clear e1
    go_enter Tryz.func139, Tryz.ntmps139
    go_wp2_with (go_at_call 57; refine (between_any _ _ _ _).mono ?_; rintro e w1 ⟨rfl, rfl⟩)
    go_ret
    exact ⟨rfl, hbA⟩
  case inr.inr.inr.inr.inr.inr.inr.inr.inr.inr.inr.inr.inr.inr.inr.inr.inr.inr.inr.inr.inr.inr.inr.inr.inr.inr.inr =>
    have e1 : insB nt fs.length loc fs[f].code.length op a = false := insB_out (Or.inr h)
    rw [e1]
    clear e1
    go_enter Tryz.func139, Tryz.ntmps139
    go_wp2_with (go_at_call 57; refine (between_any _ _ _ _).mono ?_; rintro e w1 ⟨rfl, rfl⟩)
    go_ret
    exact ⟨rfl, hbA⟩
  all_goals
    go_enter Tryz.func139, Tryz.ntmps139
    go_wp2_with (go_at_call 57; refine (between_any _ _ _ _).mono ?_; rintro e w1 ⟨rfl, rfl⟩)
    try go_quiet ((go_at_call 57; exact Calls.quiet_of_same (between_any _ _ _ _)))
    try go_wp2
    go_ret
    refine ⟨ret_bool (by rw [Bool.eq_iff_iff]; first | (simp [insB]; done) | (simp [insB]; omega)), ?_⟩
    first | exact hbA | exact below_draws hbA _
end Go.Proofs.YtmmcockkbhnopaaGreat
