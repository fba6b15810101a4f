/-
  Two sites of one instruction together, as plain data; the document's l07Both.
-/
import Derived.Test.YtmmcockkbhnopaaGreatOV36
namespace Go.Proofs.YtmmcockkbhnopaaGreat
open Go.RowKit

/-- What two kinds of sights are together. -/
def seenOr (a b : Int) : Int := if a = b then a else 3
/-- Two sites of one instruction. -/
def bothS (op : Int) (a b : Si) : Si := if ¬ op = 23 then ⟨a.f, a.pc, seenOr a.seen b.seen, a.target⟩ else if a.seen = 1 ∧ b.seen = 1 ∧ a.target = b.target then a else ⟨a.f, a.pc, 2, 0⟩
theorem or_seen (a b : Int) (h1 : 1 ≤ a ∧ a ≤ 3) (h2 : 1 ≤ b ∧ b ≤ 3) : bits .or .i64 a b = seenOr a b := by
  rcases (show a = 1 ∨ a = 2 ∨ a = 3 by omega) with rfl | rfl | rfl <;> rcases (show b = 1 ∨ b = 2 ∨ b = 3 by omega) with rfl | rfl | rfl <;> rfl

set_option maxRecDepth 100000 in
set_option maxHeartbeats 2000000 in
theorem sBoth_any (op : Int) (a b : Si) (w : World) (ha : 1 ≤ a.seen ∧ a.seen ≤ 3) (hb : 1 ≤ b.seen ∧ b.seen ≤ 3) :
    Calls Tryz.prog 86 #[.int .i64 op, .agg a.cells, .agg b.cells] w fun e w' => e = .returned (.agg (bothS op a b).cells) ∧ Below w.heap.size w w' := by
  obtain ⟨af, ap, a3, at'⟩ := a
  obtain ⟨bf, bp, bs, bt⟩ := b
  have HOR : bits .or .i64 a3 bs = seenOr a3 bs := or_seen a3 bs ha hb
  have HB3 : Hid (∀ x y z : Obj, Below w.heap.size w (((w.alloc x).alloc y).alloc z)) := fun x y z => (((Below.refl _ _).alloc (Nat.le_refl _) _).alloc (by simp) _).alloc (by simp; omega) _
  unfold Si.cells
  by_cases h23 : op = 23
  · subst h23
    by_cases hc : a3 = 1 ∧ bs = 1 ∧ at' = bt
    · obtain ⟨rfl, rfl, rfl⟩ := hc
      have e : bothS 23 ⟨af, ap, 1, at'⟩ ⟨bf, bp, 1, at'⟩ = ⟨af, ap, 1, at'⟩ := by simp [bothS]
      rw [e]
      clear HOR ha hb e
      go_enter Tryz.func86, Tryz.ntmps86
      go_wp2
      refine bodyPost_ret (v := .agg #[.int .i64 af, .int .i64 ap, .int .i64 1, .int .i64 at']) (by simp [results, Tryz.results86, go_sem]) rfl ⟨rfl, ?_⟩
      exact HB3.out _ _ _
    · have e : bothS 23 ⟨af, ap, a3, at'⟩ ⟨bf, bp, bs, bt⟩ = ⟨af, ap, 2, 0⟩ := by unfold bothS; rw [if_neg (by simp), if_neg hc]
      rw [e]
      clear HOR ha hb e
      by_cases h1 : a3 = 1
      · subst h1
        by_cases h2 : bs = 1
        · subst h2
          have h3 : ¬ at' = bt := fun e => hc ⟨rfl, rfl, e⟩
          clear hc
          go_enter Tryz.func86, Tryz.ntmps86
          go_wp2
          refine bodyPost_ret (v := .agg #[.int .i64 af, .int .i64 ap, .int .i64 2, .int .i64 0]) (by simp [results, Tryz.results86, go_sem]) rfl ⟨rfl, ?_⟩
          exact HB3.out _ _ _
        · clear hc
          go_enter Tryz.func86, Tryz.ntmps86
          go_wp2
          refine bodyPost_ret (v := .agg #[.int .i64 af, .int .i64 ap, .int .i64 2, .int .i64 0]) (by simp [results, Tryz.results86, go_sem]) rfl ⟨rfl, ?_⟩
          exact HB3.out _ _ _
      · clear hc
        go_enter Tryz.func86, Tryz.ntmps86
        go_wp2
        refine bodyPost_ret (v := .agg #[.int .i64 af, .int .i64 ap, .int .i64 2, .int .i64 0]) (by simp [results, Tryz.results86, go_sem]) rfl ⟨rfl, ?_⟩
        exact HB3.out _ _ _
  · have e : bothS op ⟨af, ap, a3, at'⟩ ⟨bf, bp, bs, bt⟩ = ⟨af, ap, seenOr a3 bs, at'⟩ := by unfold bothS; rw [if_pos h23]
    rw [e]
    clear ha hb e
    go_enter Tryz.func86, Tryz.ntmps86
    go_wp2
    refine bodyPost_ret (v := .agg #[.int .i64 af, .int .i64 ap, .int .i64 (seenOr a3 bs), .int .i64 at']) (by simp [results, Tryz.results86, go_sem]) rfl ⟨rfl, ?_⟩
    exact HB3.out _ _ _
end Go.Proofs.YtmmcockkbhnopaaGreat
