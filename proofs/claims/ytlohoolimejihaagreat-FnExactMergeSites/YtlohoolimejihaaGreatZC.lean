/-
  What the watchers' methods do: they count, join a site, tell.
-/
import Derived.Test.YtlohoolimejihaaGreatZK
namespace Go.Proofs.YtlohoolimejihaaGreat
open Go.RowKit

/-- Nothing that was there is another, but block g. -/
structure But (g : Nat) (w w' : World) : Prop where
  os : w'.os = w.os
  tape : w'.tape = w.tape
  output : w'.output = w.output
  size : w.heap.size ≤ w'.heap.size
  block : ∀ k, k < w.heap.size → k ≠ g → w'.heap[k]? = w.heap[k]?
theorem But.refl (g : Nat) (w : World) : But g w w := ⟨rfl, rfl, rfl, Nat.le_refl _, fun _ _ _ => rfl⟩
theorem But.trans {g : Nat} {a b c : World} (h : But g a b) (k : But g b c) : But g a c :=
  ⟨k.os.trans h.os, k.tape.trans h.tape, k.output.trans h.output, Nat.le_trans h.size k.size, fun i hi hg => (k.block i (Nat.lt_of_lt_of_le hi h.size) hg).trans (h.block i hi hg)⟩
theorem But.of_below {g : Nat} {w w' : World} (h : Below w.heap.size w w') : But g w w' := ⟨h.os, h.tape, h.output, h.size, fun k hk _ => h.block k hk⟩
theorem But.below {g B : Nat} {a w w' : World} (hb : Below B a w) (h : But g w w') (hg : B ≤ g) (hB : B ≤ w.heap.size) : Below B a w' :=
  ⟨h.os.trans hb.os, h.tape.trans hb.tape, h.output.trans hb.output, Nat.le_trans hb.size h.size, fun k hk => (h.block k (by omega) (by omega)).trans (hb.block k hk)⟩
theorem But.setCell (g i : Nat) (w : World) (v : Value) : But g w (w.setCell ⟨g, i, none⟩ v) := ⟨rfl, rfl, rfl, by simp [World.setCell], fun _ _ hg => Below.heap_setCell _ _ _ _ hg⟩
theorem lt_sizez {w : World} {g : Nat} {o : Obj} (h : w.heap[g]? = some o) : g < w.heap.size := (Array.getElem?_eq_some_iff.1 h).1
theorem But.kept {g k : Nat} {w w' : World} {o : Obj} (h : But g w w') (hk : k ≠ g) (ho : w.heap[k]? = some o) : w'.heap[k]? = some o := (h.block k (lt_sizez ho) hk).trans ho

/-- What counting leaves. -/
def CntPost (g : Nat) (cs : Array Value) (ty : TypeId) (sn x o : Int) (w w' : World) : Prop :=
  ∃ cs', w'.heap[g]? = some (.cells cs' ty (0, 0)) ∧ cs'.size = cs.size ∧ cs'[0]? = some (.int .i64 (cntX sn x)) ∧ cs'[1]? = some (.int .i64 (cntO sn o)) ∧ (∀ j, 2 ≤ j → cs'[j]? = cs[j]?) ∧ But g w w'

set_option maxRecDepth 100000 in
set_option maxHeartbeats 1000000 in
theorem count_any (g : Nat) (sn x o : Int) (cs : Array Value) (ty : TypeId) (w : World) (hb : w.heap[g]? = some (.cells cs ty (0, 0))) (c0 : cs[0]? = some (.int .i64 x)) (c1 : cs[1]? = some (.int .i64 o)) (hx : 0 ≤ x ∧ x ≤ 100000) (ho : 0 ≤ o ∧ o ≤ 100000) :
    Calls Tryz.prog 180 #[.pointer (some ⟨g, 0, none⟩), .int .i64 sn] w fun e w' => (∃ v, e = .returned v) ∧ CntPost g cs ty sn x o w w' := by
  have hs0 : 0 < cs.size := (Array.getElem?_eq_some_iff.1 c0).1
  have hs1 : 1 < cs.size := (Array.getElem?_eq_some_iff.1 c1).1
  have k0 : w.cell? ⟨g, 0, none⟩ = some (.int .i64 x) := by rw [block_cell hb]; exact c0
  have k1 : w.cell? ⟨g, 1, none⟩ = some (.int .i64 o) := by rw [block_cell hb]; exact c1
  have f0 : w.frozen? ⟨g, 0, none⟩ = false := block_free hb 0
  have f1 : w.frozen? ⟨g, 1, none⟩ = false := block_free hb 1
  have HB := hidz hb
  clear hb
  by_cases h2 : sn = 2
  · subst h2
    have HP : Hid (CntPost g cs ty 2 x o w (w.setCell ⟨g, 1, none⟩ (.int .i64 (o + 1)))) := by
      refine ⟨_, block_set HB.out _, by simp, ?_, ?_, fun j hj => ?_, But.setCell _ _ _ _⟩
      · rw [Array.getElem?_setIfInBounds_ne (by decide), c0]; rfl
      · rw [Array.getElem?_setIfInBounds_self_of_lt hs1]; rfl
      · rw [Array.getElem?_setIfInBounds_ne (by omega)]
    go_enter Tryz.func180, Tryz.ntmps180
    go_wp2
    go_end0
    exact ⟨⟨_, rfl⟩, HP.out⟩
  · by_cases h1 : sn = 1
    · subst h1
      have HP : Hid (CntPost g cs ty 1 x o w (w.setCell ⟨g, 0, none⟩ (.int .i64 (x + 1)))) := by
        refine ⟨_, block_set HB.out _, by simp, ?_, ?_, fun j hj => ?_, But.setCell _ _ _ _⟩
        · rw [Array.getElem?_setIfInBounds_self_of_lt hs0]; rfl
        · rw [Array.getElem?_setIfInBounds_ne (by decide), c1]; rfl
        · rw [Array.getElem?_setIfInBounds_ne (by omega)]
      go_enter Tryz.func180, Tryz.ntmps180
      go_wp2
      go_end0
      exact ⟨⟨_, rfl⟩, HP.out⟩
    · have HP : Hid (CntPost g cs ty sn x o w ((w.setCell ⟨g, 0, none⟩ (.int .i64 (x + 1))).setCell ⟨g, 1, none⟩ (.int .i64 (o + 1)))) := by
        refine ⟨_, block_set (block_set HB.out _) _, by simp, ?_, ?_, fun j hj => ?_, (But.setCell _ _ _ _).trans (But.setCell _ _ _ _)⟩
        · rw [Array.getElem?_setIfInBounds_ne (by decide), Array.getElem?_setIfInBounds_self_of_lt hs0]; unfold cntX; rw [if_neg h2]
        · rw [Array.getElem?_setIfInBounds_self_of_lt (by simpa using hs1)]; unfold cntO; rw [if_neg h1]
        · rw [Array.getElem?_setIfInBounds_ne (by omega), Array.getElem?_setIfInBounds_ne (by omega)]
      go_enter Tryz.func180, Tryz.ntmps180
      go_wp2
      go_end0
      exact ⟨⟨_, rfl⟩, HP.out⟩

set_option maxHeartbeats 400000 in
theorem none_any (g : Nat) (x o : Int) (w : World) (k0 : w.cell? ⟨g, 0, none⟩ = some (.int .i64 x)) (k1 : w.cell? ⟨g, 1, none⟩ = some (.int .i64 o)) :
    Calls Tryz.prog 183 #[.pointer (some ⟨g, 0, none⟩)] w fun e w' => e = .returned (.bool (decide (x = 0 ∧ o = 0))) ∧ w' = w := by
  by_cases hx : x = 0
  · subst hx
    by_cases ho : o = 0
    · subst ho
      go_enter Tryz.func183, Tryz.ntmps183
      go_wp2
      go_ret
      exact ⟨rfl, rfl⟩
    · go_enter Tryz.func183, Tryz.ntmps183
      go_wp2
      go_ret
      exact ⟨by simp [ho], rfl⟩
  · go_enter Tryz.func183, Tryz.ntmps183
    go_wp2
    go_ret
    exact ⟨by simp [hx], rfl⟩
set_option maxHeartbeats 400000 in
theorem only_any (g : Nat) (o : Int) (w : World) (k1 : w.cell? ⟨g, 1, none⟩ = some (.int .i64 o)) :
    Calls Tryz.prog 184 #[.pointer (some ⟨g, 0, none⟩)] w fun e w' => e = .returned (.bool (decide (o = 0))) ∧ w' = w := by
  by_cases ho : o = 0
  · subst ho
    go_enter Tryz.func184, Tryz.ntmps184
    go_wp2
    go_ret
    exact ⟨rfl, rfl⟩
  · go_enter Tryz.func184, Tryz.ntmps184
    go_wp2
    go_ret
    exact ⟨by simp [ho], rfl⟩
end Go.Proofs.YtlohoolimejihaaGreat
