/-
  Rows of texts and of functions of the call's own, and what becomes of them where other memory is written.
-/
import Derived.Test.YtpmkfdinkomaiaaGreatDoorD6
namespace Go.Proofs.YtpmkfdinkomaiaaGreatDoor
open Go.RowKit

/-- A row of texts of the call's own. -/
def RowT (w : World) (B : Nat) (v : Value) (n : Nat) : Prop := ∃ vs : List Value, w.ownsRow B 9 1 v n vs ∧ ∀ u ∈ vs, ∃ s : ByteArray, u = .string s ∧ s.size ≤ 1000

/-- A function as its three cells tell it. -/
structure HF where
  p : Int
  l : Int
  ca : Option Addr
  n : Nat
  cc : Nat
def flatF (hs : List HF) : List Value := hs.flatMap fun h => [.int .i64 h.p, .int .i64 h.l, .slice h.ca h.n h.cc]

/-- A row of functions of the call's own, their instructions too. -/
structure RowF (w : World) (B : Nat) (v : Value) (hs : List HF) : Prop where
  own : w.ownsRow B 48 3 v hs.length (flatF hs)
  code : ∀ h ∈ hs, RowI w B (.slice h.ca h.n h.cc) h.n ∧ 1 ≤ h.n ∧ h.n ≤ 60000

theorem own_same {w w' : World} {N e size n : Nat} {v : Value} {vs : List Value} (h : w.ownsRow N e size v n vs) (hb : ∀ (k : Nat) (cs : Array Value) (fr : Nat × Nat), N ≤ k → w.heap[k]? = some (.cells cs e fr) → w'.heap[k]? = some (.cells cs e fr)) : w'.ownsRow N e size v n vs := by
  refine ⟨h.1, ?_⟩
  rcases h.2 with h | ⟨g, cap, cur, hv, hg, hh, rest⟩
  · exact .inl h
  · exact .inr ⟨g, cap, cur, hv, hg, hb g cur (0, 0) hg hh, rest⟩
theorem own_low {w : World} {N N' e size n : Nat} {v : Value} {vs : List Value} (h : w.ownsRow N e size v n vs) (hN : N' ≤ N) : w.ownsRow N' e size v n vs := by
  refine ⟨h.1, ?_⟩
  rcases h.2 with h | ⟨g, cap, cur, hv, hg, rest⟩
  · exact .inl h
  · exact .inr ⟨g, cap, cur, hv, by omega, rest⟩
theorem RowI.low {w : World} {N N' n : Nat} {v : Value} (h : RowI w N v n) (hN : N' ≤ N) : RowI w N' v n := by
  obtain ⟨vs, h1, h2⟩ := h
  exact ⟨vs, own_low h1 hN, h2⟩

/-- All rows of cells of these types are as they were. -/
def Same (w w' : World) : Prop := ∀ (k : Nat) (cs : Array Value) (e : Nat) (fr : Nat × Nat), (e = 9 ∨ e = 48 ∨ e = 51) → w.heap[k]? = some (Obj.cells cs e fr) → w'.heap[k]? = some (Obj.cells cs e fr)
theorem RowT.same {w w' : World} {B n : Nat} {v : Value} (h : RowT w B v n) (hs : Same w w') : RowT w' B v n := by
  obtain ⟨vs, h1, h2⟩ := h
  exact ⟨vs, own_same h1 fun k cs fr _ hk => hs k cs 9 fr (by simp) hk, h2⟩
theorem RowI.same {w w' : World} {B n : Nat} {v : Value} (h : RowI w B v n) (hs : Same w w') : RowI w' B v n := by
  obtain ⟨vs, h1, h2⟩ := h
  exact ⟨vs, own_same h1 fun k cs fr _ hk => hs k cs 51 fr (by simp) hk, h2⟩
theorem RowF.same {w w' : World} {B : Nat} {v : Value} {hs : List HF} (h : RowF w B v hs) (hx : Same w w') : RowF w' B v hs :=
  ⟨own_same h.own fun k cs fr _ hk => hx k cs 48 fr (by simp) hk, fun f hf => ⟨(h.code f hf).1.same hx, (h.code f hf).2⟩⟩
theorem Same.refl (w : World) : Same w w := fun _ _ _ _ _ h => h
theorem Same.trans {a b c : World} (h : Same a b) (k : Same b c) : Same a c := fun i cs e fr he hi => k i cs e fr he (h i cs e fr he hi)
theorem Same.below {w w' : World} (h : Below w.heap.size w w') : Same w w' := fun _ _ _ _ _ hk => block_kept hk h
theorem Same.drew (w : World) : Same w w.drew := fun _ _ _ _ _ h => h
/-- A cursor's block is of another type. -/
theorem Same.px {C : Nat} {w w' : World} {cs : Array Value} (h : Px C w w') (hc : w.heap[C]? = some (.cells cs 71 (0, 0))) : Same w w' := fun k ds e fr he hk => by
  rw [h.block k ?_]
  · exact hk
  · rintro rfl
    rw [hc] at hk
    cases hk
    omega
/-- A store into a block of another type. -/
theorem Same.set {a w : World} {g t : Nat} {cs : Array Value} {fr : Nat × Nat} (h : Same a w) (hg : w.heap[g]? = some (.cells cs t fr)) (ht : t ≠ 9 ∧ t ≠ 48 ∧ t ≠ 51) (i : Nat) (v : Value) : Same a (w.setCell ⟨g, i, none⟩ v) := fun k ds e fr he hk => by
  have h1 := h k ds e fr he hk
  rw [Below.heap_setCell _ _ _ _ ?_]
  · exact h1
  · rintro rfl
    rw [hg] at h1
    cases h1
    omega
theorem CurAt.same {W w w' : World} {C xc M : Nat} {xa : Option Addr} {bs : List Int} (h : CurAt W w C xa bs xc M) (hx : Px C w w') : Same w w' := by
  obtain ⟨p, s, hc, -⟩ := h.blk
  exact Same.px hx hc
/-- What the methods of a piece of code leave of rows that were there. -/
theorem Fr.same {C A N : Nat} {w w' : World} {cs ds : Array Value} (h : Fr C A N w w') (hN : w.heap.size ≤ N) (hC : w.heap[C]? = some (.cells cs 71 (0, 0))) (hA : w.heap[A]? = some (.cells ds 82 (0, 0))) : Same w w' := fun k es e fr he hk => by
  have hlt := lt_block hk
  rw [h.block k (by omega) ?_ ?_]
  · exact hk
  · rintro rfl
    rw [hC] at hk
    cases hk
    omega
  · rintro rfl
    rw [hA] at hk
    cases hk
    omega

/-- Behind new memory. -/
theorem CurAt.later {W w w' : World} {C xc M : Nat} {xa : Option Addr} {bs : List Int} (h : CurAt W w C xa bs xc M) (hb : Below w.heap.size w w') : CurAt W w' C xa bs xc M := by
  obtain ⟨p, s, hc, q⟩ := h.blk
  have := h.below.size
  exact { h with blk := ⟨p, s, block_kept hc hb, q⟩, below := h.below.trans (hb.mono this) }
/-- Behind a store elsewhere. -/
theorem CurAt.set {W w : World} {C xc M : Nat} {xa : Option Addr} {bs : List Int} (h : CurAt W w C xa bs xc M) {p : Addr} (hp : p.block ≠ C) (hW : W.heap.size ≤ p.block) (v : Value) : CurAt W (w.setCell p v) C xa bs xc M := by
  obtain ⟨q, s, hc, r⟩ := h.blk
  exact { h with blk := ⟨q, s, by rw [Below.heap_setCell _ _ _ _ (fun e => hp e.symm)]; exact hc, r⟩, below := h.below.setCell hW v }
theorem CurAt.grow {W w : World} {C xc M M' : Nat} {xa : Option Addr} {bs : List Int} (h : CurAt W w C xa bs xc M) (hM : M ≤ M') : CurAt W w C xa bs xc M' := by
  obtain ⟨q, s, hc, h0, h1, r⟩ := h.blk
  exact { h with blk := ⟨q, s, hc, h0, by omega, r⟩ }

set_option maxHeartbeats 400000 in
theorem size_any (W : World) (C xc M : Nat) (xa : Option Addr) (bs : List Int) (n : Int) (w : World) (h : CurAt W w C xa bs xc M) (hM : M ≤ 100000000) (h1 : 1 ≤ n) (h2 : n ≤ 1000) :
    Calls Tryz.prog 51 #[.pointer (some ⟨C, 0, none⟩), .int .i64 n] w fun e w' => ∃ r : Int, e = .returned (.int .i64 r) ∧ 0 ≤ r ∧ r ≤ n ∧ CurAt W w' C xa bs xc (M + 1) ∧ Px C w w' := by
  obtain ⟨p, s, hc, -⟩ := h.blk
  have hcc := block_cell hc
  have hsm := h.small
  by_cases hk : n < 1 + (bs.length : Int) / 12
  · go_enter Tryz.func51, Tryz.ntmps51
    go_wp2_with fail
    refine (pick_any W C xc M xa bs _ _ h hM).mono ?_
    rintro e w1 ⟨r, rfl, r0, r1, hC, hP⟩
    go_wp2
    go_ret
    exact ⟨r, rfl, r0, by omega, hC, hP⟩
  · go_enter Tryz.func51, Tryz.ntmps51
    go_wp2_with fail
    refine (pick_any W C xc M xa bs _ _ h hM).mono ?_
    rintro e w1 ⟨r, rfl, r0, r1, hC, hP⟩
    go_wp2
    go_ret
    exact ⟨r, rfl, r0, by omega, hC, hP⟩
end Go.Proofs.YtpmkfdinkomaiaaGreatDoor
