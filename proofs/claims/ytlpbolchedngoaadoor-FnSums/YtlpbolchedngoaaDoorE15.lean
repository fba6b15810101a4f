/-
  Values: two texts joined, and the sum of two things, in the program.
-/
import Derived.Test.YtlpbolchedngoaaDoorE11
import Derived.Test.YtlpbolchedngoaaDoorE14
namespace Go.Proofs.YtlpbolchedngoaaDoor
open Go.RowKit Go.Extern.Stop Go.Stop Go.Extern

theorem string_is (B b : Nat) (s : ByteArray) (w : World) (h : Bld w B b s) (hBw : B ≤ w.heap.size) : Calls Tryd.prog 44 #[.pointer (some ⟨b, 0, none⟩)] w fun e w' => e = .returned (.string s) ∧ Below B w w' := by
  obtain ⟨hB, p, v, hb, hp, ht⟩ := h
  have hown : w.ownsRow B 5 1 v (Lib.strCells s).length (Lib.strCells s) := by rw [Lib.strCells_length]; exact ht
  have hne := Lib.ownBlock_ne hown hb (by decide)
  have hat : Lib.IsBuilderF 79 5 B b (Lib.byteCells s.data.toList) w := by
    refine Lib.IsBuilderF.of ?_
    rcases hp with rfl | rfl
    · exact Or.inl ⟨hB, v, hb, hown, hne⟩
    · exact Or.inr ⟨hB, v, hb, hown, hne⟩
  refine (Tryd.Builder_String_any_k B b s.data.toList w hat hBw).mono ?_
  rintro e w' ⟨rfl, -, hbe, -⟩
  exact ⟨by simp, hbe⟩

set_option maxRecDepth 100000 in
set_option maxHeartbeats 1000000 in
theorem joined_ok (x y : ByteArray) (w : World) (hxy : (x.size : Int) + (y.size : Int) ≤ 60) :
    Calls Tryd.prog 40 #[.string x, .string y] w fun e w' => e = .returned (.tuple #[.iface 62 (.string (x ++ y)), .nilIface]) ∧ Below w.heap.size w w' := by
  have h0 : Bld (w.alloc (.cells #[.pointer none, .slice none 0 0] 79)) w.heap.size w.heap.size ⟨#[]⟩ := ⟨Nat.le_refl _, _, _, block_new _ _ _, Or.inl rfl, ⟨rfl, .inl ⟨rfl, rfl⟩⟩⟩
  have hA : Below w.heap.size w (w.alloc (.cells #[.pointer none, .slice none 0 0] 79)) := (Below.refl _ _).alloc (Nat.le_refl _) _
  have e0 : (⟨#[]⟩ : ByteArray) ++ x = x := by apply ByteArray.ext; simp
  have z0 : (⟨#[]⟩ : ByteArray).size = 0 := rfl
  have HX : Hid ((x.size : Int) + (y.size : Int) ≤ 60) := hxy
  have HE : Hid ((⟨#[]⟩ : ByteArray) ++ x = x) := e0
  have HA : Hid (Below w.heap.size w (w.alloc (.cells #[.pointer none, .slice none 0 0] 79))) := hA
  have n1 : ¬ (60 : Int) < (x.size : Int) + (y.size : Int) := by omega
  clear e0 hA z0
  go_enter Tryd.func40, Tryd.ntmps40
  go_wp2_with fail
  clear hxy n1
  refine (write_is _ _ _ x _ h0 (by have := HX.out; show 0 + x.size ≤ 1000000; omega) (by simp)).mono ?_
  rintro e w1 ⟨rfl, hB1, hk1⟩
  rw [HE.out] at hB1
  have hs1 : w.heap.size ≤ w1.heap.size := Nat.le_trans (by simp) hk1.size
  go_wp2_with fail
  refine (write_is _ _ _ y _ hB1 (by have := HX.out; omega) hs1).mono ?_
  rintro e w2 ⟨rfl, hB2, hk2⟩
  have hs2 : w.heap.size ≤ w2.heap.size := Nat.le_trans hs1 hk2.size
  go_wp2_with fail
  refine (string_is _ _ _ _ hB2 hs2).mono ?_
  rintro e w3 ⟨rfl, hb3⟩
  go_wp2
  go_ret2
  exact ⟨rfl, ((HA.out.trans (hk1.toBelow (by simp))).trans (hk2.toBelow hs1)).trans hb3⟩

set_option maxRecDepth 100000 in
set_option maxHeartbeats 1000000 in
theorem joined_long (x y : ByteArray) (a0 a1 a2 : Addr) (w : World) (h : Errs w a0 a1 a2) (hx : (x.size : Int) ≤ 1048576) (hy : (y.size : Int) ≤ 1048576) (hxy : (60 : Int) < (x.size : Int) + (y.size : Int)) :
    Calls Tryd.prog 40 #[.string x, .string y] w fun e w' => e = .returned (.tuple #[.nilIface, trapE 11 a2]) ∧ Below w.heap.size w w' := by
  have g2 := h.g2
  go_enter Tryd.func40, Tryd.ntmps40
  go_wp2
  go_quiet (fail)
  go_wp2
  go_ret2
  exact ⟨rfl, below_draws (Below.refl _ _) _⟩

/-- The trap of a sum, and what comes of one where there is none. -/
def addT (k n k' n' : Int) (s s' : ByteArray) : Int := if k = 1 ∧ k' = 1 then rT n n' (wrap64 (n + n')) else if k = 3 ∧ k' = 3 then (if (60 : Int) < (s.size : Int) + (s'.size : Int) then 3 else 0) else 1
def addK (k : Int) : Int := if k = 3 then 3 else 1
def addN (k n n' : Int) : Int := if k = 3 then 0 else wrap64 (n + n')
def addS (k : Int) (s s' : ByteArray) : ByteArray := if k = 3 then s ++ s' else ⟨#[]⟩
theorem addT_bounds (k n k' n' : Int) (s s' : ByteArray) : 0 ≤ addT k n k' n' s s' ∧ addT k n k' n' s s' ≤ 3 := by
  unfold addT
  have := rT_bounds n n' (wrap64 (n + n'))
  repeat' split
  all_goals omega
theorem add_just (k n n' : Int) (s s' : ByteArray) : Just (addK k) (addN k n n') (addS k s s') := by
  by_cases h : k = 3
  · exact Or.inr (Or.inr ⟨by simp [addK, h], by simp [addN, h]⟩)
  · exact Or.inl ⟨by simp [addK, h], by simp [addS, h]⟩

set_option maxRecDepth 100000 in
set_option maxHeartbeats 1000000 in
theorem sum_int (n n' : Int) (s s' : ByteArray) (a0 a1 a2 : Addr) (w : World) (h : Errs w a0 a1 a2) :
    Calls Tryd.prog 26 #[thing 1 n s, thing 1 n' s'] w fun e w' => e = .returned (.tuple #[outT (rT n n' (wrap64 (n + n'))) (thing 1 (wrap64 (n + n')) ⟨#[]⟩), outE 11 (rT n n' (wrap64 (n + n'))) a0 a1 a2]) ∧ Below w.heap.size w w' := by
  rw [thing_1, thing_1]
  have q := asInt_hit
  go_enter Tryd.func26, Tryd.ntmps26
  go_wp2_with fail
  refine (ranged_out _ _ _ _ a0 a1 a2 _ h).mono ?_
  rintro e w1 ⟨rfl, hb⟩
  go_wp2
  go_ret2
  exact ⟨rfl, hb⟩

set_option maxRecDepth 100000 in
set_option maxHeartbeats 1000000 in
theorem sum_text (s s' : ByteArray) (w : World) (hs : (s.size : Int) + (s'.size : Int) ≤ 60) :
    Calls Tryd.prog 26 #[.iface 62 (.string s), .iface 62 (.string s')] w fun e w' => e = .returned (.tuple #[.iface 62 (.string (s ++ s')), .nilIface]) ∧ Below w.heap.size w w' := by
  have q := asInt_text
  have q' := asText_hit
  have HS : Hid ((s.size : Int) + (s'.size : Int) ≤ 60) := hs
  clear hs
  go_enter Tryd.func26, Tryd.ntmps26
  go_wp2_with fail
  refine (joined_ok _ _ _ HS.out).mono ?_
  rintro e w1 ⟨rfl, hb⟩
  go_wp2
  go_ret2
  exact ⟨rfl, hb⟩

set_option maxRecDepth 100000 in
set_option maxHeartbeats 1000000 in
theorem sum_long (s s' : ByteArray) (a0 a1 a2 : Addr) (w : World) (h : Errs w a0 a1 a2) (hx : (s.size : Int) ≤ 1048576) (hy : (s'.size : Int) ≤ 1048576) (hs : (60 : Int) < (s.size : Int) + (s'.size : Int)) :
    Calls Tryd.prog 26 #[.iface 62 (.string s), .iface 62 (.string s')] w fun e w' => e = .returned (.tuple #[.nilIface, trapE 11 a2]) ∧ Below w.heap.size w w' := by
  have q := asInt_text
  have q' := asText_hit
  have J := fun W x => joined_long s s' a0 a1 a2 W x hx hy hs
  clear hs hx hy
  go_enter Tryd.func26, Tryd.ntmps26
  go_wp2_with fail
  refine (J _ h).mono ?_
  rintro e w1 ⟨rfl, hb⟩
  go_wp2
  go_ret2
  exact ⟨rfl, hb⟩

set_option maxRecDepth 100000 in
set_option maxHeartbeats 1000000 in
theorem sum_type1 (n k' n' : Int) (s s' : ByteArray) (a0 a1 a2 : Addr) (w : World) (h : Errs w a0 a1 a2) (hk : k' ≠ 1) :
    Calls Tryd.prog 26 #[thing 1 n s, thing k' n' s'] w fun e w' => e = .returned (.tuple #[.nilIface, trapE 11 a0]) ∧ Below w.heap.size w w' := by
  have g0 := h.g0
  have q := asInt_hit
  have m := asInt_miss k' n' s' hk
  rw [thing_1]
  go_enter Tryd.func26, Tryd.ntmps26
  go_wp2
  go_quiet (fail)
  go_wp2
  go_ret2
  exact ⟨rfl, below_draws (Below.refl _ _) _⟩

set_option maxRecDepth 100000 in
set_option maxHeartbeats 1000000 in
theorem sum_type3 (n k' n' : Int) (s s' : ByteArray) (a0 a1 a2 : Addr) (w : World) (h : Errs w a0 a1 a2) (hk : k' ≠ 3) :
    Calls Tryd.prog 26 #[thing 3 n s, thing k' n' s'] w fun e w' => e = .returned (.tuple #[.nilIface, trapE 11 a0]) ∧ Below w.heap.size w w' := by
  have g0 := h.g0
  have q := asInt_text
  have q' := asText_hit
  have m := asText_miss k' n' s' hk
  rw [thing_3]
  go_enter Tryd.func26, Tryd.ntmps26
  go_wp2
  go_quiet (fail)
  go_wp2
  go_ret2
  exact ⟨rfl, below_draws (Below.refl _ _) _⟩

set_option maxRecDepth 100000 in
set_option maxHeartbeats 1000000 in
theorem sum_type (k n k' n' : Int) (s s' : ByteArray) (a0 a1 a2 : Addr) (w : World) (h : Errs w a0 a1 a2) (h1 : k ≠ 1) (h3 : k ≠ 3) :
    Calls Tryd.prog 26 #[thing k n s, thing k' n' s'] w fun e w' => e = .returned (.tuple #[.nilIface, trapE 11 a0]) ∧ Below w.heap.size w w' := by
  have g0 := h.g0
  have m := asInt_miss k n s h1
  have m' := asText_miss k n s h3
  go_enter Tryd.func26, Tryd.ntmps26
  go_wp2
  go_quiet (fail)
  go_wp2
  go_ret2
  exact ⟨rfl, below_draws (Below.refl _ _) _⟩

theorem sum_any (k n k' n' : Int) (s s' : ByteArray) (a0 a1 a2 : Addr) (w : World) (h : Errs w a0 a1 a2) (hx : (s.size : Int) ≤ 1048576) (hy : (s'.size : Int) ≤ 1048576) :
    Calls Tryd.prog 26 #[thing k n s, thing k' n' s'] w fun e w' => e = .returned (.tuple #[outT (addT k n k' n' s s') (thing (addK k) (addN k n n') (addS k s s')), outE 11 (addT k n k' n' s s') a0 a1 a2]) ∧ Below w.heap.size w w' := by
  by_cases h1 : k = 1
  · subst h1
    by_cases h2 : k' = 1
    · subst h2
      exact sum_int n n' s s' a0 a1 a2 w h
    · rw [show addT 1 n k' n' s s' = 1 by simp [addT, h2]]
      exact sum_type1 n k' n' s s' a0 a1 a2 w h h2
  by_cases h3 : k = 3
  · subst h3
    by_cases h2 : k' = 3
    · subst h2
      by_cases hl : (60 : Int) < (s.size : Int) + (s'.size : Int)
      · rw [show addT 3 n 3 n' s s' = 3 by simp [addT, hl]]
        exact sum_long s s' a0 a1 a2 w h hx hy hl
      · rw [show addT 3 n 3 n' s s' = 0 by simp [addT, hl]]
        exact sum_text s s' w (by omega)
    · rw [show addT 3 n k' n' s s' = 1 by simp [addT, h2]]
      exact sum_type3 n k' n' s s' a0 a1 a2 w h h2
  · rw [show addT k n k' n' s s' = 1 by simp [addT, h1, h3]]
    exact sum_type k n k' n' s s' a0 a1 a2 w h h1 h3
end Go.Proofs.YtlpbolchedngoaaDoor
