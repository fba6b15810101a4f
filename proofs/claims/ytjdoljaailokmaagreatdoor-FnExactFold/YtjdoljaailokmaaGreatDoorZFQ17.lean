/-
  Values: two texts joined, and the sum of two things, in the program.
  Values: AddOf, of the program and of the document's model.
-/
import Derived.Test.YtjdoljaailokmaaGreatDoorZFQ16
import Derived.Deep.RegionHeld3
namespace Go.Proofs.YtjdoljaailokmaaGreatDoor
open Go.RowKit Go.Extern.Stop Go.Stop Go.Extern

theorem string_is (B b : Nat) (s : ByteArray) (w : World) (h : Bld w B b s) (hBw : B ≤ w.heap.size) : Calls Tryz.prog 105 #[.pointer (some ⟨b, 0, none⟩)] w fun e w' => e = .returned (.string s) ∧ Below B w w' := by
  obtain ⟨hB, p, v, hb, hp, ht⟩ := h
  have hown : w.ownsRow B 5 1 v (Lib.strCells s).length (Lib.strCells s) := by rw [Lib.strCells_length]; exact ht
  have hne := Lib.ownBlock_ne hown hb (by decide)
  have hat : Lib.IsBuilderF 162 5 B b (Lib.byteCells s.data.toList) w := by
    refine Lib.IsBuilderF.of ?_
    rcases hp with rfl | rfl
    · exact Or.inl ⟨hB, v, hb, hown, hne⟩
    · exact Or.inr ⟨hB, v, hb, hown, hne⟩
  refine (Tryz.Builder_String_any_k B b s.data.toList w hat hBw).mono ?_
  rintro e w' ⟨rfl, -, hbe, -⟩
  exact ⟨by simp, hbe⟩

set_option maxRecDepth 100000 in
set_option maxHeartbeats 1000000 in
theorem joined_ok (x y : ByteArray) (w : World) (hxy : (x.size : Int) + (y.size : Int) ≤ 60) :
    Calls Tryz.prog 100 #[.string x, .string y] w fun e w' => e = .returned (.tuple #[.iface 146 (.string (x ++ y)), .nilIface]) ∧ Below w.heap.size w w' := by
  have h0 : Bld (w.alloc (.cells #[.pointer none, .slice none 0 0] 162)) w.heap.size w.heap.size ⟨#[]⟩ := ⟨Nat.le_refl _, _, _, block_new _ _ _, Or.inl rfl, ⟨rfl, .inl ⟨rfl, rfl⟩⟩⟩
  have hA : Below w.heap.size w (w.alloc (.cells #[.pointer none, .slice none 0 0] 162)) := (Below.refl _ _).alloc (Nat.le_refl _) _
  have e0 : (⟨#[]⟩ : ByteArray) ++ x = x := by apply ByteArray.ext; simp
  have z0 : (⟨#[]⟩ : ByteArray).size = 0 := rfl
  have HX : Hid ((x.size : Int) + (y.size : Int) ≤ 60) := hxy
  have HE : Hid ((⟨#[]⟩ : ByteArray) ++ x = x) := e0
  have HA : Hid (Below w.heap.size w (w.alloc (.cells #[.pointer none, .slice none 0 0] 162))) := hA
  have n1 : ¬ (60 : Int) < (x.size : Int) + (y.size : Int) := by omega
  clear e0 hA z0
  go_enter Tryz.func100, Tryz.ntmps100
  go_wp2_with fail
  clear hxy n1
  refine (write_is _ _ _ x _ h0 (by have := HX.out; show 0 + x.size ≤ 1000000; omega) (by simp)).mono ?_
  rintro e w1 ⟨rfl, hB1, hk1⟩
  rw [HE.out] at hB1
  have hs1 : w.heap.size ≤ w1.heap.size := Nat.le_trans (by simp) hk1.size
  go_wp2_with fail
  refine (write_is _ _ _ y _ hB1 (by have := HX.out; omega) hs1).mono ?_
  rintro e w2 ⟨rfl, hB2, hk2⟩
  have hs2 : w.heap.size ≤ w2.heap.size := Nat.le_trans hs1 hk2.size
  go_wp2_with fail
  refine (string_is _ _ _ _ hB2 hs2).mono ?_
  rintro e w3 ⟨rfl, hb3⟩
  go_wp2
  go_ret2
  exact ⟨rfl, ((HA.out.trans (hk1.toBelow (by simp))).trans (hk2.toBelow hs1)).trans hb3⟩

set_option maxRecDepth 100000 in
set_option maxHeartbeats 1000000 in
theorem joined_long (x y : ByteArray) (a0 a1 a2 : Addr) (w : World) (h : Errs w a0 a1 a2) (hx : (x.size : Int) ≤ 1048576) (hy : (y.size : Int) ≤ 1048576) (hxy : (60 : Int) < (x.size : Int) + (y.size : Int)) :
    Calls Tryz.prog 100 #[.string x, .string y] w fun e w' => e = .returned (.tuple #[.nilIface, trapE 11 a2]) ∧ Below w.heap.size w w' := by
  have g2 := h.g2
  go_enter Tryz.func100, Tryz.ntmps100
  go_wp2
  go_quiet (fail)
  go_wp2
  go_ret2
  exact ⟨rfl, below_draws (Below.refl _ _) _⟩

/-- The trap of a sum, and what comes of one where there is none. -/
def addT (k n k' n' : Int) (s s' : ByteArray) : Int := if k = 1 ∧ k' = 1 then rT n n' (wrap64 (n + n')) else if k = 3 ∧ k' = 3 then (if (60 : Int) < (s.size : Int) + (s'.size : Int) then 3 else 0) else 1
def addK (k : Int) : Int := if k = 3 then 3 else 1
def addN (k n n' : Int) : Int := if k = 3 then 0 else wrap64 (n + n')
def addS (k : Int) (s s' : ByteArray) : ByteArray := if k = 3 then s ++ s' else ⟨#[]⟩
theorem addT_bounds (k n k' n' : Int) (s s' : ByteArray) : 0 ≤ addT k n k' n' s s' ∧ addT k n k' n' s s' ≤ 3 := by
  unfold addT
  have := rT_bounds n n' (wrap64 (n + n'))
  repeat' split
  all_goals omega
theorem add_just (k n n' : Int) (s s' : ByteArray) : Just (addK k) (addN k n n') (addS k s s') := by
  by_cases h : k = 3
  · exact Or.inr (Or.inr ⟨by simp [addK, h], by simp [addN, h]⟩)
  · exact Or.inl ⟨by simp [addK, h], by simp [addS, h]⟩

set_option maxRecDepth 100000 in
set_option maxHeartbeats 1000000 in
theorem sum_int (n n' : Int) (s s' : ByteArray) (a0 a1 a2 : Addr) (w : World) (h : Errs w a0 a1 a2) :
    Calls Tryz.prog 90 #[thing 1 n s, thing 1 n' s'] w fun e w' => e = .returned (.tuple #[outT (rT n n' (wrap64 (n + n'))) (thing 1 (wrap64 (n + n')) ⟨#[]⟩), outE 11 (rT n n' (wrap64 (n + n'))) a0 a1 a2]) ∧ Below w.heap.size w w' := by
  rw [thing_1, thing_1]
  have q := asInt_hit
  go_enter Tryz.func90, Tryz.ntmps90
  go_wp2_with fail
  refine (ranged_out _ _ _ _ a0 a1 a2 _ h).mono ?_
  rintro e w1 ⟨rfl, hb⟩
  go_wp2
  go_ret2
  exact ⟨rfl, hb⟩

set_option maxRecDepth 100000 in
set_option maxHeartbeats 1000000 in
theorem sum_text (s s' : ByteArray) (w : World) (hs : (s.size : Int) + (s'.size : Int) ≤ 60) :
    Calls Tryz.prog 90 #[.iface 146 (.string s), .iface 146 (.string s')] w fun e w' => e = .returned (.tuple #[.iface 146 (.string (s ++ s')), .nilIface]) ∧ Below w.heap.size w w' := by
  have q := asInt_text
  have q' := asText_hit
  have HS : Hid ((s.size : Int) + (s'.size : Int) ≤ 60) := hs
  clear hs
  go_enter Tryz.func90, Tryz.ntmps90
  go_wp2_with fail
  refine (joined_ok _ _ _ HS.out).mono ?_
  rintro e w1 ⟨rfl, hb⟩
  go_wp2
  go_ret2
  exact ⟨rfl, hb⟩

set_option maxRecDepth 100000 in
set_option maxHeartbeats 1000000 in
theorem sum_long (s s' : ByteArray) (a0 a1 a2 : Addr) (w : World) (h : Errs w a0 a1 a2) (hx : (s.size : Int) ≤ 1048576) (hy : (s'.size : Int) ≤ 1048576) (hs : (60 : Int) < (s.size : Int) + (s'.size : Int)) :
    Calls Tryz.prog 90 #[.iface 146 (.string s), .iface 146 (.string s')] w fun e w' => e = .returned (.tuple #[.nilIface, trapE 11 a2]) ∧ Below w.heap.size w w' := by
  have q := asInt_text
  have q' := asText_hit
  have J := fun W x => joined_long s s' a0 a1 a2 W x hx hy hs
  clear hs hx hy
  go_enter Tryz.func90, Tryz.ntmps90
  go_wp2_with fail
  refine (J _ h).mono ?_
  rintro e w1 ⟨rfl, hb⟩
  go_wp2
  go_ret2
  exact ⟨rfl, hb⟩

set_option maxRecDepth 100000 in
set_option maxHeartbeats 1000000 in
theorem sum_type1 (n k' n' : Int) (s s' : ByteArray) (a0 a1 a2 : Addr) (w : World) (h : Errs w a0 a1 a2) (hk : k' ≠ 1) :
    Calls Tryz.prog 90 #[thing 1 n s, thing k' n' s'] w fun e w' => e = .returned (.tuple #[.nilIface, trapE 11 a0]) ∧ Below w.heap.size w w' := by
  have g0 := h.g0
  have q := asInt_hit
  have m := asInt_miss k' n' s' hk
  rw [thing_1]
  go_enter Tryz.func90, Tryz.ntmps90
  go_wp2
  go_quiet (fail)
  go_wp2
  go_ret2
  exact ⟨rfl, below_draws (Below.refl _ _) _⟩

set_option maxRecDepth 100000 in
set_option maxHeartbeats 1000000 in
theorem sum_type3 (n k' n' : Int) (s s' : ByteArray) (a0 a1 a2 : Addr) (w : World) (h : Errs w a0 a1 a2) (hk : k' ≠ 3) :
    Calls Tryz.prog 90 #[thing 3 n s, thing k' n' s'] w fun e w' => e = .returned (.tuple #[.nilIface, trapE 11 a0]) ∧ Below w.heap.size w w' := by
  have g0 := h.g0
  have q := asInt_text
  have q' := asText_hit
  have m := asText_miss k' n' s' hk
  rw [thing_3]
  go_enter Tryz.func90, Tryz.ntmps90
  go_wp2
  go_quiet (fail)
  go_wp2
  go_ret2
  exact ⟨rfl, below_draws (Below.refl _ _) _⟩

set_option maxRecDepth 100000 in
set_option maxHeartbeats 1000000 in
theorem sum_type (k n k' n' : Int) (s s' : ByteArray) (a0 a1 a2 : Addr) (w : World) (h : Errs w a0 a1 a2) (h1 : k ≠ 1) (h3 : k ≠ 3) :
    Calls Tryz.prog 90 #[thing k n s, thing k' n' s'] w fun e w' => e = .returned (.tuple #[.nilIface, trapE 11 a0]) ∧ Below w.heap.size w w' := by
  have g0 := h.g0
  have m := asInt_miss k n s h1
  have m' := asText_miss k n s h3
  go_enter Tryz.func90, Tryz.ntmps90
  go_wp2
  go_quiet (fail)
  go_wp2
  go_ret2
  exact ⟨rfl, below_draws (Below.refl _ _) _⟩

theorem sum_any (k n k' n' : Int) (s s' : ByteArray) (a0 a1 a2 : Addr) (w : World) (h : Errs w a0 a1 a2) (hx : (s.size : Int) ≤ 1048576) (hy : (s'.size : Int) ≤ 1048576) :
    Calls Tryz.prog 90 #[thing k n s, thing k' n' s'] w fun e w' => e = .returned (.tuple #[outT (addT k n k' n' s s') (thing (addK k) (addN k n n') (addS k s s')), outE 11 (addT k n k' n' s s') a0 a1 a2]) ∧ Below w.heap.size w w' := by
  by_cases h1 : k = 1
  · subst h1
    by_cases h2 : k' = 1
    · subst h2
      exact sum_int n n' s s' a0 a1 a2 w h
    · rw [show addT 1 n k' n' s s' = 1 by simp [addT, h2]]
      exact sum_type1 n k' n' s s' a0 a1 a2 w h h2
  by_cases h3 : k = 3
  · subst h3
    by_cases h2 : k' = 3
    · subst h2
      by_cases hl : (60 : Int) < (s.size : Int) + (s'.size : Int)
      · rw [show addT 3 n 3 n' s s' = 3 by simp [addT, hl]]
        exact sum_long s s' a0 a1 a2 w h hx hy hl
      · rw [show addT 3 n 3 n' s s' = 0 by simp [addT, hl]]
        exact sum_text s s' w (by omega)
    · rw [show addT 3 n k' n' s s' = 1 by simp [addT, h2]]
      exact sum_type3 n k' n' s s' a0 a1 a2 w h h2
  · rw [show addT k n k' n' s s' = 1 by simp [addT, h1, h3]]
    exact sum_type k n k' n' s s' a0 a1 a2 w h h1 h3
end Go.Proofs.YtjdoljaailokmaaGreatDoor

namespace Go.Proofs.YtjdoljaailokmaaGreatDoor
open Go.RowKit Go.Extern.Stop Go.Stop Go.Extern

set_option maxRecDepth 100000 in
set_option maxHeartbeats 4000000 in
theorem iAdd_any (k n k' n' : Int) (s s' : ByteArray) (a0 a1 a2 : Addr) (w : World) (h : Errs w a0 a1 a2) (hsx : (s.size : Int) ≤ 1048576) (hsy : (s'.size : Int) ≤ 1048576) :
    Calls Tryz.prog 79 #[.agg #[.int .i64 k, .int .i64 n, .string s], .agg #[.int .i64 k', .int .i64 n', .string s']] w fun e w' => e = .returned (.tuple #[.agg #[.int .i64 (ak (addT k n k' n' s s') (addK k)), .int .i64 (ak (addT k n k' n' s s') (addN k n n')), .string (sk (addT k n k' n' s s') (addS k s s'))], .int .i64 (addT k n k' n' s s')]) ∧ Below w.heap.size w w' := by
  obtain ⟨W0, hW0⟩ : ∃ W0, W0 = ((w.alloc (.cells #[.int .i64 k, .int .i64 n, .string s] 107)).alloc (.cells #[.int .i64 k', .int .i64 n', .string s'] 107)).alloc (.cells #[.int .i64 0, .int .i64 0, .string ⟨#[]⟩] 107) := ⟨_, rfl⟩
  have hz : W0.heap.size = w.heap.size + 3 := by rw [hW0]; simp
  have hB0 : Below w.heap.size w W0 := by rw [hW0]; exact (((Below.refl _ _).alloc (Nat.le_refl _) _).alloc (by simp) _).alloc (by simp; omega) _
  have hx : W0.heap[w.heap.size]? = some (.cells #[.int .i64 k, .int .i64 n, .string s] 107 (0, 0)) := by rw [hW0]; exact block_kept (block_kept (block_new w _ _) ((Below.refl _ _).alloc (Nat.le_refl _) _)) ((Below.refl _ _).alloc (Nat.le_refl _) _)
  have hy : W0.heap[w.heap.size + 1]? = some (.cells #[.int .i64 k', .int .i64 n', .string s'] 107 (0, 0)) := by rw [hW0]; exact block_kept (by simpa using block_new (w.alloc (.cells #[.int .i64 k, .int .i64 n, .string s] 107)) #[.int .i64 k', .int .i64 n', .string s'] 107) ((Below.refl _ _).alloc (Nat.le_refl _) _)
  have hr : W0.heap[w.heap.size + 1 + 1]? = some (.cells #[.int .i64 0, .int .i64 0, .string ⟨#[]⟩] 107 (0, 0)) := by rw [hW0]; simpa using block_new ((w.alloc (.cells #[.int .i64 k, .int .i64 n, .string s] 107)).alloc (.cells #[.int .i64 k', .int .i64 n', .string s'] 107)) #[.int .i64 0, .int .i64 0, .string ⟨#[]⟩] 107
  have hS : ∀ w', Below (w.heap.size + 2) W0 w' → w'.cell? ⟨w.heap.size, 0, none⟩ = some (.int .i64 k) ∧ w'.cell? ⟨w.heap.size, 1, none⟩ = some (.int .i64 n) ∧ w'.cell? ⟨w.heap.size, 2, none⟩ = some (.string s) ∧ w'.cell? ⟨w.heap.size + 1, 0, none⟩ = some (.int .i64 k') ∧ w'.cell? ⟨w.heap.size + 1, 1, none⟩ = some (.int .i64 n') ∧ w'.cell? ⟨w.heap.size + 1, 2, none⟩ = some (.string s') := fun w' hb =>
    ⟨by rw [hb.cell (by simp), block_cell hx]; rfl, by rw [hb.cell (by simp), block_cell hx]; rfl, by rw [hb.cell (by simp), block_cell hx]; rfl, by rw [hb.cell (by simp), block_cell hy]; rfl, by rw [hb.cell (by simp), block_cell hy]; rfl, by rw [hb.cell (by simp), block_cell hy]; rfl⟩
  have q : Below W0.heap.size W0 W0.drew := (Below.refl _ _).drew
  have hE := h.later hB0
  have HB : Hid (Below w.heap.size w W0) := hB0
  have HZ : Hid (W0.heap.size = w.heap.size + 3) := hz
  have HR : Hid (W0.heap[w.heap.size + 1 + 1]? = some (.cells #[.int .i64 0, .int .i64 0, .string ⟨#[]⟩] 107 (0, 0))) := hr
  have HS : Hid (∀ w', Below (w.heap.size + 2) W0 w' → w'.cell? ⟨w.heap.size, 0, none⟩ = some (.int .i64 k) ∧ w'.cell? ⟨w.heap.size, 1, none⟩ = some (.int .i64 n) ∧ w'.cell? ⟨w.heap.size, 2, none⟩ = some (.string s) ∧ w'.cell? ⟨w.heap.size + 1, 0, none⟩ = some (.int .i64 k') ∧ w'.cell? ⟨w.heap.size + 1, 1, none⟩ = some (.int .i64 n') ∧ w'.cell? ⟨w.heap.size + 1, 2, none⟩ = some (.string s')) := hS
  obtain ⟨j0, j1, j2, j3, j4, j5⟩ := hS W0 (Below.refl _ _)
  have HT : Hid (0 ≤ addT k n k' n' s s' ∧ addT k n k' n' s s' ≤ 3) := addT_bounds k n k' n' s s'
  have HX : Hid ((s.size : Int) ≤ 1048576) := hsx
  have HY : Hid ((s'.size : Int) ≤ 1048576) := hsy
  clear hsx hsy
  clear hB0 hz hr hS hx hy
  go_enter Tryz.func79, Tryz.ntmps79
  go_wp2
  rw [← hW0]
  clear hW0
  go_region_held3 (fun w' => w'.cell? ⟨w.heap.size, 0, none⟩ = some (.int .i64 k) ∧ w'.cell? ⟨w.heap.size, 1, none⟩ = some (.int .i64 n) ∧ w'.cell? ⟨w.heap.size, 2, none⟩ = some (.string s) ∧ w'.cell? ⟨w.heap.size + 1, 0, none⟩ = some (.int .i64 k') ∧ w'.cell? ⟨w.heap.size + 1, 1, none⟩ = some (.int .i64 n') ∧ w'.cell? ⟨w.heap.size + 1, 2, none⟩ = some (.string s'))
    (first
      | exact ⟨j0, j1, j2, j3, j4, j5⟩
      | exact HS.out _ (q.mono (by have := HZ.out; omega))
      | exact HS.out _ ((((q.mono (by have := HZ.out; omega)).setCell (by simp) _).setCell (by simp) _).setCell (by simp) _))
    (first
      | (go_at_call 91; refine (thingOf_any _ _ _ _).mono ?_; rintro e wa ⟨rfl, kd⟩; have q := q.trans (kd.mono q.size))
      | (go_at_call 90; refine (sum_any _ _ _ _ _ _ a0 a1 a2 _ (by exact hE.later q) HX.out HY.out).mono ?_; rintro e wb ⟨rfl, kd⟩; have q := q.trans (kd.mono q.size))
      | (go_at_call 89; refine (answered_any _ _ _ _ _ a0 a1 a2 _ (by exact hE.later q) HT.out.1 HT.out.2 (add_just k n n' s s')).mono ?_; rintro e wc ⟨rfl, kd⟩; have q := q.trans (kd.mono q.size); have hk := block_kept HR.out q; have hc := block_cell hk; have hf := block_free hk))
  go_wp2
  have zz := block_cell (stored3 (a := .int .i64 (ak (addT k n k' n' s s') (addK k))) (b := .int .i64 (ak (addT k n k' n' s s') (addN k n n'))) (c := .string (sk (addT k n k' n' s s') (addS k s s'))) hk)
  have z0 := zz 0
  have z1 := zz 1
  have z2 := zz 2
  refine bodyPost_ret (v := .tuple #[.agg #[.int .i64 (ak (addT k n k' n' s s') (addK k)), .int .i64 (ak (addT k n k' n' s s') (addN k n n')), .string (sk (addT k n k' n' s s') (addS k s s'))], .int .i64 (addT k n k' n' s s')]) (by simp [results, Tryz.results79, go_sem, z0, z1, z2]) rfl ⟨rfl, ?_⟩
  exact (((HB.out.trans (q.mono HB.out.size)).setCell (by simp; omega) _).setCell (by simp; omega) _).setCell (by simp; omega) _

theorem addT_num (k n k' n' : Int) (s s' : ByteArray) (h : ¬ (k = 3 ∧ k' = 3)) : addT k n k' n' s s' = numT k k' n n' (wrap64 (n + n')) := by
  unfold addT numT
  rw [if_neg h]

/-- What a sum of two values that are not two texts comes to. -/
theorem add_num (k n k' n' : Int) (s s' : ByteArray) (h : ¬ (k = 3 ∧ k' = 3)) : (.tuple #[.agg #[.int .i64 (ak (addT k n k' n' s s') (addK k)), .int .i64 (ak (addT k n k' n' s s') (addN k n n')), .string (sk (addT k n k' n' s s') (addS k s s'))], .int .i64 (addT k n k' n' s s')] : Value) = .tuple #[.agg #[.int .i64 (ak (numT k k' n n' (wrap64 (n + n'))) 1), .int .i64 (ak (numT k k' n n' (wrap64 (n + n'))) (wrap64 (n + n'))), .string (sk (numT k k' n n' (wrap64 (n + n'))) ⟨#[]⟩)], .int .i64 (numT k k' n n' (wrap64 (n + n')))] := by
  rw [addT_num k n k' n' s s' h]
  by_cases h3 : k = 3
  · subst h3
    rw [show numT 3 k' n n' (wrap64 (n + n')) = 1 by simp [numT]]
    rfl
  · simp [addK, addN, addS, h3]

end Go.Proofs.YtjdoljaailokmaaGreatDoor
