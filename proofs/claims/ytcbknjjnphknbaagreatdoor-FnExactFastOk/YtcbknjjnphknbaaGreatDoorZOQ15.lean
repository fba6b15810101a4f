/-
  Values: valueIn of the program, kind by kind.
  Values: valueIn of the program, whole.
  Values: ValueOk of the document's model.
  Lists of values: impl.allIn and spec.l05Values tell whether all are ok.
-/
import Derived.Test.YtcbknjjnphknbaaGreatDoorZOQ11
import Derived.Deep.RegionHeld3
import Derived.Test.YtcbknjjnphknbaaGreatDoorZOQ12
import Derived.Test.YtcbknjjnphknbaaGreatDoorZOQ13
import Derived.Test.YtcbknjjnphknbaaGreatDoorZOQ14
import Derived.Test.YtcbknjjnphknbaaGreatDoorZOQ2
namespace Go.Proofs.YtcbknjjnphknbaaGreatDoor
open Go.RowKit

set_option maxRecDepth 100000 in
set_option maxHeartbeats 4000000 in
theorem iIn_no_nn (k n : Int) (s : ByteArray) (r : Int) (a1 a2 : Option Addr) (nt c1 nf c2 : Nat) (w : World) (h0 : k ≠ 0) (h1 : k ≠ 1) (h2 : k ≠ 2) (h3 : k ≠ 3) (h4 : k ≠ 4) (h5 : k ≠ 5) (hnn : n ≠ 0) :
    Calls Tryz.prog 130 #[.agg #[.slice a1 nt c1, .slice a2 nf c2], .agg #[.int .i64 k, .int .i64 n, .string s], .int .i64 r] w fun e w' => e = .returned (.bool (false)) ∧ Below w.heap.size w w' := by
  have hA : Below w.heap.size w ((w.alloc (.cells #[.slice a1 nt c1, .slice a2 nf c2] 35)).alloc (.cells #[.int .i64 k, .int .i64 n, .string s] 102)) := ((Below.refl _ _).alloc (Nat.le_refl _) _).alloc (by simp) _
  have m1 : ∀ (v : Value) (W : World), (Go.method 391 263 v "loop.example/g00094/impl.value").run Tryz.prog W = .ok (207, v) W := fun _ _ => by kernel_rfl
  have m2 : ∀ (v : Value) (W : World), (Go.method 391 263 v "loop.example/g00094/impl.okIn").run Tryz.prog W = .ok (205, v) W := fun _ _ => by kernel_rfl
  have HA : Hid (Below w.heap.size w ((w.alloc (.cells #[.slice a1 nt c1, .slice a2 nf c2] 35)).alloc (.cells #[.int .i64 k, .int .i64 n, .string s] 102))) := hA
  clear hA
  go_enter Tryz.func130, Tryz.ntmps130
  go_wp2_with fail
  refine (thingOf_any _ _ _ _).mono ?_
  rintro e w1 ⟨rfl, hb1⟩
  rw [show thing k n s = .iface 263 (.int .i64 k) by simp [thing, h0, h1, h2, h3, h4, h5]]
  have hx := block_kept (block_old (block_new w #[.slice a1 nt c1, .slice a2 nf c2] 35) (.cells #[.int .i64 k, .int .i64 n, .string s] 102)) hb1
  have hy := block_kept (block_new_at _ #[.int .i64 k, .int .i64 n, .string s] 102 (w.heap.size + 1) (by simp)) hb1
  have hB1 := HA.out.trans (hb1.mono HA.out.size)
  have HB : Hid (Below w.heap.size w w1) := hB1
  have hZ : Hid (w.heap.size + 2 ≤ w1.heap.size) := lt_block hy
  have hS : ∀ w', Below (w.heap.size + 2) w1 w' → w'.cell? ⟨w.heap.size, 0, none⟩ = some (.slice a1 nt c1) ∧ w'.cell? ⟨w.heap.size, 1, none⟩ = some (.slice a2 nf c2) ∧ w'.cell? ⟨w.heap.size + 1, 0, none⟩ = some (.int .i64 k) ∧ w'.cell? ⟨w.heap.size + 1, 1, none⟩ = some (.int .i64 n) ∧ w'.cell? ⟨w.heap.size + 1, 2, none⟩ = some (.string s) := fun w' hb =>
    ⟨by rw [hb.cell (by simp), block_cell hx]; rfl, by rw [hb.cell (by simp), block_cell hx]; rfl, by rw [hb.cell (by simp), block_cell hy]; rfl, by rw [hb.cell (by simp), block_cell hy]; rfl, by rw [hb.cell (by simp), block_cell hy]; rfl⟩
  have HS : Hid (∀ w', Below (w.heap.size + 2) w1 w' → w'.cell? ⟨w.heap.size, 0, none⟩ = some (.slice a1 nt c1) ∧ w'.cell? ⟨w.heap.size, 1, none⟩ = some (.slice a2 nf c2) ∧ w'.cell? ⟨w.heap.size + 1, 0, none⟩ = some (.int .i64 k) ∧ w'.cell? ⟨w.heap.size + 1, 1, none⟩ = some (.int .i64 n) ∧ w'.cell? ⟨w.heap.size + 1, 2, none⟩ = some (.string s)) := hS
  obtain ⟨j0, j1, j2, j3, j4⟩ := hS w1 (Below.refl _ _)
  have q : Below w1.heap.size w1 w1.drew := (Below.refl _ _).drew
  clear hS hx hy hB1 hb1 HA
  have e0 : ((0 : Int) == n) = false := by simpa using fun h => hnn (h : (0 : Int) = n).symm
  have e3 : (n == (0 : Int)) = false := by simpa using hnn
  clear hnn
  clear h0 h1 h2 h3 h4 h5
  go_wp2
  first | (go_region_with (first
      | (go_at_call 207; refine (value_no _ _).mono ?_; rintro e wa ⟨rfl, kd⟩; have q := q.trans (kd.mono q.size); obtain ⟨j0, j1, j2, j3, j4⟩ := HS.out _ (q.mono hZ.out)))) | fail
  all_goals
    go_wp2
    go_ret
    exact ⟨rfl, HB.out.trans (q.mono HB.out.size)⟩

set_option maxRecDepth 100000 in
set_option maxHeartbeats 4000000 in
theorem iIn_no_ne (k : Int) (s : ByteArray) (r : Int) (a1 a2 : Option Addr) (nt c1 nf c2 : Nat) (w : World) (h0 : k ≠ 0) (h1 : k ≠ 1) (h2 : k ≠ 2) (h3 : k ≠ 3) (h4 : k ≠ 4) (h5 : k ≠ 5) (hne : s ≠ ⟨#[]⟩) :
    Calls Tryz.prog 130 #[.agg #[.slice a1 nt c1, .slice a2 nf c2], .agg #[.int .i64 k, .int .i64 0, .string s], .int .i64 r] w fun e w' => e = .returned (.bool (false)) ∧ Below w.heap.size w w' := by
  have hA : Below w.heap.size w ((w.alloc (.cells #[.slice a1 nt c1, .slice a2 nf c2] 35)).alloc (.cells #[.int .i64 k, .int .i64 0, .string s] 102)) := ((Below.refl _ _).alloc (Nat.le_refl _) _).alloc (by simp) _
  have m1 : ∀ (v : Value) (W : World), (Go.method 391 263 v "loop.example/g00094/impl.value").run Tryz.prog W = .ok (207, v) W := fun _ _ => by kernel_rfl
  have m2 : ∀ (v : Value) (W : World), (Go.method 391 263 v "loop.example/g00094/impl.okIn").run Tryz.prog W = .ok (205, v) W := fun _ _ => by kernel_rfl
  have HA : Hid (Below w.heap.size w ((w.alloc (.cells #[.slice a1 nt c1, .slice a2 nf c2] 35)).alloc (.cells #[.int .i64 k, .int .i64 0, .string s] 102))) := hA
  clear hA
  go_enter Tryz.func130, Tryz.ntmps130
  go_wp2_with fail
  refine (thingOf_any _ _ _ _).mono ?_
  rintro e w1 ⟨rfl, hb1⟩
  rw [show thing k 0 s = .iface 263 (.int .i64 k) by simp [thing, h0, h1, h2, h3, h4, h5]]
  have hx := block_kept (block_old (block_new w #[.slice a1 nt c1, .slice a2 nf c2] 35) (.cells #[.int .i64 k, .int .i64 0, .string s] 102)) hb1
  have hy := block_kept (block_new_at _ #[.int .i64 k, .int .i64 0, .string s] 102 (w.heap.size + 1) (by simp)) hb1
  have hB1 := HA.out.trans (hb1.mono HA.out.size)
  have HB : Hid (Below w.heap.size w w1) := hB1
  have hZ : Hid (w.heap.size + 2 ≤ w1.heap.size) := lt_block hy
  have hS : ∀ w', Below (w.heap.size + 2) w1 w' → w'.cell? ⟨w.heap.size, 0, none⟩ = some (.slice a1 nt c1) ∧ w'.cell? ⟨w.heap.size, 1, none⟩ = some (.slice a2 nf c2) ∧ w'.cell? ⟨w.heap.size + 1, 0, none⟩ = some (.int .i64 k) ∧ w'.cell? ⟨w.heap.size + 1, 1, none⟩ = some (.int .i64 0) ∧ w'.cell? ⟨w.heap.size + 1, 2, none⟩ = some (.string s) := fun w' hb =>
    ⟨by rw [hb.cell (by simp), block_cell hx]; rfl, by rw [hb.cell (by simp), block_cell hx]; rfl, by rw [hb.cell (by simp), block_cell hy]; rfl, by rw [hb.cell (by simp), block_cell hy]; rfl, by rw [hb.cell (by simp), block_cell hy]; rfl⟩
  have HS : Hid (∀ w', Below (w.heap.size + 2) w1 w' → w'.cell? ⟨w.heap.size, 0, none⟩ = some (.slice a1 nt c1) ∧ w'.cell? ⟨w.heap.size, 1, none⟩ = some (.slice a2 nf c2) ∧ w'.cell? ⟨w.heap.size + 1, 0, none⟩ = some (.int .i64 k) ∧ w'.cell? ⟨w.heap.size + 1, 1, none⟩ = some (.int .i64 0) ∧ w'.cell? ⟨w.heap.size + 1, 2, none⟩ = some (.string s)) := hS
  obtain ⟨j0, j1, j2, j3, j4⟩ := hS w1 (Below.refl _ _)
  have q : Below w1.heap.size w1 w1.drew := (Below.refl _ _).drew
  clear hS hx hy hB1 hb1 HA
  have e1 := (not_empty hne).1
  have e2 := (not_empty hne).2
  clear hne
  clear h0 h1 h2 h3 h4 h5
  go_wp2
  first | (go_region_with (first
      | (go_at_call 207; refine (value_no _ _).mono ?_; rintro e wa ⟨rfl, kd⟩; have q := q.trans (kd.mono q.size); obtain ⟨j0, j1, j2, j3, j4⟩ := HS.out _ (q.mono hZ.out)))) | fail
  all_goals
    go_wp2
    go_ret
    exact ⟨rfl, HB.out.trans (q.mono HB.out.size)⟩

set_option maxRecDepth 100000 in
set_option maxHeartbeats 4000000 in
theorem iIn_no_no (k : Int) (r : Int) (a1 a2 : Option Addr) (nt c1 nf c2 : Nat) (w : World) (h0 : k ≠ 0) (h1 : k ≠ 1) (h2 : k ≠ 2) (h3 : k ≠ 3) (h4 : k ≠ 4) (h5 : k ≠ 5) :
    Calls Tryz.prog 130 #[.agg #[.slice a1 nt c1, .slice a2 nf c2], .agg #[.int .i64 k, .int .i64 0, .string ⟨#[]⟩], .int .i64 r] w fun e w' => e = .returned (.bool (false)) ∧ Below w.heap.size w w' := by
  have hA : Below w.heap.size w ((w.alloc (.cells #[.slice a1 nt c1, .slice a2 nf c2] 35)).alloc (.cells #[.int .i64 k, .int .i64 0, .string ⟨#[]⟩] 102)) := ((Below.refl _ _).alloc (Nat.le_refl _) _).alloc (by simp) _
  have m1 : ∀ (v : Value) (W : World), (Go.method 391 263 v "loop.example/g00094/impl.value").run Tryz.prog W = .ok (207, v) W := fun _ _ => by kernel_rfl
  have m2 : ∀ (v : Value) (W : World), (Go.method 391 263 v "loop.example/g00094/impl.okIn").run Tryz.prog W = .ok (205, v) W := fun _ _ => by kernel_rfl
  have HA : Hid (Below w.heap.size w ((w.alloc (.cells #[.slice a1 nt c1, .slice a2 nf c2] 35)).alloc (.cells #[.int .i64 k, .int .i64 0, .string ⟨#[]⟩] 102))) := hA
  clear hA
  go_enter Tryz.func130, Tryz.ntmps130
  go_wp2_with fail
  refine (thingOf_any _ _ _ _).mono ?_
  rintro e w1 ⟨rfl, hb1⟩
  rw [show thing k 0 ⟨#[]⟩ = .iface 263 (.int .i64 k) by simp [thing, h0, h1, h2, h3, h4, h5]]
  have hx := block_kept (block_old (block_new w #[.slice a1 nt c1, .slice a2 nf c2] 35) (.cells #[.int .i64 k, .int .i64 0, .string ⟨#[]⟩] 102)) hb1
  have hy := block_kept (block_new_at _ #[.int .i64 k, .int .i64 0, .string ⟨#[]⟩] 102 (w.heap.size + 1) (by simp)) hb1
  have hB1 := HA.out.trans (hb1.mono HA.out.size)
  have HB : Hid (Below w.heap.size w w1) := hB1
  have hZ : Hid (w.heap.size + 2 ≤ w1.heap.size) := lt_block hy
  have hS : ∀ w', Below (w.heap.size + 2) w1 w' → w'.cell? ⟨w.heap.size, 0, none⟩ = some (.slice a1 nt c1) ∧ w'.cell? ⟨w.heap.size, 1, none⟩ = some (.slice a2 nf c2) ∧ w'.cell? ⟨w.heap.size + 1, 0, none⟩ = some (.int .i64 k) ∧ w'.cell? ⟨w.heap.size + 1, 1, none⟩ = some (.int .i64 0) ∧ w'.cell? ⟨w.heap.size + 1, 2, none⟩ = some (.string ⟨#[]⟩) := fun w' hb =>
    ⟨by rw [hb.cell (by simp), block_cell hx]; rfl, by rw [hb.cell (by simp), block_cell hx]; rfl, by rw [hb.cell (by simp), block_cell hy]; rfl, by rw [hb.cell (by simp), block_cell hy]; rfl, by rw [hb.cell (by simp), block_cell hy]; rfl⟩
  have HS : Hid (∀ w', Below (w.heap.size + 2) w1 w' → w'.cell? ⟨w.heap.size, 0, none⟩ = some (.slice a1 nt c1) ∧ w'.cell? ⟨w.heap.size, 1, none⟩ = some (.slice a2 nf c2) ∧ w'.cell? ⟨w.heap.size + 1, 0, none⟩ = some (.int .i64 k) ∧ w'.cell? ⟨w.heap.size + 1, 1, none⟩ = some (.int .i64 0) ∧ w'.cell? ⟨w.heap.size + 1, 2, none⟩ = some (.string ⟨#[]⟩)) := hS
  obtain ⟨j0, j1, j2, j3, j4⟩ := hS w1 (Below.refl _ _)
  have q : Below w1.heap.size w1 w1.drew := (Below.refl _ _).drew
  clear hS hx hy hB1 hb1 HA
  clear h0 h1 h2 h3 h4 h5
  go_wp2
  first | (go_region_with (first
      | (go_at_call 207; refine (value_no _ _).mono ?_; rintro e wa ⟨rfl, kd⟩; have q := q.trans (kd.mono q.size); obtain ⟨j0, j1, j2, j3, j4⟩ := HS.out _ (q.mono hZ.out))
      | (go_at_call 205; refine (okIn_no _ _ _ _ _ _ _ _ _).mono ?_; rintro e wb ⟨rfl, kd⟩; have q := q.trans (kd.mono q.size); obtain ⟨j0, j1, j2, j3, j4⟩ := HS.out _ (q.mono hZ.out)))) | fail
  all_goals
    go_wp2
    go_ret
    exact ⟨rfl, HB.out.trans (q.mono HB.out.size)⟩

end Go.Proofs.YtcbknjjnphknbaaGreatDoor

namespace Go.Proofs.YtcbknjjnphknbaaGreatDoor
open Go.RowKit

/-- Whether a value is as the document's table says. -/
def valB (k n : Int) (s : ByteArray) (nf : Nat) (r : Int) : Bool :=
  if k = 0 then decide (n = 0) && decide (s = ⟨#[]⟩) else if k = 1 then num n && decide (s = ⟨#[]⟩) else if k = 2 then (decide (n = 0) || decide (n = 1)) && decide (s = ⟨#[]⟩)
  else if k = 3 then decide (n = 0) && textB s else if k = 4 then (decide (0 ≤ n) && decide (n < r)) && decide (s = ⟨#[]⟩) else if k = 5 then (decide (0 ≤ n) && decide (n < (nf : Int))) && decide (s = ⟨#[]⟩) else false

theorem iIn_any (k n : Int) (s : ByteArray) (r : Int) (a1 a2 : Option Addr) (nt c1 nf c2 : Nat) (w : World) (hsz : s.size ≤ 1048576) :
    Calls Tryz.prog 130 #[.agg #[.slice a1 nt c1, .slice a2 nf c2], .agg #[.int .i64 k, .int .i64 n, .string s], .int .i64 r] w fun e w' => e = .returned (.bool (valB k n s nf r)) ∧ Below w.heap.size w w' := by
  by_cases h0 : k = 0
  · subst h0
    by_cases hn : n = 0
    · subst hn
      by_cases he : s = ⟨#[]⟩
      · subst he
        rw [show valB 0 0 ⟨#[]⟩ nf r = true by simp [valB]]
        exact iIn_nil_yes r a1 a2 nt c1 nf c2 w
      · rw [show valB 0 0 s nf r = false by simp [valB, he]]
        exact iIn_nil_ne s r a1 a2 nt c1 nf c2 w he
    · rw [show valB 0 n s nf r = false by simp [valB, hn]]
      exact iIn_nil_nn n s r a1 a2 nt c1 nf c2 w hn
  by_cases h1 : k = 1
  · subst h1
    by_cases he : s = ⟨#[]⟩
    · subst he
      by_cases hb : (num n) = true
      · rw [show valB 1 n ⟨#[]⟩ nf r = true by simp only [valB]; rw [hb]; simp]
        exact iIn_int_yes n r a1 a2 nt c1 nf c2 w hb
      · have hb' : (num n) = false := by simpa using hb
        rw [show valB 1 n ⟨#[]⟩ nf r = false by simp only [valB]; rw [hb']; simp]
        exact iIn_int_no n r a1 a2 nt c1 nf c2 w hb'
    · rw [show valB 1 n s nf r = false by simp [valB, he]]
      exact iIn_int_ne n s r a1 a2 nt c1 nf c2 w he
  by_cases h2 : k = 2
  · subst h2
    by_cases he : s = ⟨#[]⟩
    · subst he
      by_cases hb : (decide (n = 0) || decide (n = 1)) = true
      · rw [show valB 2 n ⟨#[]⟩ nf r = true by simp only [valB]; rw [hb]; simp]
        exact iIn_bool_yes n r a1 a2 nt c1 nf c2 w hb
      · have hb' : (decide (n = 0) || decide (n = 1)) = false := by simpa using hb
        rw [show valB 2 n ⟨#[]⟩ nf r = false by simp only [valB]; rw [hb']; simp]
        exact iIn_bool_no n r a1 a2 nt c1 nf c2 w hb'
    · rw [show valB 2 n s nf r = false by simp [valB, he]]
      exact iIn_bool_ne n s r a1 a2 nt c1 nf c2 w he
  by_cases h3 : k = 3
  · subst h3
    by_cases hn : n = 0
    · subst hn
      by_cases hb : textB s = true
      · rw [show valB 3 0 s nf r = true by simp [valB, hb]]
        exact iIn_text_yes s r a1 a2 nt c1 nf c2 w hsz hb
      · have hb' : textB s = false := by simpa using hb
        rw [show valB 3 0 s nf r = false by simp [valB, hb']]
        exact iIn_text_no s r a1 a2 nt c1 nf c2 w hsz hb'
    · rw [show valB 3 n s nf r = false by simp [valB, hn]]
      exact iIn_text_nn n s r a1 a2 nt c1 nf c2 w hn
  by_cases h4 : k = 4
  · subst h4
    by_cases he : s = ⟨#[]⟩
    · subst he
      by_cases hb : (decide (0 ≤ n) && decide (n < r)) = true
      · rw [show valB 4 n ⟨#[]⟩ nf r = true by simp only [valB]; rw [hb]; simp]
        exact iIn_rec_yes n r a1 a2 nt c1 nf c2 w hb
      · have hb' : (decide (0 ≤ n) && decide (n < r)) = false := by simpa using hb
        rw [show valB 4 n ⟨#[]⟩ nf r = false by simp only [valB]; rw [hb']; simp]
        exact iIn_rec_no n r a1 a2 nt c1 nf c2 w hb'
    · rw [show valB 4 n s nf r = false by simp [valB, he]]
      exact iIn_rec_ne n s r a1 a2 nt c1 nf c2 w he
  by_cases h5 : k = 5
  · subst h5
    by_cases he : s = ⟨#[]⟩
    · subst he
      by_cases hb : (decide (0 ≤ n) && decide (n < (nf : Int))) = true
      · rw [show valB 5 n ⟨#[]⟩ nf r = true by simp only [valB]; rw [hb]; simp]
        exact iIn_fun_yes n r a1 a2 nt c1 nf c2 w hb
      · have hb' : (decide (0 ≤ n) && decide (n < (nf : Int))) = false := by simpa using hb
        rw [show valB 5 n ⟨#[]⟩ nf r = false by simp only [valB]; rw [hb']; simp]
        exact iIn_fun_no n r a1 a2 nt c1 nf c2 w hb'
    · rw [show valB 5 n s nf r = false by simp [valB, he]]
      exact iIn_fun_ne n s r a1 a2 nt c1 nf c2 w he
  rw [show valB k n s nf r = false by simp [valB, h0, h1, h2, h3, h4, h5]]
  by_cases hn : n = 0
  · subst hn
    by_cases he : s = ⟨#[]⟩
    · subst he
      exact iIn_no_no k r a1 a2 nt c1 nf c2 w h0 h1 h2 h3 h4 h5
    · exact iIn_no_ne k s r a1 a2 nt c1 nf c2 w h0 h1 h2 h3 h4 h5 he
  · exact iIn_no_nn k n s r a1 a2 nt c1 nf c2 w h0 h1 h2 h3 h4 h5 hn
end Go.Proofs.YtcbknjjnphknbaaGreatDoor

namespace Go.Proofs.YtcbknjjnphknbaaGreatDoor
open Go.RowKit

set_option maxRecDepth 100000 in
set_option maxHeartbeats 2000000 in
theorem sOk_ne (k n : Int) (s : ByteArray) (r : Int) (a1 a2 : Option Addr) (nt c1 nf c2 : Nat) (w : World) (h3 : k ≠ 3) (hne : s ≠ ⟨#[]⟩) :
    Calls Tryz.prog 73 #[.agg #[.slice a1 nt c1, .slice a2 nf c2], .agg #[.int .i64 k, .int .i64 n, .string s], .int .i64 r] w fun e w' => e = .returned (.bool (false)) ∧ Below w.heap.size w w' := by
  have hA : ∀ x y, Below w.heap.size w ((w.alloc x).alloc y) := fun _ _ => ((Below.refl _ _).alloc (Nat.le_refl _) _).alloc (by simp) _
  have e1 := (not_empty hne).1
  have e2 := (not_empty hne).2
  have e3 : (s.toList != ([] : List UInt8)) = true := by simp [bne, e2]
  have b3 : (k != 3) = true := by simpa using h3
  clear hne h3
  go_enter Tryz.func73, Tryz.ntmps73
  go_wp2
  go_ret
  exact ⟨rfl, hA _ _⟩

set_option maxRecDepth 100000 in
set_option maxHeartbeats 2000000 in
theorem sOk_nil (n : Int) (r : Int) (a1 a2 : Option Addr) (nt c1 nf c2 : Nat) (w : World) :
    Calls Tryz.prog 73 #[.agg #[.slice a1 nt c1, .slice a2 nf c2], .agg #[.int .i64 0, .int .i64 n, .string ⟨#[]⟩], .int .i64 r] w fun e w' => e = .returned (.bool (decide (n = 0))) ∧ Below w.heap.size w w' := by
  have hA : ∀ x y, Below w.heap.size w ((w.alloc x).alloc y) := fun _ _ => ((Below.refl _ _).alloc (Nat.le_refl _) _).alloc (by simp) _
  go_enter Tryz.func73, Tryz.ntmps73
  go_wp2
  go_ret
  exact ⟨ret_bool (by rw [Bool.eq_iff_iff]; simp), hA _ _⟩

set_option maxRecDepth 100000 in
set_option maxHeartbeats 2000000 in
theorem sOk_int (n : Int) (r : Int) (a1 a2 : Option Addr) (nt c1 nf c2 : Nat) (w : World) :
    Calls Tryz.prog 73 #[.agg #[.slice a1 nt c1, .slice a2 nf c2], .agg #[.int .i64 1, .int .i64 n, .string ⟨#[]⟩], .int .i64 r] w fun e w' => e = .returned (.bool (num n)) ∧ Below w.heap.size w w' := by
  have hA : ∀ x y, Below w.heap.size w ((w.alloc x).alloc y) := fun _ _ => ((Below.refl _ _).alloc (Nat.le_refl _) _).alloc (by simp) _
  go_enter Tryz.func73, Tryz.ntmps73
  go_wp2_with fail
  refine (sNum_any _ _).mono ?_
  rintro e w1 ⟨rfl, rfl⟩
  go_wp2
  go_ret
  exact ⟨rfl, hA _ _⟩

set_option maxRecDepth 100000 in
set_option maxHeartbeats 2000000 in
theorem sOk_bool (n : Int) (r : Int) (a1 a2 : Option Addr) (nt c1 nf c2 : Nat) (w : World) :
    Calls Tryz.prog 73 #[.agg #[.slice a1 nt c1, .slice a2 nf c2], .agg #[.int .i64 2, .int .i64 n, .string ⟨#[]⟩], .int .i64 r] w fun e w' => e = .returned (.bool (decide (n = 0) || decide (n = 1))) ∧ Below w.heap.size w w' := by
  have hA : ∀ x y, Below w.heap.size w ((w.alloc x).alloc y) := fun _ _ => ((Below.refl _ _).alloc (Nat.le_refl _) _).alloc (by simp) _
  go_enter Tryz.func73, Tryz.ntmps73
  go_wp2_with fail
  refine (between_any _ _ _ _).mono ?_
  rintro e w1 ⟨rfl, rfl⟩
  go_wp2
  go_ret
  exact ⟨ret_bool (by rw [Bool.eq_iff_iff]; simp; omega), hA _ _⟩

set_option maxRecDepth 100000 in
set_option maxHeartbeats 2000000 in
theorem sOk_text0 (s : ByteArray) (r : Int) (a1 a2 : Option Addr) (nt c1 nf c2 : Nat) (w : World) (hsz : s.size ≤ 1048576) :
    Calls Tryz.prog 73 #[.agg #[.slice a1 nt c1, .slice a2 nf c2], .agg #[.int .i64 3, .int .i64 0, .string s], .int .i64 r] w fun e w' => e = .returned (.bool (textB s)) ∧ Below w.heap.size w w' := by
  have hA : ∀ x y, Below w.heap.size w ((w.alloc x).alloc y) := fun _ _ => ((Below.refl _ _).alloc (Nat.le_refl _) _).alloc (by simp) _
  go_enter Tryz.func73, Tryz.ntmps73
  go_wp2_with fail
  refine (l01Text_any _ _ hsz).mono ?_
  rintro e w1 ⟨rfl, rfl⟩
  go_wp2
  go_ret
  exact ⟨rfl, hA _ _⟩

set_option maxRecDepth 100000 in
set_option maxHeartbeats 2000000 in
theorem sOk_textn (n : Int) (s : ByteArray) (r : Int) (a1 a2 : Option Addr) (nt c1 nf c2 : Nat) (w : World) (hn : n ≠ 0) :
    Calls Tryz.prog 73 #[.agg #[.slice a1 nt c1, .slice a2 nf c2], .agg #[.int .i64 3, .int .i64 n, .string s], .int .i64 r] w fun e w' => e = .returned (.bool (false)) ∧ Below w.heap.size w w' := by
  have hA : ∀ x y, Below w.heap.size w ((w.alloc x).alloc y) := fun _ _ => ((Below.refl _ _).alloc (Nat.le_refl _) _).alloc (by simp) _
  have b0 : (n == 0) = false := by simpa using hn
  clear hn
  go_enter Tryz.func73, Tryz.ntmps73
  go_wp2
  go_ret
  exact ⟨rfl, hA _ _⟩

set_option maxRecDepth 100000 in
set_option maxHeartbeats 2000000 in
theorem sOk_rec (n : Int) (r : Int) (a1 a2 : Option Addr) (nt c1 nf c2 : Nat) (w : World) :
    Calls Tryz.prog 73 #[.agg #[.slice a1 nt c1, .slice a2 nf c2], .agg #[.int .i64 4, .int .i64 n, .string ⟨#[]⟩], .int .i64 r] w fun e w' => e = .returned (.bool (decide (0 ≤ n) && decide (n < r))) ∧ Below w.heap.size w w' := by
  have hA : ∀ x y, Below w.heap.size w ((w.alloc x).alloc y) := fun _ _ => ((Below.refl _ _).alloc (Nat.le_refl _) _).alloc (by simp) _
  by_cases h1 : 0 ≤ n
  · by_cases h2 : n < r
    all_goals
      go_enter Tryz.func73, Tryz.ntmps73
      go_wp2
      go_ret
      exact ⟨ret_bool (by rw [Bool.eq_iff_iff]; simp; omega), hA _ _⟩
  ·
    go_enter Tryz.func73, Tryz.ntmps73
    go_wp2
    go_ret
    exact ⟨ret_bool (by rw [Bool.eq_iff_iff]; simp; omega), hA _ _⟩

set_option maxRecDepth 100000 in
set_option maxHeartbeats 2000000 in
theorem sOk_fun (n : Int) (r : Int) (a1 a2 : Option Addr) (nt c1 nf c2 : Nat) (w : World) (hnf : nf ≤ 1048576) :
    Calls Tryz.prog 73 #[.agg #[.slice a1 nt c1, .slice a2 nf c2], .agg #[.int .i64 5, .int .i64 n, .string ⟨#[]⟩], .int .i64 r] w fun e w' => e = .returned (.bool (decide (0 ≤ n) && decide (n < (nf : Int)))) ∧ Below w.heap.size w w' := by
  have hA : ∀ x y, Below w.heap.size w ((w.alloc x).alloc y) := fun _ _ => ((Below.refl _ _).alloc (Nat.le_refl _) _).alloc (by simp) _
  go_enter Tryz.func73, Tryz.ntmps73
  go_wp2_with fail
  refine (between_any _ _ _ _).mono ?_
  rintro e w1 ⟨rfl, rfl⟩
  go_wp2
  go_ret
  exact ⟨ret_bool (by rw [Bool.eq_iff_iff]; simp; omega), hA _ _⟩

set_option maxRecDepth 100000 in
set_option maxHeartbeats 2000000 in
theorem sOk_no (k n : Int) (r : Int) (a1 a2 : Option Addr) (nt c1 nf c2 : Nat) (w : World) (h0 : k ≠ 0) (h1 : k ≠ 1) (h2 : k ≠ 2) (h3 : k ≠ 3) (h4 : k ≠ 4) (h5 : k ≠ 5) :
    Calls Tryz.prog 73 #[.agg #[.slice a1 nt c1, .slice a2 nf c2], .agg #[.int .i64 k, .int .i64 n, .string ⟨#[]⟩], .int .i64 r] w fun e w' => e = .returned (.bool (false)) ∧ Below w.heap.size w w' := by
  have hA : ∀ x y, Below w.heap.size w ((w.alloc x).alloc y) := fun _ _ => ((Below.refl _ _).alloc (Nat.le_refl _) _).alloc (by simp) _
  have b0 : (k == 0) = false := by simpa using h0
  have b1 : (k == 1) = false := by simpa using h1
  have b2 : (k == 2) = false := by simpa using h2
  have b3 : (k == 3) = false := by simpa using h3
  have c3 : (k != 3) = true := by simpa using h3
  have b4 : (k == 4) = false := by simpa using h4
  have b5 : (k == 5) = false := by simpa using h5
  clear h0 h1 h2 h3 h4 h5
  go_enter Tryz.func73, Tryz.ntmps73
  go_wp2
  go_ret
  exact ⟨rfl, hA _ _⟩

theorem sOk_any (k n : Int) (s : ByteArray) (r : Int) (a1 a2 : Option Addr) (nt c1 nf c2 : Nat) (w : World) (hnf : nf ≤ 1048576) (hsz : s.size ≤ 1048576) :
    Calls Tryz.prog 73 #[.agg #[.slice a1 nt c1, .slice a2 nf c2], .agg #[.int .i64 k, .int .i64 n, .string s], .int .i64 r] w fun e w' => e = .returned (.bool (valB k n s nf r)) ∧ Below w.heap.size w w' := by
  by_cases h3 : k = 3
  · subst h3
    by_cases hn : n = 0
    · subst hn
      rw [show valB 3 0 s nf r = textB s by simp [valB]]
      exact sOk_text0 s r a1 a2 nt c1 nf c2 w hsz
    · rw [show valB 3 n s nf r = false by simp [valB, hn]]
      exact sOk_textn n s r a1 a2 nt c1 nf c2 w hn
  by_cases he : s = ⟨#[]⟩
  · subst he
    by_cases h0 : k = 0
    · subst h0
      rw [show valB 0 n ⟨#[]⟩ nf r = decide (n = 0) by simp [valB]]
      exact sOk_nil n r a1 a2 nt c1 nf c2 w
    by_cases h1 : k = 1
    · subst h1
      rw [show valB 1 n ⟨#[]⟩ nf r = num n by simp [valB]]
      exact sOk_int n r a1 a2 nt c1 nf c2 w
    by_cases h2 : k = 2
    · subst h2
      rw [show valB 2 n ⟨#[]⟩ nf r = (decide (n = 0) || decide (n = 1)) by simp [valB]]
      exact sOk_bool n r a1 a2 nt c1 nf c2 w
    by_cases h4 : k = 4
    · subst h4
      rw [show valB 4 n ⟨#[]⟩ nf r = (decide (0 ≤ n) && decide (n < r)) by simp [valB]]
      exact sOk_rec n r a1 a2 nt c1 nf c2 w
    by_cases h5 : k = 5
    · subst h5
      rw [show valB 5 n ⟨#[]⟩ nf r = (decide (0 ≤ n) && decide (n < (nf : Int))) by simp [valB]]
      exact sOk_fun n r a1 a2 nt c1 nf c2 w hnf
    · rw [show valB k n ⟨#[]⟩ nf r = false by simp [valB, h0, h1, h2, h3, h4, h5]]
      exact sOk_no k n r a1 a2 nt c1 nf c2 w h0 h1 h2 h3 h4 h5
  · rw [show valB k n s nf r = false by simp [valB, he, h3]]
    exact sOk_ne k n s r a1 a2 nt c1 nf c2 w h3 he

end Go.Proofs.YtcbknjjnphknbaaGreatDoor

namespace Go.Proofs.YtcbknjjnphknbaaGreatDoor
open Go.RowKit

def okB (nf : Nat) (r : Int) (v : Vl) : Bool := valB v.k v.n v.s nf r
def valsB (vs : List Vl) (nf : Nat) (r : Int) : Bool := vs.all (okB nf r)

/-- What IndexFunc is to answer: a number that is at least 0 just where not all are ok. -/
def IxPost (b : Bool) (e : Ending) : Prop := ∃ i : Int, e = .returned (.int .i64 i) ∧ (0 ≤ i ↔ b = false)

set_option maxRecDepth 100000 in
set_option maxHeartbeats 2000000 in
theorem sValues_any (a : Option Addr) (vs : List Vl) (cap : Nat) (r : Int) (a1 a2 : Option Addr) (nt c1 nf c2 : Nat) (w : World) (hnf : nf ≤ 1048576) (hs : ValsSmall vs) (hm : ValsAt w 0 a vs) :
    Calls Tryz.prog 115 #[.agg #[.slice a1 nt c1, .slice a2 nf c2], .slice a vs.length cap, .int .i64 r] w fun e w' => e = .returned (.bool (valsB vs nf r)) ∧ Below w.heap.size w w' := by
  obtain ⟨hn, hc⟩ := hs
  have hbA : Below w.heap.size w (w.alloc (.cells #[.slice a1 nt c1, .slice a2 nf c2] 35)) := (Below.refl _ _).alloc (Nat.le_refl _) _
  have hM0 := block_new w #[.slice a1 nt c1, .slice a2 nf c2] 35
  go_enter Tryz.func115, Tryz.ntmps115
  go_wp2
  go_loopw [7] (fun i wr => ∃ (k : Nat), k ≤ vs.length ∧ i = .int .i64 k ∧ Hid ((vs.take k).all (okB nf r) = true) ∧ wr.heap[w.heap.size]? = some (.cells #[.slice a1 nt c1, .slice a2 nf c2] 35 (0, 0)) ∧ Below w.heap.size w wr) (fun i _ => vs.length - (intOf i).toNat)
  case atStart => exact ⟨0, by omega, rfl, rfl, hM0, hbA⟩
  case round =>
    obtain ⟨k, hk, rfl, hall, hM, hb⟩ := hrel
    clear hM0 hbA
    by_cases hlt : k < vs.length
    · obtain ⟨b, off, rfl, -, d1, d2, d3⟩ := hm k hlt
      have hck := hc vs[k] (List.getElem_mem hlt)
      have d1' := cell_later hb d1
      have d2' := cell_later hb d2
      have d3' := cell_later hb d3
      clear d1 d2 d3
      have hS : ∀ w', Below wr.heap.size wr w' → w'.cell? ⟨w.heap.size, 0, none⟩ = some (.slice a1 nt c1) ∧ w'.cell? ⟨w.heap.size, 1, none⟩ = some (.slice a2 nf c2) ∧ w'.cell? ⟨b, off + k * 3, none⟩ = some (.int .i64 vs[k].k) ∧ w'.cell? ⟨b, off + k * 3 + 1, none⟩ = some (.int .i64 vs[k].n) ∧ w'.cell? ⟨b, off + k * 3 + 2, none⟩ = some (.string vs[k].s) := fun w' hb =>
        ⟨by rw [block_cell (block_kept hM hb)]; rfl, by rw [block_cell (block_kept hM hb)]; rfl, cell_later hb d1', cell_later hb d2', cell_later hb d3'⟩
      have HS : Hid (∀ w', Below wr.heap.size wr w' → w'.cell? ⟨w.heap.size, 0, none⟩ = some (.slice a1 nt c1) ∧ w'.cell? ⟨w.heap.size, 1, none⟩ = some (.slice a2 nf c2) ∧ w'.cell? ⟨b, off + k * 3, none⟩ = some (.int .i64 vs[k].k) ∧ w'.cell? ⟨b, off + k * 3 + 1, none⟩ = some (.int .i64 vs[k].n) ∧ w'.cell? ⟨b, off + k * 3 + 2, none⟩ = some (.string vs[k].s)) := hS
      obtain ⟨j0, j1, j2, j3, j4⟩ := hS wr (Below.refl _ _)
      have q : Below wr.heap.size wr wr.drew := (Below.refl _ _).drew
      have HB : Hid (Below w.heap.size w wr) := hb
      have HM : Hid (wr.heap[w.heap.size]? = some (.cells #[.slice a1 nt c1, .slice a2 nf c2] 35 (0, 0))) := hM
      clear hS hb hM d1' d2' d3'
      by_cases ho : valB vs[k].k vs[k].n vs[k].s nf r = true
      · have HO : Hid (valB vs[k].k vs[k].n vs[k].s nf r = true) := ho
        have hob : (!valB vs[k].k vs[k].n vs[k].s nf r) = false := by rw [ho]; rfl
        go_wp2
        go_region_held3 (fun w' => w'.cell? ⟨w.heap.size, 0, none⟩ = some (.slice a1 nt c1) ∧ w'.cell? ⟨w.heap.size, 1, none⟩ = some (.slice a2 nf c2) ∧ w'.cell? ⟨b, off + k * 3, none⟩ = some (.int .i64 vs[k].k) ∧ w'.cell? ⟨b, off + k * 3 + 1, none⟩ = some (.int .i64 vs[k].n) ∧ w'.cell? ⟨b, off + k * 3 + 2, none⟩ = some (.string vs[k].s))
          (first | exact ⟨j0, j1, j2, j3, j4⟩ | exact HS.out _ q)
          (first
            | (go_at_call 73; refine (sOk_any _ _ _ _ _ _ _ _ _ _ _ hnf hck).mono ?_; rintro e w5 ⟨rfl, kd⟩; have q := q.trans (kd.mono q.size)))
        have hM5 := block_kept HM.out q
        have hB5 := HB.out.trans (q.mono HB.out.size)
        clear HM HB HS j0 j1 j2 j3 j4 q kd
        go_wp2
        go_roundw
        case rel => exact ⟨k + 1, by omega, by go_num, all_take hlt hall.out HO.out, hM5, hB5⟩
        case measure => simp [intOf]; omega
      · have ho' : valB vs[k].k vs[k].n vs[k].s nf r = false := by simpa using ho
        have HO : Hid (valB vs[k].k vs[k].n vs[k].s nf r = false) := ho'
        have hob : (!valB vs[k].k vs[k].n vs[k].s nf r) = true := by rw [ho']; rfl
        clear ho
        go_wp2
        go_region_held3 (fun w' => w'.cell? ⟨w.heap.size, 0, none⟩ = some (.slice a1 nt c1) ∧ w'.cell? ⟨w.heap.size, 1, none⟩ = some (.slice a2 nf c2) ∧ w'.cell? ⟨b, off + k * 3, none⟩ = some (.int .i64 vs[k].k) ∧ w'.cell? ⟨b, off + k * 3 + 1, none⟩ = some (.int .i64 vs[k].n) ∧ w'.cell? ⟨b, off + k * 3 + 2, none⟩ = some (.string vs[k].s))
          (first | exact ⟨j0, j1, j2, j3, j4⟩ | exact HS.out _ q)
          (first
            | (go_at_call 73; refine (sOk_any _ _ _ _ _ _ _ _ _ _ _ hnf hck).mono ?_; rintro e w5 ⟨rfl, kd⟩; have q := q.trans (kd.mono q.size)))
        have hM5 := block_kept HM.out q
        have hB5 := HB.out.trans (q.mono HB.out.size)
        clear HM HB HS j0 j1 j2 j3 j4 q kd
        go_wp2
        go_ret
        exact ⟨ret_bool (show valsB vs nf r = false from all_no hlt HO.out).symm, hB5⟩
    · go_wp2
      go_ret
      exact ⟨ret_bool (show valsB vs nf r = true from all_end (by omega) hall.out).symm, hb⟩
end Go.Proofs.YtcbknjjnphknbaaGreatDoor
