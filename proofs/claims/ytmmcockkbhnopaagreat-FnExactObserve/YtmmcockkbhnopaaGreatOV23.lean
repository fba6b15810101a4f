/-
  Values: valueIn of the program, kind by kind.
-/
import Derived.Test.YtmmcockkbhnopaaGreatOV21
import Derived.Deep.RegionHeld3
namespace Go.Proofs.YtmmcockkbhnopaaGreat
open Go.RowKit

set_option maxRecDepth 100000 in
set_option maxHeartbeats 4000000 in
theorem iIn_bool_ne (n : Int) (s : ByteArray) (r : Int) (a1 a2 : Option Addr) (nt c1 nf c2 : Nat) (w : World) (hne : s ≠ ⟨#[]⟩) :
    Calls Tryz.prog 108 #[.agg #[.slice a1 nt c1, .slice a2 nf c2], .agg #[.int .i64 2, .int .i64 n, .string s], .int .i64 r] w fun e w' => e = .returned (.bool (false)) ∧ Below w.heap.size w w' := by
  have hA : Below w.heap.size w ((w.alloc (.cells #[.slice a1 nt c1, .slice a2 nf c2] 40)).alloc (.cells #[.int .i64 2, .int .i64 n, .string s] 45)) := ((Below.refl _ _).alloc (Nat.le_refl _) _).alloc (by simp) _
  have m1 : ∀ (v : Value) (W : World), (Go.method 367 218 v "loop.example/g00094/impl.value").run Tryz.prog W = .ok (195, v) W := fun _ _ => by kernel_rfl
  have m2 : ∀ (v : Value) (W : World), (Go.method 367 218 v "loop.example/g00094/impl.okIn").run Tryz.prog W = .ok (193, v) W := fun _ _ => by kernel_rfl
  have HA : Hid (Below w.heap.size w ((w.alloc (.cells #[.slice a1 nt c1, .slice a2 nf c2] 40)).alloc (.cells #[.int .i64 2, .int .i64 n, .string s] 45))) := hA
  clear hA
  go_enter Tryz.func108, Tryz.ntmps108
  go_wp2_with fail
  refine (thingOf_any _ _ _ _).mono ?_
  rintro e w1 ⟨rfl, hb1⟩
  rw [show thing 2 n s = .iface 218 (.int .i64 n) by rfl]
  have hx := block_kept (block_old (block_new w #[.slice a1 nt c1, .slice a2 nf c2] 40) (.cells #[.int .i64 2, .int .i64 n, .string s] 45)) hb1
  have hy := block_kept (block_new_at _ #[.int .i64 2, .int .i64 n, .string s] 45 (w.heap.size + 1) (by simp)) hb1
  have hB1 := HA.out.trans (hb1.mono HA.out.size)
  have HB : Hid (Below w.heap.size w w1) := hB1
  have hZ : Hid (w.heap.size + 2 ≤ w1.heap.size) := lt_block hy
  have hS : ∀ w', Below (w.heap.size + 2) w1 w' → w'.cell? ⟨w.heap.size, 0, none⟩ = some (.slice a1 nt c1) ∧ w'.cell? ⟨w.heap.size, 1, none⟩ = some (.slice a2 nf c2) ∧ w'.cell? ⟨w.heap.size + 1, 0, none⟩ = some (.int .i64 2) ∧ w'.cell? ⟨w.heap.size + 1, 1, none⟩ = some (.int .i64 n) ∧ w'.cell? ⟨w.heap.size + 1, 2, none⟩ = some (.string s) := fun w' hb =>
    ⟨by rw [hb.cell (by simp), block_cell hx]; rfl, by rw [hb.cell (by simp), block_cell hx]; rfl, by rw [hb.cell (by simp), block_cell hy]; rfl, by rw [hb.cell (by simp), block_cell hy]; rfl, by rw [hb.cell (by simp), block_cell hy]; rfl⟩
  have HS : Hid (∀ w', Below (w.heap.size + 2) w1 w' → w'.cell? ⟨w.heap.size, 0, none⟩ = some (.slice a1 nt c1) ∧ w'.cell? ⟨w.heap.size, 1, none⟩ = some (.slice a2 nf c2) ∧ w'.cell? ⟨w.heap.size + 1, 0, none⟩ = some (.int .i64 2) ∧ w'.cell? ⟨w.heap.size + 1, 1, none⟩ = some (.int .i64 n) ∧ w'.cell? ⟨w.heap.size + 1, 2, none⟩ = some (.string s)) := hS
  obtain ⟨j0, j1, j2, j3, j4⟩ := hS w1 (Below.refl _ _)
  have q : Below w1.heap.size w1 w1.drew := (Below.refl _ _).drew
  clear hS hx hy hB1 hb1 HA
  have e1 := (not_empty hne).1
  have e2 := (not_empty hne).2
  clear hne
  go_wp2
  first | (go_region_with (first
      | (go_at_call 195; refine (value_bool _ _).mono ?_; rintro e wa ⟨rfl, kd⟩; have q := q.trans (kd.mono q.size); obtain ⟨j0, j1, j2, j3, j4⟩ := HS.out _ (q.mono hZ.out)))) | fail
  all_goals
    go_wp2
    go_ret
    exact ⟨rfl, HB.out.trans (q.mono HB.out.size)⟩

set_option maxRecDepth 100000 in
set_option maxHeartbeats 4000000 in
theorem iIn_bool_no (n : Int) (r : Int) (a1 a2 : Option Addr) (nt c1 nf c2 : Nat) (w : World) (hb : (decide (n = 0) || decide (n = 1)) = false) :
    Calls Tryz.prog 108 #[.agg #[.slice a1 nt c1, .slice a2 nf c2], .agg #[.int .i64 2, .int .i64 n, .string ⟨#[]⟩], .int .i64 r] w fun e w' => e = .returned (.bool (false)) ∧ Below w.heap.size w w' := by
  have hA : Below w.heap.size w ((w.alloc (.cells #[.slice a1 nt c1, .slice a2 nf c2] 40)).alloc (.cells #[.int .i64 2, .int .i64 n, .string ⟨#[]⟩] 45)) := ((Below.refl _ _).alloc (Nat.le_refl _) _).alloc (by simp) _
  have m1 : ∀ (v : Value) (W : World), (Go.method 367 218 v "loop.example/g00094/impl.value").run Tryz.prog W = .ok (195, v) W := fun _ _ => by kernel_rfl
  have m2 : ∀ (v : Value) (W : World), (Go.method 367 218 v "loop.example/g00094/impl.okIn").run Tryz.prog W = .ok (193, v) W := fun _ _ => by kernel_rfl
  have HA : Hid (Below w.heap.size w ((w.alloc (.cells #[.slice a1 nt c1, .slice a2 nf c2] 40)).alloc (.cells #[.int .i64 2, .int .i64 n, .string ⟨#[]⟩] 45))) := hA
  clear hA
  go_enter Tryz.func108, Tryz.ntmps108
  go_wp2_with fail
  refine (thingOf_any _ _ _ _).mono ?_
  rintro e w1 ⟨rfl, hb1⟩
  rw [show thing 2 n ⟨#[]⟩ = .iface 218 (.int .i64 n) by rfl]
  have hx := block_kept (block_old (block_new w #[.slice a1 nt c1, .slice a2 nf c2] 40) (.cells #[.int .i64 2, .int .i64 n, .string ⟨#[]⟩] 45)) hb1
  have hy := block_kept (block_new_at _ #[.int .i64 2, .int .i64 n, .string ⟨#[]⟩] 45 (w.heap.size + 1) (by simp)) hb1
  have hB1 := HA.out.trans (hb1.mono HA.out.size)
  have HB : Hid (Below w.heap.size w w1) := hB1
  have hZ : Hid (w.heap.size + 2 ≤ w1.heap.size) := lt_block hy
  have hS : ∀ w', Below (w.heap.size + 2) w1 w' → w'.cell? ⟨w.heap.size, 0, none⟩ = some (.slice a1 nt c1) ∧ w'.cell? ⟨w.heap.size, 1, none⟩ = some (.slice a2 nf c2) ∧ w'.cell? ⟨w.heap.size + 1, 0, none⟩ = some (.int .i64 2) ∧ w'.cell? ⟨w.heap.size + 1, 1, none⟩ = some (.int .i64 n) ∧ w'.cell? ⟨w.heap.size + 1, 2, none⟩ = some (.string ⟨#[]⟩) := fun w' hb =>
    ⟨by rw [hb.cell (by simp), block_cell hx]; rfl, by rw [hb.cell (by simp), block_cell hx]; rfl, by rw [hb.cell (by simp), block_cell hy]; rfl, by rw [hb.cell (by simp), block_cell hy]; rfl, by rw [hb.cell (by simp), block_cell hy]; rfl⟩
  have HS : Hid (∀ w', Below (w.heap.size + 2) w1 w' → w'.cell? ⟨w.heap.size, 0, none⟩ = some (.slice a1 nt c1) ∧ w'.cell? ⟨w.heap.size, 1, none⟩ = some (.slice a2 nf c2) ∧ w'.cell? ⟨w.heap.size + 1, 0, none⟩ = some (.int .i64 2) ∧ w'.cell? ⟨w.heap.size + 1, 1, none⟩ = some (.int .i64 n) ∧ w'.cell? ⟨w.heap.size + 1, 2, none⟩ = some (.string ⟨#[]⟩)) := hS
  obtain ⟨j0, j1, j2, j3, j4⟩ := hS w1 (Below.refl _ _)
  have q : Below w1.heap.size w1 w1.drew := (Below.refl _ _).drew
  clear hS hx hy hB1 hb1 HA
  go_wp2
  first | (go_region_with (first
      | (go_at_call 195; refine (value_bool _ _).mono ?_; rintro e wa ⟨rfl, kd⟩; have q := q.trans (kd.mono q.size); obtain ⟨j0, j1, j2, j3, j4⟩ := HS.out _ (q.mono hZ.out))
      | (go_at_call 193; refine (okIn_bool _ _ _ _ _ _ _ _ _).mono ?_; rintro e wb ⟨rfl, kd⟩; have q := q.trans (kd.mono q.size); obtain ⟨j0, j1, j2, j3, j4⟩ := HS.out _ (q.mono hZ.out)))) | fail
  all_goals
    go_wp2
    go_ret
    exact ⟨rfl, HB.out.trans (q.mono HB.out.size)⟩

set_option maxRecDepth 100000 in
set_option maxHeartbeats 4000000 in
theorem iIn_bool_yes (n : Int) (r : Int) (a1 a2 : Option Addr) (nt c1 nf c2 : Nat) (w : World) (hb : (decide (n = 0) || decide (n = 1)) = true) :
    Calls Tryz.prog 108 #[.agg #[.slice a1 nt c1, .slice a2 nf c2], .agg #[.int .i64 2, .int .i64 n, .string ⟨#[]⟩], .int .i64 r] w fun e w' => e = .returned (.bool (true)) ∧ Below w.heap.size w w' := by
  have hA : Below w.heap.size w ((w.alloc (.cells #[.slice a1 nt c1, .slice a2 nf c2] 40)).alloc (.cells #[.int .i64 2, .int .i64 n, .string ⟨#[]⟩] 45)) := ((Below.refl _ _).alloc (Nat.le_refl _) _).alloc (by simp) _
  have m1 : ∀ (v : Value) (W : World), (Go.method 367 218 v "loop.example/g00094/impl.value").run Tryz.prog W = .ok (195, v) W := fun _ _ => by kernel_rfl
  have m2 : ∀ (v : Value) (W : World), (Go.method 367 218 v "loop.example/g00094/impl.okIn").run Tryz.prog W = .ok (193, v) W := fun _ _ => by kernel_rfl
  have HA : Hid (Below w.heap.size w ((w.alloc (.cells #[.slice a1 nt c1, .slice a2 nf c2] 40)).alloc (.cells #[.int .i64 2, .int .i64 n, .string ⟨#[]⟩] 45))) := hA
  clear hA
  go_enter Tryz.func108, Tryz.ntmps108
  go_wp2_with fail
  refine (thingOf_any _ _ _ _).mono ?_
  rintro e w1 ⟨rfl, hb1⟩
  rw [show thing 2 n ⟨#[]⟩ = .iface 218 (.int .i64 n) by rfl]
  have hx := block_kept (block_old (block_new w #[.slice a1 nt c1, .slice a2 nf c2] 40) (.cells #[.int .i64 2, .int .i64 n, .string ⟨#[]⟩] 45)) hb1
  have hy := block_kept (block_new_at _ #[.int .i64 2, .int .i64 n, .string ⟨#[]⟩] 45 (w.heap.size + 1) (by simp)) hb1
  have hB1 := HA.out.trans (hb1.mono HA.out.size)
  have HB : Hid (Below w.heap.size w w1) := hB1
  have hZ : Hid (w.heap.size + 2 ≤ w1.heap.size) := lt_block hy
  have hS : ∀ w', Below (w.heap.size + 2) w1 w' → w'.cell? ⟨w.heap.size, 0, none⟩ = some (.slice a1 nt c1) ∧ w'.cell? ⟨w.heap.size, 1, none⟩ = some (.slice a2 nf c2) ∧ w'.cell? ⟨w.heap.size + 1, 0, none⟩ = some (.int .i64 2) ∧ w'.cell? ⟨w.heap.size + 1, 1, none⟩ = some (.int .i64 n) ∧ w'.cell? ⟨w.heap.size + 1, 2, none⟩ = some (.string ⟨#[]⟩) := fun w' hb =>
    ⟨by rw [hb.cell (by simp), block_cell hx]; rfl, by rw [hb.cell (by simp), block_cell hx]; rfl, by rw [hb.cell (by simp), block_cell hy]; rfl, by rw [hb.cell (by simp), block_cell hy]; rfl, by rw [hb.cell (by simp), block_cell hy]; rfl⟩
  have HS : Hid (∀ w', Below (w.heap.size + 2) w1 w' → w'.cell? ⟨w.heap.size, 0, none⟩ = some (.slice a1 nt c1) ∧ w'.cell? ⟨w.heap.size, 1, none⟩ = some (.slice a2 nf c2) ∧ w'.cell? ⟨w.heap.size + 1, 0, none⟩ = some (.int .i64 2) ∧ w'.cell? ⟨w.heap.size + 1, 1, none⟩ = some (.int .i64 n) ∧ w'.cell? ⟨w.heap.size + 1, 2, none⟩ = some (.string ⟨#[]⟩)) := hS
  obtain ⟨j0, j1, j2, j3, j4⟩ := hS w1 (Below.refl _ _)
  have q : Below w1.heap.size w1 w1.drew := (Below.refl _ _).drew
  clear hS hx hy hB1 hb1 HA
  go_wp2
  first | (go_region_with (first
      | (go_at_call 195; refine (value_bool _ _).mono ?_; rintro e wa ⟨rfl, kd⟩; have q := q.trans (kd.mono q.size); obtain ⟨j0, j1, j2, j3, j4⟩ := HS.out _ (q.mono hZ.out))
      | (go_at_call 193; refine (okIn_bool _ _ _ _ _ _ _ _ _).mono ?_; rintro e wb ⟨rfl, kd⟩; have q := q.trans (kd.mono q.size); obtain ⟨j0, j1, j2, j3, j4⟩ := HS.out _ (q.mono hZ.out)))) | fail
  all_goals
    go_wp2
    go_ret
    exact ⟨rfl, HB.out.trans (q.mono HB.out.size)⟩

end Go.Proofs.YtmmcockkbhnopaaGreat
