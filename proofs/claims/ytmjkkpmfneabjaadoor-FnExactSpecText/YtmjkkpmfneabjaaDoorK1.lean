/-
  The text of a guess, of both sides, and the law.
-/
import Derived.Test.YtmjkkpmfneabjaaDoorT2
import Derived.Test.YtmjkkpmfneabjaaDoorShelf
import Derived.Test.YtmjkkpmfneabjaaDoorYq
import Derived.Lib.AppendIntMem
namespace Go.Proofs.YtmjkkpmfneabjaaDoor
open Go.RowKit

/-- The text of a guess that two numbers are added. -/
def int1 (sf sp : ByteArray) : ByteArray := ⟨#[105, 110, 116, 32]⟩ ++ (sf ++ ⟨#[32]⟩ ++ sp)
/-- The text of a guess that a function is called. -/
def fun1 (sf sp st : ByteArray) : ByteArray := ⟨#[102, 117, 110, 32]⟩ ++ (sf ++ ⟨#[32]⟩ ++ sp) ++ ⟨#[32]⟩ ++ st
/-- The text of a guess. -/
def specText (f p k t : Int) : ByteArray := if k = 1 then int1 (numText f) (numText p) else if k = 2 then fun1 (numText f) (numText p) (numText t) else ⟨#[]⟩
theorem int_eq (sf sp : ByteArray) : ⟨#[105, 110, 116]⟩ ++ (⟨#[32]⟩ ++ sf ++ ⟨#[32]⟩ ++ sp) = int1 sf sp := by
  unfold int1
  rw [show (⟨#[105, 110, 116, 32]⟩ : ByteArray) = ⟨#[105, 110, 116]⟩ ++ ⟨#[32]⟩ from rfl]
  simp only [ByteArray.append_assoc]
theorem fun_eq (sf sp st : ByteArray) : ⟨#[102, 117, 110]⟩ ++ (⟨#[32]⟩ ++ sf ++ ⟨#[32]⟩ ++ sp) ++ ⟨#[32]⟩ ++ st = fun1 sf sp st := by
  unfold fun1
  rw [show (⟨#[102, 117, 110, 32]⟩ : ByteArray) = ⟨#[102, 117, 110]⟩ ++ ⟨#[32]⟩ from rfl]
  simp only [ByteArray.append_assoc]
theorem itoa_any (a : Int) (w : World) (h0 : Hid (-9223372036854775808 ≤ a)) (h1 : Hid (a ≤ 9223372036854775807)) (htab : Lib.TabIs Tryd.prog w "internal/strconv.uint64pow10" .u64 Lib.pow10Tab) :
    Calls Tryd.prog 8 #[.int .i64 a] w fun e w' => e = .returned (.string (numText a)) ∧ Below w.heap.size w w' := by
  refine (Tryd.strconv_Itoa a h0.out h1.out w htab).mono ?_
  rintro e w1 ⟨rfl, k, os, rfl⟩
  exact ⟨rfl, Lib.below_grow _ _ (Nat.le_refl _) k os⟩

set_option maxRecDepth 100000 in
set_option maxHeartbeats 2000000 in
theorem sSpecText_any (f p k t : Int) (w : World) (hf0 : Hid (-9223372036854775808 ≤ f)) (hf1 : Hid (f ≤ 9223372036854775807)) (hp0 : Hid (-9223372036854775808 ≤ p)) (hp1 : Hid (p ≤ 9223372036854775807)) (ht0 : Hid (-9223372036854775808 ≤ t)) (ht1 : Hid (t ≤ 9223372036854775807)) :
    Calls Tryd.prog 4 #[.agg #[.int .i64 f, .int .i64 p, .int .i64 k, .int .i64 t]] w fun e w' => e = .returned (.string (specText f p k t)) ∧ Below w.heap.size w w' := by
  have hsf := numText_size f hf0.out hf1.out
  have hsp := numText_size p hp0.out hp1.out
  have hst := numText_size t ht0.out ht1.out
  have Cf : ∀ w' : World, Calls Tryd.prog 7 #[.int .i64 f] w' fun e w'' => e = .returned (.string (numText f)) ∧ Below w'.heap.size w' w'' := fun w' => sDigits_any f hf0.out hf1.out w'
  have Cp : ∀ w' : World, Calls Tryd.prog 7 #[.int .i64 p] w' fun e w'' => e = .returned (.string (numText p)) ∧ Below w'.heap.size w' w'' := fun w' => sDigits_any p hp0.out hp1.out w'
  have Ct : ∀ w' : World, Calls Tryd.prog 7 #[.int .i64 t] w' fun e w'' => e = .returned (.string (numText t)) ∧ Below w'.heap.size w' w'' := fun w' => sDigits_any t ht0.out ht1.out w'
  have HCf : Hid (∀ w' : World, Calls Tryd.prog 7 #[.int .i64 f] w' fun e w'' => e = .returned (.string (numText f)) ∧ Below w'.heap.size w' w'') := Cf
  have HCp : Hid (∀ w' : World, Calls Tryd.prog 7 #[.int .i64 p] w' fun e w'' => e = .returned (.string (numText p)) ∧ Below w'.heap.size w' w'') := Cp
  have HCt : Hid (∀ w' : World, Calls Tryd.prog 7 #[.int .i64 t] w' fun e w'' => e = .returned (.string (numText t)) ∧ Below w'.heap.size w' w'') := Ct
  clear Cf Cp Ct
  have hM0 := block_new w #[.int .i64 f, .int .i64 p, .int .i64 k, .int .i64 t] 25
  have hB0 : Below w.heap.size w (w.alloc (.cells #[.int .i64 f, .int .i64 p, .int .i64 k, .int .i64 t] 25)) := (Below.refl _ _).alloc (Nat.le_refl _) _
  obtain ⟨w0, hw0⟩ : ∃ w0, w0 = w.alloc (.cells #[.int .i64 f, .int .i64 p, .int .i64 k, .int .i64 t] 25) := ⟨_, rfl⟩
  rw [← hw0] at hM0 hB0
  have HS : Hid (∀ w', Below w0.heap.size w0 w' → w'.cell? ⟨w.heap.size, 0, none⟩ = some (.int .i64 f) ∧ w'.cell? ⟨w.heap.size, 1, none⟩ = some (.int .i64 p) ∧ w'.cell? ⟨w.heap.size, 2, none⟩ = some (.int .i64 k) ∧ w'.cell? ⟨w.heap.size, 3, none⟩ = some (.int .i64 t)) := fun w' q =>
    ⟨by rw [block_cell (block_kept hM0 q)]; rfl, by rw [block_cell (block_kept hM0 q)]; rfl, by rw [block_cell (block_kept hM0 q)]; rfl, by rw [block_cell (block_kept hM0 q)]; rfl⟩
  obtain ⟨R, hR⟩ : ∃ R, R = specText f p k t := ⟨_, rfl⟩
  rw [← hR]
  unfold specText at hR
  have HR : Hid (R = if k = 1 then int1 (numText f) (numText p) else if k = 2 then fun1 (numText f) (numText p) (numText t) else ⟨#[]⟩) := hR
  clear hR
  generalize numText f = sf at *
  generalize numText p = sp at *
  generalize numText t = st at *
  go_enter Tryd.func4, Tryd.ntmps4
  go_wp2_with fail
  rw [← hw0]
  clear hw0
  refine wp_below (by kernel_rfl) (by kernel_rfl) ?_
  refine q_want (v := .pointer (some ⟨w.heap.size, 0, none⟩)) (by kernel_rfl) ?_ ?_
  · intro w' hC
    obtain ⟨j0, j1, j2, j3⟩ := HS.out w' hC
    go_simp
    try with_reducible rfl
  try simp only [Act.put, List.setIfInBounds_toArray, List.set_cons_zero, List.set_cons_succ]
  refine q_want (v := .int .i64 f) (by kernel_rfl) ?_ ?_
  · intro w' hC
    obtain ⟨j0, j1, j2, j3⟩ := HS.out w' hC
    go_simp
    try with_reducible rfl
  try simp only [Act.put, List.setIfInBounds_toArray, List.set_cons_zero, List.set_cons_succ]
  refine q_want (v := .string sf) (by kernel_rfl) ?_ ?_
  · intro w' hC
    obtain ⟨j0, j1, j2, j3⟩ := HS.out w' hC
    go_simp
    refine (HCf.out w').mono ?_
    rintro e w'' ⟨rfl, hb2⟩
    exact ⟨rfl, hC.trans (hb2.mono hC.size)⟩
  try simp only [Act.put, List.setIfInBounds_toArray, List.set_cons_zero, List.set_cons_succ]
  refine q_want (v := .string (sf ++ ⟨#[32]⟩)) (by kernel_rfl) ?_ ?_
  · intro w' hC
    obtain ⟨j0, j1, j2, j3⟩ := HS.out w' hC
    have n1 : ¬ 9223372036854775807 < sf.size + 1 := by omega
    have n2 : ¬ 9223372036854775807 < 1 + sf.size := by omega
    have n3 : ¬ 9223372036854775807 < sf.size + 1 + sp.size := by omega
    have n4 : ¬ 9223372036854775807 < 1 + sf.size + 1 := by omega
    have n5 : ¬ 9223372036854775807 < 1 + sf.size + 1 + sp.size := by omega
    go_simp
    try with_reducible rfl
  try simp only [Act.put, List.setIfInBounds_toArray, List.set_cons_zero, List.set_cons_succ]
  refine q_want (v := .pointer (some ⟨w.heap.size, 1, none⟩)) (by kernel_rfl) ?_ ?_
  · intro w' hC
    obtain ⟨j0, j1, j2, j3⟩ := HS.out w' hC
    go_simp
    try with_reducible rfl
  try simp only [Act.put, List.setIfInBounds_toArray, List.set_cons_zero, List.set_cons_succ]
  refine q_want (v := .int .i64 p) (by kernel_rfl) ?_ ?_
  · intro w' hC
    obtain ⟨j0, j1, j2, j3⟩ := HS.out w' hC
    go_simp
    try with_reducible rfl
  try simp only [Act.put, List.setIfInBounds_toArray, List.set_cons_zero, List.set_cons_succ]
  refine q_want (v := .string sp) (by kernel_rfl) ?_ ?_
  · intro w' hC
    obtain ⟨j0, j1, j2, j3⟩ := HS.out w' hC
    go_simp
    refine (HCp.out w').mono ?_
    rintro e w'' ⟨rfl, hb2⟩
    exact ⟨rfl, hC.trans (hb2.mono hC.size)⟩
  try simp only [Act.put, List.setIfInBounds_toArray, List.set_cons_zero, List.set_cons_succ]
  refine q_want (v := .string (sf ++ ⟨#[32]⟩ ++ sp)) (by kernel_rfl) ?_ ?_
  · intro w' hC
    obtain ⟨j0, j1, j2, j3⟩ := HS.out w' hC
    have n1 : ¬ 9223372036854775807 < sf.size + 1 := by omega
    have n2 : ¬ 9223372036854775807 < 1 + sf.size := by omega
    have n3 : ¬ 9223372036854775807 < sf.size + 1 + sp.size := by omega
    have n4 : ¬ 9223372036854775807 < 1 + sf.size + 1 := by omega
    have n5 : ¬ 9223372036854775807 < 1 + sf.size + 1 + sp.size := by omega
    go_simp
    try with_reducible rfl
  try simp only [Act.put, List.setIfInBounds_toArray, List.set_cons_zero, List.set_cons_succ]
  refine q_want (v := .string (sf ++ ⟨#[32]⟩ ++ sp)) (by kernel_rfl) ?_ ?_
  · intro w' hC
    obtain ⟨j0, j1, j2, j3⟩ := HS.out w' hC
    go_simp
    try with_reducible rfl
  try simp only [Act.put, List.setIfInBounds_toArray, List.set_cons_zero, List.set_cons_succ]
  refine wpQuiet_nil ?_
  intro w2 q2
  have hb2 := hB0.trans (q2.mono hB0.size)
  obtain ⟨j0, j1, j2, j3⟩ := HS.out w2 q2
  have hat : (sf ++ ⟨#[32]⟩ ++ sp).size ≤ 44 := by
    have : (⟨#[32]⟩ : ByteArray).size = 1 := rfl
    simp only [ByteArray.size_append, this]; omega
  by_cases h1 : k = 1
  · subst h1
    have hE : ⟨#[105, 110, 116, 32]⟩ ++ (sf ++ ⟨#[32]⟩ ++ sp) = int1 sf sp := rfl
    have HE : Hid (⟨#[105, 110, 116, 32]⟩ ++ (sf ++ ⟨#[32]⟩ ++ sp) = R) := by rw [HR.out, if_pos rfl]; exact hE
    clear hE HR
    generalize (sf ++ ⟨#[32]⟩ ++ sp) = at' at *
    go_wp2
    go_ret
    exact ⟨congrArg (fun s => Ending.returned (Value.string s)) HE.out, hb2⟩
  by_cases h2 : k = 2
  · subst h2
    have hE : ⟨#[102, 117, 110, 32]⟩ ++ (sf ++ ⟨#[32]⟩ ++ sp) ++ ⟨#[32]⟩ ++ st = fun1 sf sp st := rfl
    have HE : Hid (⟨#[102, 117, 110, 32]⟩ ++ (sf ++ ⟨#[32]⟩ ++ sp) ++ ⟨#[32]⟩ ++ st = R) := by rw [HR.out, if_neg h1, if_pos rfl]; exact hE
    clear hE HR
    generalize (sf ++ ⟨#[32]⟩ ++ sp) = at' at *
    go_wp2_with fail
    refine (HCt.out _ ).mono ?_
    rintro e w3 ⟨rfl, hb3⟩
    go_wp2
    go_ret
    exact ⟨congrArg (fun s => Ending.returned (Value.string s)) HE.out, hb2.trans (hb3.mono hb2.size)⟩
  have HE : Hid (⟨#[]⟩ = R) := by rw [HR.out, if_neg h1, if_neg h2]; rfl
  clear HR
  go_wp2
  go_ret
  exact ⟨congrArg (fun s => Ending.returned (Value.string s)) HE.out, hb2⟩

set_option maxRecDepth 100000 in
set_option maxHeartbeats 2000000 in
theorem iSpecText_any (f p k t : Int) (w : World) (hf0 : Hid (-9223372036854775808 ≤ f)) (hf1 : Hid (f ≤ 9223372036854775807)) (hp0 : Hid (-9223372036854775808 ≤ p)) (hp1 : Hid (p ≤ 9223372036854775807)) (ht0 : Hid (-9223372036854775808 ≤ t)) (ht1 : Hid (t ≤ 9223372036854775807)) (htab : Lib.TabIs Tryd.prog w "internal/strconv.uint64pow10" .u64 Lib.pow10Tab) :
    Calls Tryd.prog 6 #[.agg #[.int .i64 f, .int .i64 p, .int .i64 k, .int .i64 t]] w fun e w' => e = .returned (.string (specText f p k t)) ∧ Below w.heap.size w w' := by
  have hsf := numText_size f hf0.out hf1.out
  have hsp := numText_size p hp0.out hp1.out
  have hst := numText_size t ht0.out ht1.out
  have Cf : ∀ w' : World, Below w.heap.size w w' → Calls Tryd.prog 8 #[.int .i64 f] w' fun e w'' => e = .returned (.string (numText f)) ∧ Below w'.heap.size w' w'' := fun w' hb => itoa_any f w' hf0 hf1 (Lib.tabBelow_of_tabIs htab _ hb)
  have Cp : ∀ w' : World, Below w.heap.size w w' → Calls Tryd.prog 8 #[.int .i64 p] w' fun e w'' => e = .returned (.string (numText p)) ∧ Below w'.heap.size w' w'' := fun w' hb => itoa_any p w' hp0 hp1 (Lib.tabBelow_of_tabIs htab _ hb)
  have Ct : ∀ w' : World, Below w.heap.size w w' → Calls Tryd.prog 8 #[.int .i64 t] w' fun e w'' => e = .returned (.string (numText t)) ∧ Below w'.heap.size w' w'' := fun w' hb => itoa_any t w' ht0 ht1 (Lib.tabBelow_of_tabIs htab _ hb)
  have HCf : Hid (∀ w' : World, Below w.heap.size w w' → Calls Tryd.prog 8 #[.int .i64 f] w' fun e w'' => e = .returned (.string (numText f)) ∧ Below w'.heap.size w' w'') := Cf
  have HCp : Hid (∀ w' : World, Below w.heap.size w w' → Calls Tryd.prog 8 #[.int .i64 p] w' fun e w'' => e = .returned (.string (numText p)) ∧ Below w'.heap.size w' w'') := Cp
  have HCt : Hid (∀ w' : World, Below w.heap.size w w' → Calls Tryd.prog 8 #[.int .i64 t] w' fun e w'' => e = .returned (.string (numText t)) ∧ Below w'.heap.size w' w'') := Ct
  clear Cf Cp Ct
  have hM0 := block_new w #[.int .i64 f, .int .i64 p, .int .i64 k, .int .i64 t] 25
  have hB0 : Below w.heap.size w (w.alloc (.cells #[.int .i64 f, .int .i64 p, .int .i64 k, .int .i64 t] 25)) := (Below.refl _ _).alloc (Nat.le_refl _) _
  obtain ⟨w0, hw0⟩ : ∃ w0, w0 = w.alloc (.cells #[.int .i64 f, .int .i64 p, .int .i64 k, .int .i64 t] 25) := ⟨_, rfl⟩
  rw [← hw0] at hM0 hB0
  have HS : Hid (∀ w', Below w0.heap.size w0 w' → w'.cell? ⟨w.heap.size, 0, none⟩ = some (.int .i64 f) ∧ w'.cell? ⟨w.heap.size, 1, none⟩ = some (.int .i64 p) ∧ w'.cell? ⟨w.heap.size, 2, none⟩ = some (.int .i64 k) ∧ w'.cell? ⟨w.heap.size, 3, none⟩ = some (.int .i64 t)) := fun w' q =>
    ⟨by rw [block_cell (block_kept hM0 q)]; rfl, by rw [block_cell (block_kept hM0 q)]; rfl, by rw [block_cell (block_kept hM0 q)]; rfl, by rw [block_cell (block_kept hM0 q)]; rfl⟩
  obtain ⟨R, hR⟩ : ∃ R, R = specText f p k t := ⟨_, rfl⟩
  rw [← hR]
  unfold specText at hR
  have HR : Hid (R = if k = 1 then int1 (numText f) (numText p) else if k = 2 then fun1 (numText f) (numText p) (numText t) else ⟨#[]⟩) := hR
  clear hR
  generalize numText f = sf at *
  generalize numText p = sp at *
  generalize numText t = st at *
  go_enter Tryd.func6, Tryd.ntmps6
  go_wp2_with fail
  rw [← hw0]
  clear hw0
  refine wp_below (by kernel_rfl) (by kernel_rfl) ?_
  refine q_want (v := .pointer (some ⟨w.heap.size, 0, none⟩)) (by kernel_rfl) ?_ ?_
  · intro w' hC
    obtain ⟨j0, j1, j2, j3⟩ := HS.out w' hC
    go_simp
    try with_reducible rfl
  try simp only [Act.put, List.setIfInBounds_toArray, List.set_cons_zero, List.set_cons_succ]
  refine q_want (v := .int .i64 f) (by kernel_rfl) ?_ ?_
  · intro w' hC
    obtain ⟨j0, j1, j2, j3⟩ := HS.out w' hC
    go_simp
    try with_reducible rfl
  try simp only [Act.put, List.setIfInBounds_toArray, List.set_cons_zero, List.set_cons_succ]
  refine q_want (v := .string sf) (by kernel_rfl) ?_ ?_
  · intro w' hC
    obtain ⟨j0, j1, j2, j3⟩ := HS.out w' hC
    go_simp
    refine (HCf.out w' (hB0.trans (hC.mono hB0.size))).mono ?_
    rintro e w'' ⟨rfl, hb2⟩
    exact ⟨rfl, hC.trans (hb2.mono hC.size)⟩
  try simp only [Act.put, List.setIfInBounds_toArray, List.set_cons_zero, List.set_cons_succ]
  refine q_want (v := .string (⟨#[32]⟩ ++ sf)) (by kernel_rfl) ?_ ?_
  · intro w' hC
    obtain ⟨j0, j1, j2, j3⟩ := HS.out w' hC
    have n1 : ¬ 9223372036854775807 < sf.size + 1 := by omega
    have n2 : ¬ 9223372036854775807 < 1 + sf.size := by omega
    have n3 : ¬ 9223372036854775807 < sf.size + 1 + sp.size := by omega
    have n4 : ¬ 9223372036854775807 < 1 + sf.size + 1 := by omega
    have n5 : ¬ 9223372036854775807 < 1 + sf.size + 1 + sp.size := by omega
    go_simp
    try with_reducible rfl
  try simp only [Act.put, List.setIfInBounds_toArray, List.set_cons_zero, List.set_cons_succ]
  refine q_want (v := .string (⟨#[32]⟩ ++ sf ++ ⟨#[32]⟩)) (by kernel_rfl) ?_ ?_
  · intro w' hC
    obtain ⟨j0, j1, j2, j3⟩ := HS.out w' hC
    have n1 : ¬ 9223372036854775807 < sf.size + 1 := by omega
    have n2 : ¬ 9223372036854775807 < 1 + sf.size := by omega
    have n3 : ¬ 9223372036854775807 < sf.size + 1 + sp.size := by omega
    have n4 : ¬ 9223372036854775807 < 1 + sf.size + 1 := by omega
    have n5 : ¬ 9223372036854775807 < 1 + sf.size + 1 + sp.size := by omega
    go_simp
    try with_reducible rfl
  try simp only [Act.put, List.setIfInBounds_toArray, List.set_cons_zero, List.set_cons_succ]
  refine q_want (v := .pointer (some ⟨w.heap.size, 1, none⟩)) (by kernel_rfl) ?_ ?_
  · intro w' hC
    obtain ⟨j0, j1, j2, j3⟩ := HS.out w' hC
    go_simp
    try with_reducible rfl
  try simp only [Act.put, List.setIfInBounds_toArray, List.set_cons_zero, List.set_cons_succ]
  refine q_want (v := .int .i64 p) (by kernel_rfl) ?_ ?_
  · intro w' hC
    obtain ⟨j0, j1, j2, j3⟩ := HS.out w' hC
    go_simp
    try with_reducible rfl
  try simp only [Act.put, List.setIfInBounds_toArray, List.set_cons_zero, List.set_cons_succ]
  refine q_want (v := .string sp) (by kernel_rfl) ?_ ?_
  · intro w' hC
    obtain ⟨j0, j1, j2, j3⟩ := HS.out w' hC
    go_simp
    refine (HCp.out w' (hB0.trans (hC.mono hB0.size))).mono ?_
    rintro e w'' ⟨rfl, hb2⟩
    exact ⟨rfl, hC.trans (hb2.mono hC.size)⟩
  try simp only [Act.put, List.setIfInBounds_toArray, List.set_cons_zero, List.set_cons_succ]
  refine q_want (v := .string (⟨#[32]⟩ ++ sf ++ ⟨#[32]⟩ ++ sp)) (by kernel_rfl) ?_ ?_
  · intro w' hC
    obtain ⟨j0, j1, j2, j3⟩ := HS.out w' hC
    have n1 : ¬ 9223372036854775807 < sf.size + 1 := by omega
    have n2 : ¬ 9223372036854775807 < 1 + sf.size := by omega
    have n3 : ¬ 9223372036854775807 < sf.size + 1 + sp.size := by omega
    have n4 : ¬ 9223372036854775807 < 1 + sf.size + 1 := by omega
    have n5 : ¬ 9223372036854775807 < 1 + sf.size + 1 + sp.size := by omega
    go_simp
    try with_reducible rfl
  try simp only [Act.put, List.setIfInBounds_toArray, List.set_cons_zero, List.set_cons_succ]
  refine q_want (v := .string (⟨#[32]⟩ ++ sf ++ ⟨#[32]⟩ ++ sp)) (by kernel_rfl) ?_ ?_
  · intro w' hC
    obtain ⟨j0, j1, j2, j3⟩ := HS.out w' hC
    go_simp
    try with_reducible rfl
  try simp only [Act.put, List.setIfInBounds_toArray, List.set_cons_zero, List.set_cons_succ]
  refine wpQuiet_nil ?_
  intro w2 q2
  have hb2 := hB0.trans (q2.mono hB0.size)
  obtain ⟨j0, j1, j2, j3⟩ := HS.out w2 q2
  have hat : (⟨#[32]⟩ ++ sf ++ ⟨#[32]⟩ ++ sp).size ≤ 44 := by
    have : (⟨#[32]⟩ : ByteArray).size = 1 := rfl
    simp only [ByteArray.size_append, this]; omega
  by_cases h1 : k = 1
  · subst h1
    have hE : ⟨#[105, 110, 116]⟩ ++ (⟨#[32]⟩ ++ sf ++ ⟨#[32]⟩ ++ sp) = int1 sf sp := int_eq sf sp
    have HE : Hid (⟨#[105, 110, 116]⟩ ++ (⟨#[32]⟩ ++ sf ++ ⟨#[32]⟩ ++ sp) = R) := by rw [HR.out, if_pos rfl]; exact hE
    clear hE HR
    generalize (⟨#[32]⟩ ++ sf ++ ⟨#[32]⟩ ++ sp) = at' at *
    go_wp2
    go_ret
    exact ⟨congrArg (fun s => Ending.returned (Value.string s)) HE.out, hb2⟩
  by_cases h2 : k = 2
  · subst h2
    have hE : ⟨#[102, 117, 110]⟩ ++ (⟨#[32]⟩ ++ sf ++ ⟨#[32]⟩ ++ sp) ++ ⟨#[32]⟩ ++ st = fun1 sf sp st := fun_eq sf sp st
    have HE : Hid (⟨#[102, 117, 110]⟩ ++ (⟨#[32]⟩ ++ sf ++ ⟨#[32]⟩ ++ sp) ++ ⟨#[32]⟩ ++ st = R) := by rw [HR.out, if_neg h1, if_pos rfl]; exact hE
    clear hE HR
    generalize (⟨#[32]⟩ ++ sf ++ ⟨#[32]⟩ ++ sp) = at' at *
    go_wp2_with fail
    refine (HCt.out _ hb2).mono ?_
    rintro e w3 ⟨rfl, hb3⟩
    go_wp2
    go_ret
    exact ⟨congrArg (fun s => Ending.returned (Value.string s)) HE.out, hb2.trans (hb3.mono hb2.size)⟩
  have HE : Hid (⟨#[]⟩ = R) := by rw [HR.out, if_neg h1, if_neg h2]; rfl
  clear HR
  go_wp2
  go_ret
  exact ⟨congrArg (fun s => Ending.returned (Value.string s)) HE.out, hb2⟩

end Go.Proofs.YtmjkkpmfneabjaaDoor
