/-
  Three instructions that become one, on plain data: heights of what is left.
  Values: sums, differences and products of numbers, in the program.
-/
import Derived.Test.YtjdoljaailokmaaGreatDoorZCT1
import Derived.Test.YtjdoljaailokmaaGreatDoorZFQ1
namespace Go.Proofs.YtjdoljaailokmaaGreatDoor

theorem getD_setQ {l : List (Int × Int)} {n i : Nat} {v : Int × Int} : (l.set n v).getD i (0, 0) = if i = n ∧ n < l.length then v else l.getD i (0, 0) := by
  rw [List.getD_eq_getElem?_getD, List.getD_eq_getElem?_getD]
  by_cases e : i = n
  · subst e
    by_cases hl : i < l.length
    · simp [hl]
    · rw [if_neg (by simp; omega), List.getElem?_eq_none (by simpa using hl), List.getElem?_eq_none (by simpa using hl)]
  · rw [if_neg (by simp [e]), List.getElem?_set_ne (fun x => e x.symm)]

/-- Another number in an instruction that lays one changes no height. -/
theorem num_step {fs : List Fn} {code : List (Int × Int)} {i : Nat} {v : Int} (o1 : (code.getD i (0, 0)).1 = 1) (k : Nat) :
    ((code.set i (1, v)).getD k (0, 0)).1 = (code.getD k (0, 0)).1 ∧ usesB fs ((code.set i (1, v)).getD k (0, 0)).1 ((code.set i (1, v)).getD k (0, 0)).2 = usesB fs (code.getD k (0, 0)).1 (code.getD k (0, 0)).2 ∧ ∀ p, nextB ((code.set i (1, v)).getD k (0, 0)).1 ((code.set i (1, v)).getD k (0, 0)).2 p = nextB (code.getD k (0, 0)).1 (code.getD k (0, 0)).2 p := by
  rw [getD_setQ]
  split
  · rename_i h
    obtain ⟨rfl, -⟩ := h
    rw [o1]
    exact ⟨rfl, by simp [usesB], fun p => by simp [nextB]⟩
  · exact ⟨rfl, rfl, fun _ => rfl⟩
theorem num_rch {code : List (Int × Int)} {i : Nat} {v : Int} (o1 : (code.getD i (0, 0)).1 = 1) {k : Nat} (h : Rch code k) : Rch (code.set i (1, v)) k := by
  induction h with
  | start => exact .start
  | next hr hi hnx h0 hlt ih =>
    rename_i i' nx
    exact .next ih (by simpa using hi) (by rw [(num_step (fs := []) o1 i').2.2]; exact hnx) h0 (by simpa using hlt)
theorem num_lab {fs : List Fn} {code : List (Int × Int)} {d : List Int} {i : Nat} {v : Int} (L : Lab fs code d) (o1 : (code.getD i (0, 0)).1 = 1) : Lab fs (code.set i (1, v)) d := by
  refine ⟨by rw [List.length_set]; exact L.len, L.low, L.zero, fun k hk h0 => ?_, fun k hk h0 => num_rch o1 (L.reach k (by simpa using hk) h0)⟩
  obtain ⟨e1, e2, e3⟩ := num_step (fs := fs) (v := v) o1 k
  have hs := L.step k (by simpa using hk) h0
  have el : leftOf fs ((code.set i (1, v)).getD k (0, 0)) (d.getD k (-1)) = leftOf fs (code.getD k (0, 0)) (d.getD k (-1)) := by unfold leftOf; rw [e2]
  rw [el, e2]
  refine ⟨hs.1, hs.2.1, fun nx hnx => ?_⟩
  rw [e3] at hnx
  simpa using hs.2.2 nx hnx
theorem num_fine {fs : List Fn} {code : List (Int × Int)} {i : Nat} {v : Int} (F : Fine fs code) : Fine fs (code.set i (1, v)) := by
  refine ⟨F.params, by simpa using F.one, by simpa using F.most, fun k hk hop => ?_⟩
  rw [List.getElem_set] at hop ⊢
  split
  · rename_i h
    rw [if_pos h] at hop
    rcases hop with h | h | h <;> cases h
  · rename_i h
    rw [if_neg h] at hop
    simpa using F.jump k (by simpa using hk) hop

/-- The second and the third one. -/
def goneF (i : Nat) (j : Nat) : Bool := decide (j = i + 1 ∨ j = i + 2)
theorem goneF_yes {i j : Nat} (h : j = i + 1 ∨ j = i + 2) : goneF i j = true := decide_eq_true h
theorem goneF_no {i j : Nat} (h1 : j ≠ i + 1) (h2 : j ≠ i + 2) : goneF i j = false := decide_eq_false (fun h => h.elim h1 h2)
/-- One instruction in place of three. -/
def foldTo (i : Nat) (v : Int) (code : List (Int × Int)) : List (Int × Int) := takeOut (goneF i) (code.set i (1, v))

theorem fold_lab {fs : List Fn} {code : List (Int × Int)} {d : List Int} (F : Fine fs code) (L : Lab fs code d) {i : Nat} {v : Int} (hi : i + 2 < code.length) (h0 : 0 ≤ d.getD i (-1)) (o1 : (code.getD i (0, 0)).1 = 1) (o2 : (code.getD (i + 1) (0, 0)).1 = 1) (o3 : (code.getD (i + 2) (0, 0)).1 = 11 ∨ (code.getD (i + 2) (0, 0)).1 = 12 ∨ (code.getD (i + 2) (0, 0)).1 = 13)
    (NL : ∀ k, k < code.length → 0 ≤ d.getD k (-1) → Jop (code.getD k (0, 0)).1 → (code.getD k (0, 0)).2.toNat ≠ i + 1 ∧ (code.getD k (0, 0)).2.toNat ≠ i + 2) :
    Lab fs (foldTo i v code) (keptD (goneF i) d code.length) ∧ Fine fs (foldTo i v code) := by
  have L1 := num_lab (v := v) L o1
  have F1 := num_fine (i := i) (v := v) F
  have g0 : goneF i 0 = false := goneF_no (by omega) (by omega)
  have g3 : goneF i (i + 3) = false := goneF_no (by omega) (by omega)
  have n1 : ∀ p, nextB 1 p i = [(i : Int) + 1] := fun p => by simp [nextB]
  have n2 : ∀ p, nextB 1 p (i + 1) = [((i + 1 : Nat) : Int) + 1] := fun p => by simp [nextB]
  have n3 : ∀ op p, (op = 11 ∨ op = 12 ∨ op = 13) → nextB op p (i + 2) = [((i + 2 : Nat) : Int) + 1] := fun op p h => by rcases h with rfl | rfl | rfl <;> simp [nextB]
  have u1 : ∀ p, usesB fs 1 p = (0, 1) := fun p => by simp [usesB]
  have u3 : ∀ op p, (op = 11 ∨ op = 12 ∨ op = 13) → usesB fs op p = (2, 1) := fun op p h => by rcases h with rfl | rfl | rfl <;> simp [usesB]
  have s1 := L.step i (by omega) h0
  have d1 := s1.2.2 ((i : Int) + 1) (by rw [o1, n1]; simp)
  rw [show ((i : Int) + 1).toNat = i + 1 by omega] at d1
  have e1 : d.getD (i + 1) (-1) = d.getD i (-1) + 1 := by rw [d1.2.2]; unfold leftOf; rw [o1, u1]; show d.getD i (-1) - 0 + 1 = _; omega
  have s2 := L.step (i + 1) (by omega) (by omega)
  have d2 := s2.2.2 (((i + 1 : Nat) : Int) + 1) (by rw [o2, n2]; simp)
  rw [show (((i + 1 : Nat) : Int) + 1).toNat = i + 2 by omega] at d2
  have e2 : d.getD (i + 2) (-1) = d.getD i (-1) + 2 := by rw [d2.2.2]; unfold leftOf; rw [o2, u1]; show d.getD (i + 1) (-1) - 0 + 1 = _; omega
  have s3 := L.step (i + 2) hi (by omega)
  have d3 := s3.2.2 (((i + 2 : Nat) : Int) + 1) (by rw [n3 _ _ o3]; simp)
  rw [show (((i + 2 : Nat) : Int) + 1).toNat = i + 3 by omega] at d3
  have e3 : d.getD (i + 3) (-1) = d.getD (i + 1) (-1) := by rw [d3.2.2, e1]; unfold leftOf; rw [u3 _ _ o3]; show d.getD (i + 2) (-1) - 2 + 1 = _; omega
  have h3 : i + 3 < code.length := by have := d3.2.1; omega
  have m1 : news (goneF i) (i + 2) = news (goneF i) (i + 1) := news_no (goneF_yes (.inl rfl))
  have m2 : news (goneF i) (i + 3) = news (goneF i) (i + 2) := news_no (goneF_yes (.inr rfl))
  have hl : (code.set i (1, v)).length = code.length := by simp
  refine ⟨?_, ?_⟩
  · have := lab_out F1 L1 (goneF i) g0 (fun k hk hg hz nx hnx => ?_) (fun k hk hg hz nx hnx => ?_)
    · rw [hl] at this
      exact this
    · rw [hl] at hk ⊢
      obtain ⟨q1, q2, q3⟩ := num_step (fs := fs) (v := v) o1 k
      rw [q3] at hnx
      have hs := (L.step k hk hz).2.2 nx hnx
      have hk1 : k ≠ i + 1 ∧ k ≠ i + 2 := ⟨fun e => (by rw [goneF_yes (.inl e)] at hg; cases hg), fun e => (by rw [goneF_yes (.inr e)] at hg; cases hg)⟩
      by_cases hki : k = i
      · subst hki
        rw [o1, n1] at hnx
        simp at hnx
        subst hnx
        rw [show ((k : Int) + 1).toNat = k + 1 by omega]
        exact ⟨k + 3, h3, g3, by omega, e3⟩
      · have hcase : nx.toNat = k + 1 ∨ (Jop (code.getD k (0, 0)).1 ∧ nx = (code.getD k (0, 0)).2) := by
          unfold nextB at hnx
          split at hnx
          · simp at hnx
          · split at hnx
            · rename_i h; simp at hnx; exact .inr ⟨.inl h, hnx⟩
            · split at hnx
              · rename_i h
                simp at hnx
                rcases hnx with h2 | h2
                · left; omega
                · exact .inr ⟨.inr h, h2⟩
              · simp at hnx; left; omega
        have hne : nx.toNat ≠ i + 1 ∧ nx.toNat ≠ i + 2 := by
          rcases hcase with h | ⟨hj, h⟩
          · omega
          · rw [h]; exact NL k hk hz hj
        exact ⟨nx.toNat, by omega, goneF_no hne.1 hne.2, rfl, rfl⟩
    · rw [hl] at hk
      obtain ⟨q1, q2, q3⟩ := num_step (fs := fs) (v := v) o1 k
      rw [q3] at hnx
      have hk1 : k = i + 1 ∨ k = i + 2 := of_decide_eq_true hg
      rcases hk1 with rfl | rfl
      · rw [o2, n2] at hnx
        simp at hnx
        rw [show nx.toNat = i + 2 by omega]
        exact m1
      · rw [n3 _ _ o3] at hnx
        simp at hnx
        rw [show nx.toNat = i + 3 by omega]
        exact m2
  · refine fine_out F1 (goneF i) g0 (fun k hk hg hj => ?_)
    have hj' : (code.set i (1, v)).getD k (0, 0) = (code.set i (1, v))[k] := getD_code hk
    rw [hj'] at hj ⊢
    have ha := F1.jump k hk hj
    rw [hl] at ha ⊢
    generalize (code.set i (1, v))[k].2 = a at ha
    by_cases hle : a.toNat ≤ i + 2
    · have := news_mono (goneF i) (show a.toNat ≤ i + 3 by omega)
      have := news_lt (g := goneF i) h3 g3
      omega
    · exact news_lt (by omega) (goneF_no (by omega) (by omega))
theorem foldTo_len {i : Nat} {v : Int} {code : List (Int × Int)} (hi : i + 2 < code.length) : (foldTo i v code).length + 2 = code.length := by
  unfold foldTo
  rw [takeOut_len, List.length_set]
  have h1 : news (goneF i) (i + 3) = i + 1 := by
    rw [news_no (goneF_yes (.inr rfl)), news_no (goneF_yes (.inl rfl)), news_yes (goneF_no (by omega) (by omega))]
    rw [news_id (n := i) (fun j hj => goneF_no (by omega) (by omega)) i (Nat.le_refl _)]
  have h2 : ∀ j, news (goneF i) (i + 3 + j) = i + 1 + j := by
    intro j
    induction j with
    | zero => exact h1
    | succ j ih =>
      rw [show i + 3 + (j + 1) = (i + 3 + j) + 1 by omega, news_yes (goneF_no (by omega) (by omega)), ih]
      omega
  have := h2 (code.length - (i + 3))
  rw [show i + 3 + (code.length - (i + 3)) = code.length by omega] at this
  omega
end Go.Proofs.YtjdoljaailokmaaGreatDoor

namespace Go.Proofs.YtjdoljaailokmaaGreatDoor
open Go.RowKit Go.Extern.Stop Go.Stop Go.Extern

theorem methodValue59 (v : Value) (w : World) : (Go.method 323 109 v "loop.example/g00094/impl.value").run Tryz.prog w = .ok (66, v) w := by kernel_rfl
theorem methodValue48 (v : Value) (w : World) : (Go.method 323 153 v "loop.example/g00094/impl.value").run Tryz.prog w = .ok (137, v) w := by kernel_rfl
theorem methodValue62 (v : Value) (w : World) : (Go.method 323 146 v "loop.example/g00094/impl.value").run Tryz.prog w = .ok (129, v) w := by kernel_rfl

set_option maxHeartbeats 400000 in
theorem answered_int (n : Int) (w : World) :
    Calls Tryz.prog 89 #[.iface 109 (.int .i64 n), .nilIface] w fun e w' => e = .returned (.tuple #[.agg #[.int .i64 1, .int .i64 n, .string ⟨#[]⟩], .int .i64 0]) ∧ Below w.heap.size w w' := by
  have m := methodValue59
  go_enter Tryz.func89, Tryz.ntmps89
  go_wp2_with fail
  refine (intValue_any _ _).mono ?_
  rintro e w1 ⟨rfl, hb⟩
  have hk := block_kept (block_new w _ _) hb
  have hc := block_cell hk
  have hf := block_free hk
  have hB : Below w.heap.size w w1 := ((Below.refl _ _).alloc (Nat.le_refl _) _).trans (hb.mono (by simp))
  go_wp2
  have hz := block_cell (stored3 (a := .int .i64 1) (b := .int .i64 n) (c := .string ⟨#[]⟩) hk)
  have z0 := hz 0
  have z1 := hz 1
  have z2 := hz 2
  refine bodyPost_ret (v := .tuple #[.agg #[.int .i64 1, .int .i64 n, .string ⟨#[]⟩], .int .i64 0]) (by simp [results, Tryz.results89, go_sem, z0, z1, z2]) rfl ⟨rfl, ?_⟩
  exact ((hB.setCell (Nat.le_refl _) _).setCell (Nat.le_refl _) _).setCell (Nat.le_refl _) _

/-- What comes of two numbers: the sum (or what else) of them where all three are numbers of the machine, else the trap. -/
def rangedV (op x y n : Int) (a : Addr) : Value := if num x && num y && num n then .tuple #[.iface 109 (.int .i64 n), .nilIface] else .tuple #[.nilIface, trapE op a]

theorem index0 (x y n : Value) (w : World) : (Instr.index 159 (.agg #[x, y, n]) (.int .i64 0)).run Tryz.prog w = .ok x w := by kernel_rfl
theorem index1 (x y n : Value) (w : World) : (Instr.index 159 (.agg #[x, y, n]) (.int .i64 1)).run Tryz.prog w = .ok y w := by kernel_rfl
theorem index2 (x y n : Value) (w : World) : (Instr.index 159 (.agg #[x, y, n]) (.int .i64 2)).run Tryz.prog w = .ok n w := by kernel_rfl

set_option maxRecDepth 100000 in
set_option maxHeartbeats 1000000 in
theorem ranged_lt1 (op x y n : Int) (a0 a1 a2 : Addr) (w : World) (h : Errs w a0 a1 a2) (hb : x < -1000000000) :
    Calls Tryz.prog 99 #[.int .i64 op, .int .i64 x, .int .i64 y, .int .i64 n] w fun e w' => e = .returned (.tuple #[.nilIface, trapE op a1]) ∧ Below w.heap.size w w' := by
  have g1 := h.g1
  have i0 := index0
  have i1 := index1
  have i2 := index2
  go_enter Tryz.func99, Tryz.ntmps99
  go_wp2
  refine wp_loop_rounds 1 ?_
  rw [rounds_succ]
  go_wp2
  go_quiet (fail)
  go_wp2
  go_ret2
  exact ⟨rfl, below_draws (Below.refl _ _) _⟩

set_option maxRecDepth 100000 in
set_option maxHeartbeats 1000000 in
theorem ranged_gt1 (op x y n : Int) (a0 a1 a2 : Addr) (w : World) (h : Errs w a0 a1 a2) (hb : 1000000000 < x) :
    Calls Tryz.prog 99 #[.int .i64 op, .int .i64 x, .int .i64 y, .int .i64 n] w fun e w' => e = .returned (.tuple #[.nilIface, trapE op a1]) ∧ Below w.heap.size w w' := by
  have g1 := h.g1
  have i0 := index0
  have i1 := index1
  have i2 := index2
  go_enter Tryz.func99, Tryz.ntmps99
  go_wp2
  refine wp_loop_rounds 1 ?_
  rw [rounds_succ]
  go_wp2
  go_quiet (fail)
  go_wp2
  go_ret2
  exact ⟨rfl, below_draws (Below.refl _ _) _⟩

set_option maxRecDepth 100000 in
set_option maxHeartbeats 1000000 in
theorem ranged_lt2 (op x y n : Int) (a0 a1 a2 : Addr) (w : World) (h : Errs w a0 a1 a2) (lx : ¬ x < -1000000000) (gx : ¬ 1000000000 < x) (hb : y < -1000000000) :
    Calls Tryz.prog 99 #[.int .i64 op, .int .i64 x, .int .i64 y, .int .i64 n] w fun e w' => e = .returned (.tuple #[.nilIface, trapE op a1]) ∧ Below w.heap.size w w' := by
  have g1 := h.g1
  have i0 := index0
  have i1 := index1
  have i2 := index2
  go_enter Tryz.func99, Tryz.ntmps99
  go_wp2
  refine wp_loop_rounds 2 ?_
  rw [rounds_succ]
  go_wp2
  rw [rounds_succ]
  go_wp2
  go_quiet (fail)
  go_wp2
  go_ret2
  exact ⟨rfl, below_draws (Below.refl _ _) _⟩

set_option maxRecDepth 100000 in
set_option maxHeartbeats 1000000 in
theorem ranged_gt2 (op x y n : Int) (a0 a1 a2 : Addr) (w : World) (h : Errs w a0 a1 a2) (lx : ¬ x < -1000000000) (gx : ¬ 1000000000 < x) (hb : 1000000000 < y) :
    Calls Tryz.prog 99 #[.int .i64 op, .int .i64 x, .int .i64 y, .int .i64 n] w fun e w' => e = .returned (.tuple #[.nilIface, trapE op a1]) ∧ Below w.heap.size w w' := by
  have g1 := h.g1
  have i0 := index0
  have i1 := index1
  have i2 := index2
  go_enter Tryz.func99, Tryz.ntmps99
  go_wp2
  refine wp_loop_rounds 2 ?_
  rw [rounds_succ]
  go_wp2
  rw [rounds_succ]
  go_wp2
  go_quiet (fail)
  go_wp2
  go_ret2
  exact ⟨rfl, below_draws (Below.refl _ _) _⟩

set_option maxRecDepth 100000 in
set_option maxHeartbeats 1000000 in
theorem ranged_lt3 (op x y n : Int) (a0 a1 a2 : Addr) (w : World) (h : Errs w a0 a1 a2) (lx : ¬ x < -1000000000) (gx : ¬ 1000000000 < x) (ly : ¬ y < -1000000000) (gy : ¬ 1000000000 < y) (hb : n < -1000000000) :
    Calls Tryz.prog 99 #[.int .i64 op, .int .i64 x, .int .i64 y, .int .i64 n] w fun e w' => e = .returned (.tuple #[.nilIface, trapE op a1]) ∧ Below w.heap.size w w' := by
  have g1 := h.g1
  have i0 := index0
  have i1 := index1
  have i2 := index2
  go_enter Tryz.func99, Tryz.ntmps99
  go_wp2
  refine wp_loop_rounds 3 ?_
  rw [rounds_succ]
  go_wp2
  rw [rounds_succ]
  go_wp2
  rw [rounds_succ]
  go_wp2
  go_quiet (fail)
  go_wp2
  go_ret2
  exact ⟨rfl, below_draws (Below.refl _ _) _⟩

set_option maxRecDepth 100000 in
set_option maxHeartbeats 1000000 in
theorem ranged_gt3 (op x y n : Int) (a0 a1 a2 : Addr) (w : World) (h : Errs w a0 a1 a2) (lx : ¬ x < -1000000000) (gx : ¬ 1000000000 < x) (ly : ¬ y < -1000000000) (gy : ¬ 1000000000 < y) (hb : 1000000000 < n) :
    Calls Tryz.prog 99 #[.int .i64 op, .int .i64 x, .int .i64 y, .int .i64 n] w fun e w' => e = .returned (.tuple #[.nilIface, trapE op a1]) ∧ Below w.heap.size w w' := by
  have g1 := h.g1
  have i0 := index0
  have i1 := index1
  have i2 := index2
  go_enter Tryz.func99, Tryz.ntmps99
  go_wp2
  refine wp_loop_rounds 3 ?_
  rw [rounds_succ]
  go_wp2
  rw [rounds_succ]
  go_wp2
  rw [rounds_succ]
  go_wp2
  go_quiet (fail)
  go_wp2
  go_ret2
  exact ⟨rfl, below_draws (Below.refl _ _) _⟩

set_option maxRecDepth 100000 in
set_option maxHeartbeats 1000000 in
theorem ranged_ok (op x y n : Int) (w : World) (lx : ¬ x < -1000000000) (gx : ¬ 1000000000 < x) (ly : ¬ y < -1000000000) (gy : ¬ 1000000000 < y) (ln : ¬ n < -1000000000) (gn : ¬ 1000000000 < n) :
    Calls Tryz.prog 99 #[.int .i64 op, .int .i64 x, .int .i64 y, .int .i64 n] w fun e w' => e = .returned (.tuple #[.iface 109 (.int .i64 n), .nilIface]) ∧ Below w.heap.size w w' := by
  have i0 := index0
  have i1 := index1
  have i2 := index2
  go_enter Tryz.func99, Tryz.ntmps99
  go_wp2
  refine wp_loop_rounds 4 ?_
  rw [rounds_succ]
  go_wp2
  rw [rounds_succ]
  go_wp2
  rw [rounds_succ]
  go_wp2
  rw [rounds_succ]
  go_wp2
  go_ret2
  exact ⟨rfl, Below.refl _ _⟩

theorem ranged_any (op x y n : Int) (a0 a1 a2 : Addr) (w : World) (h : Errs w a0 a1 a2) :
    Calls Tryz.prog 99 #[.int .i64 op, .int .i64 x, .int .i64 y, .int .i64 n] w fun e w' => e = .returned (rangedV op x y n a1) ∧ Below w.heap.size w w' := by
  by_cases lx : x < -1000000000
  · rw [show rangedV op x y n a1 = .tuple #[.nilIface, trapE op a1] by rw [rangedV, if_neg]; simp [num]; omega]; exact ranged_lt1 op x y n a0 a1 a2 w h lx
  by_cases gx : 1000000000 < x
  · rw [show rangedV op x y n a1 = .tuple #[.nilIface, trapE op a1] by rw [rangedV, if_neg]; simp [num]; omega]; exact ranged_gt1 op x y n a0 a1 a2 w h gx
  by_cases ly : y < -1000000000
  · rw [show rangedV op x y n a1 = .tuple #[.nilIface, trapE op a1] by rw [rangedV, if_neg]; simp [num]; omega]; exact ranged_lt2 op x y n a0 a1 a2 w h lx gx ly
  by_cases gy : 1000000000 < y
  · rw [show rangedV op x y n a1 = .tuple #[.nilIface, trapE op a1] by rw [rangedV, if_neg]; simp [num]; omega]; exact ranged_gt2 op x y n a0 a1 a2 w h lx gx gy
  by_cases ln : n < -1000000000
  · rw [show rangedV op x y n a1 = .tuple #[.nilIface, trapE op a1] by rw [rangedV, if_neg]; simp [num]; omega]; exact ranged_lt3 op x y n a0 a1 a2 w h lx gx ly gy ln
  by_cases gn : 1000000000 < n
  · rw [show rangedV op x y n a1 = .tuple #[.nilIface, trapE op a1] by rw [rangedV, if_neg]; simp [num]; omega]; exact ranged_gt3 op x y n a0 a1 a2 w h lx gx ly gy gn
  · rw [show rangedV op x y n a1 = .tuple #[.iface 109 (.int .i64 n), .nilIface] by rw [rangedV, if_pos]; simp [num]; omega]; exact ranged_ok op x y n w lx gx ly gy ln gn
end Go.Proofs.YtjdoljaailokmaaGreatDoor
