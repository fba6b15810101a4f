/-
  The drawing functions of the document's model: tests, statements and lists of these.
-/
import Derived.Test.YtpmkfdinkomaiaaGreatDoorD4
namespace Go.Proofs.YtpmkfdinkomaiaaGreatDoor
open Go.RowKit

theorem value_zero : ValueOk 0 := by
  intro W w0 w C A N xa bs xc fa fc ps tx lc mb M L K deep hd hA hM hK
  refine (value_flat deep (Or.inl (by omega)) hA (by omega) (by omega)).mono ?_
  rintro e w1 ⟨rfl, hA'⟩
  exact ⟨rfl, hA'.mono (by simp [VP]) (by omega) (by simp [VL])⟩
theorem value_two : ValueOk 2 := value_step 1 (value_step 0 value_zero (by simp [VP]) (by simp [VL])) (by simp [VP]) (by simp [VL])

/-- What is known of 'value' to the depth that is asked for. -/
def ValOk : Prop := ∀ {W w0 w : World} {C A N : Nat} {xa : Option Addr} {bs : List Int} {xc : Nat} {fa : Option Addr} {fc : Nat} {ps : List Int} {tx lc : Int} {mb : Bool} {M L K : Nat} (deep : Int), deep ≤ 2 → AsmAt W w0 w C A N xa bs xc fa fc ps tx lc mb M L K → M ≤ 700000 → K ≤ 70000 →
  Calls Tryz.prog 49 #[.pointer (some ⟨A, 0, none⟩), .int .i64 deep] w fun e w' => e = .returned (.tuple #[]) ∧ AsmAt W w0 w' C A N xa bs xc fa fc ps tx lc mb (M + 250) (L + 1) (K + 89)
theorem val_ok : ValOk := by
  intro W w0 w C A N xa bs xc fa fc ps tx lc mb M L K deep hd hA hM hK
  exact value_two deep hd hA (by omega) (by omega)

set_option maxRecDepth 100000 in
set_option maxHeartbeats 2000000 in
theorem test_any {W w0 w : World} {C A N : Nat} {xa : Option Addr} {bs : List Int} {xc : Nat} {fa : Option Addr} {fc : Nat} {ps : List Int} {tx lc : Int} {mb : Bool} {M L K : Nat} (hA : AsmAt W w0 w C A N xa bs xc fa fc ps tx lc mb M L K) (hM : M ≤ 600000) (hK : K ≤ 60000) :
    Calls Tryz.prog 80 #[.pointer (some ⟨A, 0, none⟩)] w fun e w' => e = .returned (.tuple #[]) ∧ AsmAt W w0 w' C A N xa bs xc fa fc ps tx lc mb (M + 600) L (K + 200) := by
  have hV : Hid ValOk := val_ok
  obtain ⟨q0, q2, q3, q4⟩ := hA.cells
  go_enter Tryz.func80, Tryz.ntmps80
  go_wp2_with fail
  refine (hV.out _ (by omega) hA (by omega) (by omega)).mono ?_
  rintro e u1 ⟨rfl, hA'⟩
  clear hA q0 q2 q3 q4
  have hA := hA'
  clear hA'
  obtain ⟨q0, q2, q3, q4⟩ := hA.cells
  go_wp2_with fail
  refine (hV.out _ (by omega) hA (by omega) (by omega)).mono ?_
  rintro e u2 ⟨rfl, hA'⟩
  clear hA q0 q2 q3 q4
  have hA := hA'
  clear hA'
  obtain ⟨q0, q2, q3, q4⟩ := hA.cells
  obtain ⟨s0, -, -, -⟩ := (hA.below ((Below.refl _ _).alloc (Nat.le_refl _) (.cells #[.int .i64 14, .int .i64 15] 3))).cells
  go_wp2_with fail
  have hne3 : u2.heap.size ≠ C := by have h1 := hA.cN; have h2 := hA.size; omega
  refine (pickA (hA.below ((Below.refl _ _).alloc (Nat.le_refl _) _)) _ (by omega)).mono ?_
  rintro e u3 ⟨r3, rfl, r3a, r3b, hA', hP⟩
  obtain ⟨k3, rfl⟩ : ∃ k3 : Nat, r3 = k3 := ⟨r3.toNat, by omega⟩
  obtain ⟨z3, hz3⟩ := lit_cell (k := k3) hP hne3 rfl (by simp; omega)
  clear hP
  clear hA q0 q2 q3 q4
  have hA := hA'
  clear hA'
  obtain ⟨q0, q2, q3, q4⟩ := hA.cells
  clear s0
  go_wp2_with fail
  refine (putA hA _ _ (by omega)).mono ?_
  rintro e u4 ⟨rfl, hA'⟩
  clear hA q0 q2 q3 q4
  have hA := hA'
  clear hA'
  obtain ⟨q0, q2, q3, q4⟩ := hA.cells
  go_wp2_with fail
  refine (onceA hA _ (by omega) (by omega) (by omega)).mono ?_
  rintro e u5 ⟨r5, rfl, hA'⟩
  clear hA q0 q2 q3 q4
  have hA := hA'
  clear hA'
  obtain ⟨q0, q2, q3, q4⟩ := hA.cells
  cases r5 with
  | true =>
    go_wp2_with fail
    refine (putA hA _ _ (by omega)).mono ?_
    rintro e u6 ⟨rfl, hA'⟩
    clear hA q0 q2 q3 q4
    have hA := hA'
    clear hA'
    obtain ⟨q0, q2, q3, q4⟩ := hA.cells
    go_wp2
    (try simp only [Exit.inBlock, Exit.then])
    first | (refine bodyPost_end (results_none rfl _ _ _) rfl ?_) | (refine bodyPost_ret (results_none rfl _ _ _) rfl ?_)
    exact ⟨rfl, hA.mono (by omega) (by omega) (by omega)⟩
  | false =>
    go_wp2
    (try simp only [Exit.inBlock, Exit.then])
    first | (refine bodyPost_end (results_none rfl _ _ _) rfl ?_) | (refine bodyPost_ret (results_none rfl _ _ _) rfl ?_)
    exact ⟨rfl, hA.mono (by omega) (by omega) (by omega)⟩

section
variable {W w0 w : World} {C A N : Nat} {xa : Option Addr} {bs : List Int} {xc : Nat} {fa : Option Addr} {fc : Nat} {ps : List Int} {tx lc : Int} {mb : Bool} {M L K : Nat}
/-- An instruction that was put may be written. -/
theorem AsmAt.fix (h : AsmAt W w0 w C A N xa bs xc fa fc ps tx lc mb M L K) {ca : Option Addr} {n cc i : Nat} (hb : w.heap[A]? = some (.cells #[.pointer (some ⟨C, 0, none⟩), .slice ca n cc, .slice fa ps.length fc, .int .i64 tx, .int .i64 lc, .bool mb] 82 (0, 0))) (hi : i < L) :
    ∃ g v, ca = some ⟨g, 0, none⟩ ∧ w.cell? ⟨g, i * 2 + 1, none⟩ = some v ∧ w.frozen? ⟨g, i * 2 + 1, none⟩ = false ∧ i < n ∧ ∀ z : Int, AsmAt W w0 (w.setCell ⟨g, i * 2 + 1, none⟩ (.int .i64 z)) C A N xa bs xc fa fc ps tx lc mb M L K := by
  obtain ⟨ca', cc', n', hb', ⟨vs, ho, hv⟩, h0, h1⟩ := h.code
  rw [hb] at hb'
  cases hb'
  rcases ho.2 with ⟨-, hz⟩ | ⟨g, cap, cur, e, hg, hh, h2, h3, h4, h5⟩
  · omega
  · cases e
    have haN := h.aN
    have hlt : i * 2 + 1 < cur.size := by omega
    refine ⟨g, cur[i * 2 + 1], rfl, by rw [block_cell hh]; simp, block_free hh _, by omega, fun z => ?_⟩
    refine h.step ((Fr.refl _ _ _ _).setFar (p := ⟨g, i * 2 + 1, none⟩) hg _) ⟨_, _, _, by rw [Below.heap_setCell _ _ _ _ (by simp; omega)]; exact hb, ⟨vs.set (i * 2 + 1) (.int .i64 z), ⟨by rw [List.length_set]; exact ho.1, .inr ⟨g, cc, _, rfl, hg, block_set hh _, h2, h3, by simpa using h4, ?_⟩⟩, ?_⟩, h0, h1⟩
    · rw [Array.toList_setIfInBounds, ← h5, List.take_set]
    · intro u hu
      rcases List.mem_or_eq_of_mem_set hu with hu | rfl
      · exact hv u hu
      · exact ⟨z, rfl⟩
end

/-- How many numbers and instructions a statement takes, to a depth. -/
def SM : Nat → Nat
  | 0 => 300
  | n + 1 => 2 * SM n + 700
def SK : Nat → Nat
  | 0 => 100
  | n + 1 => 2 * SK n + 300
def StmtOk (d : Nat) : Prop := ∀ {W w0 w : World} {C A N : Nat} {xa : Option Addr} {bs : List Int} {xc : Nat} {fa : Option Addr} {fc : Nat} {ps : List Int} {tx lc : Int} {mb : Bool} {M L K : Nat} (deep : Int), 0 ≤ deep → deep ≤ d → AsmAt W w0 w C A N xa bs xc fa fc ps tx lc mb M L K → M + 50000 * d ≤ 500000 → K + 15000 * d ≤ 50000 →
  Calls Tryz.prog 64 #[.pointer (some ⟨A, 0, none⟩), .int .i64 deep] w fun e w' => e = .returned (.tuple #[]) ∧ AsmAt W w0 w' C A N xa bs xc fa fc ps tx lc mb (M + SM d) L (K + SK d)

set_option maxRecDepth 100000 in
set_option maxHeartbeats 2000000 in
theorem list_any {W w0 w : World} {C A N : Nat} {xa : Option Addr} {bs : List Int} {xc : Nat} {fa : Option Addr} {fc : Nat} {ps : List Int} {tx lc : Int} {mb : Bool} {M L K : Nat} (d : Nat) (hS0 : StmtOk d) (b1 : SM d ≤ 5000) (b2 : SK d ≤ 2000) (deep : Int) (h0 : 0 ≤ deep) (h1 : deep ≤ d) (mo : Nat) (m1 : 1 ≤ mo) (m6 : mo ≤ 6) (hA : AsmAt W w0 w C A N xa bs xc fa fc ps tx lc mb M L K) (hM : M + 50000 * d ≤ 460000) (hK : K + 15000 * d ≤ 36000) :
    Calls Tryz.prog 48 #[.pointer (some ⟨A, 0, none⟩), .int .i64 deep, .int .i64 mo] w fun e w' => e = .returned (.tuple #[]) ∧ AsmAt W w0 w' C A N xa bs xc fa fc ps tx lc mb (M + 1 + mo * SM d) L (K + mo * SK d) := by
  have hS : Hid (StmtOk d) := hS0
  clear hS0
  obtain ⟨q0, q2, q3, q4⟩ := hA.cells
  go_enter Tryz.func48, Tryz.ntmps48
  go_wp2_with fail
  refine (pickA hA _ (by omega)).mono ?_
  rintro e u1 ⟨rk, rfl, rka, rkb, hA', -⟩
  clear hA q0 q2 q3 q4
  have hA := hA'
  clear hA'
  obtain ⟨q0, q2, q3, q4⟩ := hA.cells
  obtain ⟨k0, hk0⟩ : ∃ k0 : Nat, 1 + rk = k0 := ⟨(1 + rk).toNat, by omega⟩
  have hk1 : k0 ≤ mo := by omega
  go_wp2
  go_loopw [6] (fun i wr => ∃ (k j : Nat), k + j = k0 ∧ i = .int .i64 k ∧ AsmAt W w0 wr C A N xa bs xc fa fc ps tx lc mb (M + 1 + j * SM d) L (K + j * SK d)) (fun i _ => (intOf i).toNat)
  case atStart => exact ⟨k0, 0, by omega, rfl, hA.mono (by omega) (by omega) (by omega)⟩
  case round =>
    obtain ⟨k, j, hkj, rfl, hA'⟩ := hrel
    clear hA q0 q2 q3 q4
    have hA := hA'
    clear hA'
    have e1 : j * SM d ≤ mo * SM d := Nat.mul_le_mul_right _ (by omega)
    have e2 : j * SK d ≤ mo * SK d := Nat.mul_le_mul_right _ (by omega)
    have e3 : j * SM d ≤ 6 * SM d := Nat.mul_le_mul_right _ (by omega)
    have e4 : j * SK d ≤ 6 * SK d := Nat.mul_le_mul_right _ (by omega)
    obtain ⟨q0, q2, q3, q4⟩ := hA.cells
    obtain ⟨ca, cc, n', hb, hn0, hn1, -⟩ := hA.exact
    have hcc := block_cell hb
    clear hb
    by_cases hk : 0 < k
    · have hk' : (0 : Int) < (k : Int) := by omega
      by_cases hn : n' < 70
      · go_wp2_with fail
        clear hcc
        refine (hS.out deep h0 h1 hA (by omega) (by omega)).mono ?_
        rintro e u2 ⟨rfl, hA'⟩
        have f1 : (j + 1) * SM d = j * SM d + SM d := Nat.succ_mul _ _
        have f2 : (j + 1) * SK d = j * SK d + SK d := Nat.succ_mul _ _
        have hA2 : AsmAt W w0 u2 C A N xa bs xc fa fc ps tx lc mb (M + 1 + (j + 1) * SM d) L (K + (j + 1) * SK d) := hA'.mono (by omega) (by omega) (by omega)
        clear f1 f2 e1 e2 e3 e4 hA' hA q0 q2 q3 q4
        go_wp2
        go_roundw
        case rel => exact ⟨k - 1, j + 1, by omega, by congr 1; omega, hA2⟩
        case measure => simp [intOf]; omega
      · clear e3 e4
        go_wp2
        (try simp only [Exit.inBlock, Exit.then])
        first | (refine bodyPost_end (results_none rfl _ _ _) rfl ?_) | (refine bodyPost_ret (results_none rfl _ _ _) rfl ?_)
        exact ⟨rfl, hA.mono (by omega) (by omega) (by omega)⟩
    · have hk' : (k : Int) ≤ 0 := by omega
      clear e3 e4
      go_wp2
      (try simp only [Exit.inBlock, Exit.then])
      first | (refine bodyPost_end (results_none rfl _ _ _) rfl ?_) | (refine bodyPost_ret (results_none rfl _ _ _) rfl ?_)
      exact ⟨rfl, hA.mono (by omega) (by omega) (by omega)⟩
end Go.Proofs.YtpmkfdinkomaiaaGreatDoor
