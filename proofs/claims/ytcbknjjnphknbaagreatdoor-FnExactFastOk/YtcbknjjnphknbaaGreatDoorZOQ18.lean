/-
  ProfileOk of both sides, and the law.
  The module is good: the document's word.
  Where blocks and loops begin, on plain data; what the sets of bits hold; lists of what is marked.
  The contract of the function that goes through a set of bits (bitSet.all).
-/
import Derived.Test.YtcbknjjnphknbaaGreatDoorZOQ6
import Derived.Test.YtcbknjjnphknbaaGreatDoorZOQ17
import Derived.Test.YtcbknjjnphknbaaGreatDoorZV15
import Derived.Test.YtcbknjjnphknbaaGreatDoorZOQ16
import Derived.Test.YtcbknjjnphknbaaGreatDoorZL3
import Derived.Test.YtcbknjjnphknbaaGreatDoorZOQ1
import Derived.RangeFuncNested
import Derived.RangeFuncBound
import Derived.RangeFuncCalls
import Derived.RangeFuncLeaves
import Derived.Shelf.Abstract
import Derived.Shelf.RegionOpen
import Derived.WalkKit
import Derived.OwnWalkIn
import Derived.TacticsInMore
import Derived.LoopNIn
import Derived.LoopIn
namespace Go.Proofs.YtcbknjjnphknbaaGreatDoor
open Go.RowKit

/-- The module is good. -/
def Good (ts : List ByteArray) (fs : List Fn) : Prop := ∃ f a, VPost ts fs 0 f a
theorem VPost.good {ts : List ByteArray} {fs : List Fn} {c f a : Int} (h : VPost ts fs c f a) : c = 0 ↔ Good ts fs :=
  ⟨fun e => by subst e; exact ⟨f, a, h⟩, fun ⟨f', a', h'⟩ => (h.one h').1⟩

set_option maxHeartbeats 400000 in
theorem szModule_le (a a2 : Option Addr) (ts : List ByteArray) (fs : List Fn) (cap cap2 : Nat) (w : World) (hn : ts.length ≤ maxLen) (hc : ∀ s ∈ ts, s.size ≤ maxLen) (hm : StrsAt w 0 a ts)
    (hn2 : fs.length ≤ maxLen) (hc2 : ∀ f ∈ fs, f.code.length ≤ maxLen) (hm2 : FnsAt w 0 a2 fs) :
    Calls Tryz.prog 4 #[.agg #[.slice a ts.length cap, .slice a2 fs.length cap2], .int .i64 1048576] w fun e w' => ∃ r : Int, e = .returned (.int .i64 r) ∧ r ≤ 1048576 ∧ (0 ≤ r → Small ts fs) ∧ Below w.heap.size w w' := by
  go_enter Tryz.func4, Tryz.ntmps4
  go_wp2_with fail
  refine (szStringS_any a ts cap 1048576 _ (by omega) (by omega) hn hc (hm.mono ((Below.refl _ _).alloc (Nat.le_refl _) _))).mono ?_
  rintro e w1 ⟨r, rfl, hr, hs, hb⟩
  have hb1 : Below w.heap.size w w1 := ((Below.refl _ _).alloc (Nat.le_refl _) _).trans (hb.mono (by simp))
  obtain ⟨hx, hf⟩ : w1.cell? ⟨w.heap.size, 0, none⟩ = some (.slice a ts.length cap) ∧ w1.cell? ⟨w.heap.size, 1, none⟩ = some (.slice a2 fs.length cap2) := by
    constructor
    · exact cell_later hb (cell_new _ _ _ 0)
    · exact cell_later hb (cell_new _ _ _ 1)
  by_cases h0 : r < 0
  · go_wp2_with fail
    go_ret
    exact ⟨_, rfl, by omega, by omega, hb1⟩
  · go_wp2_with fail
    refine (szFuncS_any a2 fs cap2 r _ (by omega) (by omega) hn2 hc2 (hm2.mono hb1)).mono ?_
    rintro e w2 ⟨r2, rfl, hr2, hs2, hb2⟩
    have hb3 : Below w.heap.size w w2 := hb1.trans (hb2.mono hb1.size)
    by_cases h2 : r2 < 0
    · go_wp2_with fail
      go_ret
      exact ⟨_, rfl, by omega, by omega, hb3⟩
    · go_wp2_with fail
      go_ret
      exact ⟨_, rfl, by omega, fun _ => ⟨(hs (by omega)).1, (hs (by omega)).2, (hs2 (by omega)).1, (hs2 (by omega)).2⟩, hb3⟩


set_option maxRecDepth 100000 in
set_option maxHeartbeats 1000000 in
theorem sGood_any (a1 a2 : Option Addr) (c1 c2 : Nat) (ts : List ByteArray) (fs : List Fn) (w : World) (hs : Small ts fs) (hst : StrsAt w 0 a1 ts) (hfn : FnsAt w 0 a2 fs) :
    Calls Tryz.prog 16 #[.agg #[.slice a1 ts.length c1, .slice a2 fs.length c2]] w fun e w' => e = .returned (.bool (pB (Good ts fs))) ∧ Below w.heap.size w w' := by
  have hbA : Below w.heap.size w (w.alloc (.cells #[.slice a1 ts.length c1, .slice a2 fs.length c2] 35)) := (Below.refl _ _).alloc (Nat.le_refl _) _
  go_enter Tryz.func16, Tryz.ntmps16
  go_wp2_with fail
  refine (sVerify_any _ _ _ _ ts fs _ hs (hst.mono hbA) (hfn.mono hbA)).mono ?_
  rintro e w1 ⟨c, f, a, rfl, hV, hb⟩
  have HG : Hid (c = 0 ↔ Good ts fs) := hV.good
  clear hV
  have hfld : (Instr.field 56 (.agg #[.int .i64 c, .int .i64 f, .int .i64 a]) 0).run Tryz.prog w1 = .ok (.int .i64 c) w1 := by kernel_rfl
  go_wp2
  go_ret
  refine ⟨ret_bool ?_, hbA.trans (hb.mono hbA.size)⟩
  by_cases h : Good ts fs
  · rw [pB_yes h, HG.out.2 h]; rfl
  · rw [pB_no h]; simpa using fun e => h (HG.out.1 e)

end Go.Proofs.YtcbknjjnphknbaaGreatDoor



namespace Go.Proofs.YtcbknjjnphknbaaGreatDoor
open Go.RowKit

/-- The leaders that the first k instructions tell. -/
def LP (code : List (Int × Int)) (d : List Int) : Nat → Nat → Prop
  | 0, j => j = 0
  | k + 1, j => LP code d k j ∨ (isJ code d k ∧ ((j : Int) = (code.getD k (0, 0)).2 ∨ ((code.getD k (0, 0)).1 ≠ 17 ∧ j = k + 1)))
/-- The heads that the first k instructions tell. -/
def HP (code : List (Int × Int)) (d : List Int) : Nat → Nat → Prop
  | 0, _ => False
  | k + 1, j => HP code d k j ∨ (isJ code d k ∧ (code.getD k (0, 0)).2 ≤ k ∧ (j : Int) = (code.getD k (0, 0)).2)
/-- What is known of jumps in a good module. -/
structure GJ (code : List (Int × Int)) (d : List Int) : Prop where
  one : 1 ≤ code.length
  most : code.length ≤ 120
  jump : ∀ k, k < code.length → isJ code d k → 0 ≤ (code.getD k (0, 0)).2 ∧ (code.getD k (0, 0)).2 < code.length ∧ ((code.getD k (0, 0)).1 ≠ 17 → k + 1 < code.length)

theorem LP.zero (code : List (Int × Int)) (d : List Int) (k : Nat) : LP code d k 0 := by
  induction k with
  | zero => rfl
  | succ k ih => exact .inl ih
theorem LP.lt {code : List (Int × Int)} {d : List Int} (G : GJ code d) {k j : Nat} (hk : k ≤ code.length) (h : LP code d k j) : j < code.length := by
  induction k with
  | zero => have := G.one; have h' : j = 0 := h; omega
  | succ k ih =>
    rcases h with h | ⟨h1, h2⟩
    · exact ih (by omega) h
    · have := G.jump k (by omega) h1
      rcases h2 with h2 | ⟨h2, h3⟩
      · omega
      · have := this.2.2 h2; omega
theorem HP.lt {code : List (Int × Int)} {d : List Int} (G : GJ code d) {k j : Nat} (hk : k ≤ code.length) (h : HP code d k j) : j < code.length := by
  induction k with
  | zero => exact h.elim
  | succ k ih =>
    rcases h with h | ⟨h1, h2, h3⟩
    · exact ih (by omega) h
    · have := G.jump k (by omega) h1
      omega

theorem fstep_lo {st : (Nat × Nat) × (Nat × Nat)} {x : Jp} {j : Nat} (hj : j < 128) : bhas (fstep st x).1 j = true ↔ bhas st.1 j = true ∨ j = x.a ∨ (x.op ≠ 17 ∧ j = x.at' + 1) := by
  unfold fstep
  dsimp only
  have h1 := x.h1
  have h2 := x.h2
  by_cases h : x.op = 17
  · rw [if_pos h, bhas_bw h2 hj, Bool.or_eq_true, decide_eq_true_eq]
    constructor
    · rintro (h | h)
      · exact .inl h
      · exact .inr (.inl h.symm)
    · rintro (h' | h' | ⟨h', -⟩)
      · exact .inl h'
      · exact .inr h'.symm
      · exact absurd h h'
  · rw [if_neg h, bhas_bw h1 hj, bhas_bw h2 hj, Bool.or_eq_true, Bool.or_eq_true, decide_eq_true_eq, decide_eq_true_eq]
    constructor
    · rintro ((h' | h') | h')
      · exact .inl h'
      · exact .inr (.inl h'.symm)
      · exact .inr (.inr ⟨h, h'.symm⟩)
    · rintro (h' | h' | ⟨-, h'⟩)
      · exact .inl (.inl h')
      · exact .inl (.inr h'.symm)
      · exact .inr h'.symm
theorem fstep_hi {st : (Nat × Nat) × (Nat × Nat)} {x : Jp} {j : Nat} (hj : j < 128) : bhas (fstep st x).2 j = true ↔ bhas st.2 j = true ∨ (x.a ≤ x.at' ∧ j = x.a) := by
  unfold fstep
  dsimp only
  have h2 := x.h2
  by_cases h : x.a ≤ x.at'
  · rw [if_pos h, bhas_bw h2 hj, Bool.or_eq_true, decide_eq_true_eq]
    constructor
    · rintro (h' | h')
      · exact .inl h'
      · exact .inr ⟨h, h'.symm⟩
    · rintro (h' | ⟨-, h'⟩)
      · exact .inl h'
      · exact .inr h'.symm
  · rw [if_neg h]
    constructor
    · exact .inl
    · rintro (h' | ⟨h', -⟩)
      · exact h'
      · exact absurd h' h

theorem getD_at {code : List (Int × Int)} {k : Nat} (hk : k < code.length) : code.getD k (0, 0) = code[k] := by rw [List.getD_eq_getElem?_getD, List.getElem?_eq_getElem hk]; rfl

/-- What the sets of bits hold. -/
theorem flow_bits {code : List (Int × Int)} {d : List Int} (HJ : JOk code) {k : Nat} (hk : k ≤ code.length) : ∀ j, j < 128 → (bhas (flowB (jl code d k)).1 j = true ↔ LP code d k j) ∧ (bhas (flowB (jl code d k)).2 j = true ↔ HP code d k j) := by
  induction k with
  | zero =>
    intro j hj
    refine ⟨?_, ?_⟩
    · show bhas (1, 0) j = true ↔ j = 0
      have := bhas_bw (s := (0, 0)) (k := 0) (j := j) (by decide) hj
      rw [show bw (0, 0) 0 = (1, 0) from rfl, bhas_zero, Bool.false_or] at this
      rw [this, decide_eq_true_eq]
      exact eq_comm
    · show bhas (0, 0) j = true ↔ False
      rw [bhas_zero]; simp
  | succ k ih =>
    intro j hj
    obtain ⟨i1, i2⟩ := ih (by omega) j hj
    by_cases h : isJ code d k
    · obtain ⟨x, hx1, hx2, hx3, hx4⟩ := jl_yes HJ (by omega) h
      rw [hx4, flowB_snoc]
      have e := getD_at (code := code) (k := k) (by omega)
      refine ⟨?_, ?_⟩
      · rw [fstep_lo hj, i1]
        show _ ↔ LP code d k j ∨ (isJ code d k ∧ ((j : Int) = (code.getD k (0, 0)).2 ∨ ((code.getD k (0, 0)).1 ≠ 17 ∧ j = k + 1)))
        rw [e, ← hx2, ← hx3, hx1]
        constructor
        · rintro (h' | h' | h')
          · exact .inl h'
          · exact .inr ⟨h, .inl (by omega)⟩
          · exact .inr ⟨h, .inr h'⟩
        · rintro (h' | ⟨-, h' | h'⟩)
          · exact .inl h'
          · exact .inr (.inl (by omega))
          · exact .inr (.inr h')
      · rw [fstep_hi hj, i2]
        show _ ↔ HP code d k j ∨ (isJ code d k ∧ (code.getD k (0, 0)).2 ≤ k ∧ (j : Int) = (code.getD k (0, 0)).2)
        rw [e, ← hx3, hx1]
        constructor
        · rintro (h' | h')
          · exact .inl h'
          · exact .inr ⟨h, by omega, by omega⟩
        · rintro (h' | ⟨-, h1, h2⟩)
          · exact .inl h'
          · exact .inr ⟨by omega, by omega⟩
    · rw [jl_no h, i1, i2]
      exact ⟨⟨.inl, fun h' => h'.elim id (fun h' => absurd h'.1 h)⟩, ⟨.inl, fun h' => h'.elim id (fun h' => absurd h'.1 h)⟩⟩

/-- The places at which P holds, rising. -/
noncomputable def lst (P : Nat → Prop) (n : Nat) : List Nat := (List.range n).filter fun j => pB (P j)
noncomputable def lstI (P : Nat → Prop) (n : Nat) : List Int := (lst P n).map fun (j : Nat) => (j : Int)
theorem lst_yes {P : Nat → Prop} {k : Nat} (h : P k) : lst P (k + 1) = lst P k ++ [k] := by simp [lst, List.range_succ, pB_yes h]
theorem lst_no {P : Nat → Prop} {k : Nat} (h : ¬ P k) : lst P (k + 1) = lst P k := by simp [lst, List.range_succ, pB_no h]
theorem lstI_yes {P : Nat → Prop} {k : Nat} (h : P k) : lstI P (k + 1) = lstI P k ++ [(k : Int)] := by simp [lstI, lst_yes h]
theorem lstI_no {P : Nat → Prop} {k : Nat} (h : ¬ P k) : lstI P (k + 1) = lstI P k := by simp [lstI, lst_no h]
theorem lst_len (P : Nat → Prop) (n : Nat) : (lst P n).length ≤ n := by
  have := List.length_filter_le (fun j => pB (P j)) (List.range n)
  simpa [lst] using this
theorem lstI_len (P : Nat → Prop) (n : Nat) : (lstI P n).length ≤ n := by simpa [lstI] using lst_len P n
theorem mem_lst {P : Nat → Prop} {n j : Nat} : j ∈ lst P n ↔ j < n ∧ P j := by
  unfold lst
  rw [List.mem_filter, List.mem_range]
  constructor
  · rintro ⟨h1, h2⟩
    refine ⟨h1, ?_⟩
    by_cases h : P j
    · exact h
    · rw [pB_no h] at h2; cases h2
  · rintro ⟨h1, h2⟩
    exact ⟨h1, pB_yes h2⟩

/-- What is known of the jumps of a function of a good module. -/
theorem gj_of {ts : List ByteArray} {fs : List Fn} (hG : Good ts fs) {f : Nat} (hf : f < fs.length) {d : List Int} (hD : Done fs fs[f].code d) : GJ fs[f].code d ∧ JOk fs[f].code ∧ modB ts fs = true := by
  obtain ⟨f', a', hV⟩ := hG
  rcases hV with ⟨-, h, -⟩ | ⟨hm, hT⟩
  · cases h
  have F := fine_of hm hf
  have hc : Clear fs fs[f].code fs[f].code.length := by
    rcases hT with ⟨-, -, -, h⟩ | ⟨g, hg, k, d', -, -, -, -, -, h, -⟩
    · exact h f hf
    · exact absurd rfl h
  refine ⟨⟨F.one, F.most, fun k hk hj => ?_⟩, ⟨F.most, fun k hk hj => ?_⟩, hm⟩
  · have e := getD_at (code := fs[f].code) hk
    have H := hD.hts F
    obtain ⟨h1, h2⟩ := hj
    rw [e] at h2 ⊢
    have hjp := F.jump k hk h2
    refine ⟨hjp.1, hjp.2, fun h17 => ?_⟩
    have ht := hc d hD k hk
    unfold troubleB at ht
    simp only [e] at ht
    have hdk : ¬ d.getD k (-1) < 0 := by
      rw [H.get hk] at h1 ⊢
      have := H.low k (by rw [H.len]; exact hk)
      omega
    rw [if_neg hdk] at ht
    split at ht
    · cases ht
    split at ht
    · cases ht
    rename_i hno
    simp only [List.any_eq_true, not_exists, not_and, decide_eq_true_eq] at hno
    have := hno ((k : Int) + 1) (by unfold nextB; rw [if_neg (by omega), if_neg h17, if_pos (by omega)]; simp)
    omega
  · have e := getD_at (code := fs[f].code) hk
    rw [e] at hj ⊢
    have := F.jump k hk hj
    have := F.most
    omega
end Go.Proofs.YtcbknjjnphknbaaGreatDoor

namespace Go.Proofs.YtcbknjjnphknbaaGreatDoor
open Go.RowKit Go.Shelf

attribute [local go_sem] Oper.semAt_some

/-- The places that are in a set. -/
def In (s : Nat × Nat) (j : Nat) : Prop := bhas s j = true
theorem lst_skip {P : Nat → Prop} {a : Nat} : ∀ (n : Nat), (∀ j, a ≤ j → j < a + n → ¬ P j) → lst P (a + n) = lst P a
  | 0, _ => rfl
  | n + 1, h => by
    have h1 := lst_skip n (fun j h1 h2 => h j h1 (by omega))
    rw [← Nat.add_assoc, lst_no (h _ (by omega) (by omega)), h1]
theorem lst_to {P : Nat → Prop} {a b : Nat} (hab : a ≤ b) (h : ∀ j, a ≤ j → j < b → ¬ P j) : lst P b = lst P a := by
  have := lst_skip (P := P) (a := a) (b - a) (fun j h1 h2 => h j h1 (by omega))
  rwa [show a + (b - a) = b by omega] at this
/-- The word of 64 places from 64 * i on. -/
def wordOf (s : Nat × Nat) (i : Nat) : Nat := if i = 0 then s.1 else s.2
theorem in_word {s : Nat × Nat} {i j : Nat} (hi : i < 2) (hj : j < 64) : In s (64 * i + j) ↔ (wordOf s i).testBit j = true := by
  unfold In bhas wordOf
  rcases (show i = 0 ∨ i = 1 by omega) with rfl | rfl
  · rw [if_pos (by omega), if_pos rfl, Nat.mul_zero, Nat.zero_add]
  · rw [if_neg (by omega), if_neg (by omega), show 64 * 1 + j - 64 = j by omega]

/-- The bits of y are those of x from p on. -/
def From (x y p : Nat) : Prop := ∀ j, y.testBit j = (decide (p ≤ j) && x.testBit j)
theorem From.done {s : Nat × Nat} {i p : Nat} (h : From (wordOf s i) 0 p) (hi : i < 2) (hp : p ≤ 64) : lst (In s) (64 * (i + 1)) = lst (In s) (64 * i + p) :=
  lst_to (by omega) (fun j h1 h2 hin => by
    obtain ⟨q, rfl⟩ : ∃ q, j = 64 * i + q := ⟨j - 64 * i, by omega⟩
    have h3 := (in_word hi (by omega)).1 hin
    have h4 := h q
    rw [Nat.zero_testBit, h3, decide_eq_true (by omega)] at h4
    cases h4)
theorem From.step {s : Nat × Nat} {i p k m : Nat} (h : From (wordOf s i) (2 ^ (k + 1) * m + 2 ^ k) p) (hi : i < 2) (hk : k < 64) :
    lst (In s) (64 * i + (k + 1)) = lst (In s) (64 * i + p) ++ [64 * i + k] ∧ From (wordOf s i) ((2 ^ (k + 1) * m + 2 ^ k) &&& (2 ^ (k + 1) * m + 2 ^ k - 1)) (k + 1) := by
  have hk1 := h k
  rw [form_bit, if_pos (by omega), decide_eq_true rfl] at hk1
  have hx : (decide (p ≤ k) && (wordOf s i).testBit k) = true := hk1.symm
  rw [Bool.and_eq_true, decide_eq_true_eq] at hx
  refine ⟨?_, fun j => ?_⟩
  · rw [show 64 * i + (k + 1) = 64 * i + k + 1 by omega, lst_yes ((in_word hi hk).2 hx.2)]
    congr 1
    refine lst_to (by omega) (fun j h1 h2 hin => ?_)
    obtain ⟨q, rfl⟩ : ∃ q, j = 64 * i + q := ⟨j - 64 * i, by omega⟩
    have h3 := (in_word hi (by omega)).1 hin
    have h4 := h q
    rw [form_bit, if_pos (by omega), decide_eq_false (show ¬ k = q by omega), h3, decide_eq_true (show p ≤ q by omega)] at h4
    cases h4
  · rw [clear_low, h j]
    by_cases hj : k < j
    · rw [decide_eq_true hj, decide_eq_true (show p ≤ j by omega), decide_eq_true (show k + 1 ≤ j by omega)]
      simp
    · rw [decide_eq_false hj, decide_eq_false (show ¬ k + 1 ≤ j by omega)]
      simp
theorem wrap_less {y : Nat} (h0 : y ≠ 0) (h : y < 18446744073709551616) : IntKind.u64.wrap ((y : Int) - 1) = ((y - 1 : Nat) : Int) := by
  rw [IntKind.wrap_u64]; omega
theorem and_less {y : Nat} (h0 : y ≠ 0) : y &&& (y - 1) < y := by
  have : y &&& (y - 1) ≤ y - 1 := Nat.and_le_right
  omega

/-- What a round of a word's loop knows. -/
theorem word_facts {s : Nat × Nat} {i p y : Nat} (h : From (wordOf s i) y p) (hi : i < 2) (h0 : y ≠ 0) (hy : y < 2 ^ 64) :
    ∃ k m y1 y2 : Nat, k < 64 ∧ y = 2 ^ (k + 1) * m + 2 ^ k ∧ IntKind.u64.wrap ((y : Int) - 1) = (y1 : Int) ∧ bits .and .u64 (y : Int) (y1 : Int) = (y2 : Int) ∧ y2 < 2 ^ 64 ∧ y2 < y ∧
      lst (In s) (64 * i + (k + 1)) = lst (In s) (64 * i + p) ++ [64 * i + k] ∧ From (wordOf s i) y2 (k + 1) := by
  obtain ⟨k, m, rfl⟩ := low_form y h0
  have hk := form_lt hy
  have hs := h.step hi hk
  refine ⟨k, m, _, _, hk, rfl, wrap_less h0 hy, bits_and hy (Nat.lt_of_le_of_lt (Nat.sub_le _ _) hy), ?_, and_less h0, hs.1, hs.2⟩
  exact Nat.lt_trans (and_less h0) hy

set_option maxRecDepth 100000 in
set_option maxHeartbeats 4000000 in
theorem all1_in (n : Nat) (hn : 2 ≤ n) (l Bs n₀ : Nat) (s : Nat × Nat) (hs : bok s) (J Jx : List Nat → World → Prop)
    (hY : ∀ pre x W, J pre W → pre.length < 128 → YieldAt Fence.wide (n - 1) Tryz.prog l #[.int .i64 ((x : Nat) : Int)] W fun e W' =>
      (e = .returned (.bool true) ∧ J (pre ++ [x]) W' ∧ Below n₀ W W') ∨ (e = .returned (.bool false) ∧ Jx (pre ++ [x]) W'))
    (W : World) (hBs : W.heap[Bs]? = some (.cells #[.int .u64 (s.1 : Int), .int .u64 (s.2 : Int)] 115 (0, 0))) (hD : DB W) (h00 : 1 < n₀) (h0 : J [] W) :
    CallsIn Fence.wide n Tryz.prog 124 #[.func (.yield l) #[] #[], .pointer (some ⟨Bs, 0, none⟩)] W fun e W' => (∃ v, e = .returned v) ∧
      ((∃ ys, ys = lst (In s) 128 ∧ J ys W') ∨ (∃ pre, True ∧ Jx pre W')) := by
  have hDB : ∀ W', Below n₀ W W' → DB W' := fun W' hb i hi => (hb.cell (p := ⟨1, i, none⟩) h00).trans (hD i hi)
  have HDB : Hid (∀ W', Below n₀ W W' → DB W') := hDB
  have c0 := block_cell hBs
  clear hDB hD
  refine callsIn_of_wp Tryz.func124 rfl trivial ?_ rfl
  simp only [Tryz.ntmps124, List.size_toArray, List.length_cons, List.length_nil, Nat.reduceAdd, Nat.reduceSub, Array.replicate_succ, Array.replicate_zero, List.push_toArray, List.append_toArray, List.nil_append, List.cons_append]
  gi_wp2
  clear c0 hBs
  have HS : Hid (bok s) := hs
  clear hs
  gi_loopw [6] (fun i wr => ∃ k : Nat, k ≤ 2 ∧ i = .int .i64 k ∧ J (lst (In s) (64 * k)) wr ∧ Below n₀ W wr)
    (fun i _ => 2 - (intOf i).toNat)
  case atStart => exact ⟨0, by omega, rfl, h0, Below.refl _ _⟩
  case round =>
    obtain ⟨i, hi, rfl, hJs, hnx⟩ := hrel
    obtain ⟨wo, rfl⟩ : ∃ wo, wo = wr := ⟨_, rfl⟩
    by_cases hi2 : i < 2
    case neg =>
      obtain rfl : i = 2 := by omega
      gi_wp2
      go_end0
      exact ⟨⟨_, rfl⟩, .inl ⟨_, rfl, hJs⟩⟩
    rcases (show i = 0 ∨ i = 1 by omega) with rfl | rfl
    · have HW : Hid (wordOf s 0 = s.1) := rfl
      have hF0 : From (wordOf s 0) s.1 0 := fun j => by rw [HW.out]; simp
      simp only [show ((0 : Nat) : Int) = 0 from rfl]
      have hix : (Instr.index 115 (.agg #[.int .u64 (s.1 : Int), .int .u64 (s.2 : Int)]) (.int .i64 0)).run Tryz.prog wo = .ok (.int .u64 (s.1 : Int)) wo := by kernel_rfl
      gi_wp2
      gi_loopw [4] (fun v wq => ∃ (y p : Nat), v = .int .u64 (y : Int) ∧ Hid (y < 2 ^ 64) ∧ p ≤ 64 ∧ From (wordOf s 0) y p ∧ J (lst (In s) (64 * 0 + p)) wq ∧ Below n₀ W wq) (fun v _ => (intOf v).toNat)
      case atStart => exact ⟨s.1, 0, rfl, HS.out.1, by omega, hF0, hJs, hnx⟩
      case round =>
        obtain ⟨y, p, rfl, hy, hp, hF, hJ1, hb1⟩ := hrel
        obtain ⟨wi, rfl⟩ : ∃ wi, wi = wr := ⟨_, rfl⟩
        clear hF0 hJs hnx
        by_cases hy0 : y = 0
        · subst hy0
          have HDN : Hid (lst (In s) (64 * (0 + 1)) = lst (In s) (64 * 0 + p)) := hF.done (by omega) hp
          gi_wp2
          go_roundw
          case rel => exact ⟨0 + 1, by omega, by go_num, by rw [HDN.out]; exact hJ1, hb1⟩
          case measure => simp [intOf]
        obtain ⟨k, m, y1, y2, hk, hform, hsub, hand, hy2, hlt, hlst, hF2⟩ := word_facts hF (by omega) hy0 hy.out
        have HFM : Hid (y = 2 ^ (k + 1) * m + 2 ^ k) := hform
        have HY2 : Hid (y2 < 2 ^ 64) := hy2
        have HL : Hid (lst (In s) (64 * 0 + (k + 1)) = lst (In s) (64 * 0 + p) ++ [64 * 0 + k]) := hlst
        have hll := lst_len (In s) (64 * 0 + p)
        have hln : (lst (In s) (64 * 0 + p)).length < 128 := by
          have h1 := lst_len (In s) (64 * 0 + (k + 1))
          rw [hlst, List.length_append] at h1
          simp only [List.length_cons, List.length_nil] at h1
          omega
        obtain ⟨fn, tmps, assign, body, hyy, hR⟩ := hY _ (64 * 0 + k) wi hJ1 hln
        have hyz : ((64 * 0 + k : Nat) : Int) = (k : Int) := by omega
        rw [hyz] at hyy
        have hy0' : ((y : Int) != 0) = true := by
          have h : ¬ (y : Int) = 0 := by omega
          simpa using h
        clear hform hy2 hlst hln hll hyz
        gi_wp2
        refine ⟨trivial, fun _ => by omega, ?_⟩
        refine (callsIn_wide.2 (tz_any y k m _ HFM.out hy.out (HDB.out _ hb1))).mono ?_
        rintro e w1 ⟨rfl, rfl⟩
        gi_wp2
        refine ⟨fun _ => by omega, ?_⟩
        refine hR.mono ?_
        rintro e W3 (⟨rfl, hJ3, hk3⟩ | ⟨rfl, hJx3⟩)
        · gi_wp2
          go_roundw
          case rel => exact ⟨y2, k + 1, rfl, HY2.out, by omega, hF2, by rw [HL.out]; exact hJ3, hb1.trans hk3⟩
          case measure => simpa [intOf] using hlt
        · gi_wp2
          refine bodyPost_ret (results_none rfl _ _ _) rfl ?_
          exact ⟨⟨_, rfl⟩, .inr ⟨_, trivial, hJx3⟩⟩
    · have HW : Hid (wordOf s 1 = s.2) := rfl
      have hF0 : From (wordOf s 1) s.2 0 := fun j => by rw [HW.out]; simp
      simp only [show ((1 : Nat) : Int) = 1 from rfl]
      have hix : (Instr.index 115 (.agg #[.int .u64 (s.1 : Int), .int .u64 (s.2 : Int)]) (.int .i64 1)).run Tryz.prog wo = .ok (.int .u64 (s.2 : Int)) wo := by kernel_rfl
      gi_wp2
      gi_loopw [4] (fun v wq => ∃ (y p : Nat), v = .int .u64 (y : Int) ∧ Hid (y < 2 ^ 64) ∧ p ≤ 64 ∧ From (wordOf s 1) y p ∧ J (lst (In s) (64 * 1 + p)) wq ∧ Below n₀ W wq) (fun v _ => (intOf v).toNat)
      case atStart => exact ⟨s.2, 0, rfl, HS.out.2, by omega, hF0, hJs, hnx⟩
      case round =>
        obtain ⟨y, p, rfl, hy, hp, hF, hJ1, hb1⟩ := hrel
        obtain ⟨wi, rfl⟩ : ∃ wi, wi = wr := ⟨_, rfl⟩
        clear hF0 hJs hnx
        by_cases hy0 : y = 0
        · subst hy0
          have HDN : Hid (lst (In s) (64 * (1 + 1)) = lst (In s) (64 * 1 + p)) := hF.done (by omega) hp
          gi_wp2
          go_roundw
          case rel => exact ⟨1 + 1, by omega, by go_num, by rw [HDN.out]; exact hJ1, hb1⟩
          case measure => simp [intOf]
        obtain ⟨k, m, y1, y2, hk, hform, hsub, hand, hy2, hlt, hlst, hF2⟩ := word_facts hF (by omega) hy0 hy.out
        have HFM : Hid (y = 2 ^ (k + 1) * m + 2 ^ k) := hform
        have HY2 : Hid (y2 < 2 ^ 64) := hy2
        have HL : Hid (lst (In s) (64 * 1 + (k + 1)) = lst (In s) (64 * 1 + p) ++ [64 * 1 + k]) := hlst
        have hll := lst_len (In s) (64 * 1 + p)
        have hln : (lst (In s) (64 * 1 + p)).length < 128 := by
          have h1 := lst_len (In s) (64 * 1 + (k + 1))
          rw [hlst, List.length_append] at h1
          simp only [List.length_cons, List.length_nil] at h1
          omega
        obtain ⟨fn, tmps, assign, body, hyy, hR⟩ := hY _ (64 * 1 + k) wi hJ1 hln
        have hyz : ((64 * 1 + k : Nat) : Int) = 64 + (k : Int) := by omega
        rw [hyz] at hyy
        have hy0' : ((y : Int) != 0) = true := by
          have h : ¬ (y : Int) = 0 := by omega
          simpa using h
        clear hform hy2 hlst hln hll hyz
        gi_wp2
        refine ⟨trivial, fun _ => by omega, ?_⟩
        refine (callsIn_wide.2 (tz_any y k m _ HFM.out hy.out (HDB.out _ hb1))).mono ?_
        rintro e w1 ⟨rfl, rfl⟩
        gi_wp2
        refine ⟨fun _ => by omega, ?_⟩
        refine hR.mono ?_
        rintro e W3 (⟨rfl, hJ3, hk3⟩ | ⟨rfl, hJx3⟩)
        · gi_wp2
          go_roundw
          case rel => exact ⟨y2, k + 1, rfl, HY2.out, by omega, hF2, by rw [HL.out]; exact hJ3, hb1.trans hk3⟩
          case measure => simpa [intOf] using hlt
        · gi_wp2
          refine bodyPost_ret (results_none rfl _ _ _) rfl ?_
          exact ⟨⟨_, rfl⟩, .inr ⟨_, trivial, hJx3⟩⟩

set_option maxHeartbeats 1000000 in
theorem all_any (x y : Int) (w : World) :
    Calls Tryz.prog 92 #[.agg #[.int .u64 x, .int .u64 y]] w fun e w' => e = .returned (.func (.func 124) #[] #[.pointer (some ⟨w.heap.size, 0, none⟩)]) ∧ w' = w.alloc (.cells #[.int .u64 x, .int .u64 y] 115) := by
  go_enter Tryz.func92, Tryz.ntmps92
  go_wp2
  go_ret
  exact ⟨rfl, rfl⟩

theorem all_stops (n : Nat) (hn : 2 ≤ n) (Bs n₀ : Nat) (s : Nat × Nat) (hs : bok s) (w : World) (hBs : w.heap[Bs]? = some (.cells #[.int .u64 (s.1 : Int), .int .u64 (s.2 : Int)] 115 (0, 0))) (hD : DB w) (h00 : 1 < n₀) :
    SeqStopsK Fence.wide n Tryz.prog 124 #[.pointer (some ⟨Bs, 0, none⟩)] (fun x : Nat => #[Value.int .i64 (x : Int)]) (Below n₀) (fun ys => ys = lst (In s) 128) (fun _ => True) 128 w := fun l J Jx W hW _ _ hY h0 =>
  all1_in n hn l Bs n₀ s hs J Jx hY W (block_kept hBs hW) (hD.mono hW) h00 h0
end Go.Proofs.YtcbknjjnphknbaaGreatDoor
