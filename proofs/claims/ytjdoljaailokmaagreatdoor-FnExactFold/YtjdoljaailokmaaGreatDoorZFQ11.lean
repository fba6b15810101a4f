/-
  The module is good: the document's word.
  Where blocks and loops begin, on plain data; what the sets of bits hold; lists of what is marked.
-/
import Derived.Test.YtjdoljaailokmaaGreatDoorZV14
import Derived.Test.YtjdoljaailokmaaGreatDoorZV15
import Derived.Test.YtjdoljaailokmaaGreatDoorZW2
import Derived.Test.YtjdoljaailokmaaGreatDoorZL3
namespace Go.Proofs.YtjdoljaailokmaaGreatDoor
open Go.RowKit

open Classical in
noncomputable def pB (P : Prop) : Bool := decide P
theorem pB_yes {P : Prop} (h : P) : pB P = true := by simpa [pB] using h
theorem pB_no {P : Prop} (h : ¬ P) : pB P = false := by simpa [pB] using h

/-- The module is good. -/
def Good (ts : List ByteArray) (fs : List Fn) : Prop := ∃ f a, VPost ts fs 0 f a
theorem VPost.good {ts : List ByteArray} {fs : List Fn} {c f a : Int} (h : VPost ts fs c f a) : c = 0 ↔ Good ts fs :=
  ⟨fun e => by subst e; exact ⟨f, a, h⟩, fun ⟨f', a', h'⟩ => (h.one h').1⟩

set_option maxRecDepth 100000 in
set_option maxHeartbeats 1000000 in
theorem sGood_any (a1 a2 : Option Addr) (c1 c2 : Nat) (ts : List ByteArray) (fs : List Fn) (w : World) (hs : Small ts fs) (hst : StrsAt w 0 a1 ts) (hfn : FnsAt w 0 a2 fs) :
    Calls Tryz.prog 13 #[.agg #[.slice a1 ts.length c1, .slice a2 fs.length c2]] w fun e w' => e = .returned (.bool (pB (Good ts fs))) ∧ Below w.heap.size w w' := by
  have hbA : Below w.heap.size w (w.alloc (.cells #[.slice a1 ts.length c1, .slice a2 fs.length c2] 29)) := (Below.refl _ _).alloc (Nat.le_refl _) _
  go_enter Tryz.func13, Tryz.ntmps13
  go_wp2_with fail
  refine (sVerify_any _ _ _ _ ts fs _ hs (hst.mono hbA) (hfn.mono hbA)).mono ?_
  rintro e w1 ⟨c, f, a, rfl, hV, hb⟩
  have HG : Hid (c = 0 ↔ Good ts fs) := hV.good
  clear hV
  have hfld : (Instr.field 60 (.agg #[.int .i64 c, .int .i64 f, .int .i64 a]) 0).run Tryz.prog w1 = .ok (.int .i64 c) w1 := by kernel_rfl
  go_wp2
  go_ret
  refine ⟨ret_bool ?_, hbA.trans (hb.mono hbA.size)⟩
  by_cases h : Good ts fs
  · rw [pB_yes h, HG.out.2 h]; rfl
  · rw [pB_no h]; simpa using fun e => h (HG.out.1 e)

end Go.Proofs.YtjdoljaailokmaaGreatDoor

namespace Go.Proofs.YtjdoljaailokmaaGreatDoor
open Go.RowKit

/-- The leaders that the first k instructions tell. -/
def LP (code : List (Int × Int)) (d : List Int) : Nat → Nat → Prop
  | 0, j => j = 0
  | k + 1, j => LP code d k j ∨ (isJ code d k ∧ ((j : Int) = (code.getD k (0, 0)).2 ∨ ((code.getD k (0, 0)).1 ≠ 17 ∧ j = k + 1)))
/-- The heads that the first k instructions tell. -/
def HP (code : List (Int × Int)) (d : List Int) : Nat → Nat → Prop
  | 0, _ => False
  | k + 1, j => HP code d k j ∨ (isJ code d k ∧ (code.getD k (0, 0)).2 ≤ k ∧ (j : Int) = (code.getD k (0, 0)).2)
/-- What is known of jumps in a good module. -/
structure GJ (code : List (Int × Int)) (d : List Int) : Prop where
  one : 1 ≤ code.length
  most : code.length ≤ 120
  jump : ∀ k, k < code.length → isJ code d k → 0 ≤ (code.getD k (0, 0)).2 ∧ (code.getD k (0, 0)).2 < code.length ∧ ((code.getD k (0, 0)).1 ≠ 17 → k + 1 < code.length)

theorem LP.zero (code : List (Int × Int)) (d : List Int) (k : Nat) : LP code d k 0 := by
  induction k with
  | zero => rfl
  | succ k ih => exact .inl ih
theorem LP.lt {code : List (Int × Int)} {d : List Int} (G : GJ code d) {k j : Nat} (hk : k ≤ code.length) (h : LP code d k j) : j < code.length := by
  induction k with
  | zero => have := G.one; have h' : j = 0 := h; omega
  | succ k ih =>
    rcases h with h | ⟨h1, h2⟩
    · exact ih (by omega) h
    · have := G.jump k (by omega) h1
      rcases h2 with h2 | ⟨h2, h3⟩
      · omega
      · have := this.2.2 h2; omega
theorem HP.lt {code : List (Int × Int)} {d : List Int} (G : GJ code d) {k j : Nat} (hk : k ≤ code.length) (h : HP code d k j) : j < code.length := by
  induction k with
  | zero => exact h.elim
  | succ k ih =>
    rcases h with h | ⟨h1, h2, h3⟩
    · exact ih (by omega) h
    · have := G.jump k (by omega) h1
      omega

theorem fstep_lo {st : (Nat × Nat) × (Nat × Nat)} {x : Jp} {j : Nat} (hj : j < 128) : bhas (fstep st x).1 j = true ↔ bhas st.1 j = true ∨ j = x.a ∨ (x.op ≠ 17 ∧ j = x.at' + 1) := by
  unfold fstep
  dsimp only
  have h1 := x.h1
  have h2 := x.h2
  by_cases h : x.op = 17
  · rw [if_pos h, bhas_bw h2 hj, Bool.or_eq_true, decide_eq_true_eq]
    constructor
    · rintro (h | h)
      · exact .inl h
      · exact .inr (.inl h.symm)
    · rintro (h' | h' | ⟨h', -⟩)
      · exact .inl h'
      · exact .inr h'.symm
      · exact absurd h h'
  · rw [if_neg h, bhas_bw h1 hj, bhas_bw h2 hj, Bool.or_eq_true, Bool.or_eq_true, decide_eq_true_eq, decide_eq_true_eq]
    constructor
    · rintro ((h' | h') | h')
      · exact .inl h'
      · exact .inr (.inl h'.symm)
      · exact .inr (.inr ⟨h, h'.symm⟩)
    · rintro (h' | h' | ⟨-, h'⟩)
      · exact .inl (.inl h')
      · exact .inl (.inr h'.symm)
      · exact .inr h'.symm
theorem fstep_hi {st : (Nat × Nat) × (Nat × Nat)} {x : Jp} {j : Nat} (hj : j < 128) : bhas (fstep st x).2 j = true ↔ bhas st.2 j = true ∨ (x.a ≤ x.at' ∧ j = x.a) := by
  unfold fstep
  dsimp only
  have h2 := x.h2
  by_cases h : x.a ≤ x.at'
  · rw [if_pos h, bhas_bw h2 hj, Bool.or_eq_true, decide_eq_true_eq]
    constructor
    · rintro (h' | h')
      · exact .inl h'
      · exact .inr ⟨h, h'.symm⟩
    · rintro (h' | ⟨-, h'⟩)
      · exact .inl h'
      · exact .inr h'.symm
  · rw [if_neg h]
    constructor
    · exact .inl
    · rintro (h' | ⟨h', -⟩)
      · exact h'
      · exact absurd h' h

theorem getD_at {code : List (Int × Int)} {k : Nat} (hk : k < code.length) : code.getD k (0, 0) = code[k] := by rw [List.getD_eq_getElem?_getD, List.getElem?_eq_getElem hk]; rfl

/-- What the sets of bits hold. -/
theorem flow_bits {code : List (Int × Int)} {d : List Int} (HJ : JOk code) {k : Nat} (hk : k ≤ code.length) : ∀ j, j < 128 → (bhas (flowB (jl code d k)).1 j = true ↔ LP code d k j) ∧ (bhas (flowB (jl code d k)).2 j = true ↔ HP code d k j) := by
  induction k with
  | zero =>
    intro j hj
    refine ⟨?_, ?_⟩
    · show bhas (1, 0) j = true ↔ j = 0
      have := bhas_bw (s := (0, 0)) (k := 0) (j := j) (by decide) hj
      rw [show bw (0, 0) 0 = (1, 0) from rfl, bhas_zero, Bool.false_or] at this
      rw [this, decide_eq_true_eq]
      exact eq_comm
    · show bhas (0, 0) j = true ↔ False
      rw [bhas_zero]; simp
  | succ k ih =>
    intro j hj
    obtain ⟨i1, i2⟩ := ih (by omega) j hj
    by_cases h : isJ code d k
    · obtain ⟨x, hx1, hx2, hx3, hx4⟩ := jl_yes HJ (by omega) h
      rw [hx4, flowB_snoc]
      have e := getD_at (code := code) (k := k) (by omega)
      refine ⟨?_, ?_⟩
      · rw [fstep_lo hj, i1]
        show _ ↔ LP code d k j ∨ (isJ code d k ∧ ((j : Int) = (code.getD k (0, 0)).2 ∨ ((code.getD k (0, 0)).1 ≠ 17 ∧ j = k + 1)))
        rw [e, ← hx2, ← hx3, hx1]
        constructor
        · rintro (h' | h' | h')
          · exact .inl h'
          · exact .inr ⟨h, .inl (by omega)⟩
          · exact .inr ⟨h, .inr h'⟩
        · rintro (h' | ⟨-, h' | h'⟩)
          · exact .inl h'
          · exact .inr (.inl (by omega))
          · exact .inr (.inr h')
      · rw [fstep_hi hj, i2]
        show _ ↔ HP code d k j ∨ (isJ code d k ∧ (code.getD k (0, 0)).2 ≤ k ∧ (j : Int) = (code.getD k (0, 0)).2)
        rw [e, ← hx3, hx1]
        constructor
        · rintro (h' | h')
          · exact .inl h'
          · exact .inr ⟨h, by omega, by omega⟩
        · rintro (h' | ⟨-, h1, h2⟩)
          · exact .inl h'
          · exact .inr ⟨by omega, by omega⟩
    · rw [jl_no h, i1, i2]
      exact ⟨⟨.inl, fun h' => h'.elim id (fun h' => absurd h'.1 h)⟩, ⟨.inl, fun h' => h'.elim id (fun h' => absurd h'.1 h)⟩⟩

/-- The places at which P holds, rising. -/
noncomputable def lst (P : Nat → Prop) (n : Nat) : List Nat := (List.range n).filter fun j => pB (P j)
noncomputable def lstI (P : Nat → Prop) (n : Nat) : List Int := (lst P n).map fun (j : Nat) => (j : Int)
theorem lst_yes {P : Nat → Prop} {k : Nat} (h : P k) : lst P (k + 1) = lst P k ++ [k] := by simp [lst, List.range_succ, pB_yes h]
theorem lst_no {P : Nat → Prop} {k : Nat} (h : ¬ P k) : lst P (k + 1) = lst P k := by simp [lst, List.range_succ, pB_no h]
theorem lstI_yes {P : Nat → Prop} {k : Nat} (h : P k) : lstI P (k + 1) = lstI P k ++ [(k : Int)] := by simp [lstI, lst_yes h]
theorem lstI_no {P : Nat → Prop} {k : Nat} (h : ¬ P k) : lstI P (k + 1) = lstI P k := by simp [lstI, lst_no h]
theorem lst_len (P : Nat → Prop) (n : Nat) : (lst P n).length ≤ n := by
  have := List.length_filter_le (fun j => pB (P j)) (List.range n)
  simpa [lst] using this
theorem lstI_len (P : Nat → Prop) (n : Nat) : (lstI P n).length ≤ n := by simpa [lstI] using lst_len P n
theorem mem_lst {P : Nat → Prop} {n j : Nat} : j ∈ lst P n ↔ j < n ∧ P j := by
  unfold lst
  rw [List.mem_filter, List.mem_range]
  constructor
  · rintro ⟨h1, h2⟩
    refine ⟨h1, ?_⟩
    by_cases h : P j
    · exact h
    · rw [pB_no h] at h2; cases h2
  · rintro ⟨h1, h2⟩
    exact ⟨h1, pB_yes h2⟩

/-- What is known of the jumps of a function of a good module. -/
theorem gj_of {ts : List ByteArray} {fs : List Fn} (hG : Good ts fs) {f : Nat} (hf : f < fs.length) {d : List Int} (hD : Done fs fs[f].code d) : GJ fs[f].code d ∧ JOk fs[f].code ∧ modB ts fs = true := by
  obtain ⟨f', a', hV⟩ := hG
  rcases hV with ⟨-, h, -⟩ | ⟨hm, hT⟩
  · cases h
  have F := fine_of hm hf
  have hc : Clear fs fs[f].code fs[f].code.length := by
    rcases hT with ⟨-, -, -, h⟩ | ⟨g, hg, k, d', -, -, -, -, -, h, -⟩
    · exact h f hf
    · exact absurd rfl h
  refine ⟨⟨F.one, F.most, fun k hk hj => ?_⟩, ⟨F.most, fun k hk hj => ?_⟩, hm⟩
  · have e := getD_at (code := fs[f].code) hk
    have H := hD.hts F
    obtain ⟨h1, h2⟩ := hj
    rw [e] at h2 ⊢
    have hjp := F.jump k hk h2
    refine ⟨hjp.1, hjp.2, fun h17 => ?_⟩
    have ht := hc d hD k hk
    unfold troubleB at ht
    simp only [e] at ht
    have hdk : ¬ d.getD k (-1) < 0 := by
      rw [H.get hk] at h1 ⊢
      have := H.low k (by rw [H.len]; exact hk)
      omega
    rw [if_neg hdk] at ht
    split at ht
    · cases ht
    split at ht
    · cases ht
    rename_i hno
    simp only [List.any_eq_true, not_exists, not_and, decide_eq_true_eq] at hno
    have := hno ((k : Int) + 1) (by unfold nextB; rw [if_neg (by omega), if_neg h17, if_pos (by omega)]; simp)
    omega
  · have e := getD_at (code := fs[f].code) hk
    rw [e] at hj ⊢
    have := F.jump k hk hj
    have := F.most
    omega
end Go.Proofs.YtjdoljaailokmaaGreatDoor
