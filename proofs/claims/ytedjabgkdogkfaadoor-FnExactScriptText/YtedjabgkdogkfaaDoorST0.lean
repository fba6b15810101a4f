/-
  The words of acts, as plain data.
-/
import Derived.Test.YtedjabgkdogkfaaDoorSA1
import Derived.Test.YtedjabgkdogkfaaDoorTA
namespace Go.Proofs.YtedjabgkdogkfaaDoor
open Go.RowKit

def inR (n : Int) : Prop := -9223372036854775808 ≤ n ∧ n ≤ 9223372036854775807
def siR (s : Si) : Prop := inR s.f ∧ inR s.pc ∧ inR s.seen ∧ inR s.target
def siW (s : Si) : List ByteArray := [numText s.f, numText s.pc, numText s.seen, numText s.target]
def howW (b : Bool) : ByteArray := if b = true then ⟨#[98, 97, 114, 101]⟩ else ⟨#[109, 97, 100, 101]⟩
def sitesW (ss : List Si) : List ByteArray := ss.flatMap siW
/-- The words of an act that is ok. -/
def actW (x : Ac) : List ByteArray :=
  if x.k = 1 then [⟨#[114, 117, 110]⟩, numText x.a]
  else if x.k = 2 then [⟨#[116, 105, 101, 114]⟩, numText x.a, numText x.l, howW x.s]
  else if x.k = 3 then [⟨#[108, 111, 111, 112]⟩, numText x.a, numText x.b, numText x.l, howW x.s]
  else if x.k = 4 then [⟨#[100, 114, 111, 112]⟩, numText x.a]
  else ⟨#[102, 111, 114, 103, 101]⟩ :: sitesW x.ss
def AcOk (x : Ac) : Prop := AOK x.k x.a x.b x.l x.s x.ss.length
def acsW (xs : List Ac) : List (List ByteArray) := xs.map actW
/-- The acts of which there is a text. -/
def Acts1 (xs : List Ac) : Prop := xs.length ≤ 60 ∧ ∀ x ∈ xs, AcOk x
/-- This is the text of the acts. -/
def TextIs (xs : List Ac) (s : ByteArray) : Prop := (Acts1 xs → s = linesT ⟨#[]⟩ (acsW xs)) ∧ (¬ Acts1 xs → s = ⟨#[]⟩)
theorem TextIs.one {xs : List Ac} {s s' : ByteArray} (h : TextIs xs s) (h' : TextIs xs s') : s = s' := by
  by_cases e : Acts1 xs
  · rw [h.1 e, h'.1 e]
  · rw [h.2 e, h'.2 e]
theorem sitesW_succ (ss : List Si) (k : Nat) (h : k < ss.length) : sitesW (ss.take (k + 1)) = sitesW (ss.take k) ++ siW ss[k] := by
  unfold sitesW
  rw [List.take_succ_eq_append_getElem h, List.flatMap_append]
  simp
theorem sitesW_len (ss : List Si) : (sitesW ss).length = 4 * ss.length := by
  unfold sitesW
  induction ss with
  | nil => rfl
  | cons a l ih => rw [List.flatMap_cons, List.length_append, ih]; simp [siW]; omega
theorem num_small (n : Int) (h : inR n) : (numText n).size ≤ 60 := Nat.le_trans (numText_size n h.1 h.2) (by decide)
theorem how_small (b : Bool) : (howW b).size ≤ 60 := by cases b <;> decide
theorem actW_ok (x : Ac) (h : AcOk x) (hr : ∀ y ∈ x.ss, siR y) : (actW x).length ≤ 3000000 ∧ ∀ t ∈ actW x, t.size ≤ 60 := by
  have hb : (x.k = 1 ∨ x.k = 2 ∨ x.k = 3 ∨ x.k = 4 ∨ x.k = 5) ∧ inR x.a ∧ inR x.b ∧ inR x.l ∧ x.ss.length ≤ 150 := by
    unfold AcOk AOK at h
    unfold inR
    omega
  obtain ⟨hk, ha, hbb, hl, hs⟩ := hb
  have n1 := num_small _ ha
  have n2 := num_small _ hbb
  have n3 := num_small _ hl
  have n4 := how_small x.s
  unfold actW
  split
  · refine ⟨by simp, fun t ht => ?_⟩
    simp only [List.mem_cons, List.not_mem_nil, or_false] at ht
    rcases ht with rfl | rfl
    · decide
    · exact n1
  split
  · refine ⟨by simp, fun t ht => ?_⟩
    simp only [List.mem_cons, List.not_mem_nil, or_false] at ht
    rcases ht with rfl | rfl | rfl | rfl
    · decide
    · exact n1
    · exact n3
    · exact n4
  split
  · refine ⟨by simp, fun t ht => ?_⟩
    simp only [List.mem_cons, List.not_mem_nil, or_false] at ht
    rcases ht with rfl | rfl | rfl | rfl | rfl
    · decide
    · exact n1
    · exact n2
    · exact n3
    · exact n4
  split
  · refine ⟨by simp, fun t ht => ?_⟩
    simp only [List.mem_cons, List.not_mem_nil, or_false] at ht
    rcases ht with rfl | rfl
    · decide
    · exact n1
  · refine ⟨by simp [sitesW_len]; omega, fun t ht => ?_⟩
    rcases List.mem_cons.1 ht with rfl | ht
    · decide
    · unfold sitesW at ht
      obtain ⟨y, hy, hy2⟩ := List.mem_flatMap.1 ht
      obtain ⟨r1, r2, r3, r4⟩ := hr y hy
      unfold siW at hy2
      simp only [List.mem_cons, List.not_mem_nil, or_false] at hy2
      rcases hy2 with rfl | rfl | rfl | rfl
      · exact num_small _ r1
      · exact num_small _ r2
      · exact num_small _ r3
      · exact num_small _ r4
end Go.Proofs.YtedjabgkdogkfaaDoor
