/-
  How a module of the call's own stands where other blocks are written.
-/
import Derived.Test.YtbffmhcahdblnaaDoorN2
namespace Go.Proofs.YtbffmhcahdblnaaDoor
open Go.RowKit

/-- The module's rows lie in blocks below X. -/
structure ModLt (X : Nat) (a1 a2 : Option Addr) (cs : List (Option Addr × Nat)) : Prop where
  texts : ∀ g, a1 = some ⟨g, 0, none⟩ → g < X
  funcs : ∀ g, a2 = some ⟨g, 0, none⟩ → g < X
  codes : ∀ i (h : i < cs.length) g, cs[i].1 = some ⟨g, 0, none⟩ → g < X

theorem ModOwn.lt {w : World} {base c1 c2 : Nat} {a1 a2 : Option Addr} {ts : List ByteArray} {fs : List Fn} {cs : List (Option Addr × Nat)} (h : ModOwn w base a1 c1 a2 c2 ts fs cs) : ModLt w.heap.size a1 a2 cs :=
  ⟨fun _ hg => (own_lt h.texts hg).2, fun _ hg => (own_lt h.funcs hg).2, fun i hi _ hg => (own_lt (h.codes.own i (by rw [h.codes.len]; exact hi) hi) hg).2⟩
theorem own_far {w w' : World} {base e size n c X : Nat} {a : Option Addr} {xs : List Value} (h : w.ownsRow base e size (.slice a n c) n xs) (hl : ∀ g, a = some ⟨g, 0, none⟩ → g < X) (hb : Below X w w') : w'.ownsRow base e size (.slice a n c) n xs := by
  refine ⟨h.1, ?_⟩
  rcases h.2 with hn | ⟨g, cap, cur, hv, hbg, hg, r⟩
  · exact .inl hn
  · refine .inr ⟨g, cap, cur, hv, hbg, ?_, r⟩
    cases hv
    rw [hb.block g (hl g rfl)]
    exact hg
theorem ModOwn.far {w w' : World} {base c1 c2 X : Nat} {a1 a2 : Option Addr} {ts : List ByteArray} {fs : List Fn} {cs : List (Option Addr × Nat)} (h : ModOwn w base a1 c1 a2 c2 ts fs cs) (hl : ModLt X a1 a2 cs) (hb : Below X w w') : ModOwn w' base a1 c1 a2 c2 ts fs cs :=
  ⟨own_far h.texts hl.texts hb, own_far h.funcs hl.funcs hb, ⟨h.codes.len, fun i hi hi' => own_far (h.codes.own i hi hi') (hl.codes i hi') hb, h.codes.order⟩⟩
theorem CodesOwn.snoc2 {w : World} {base X X' : Nat} {fs : List Fn} {cs : List (Option Addr × Nat)} {f : Fn} {a : Option Addr} {c : Nat} (h : CodesOwn w base fs cs) (hl : ∀ i (h : i < cs.length) g, cs[i].1 = some ⟨g, 0, none⟩ → g < X) (hX : X ≤ X') (hb : base ≤ X')
    (hf : w.ownsRow X' 47 2 (.slice a f.code.length c) f.code.length (codeVals f.code)) : CodesOwn w base (fs ++ [f]) (cs ++ [(a, c)]) := by
  refine ⟨by simp [h.len], fun i hi hi' => ?_, fun i j hij hj g g' hg hg' => ?_⟩
  · by_cases e : i < fs.length
    · have e' : i < cs.length := by rw [← h.len]; exact e
      simp only [List.getElem_append_left e, List.getElem_append_left e']
      exact h.own i e e'
    · have e1 : i = fs.length := by simp at hi; omega
      subst e1
      have e2 : (cs ++ [(a, c)])[fs.length]'hi' = (a, c) := by simp [h.len]
      have e3 : (fs ++ [f])[fs.length]'hi = f := by simp
      rw [e2, e3]
      exact own_low hf hb
  · have hjl : j < cs.length + 1 := by simpa using hj
    have ei : i < cs.length := by omega
    rw [List.getElem_append_left ei] at hg
    by_cases e : j < cs.length
    · rw [List.getElem_append_left e] at hg'
      exact h.order i j hij e g g' hg hg'
    · have e1 : j = cs.length := by omega
      subst e1
      have e2 : (cs ++ [(a, c)])[cs.length]'hj = (a, c) := by simp
      rw [e2] at hg'
      have k1 := hl i ei g hg
      have k2 := (own_lt hf hg').1
      omega
theorem modBytes_pos (ts : List ByteArray) (fs : List Fn) : 0 < (modBytes ts fs).length := by
  have h : ∀ n : Int, 0 < (num n).length := by
    intro n
    unfold num
    cases zig n with
    | zero => simp [groups]
    | succ x => unfold groups; split <;> simp
  unfold modBytes
  have := h ts.length
  simp only [List.length_append]
  omega
theorem saved_is {bs : List Int} {ts : List ByteArray} {fs : List Fn} (h : saved ts fs = bs) (h0 : 0 < bs.length) : modB ts fs = true ∧ bs = modBytes ts fs := by
  unfold saved at h
  split at h
  · rename_i hh
    exact ⟨hh.1, h.symm⟩
  · subst h
    simp at h0
theorem saved_mod {ts : List ByteArray} {fs : List Fn} (h : modB ts fs = true) : saved ts fs = modBytes ts fs := by
  unfold saved
  rw [if_pos ⟨h, modBytes_len h⟩]
end Go.Proofs.YtbffmhcahdblnaaDoor
