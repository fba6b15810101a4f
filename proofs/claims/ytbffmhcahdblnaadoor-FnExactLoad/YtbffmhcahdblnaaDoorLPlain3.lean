/-
  How great a module is at most that is read off bytes.
-/
import Derived.Test.YtbffmhcahdblnaaDoorLPlain2
namespace Go.Proofs.YtbffmhcahdblnaaDoor

theorem pTexts_small : ∀ (k : Nat) (l r : List Int) (ts : List ByteArray), Byte l → pTexts k l = some (ts, r) → ∀ s ∈ ts, s.size ≤ 60 := by
  intro k
  induction k with
  | zero =>
    intro l r ts _ h
    simp only [pTexts, Option.some.injEq, Prod.mk.injEq] at h
    rw [← h.1]
    simp
  | succ k ih =>
    intro l r ts hb h
    rw [pTexts] at h
    split at h
    · cases h
    · rename_i n l1 h1
      split at h
      · cases h
      · rename_i t l2 h2
        rw [Option.map_eq_some_iff] at h
        obtain ⟨⟨ts', r'⟩, h3, h4⟩ := h
        simp only [Prod.mk.injEq] at h4
        have e1 := pCount_down hb h1
        have b1 : Byte l1 := Byte.tail (by rw [← e1.1]; exact hb)
        have e2 := pText_down b1 h2
        have b2 : Byte l2 := Byte.tail (by rw [← e2.1]; exact b1)
        rw [← h4.1]
        intro s hs
        rcases List.mem_cons.1 hs with rfl | hs
        · rw [e2.2]; have := e1.2; omega
        · exact ih l2 r' ts' b2 h3 s hs
theorem pFunc_small {l r : List Int} {f : Fn} (hb : Byte l) (h : pFunc l = some (f, r)) : f.code.length ≤ 120 := by
  rw [pFunc] at h
  split at h
  · cases h
  · rename_i p l1 h1
    split at h
    · cases h
    · rename_i lo l2 h2
      split at h
      · cases h
      · rename_i k l3 h3
        rw [Option.map_eq_some_iff] at h
        obtain ⟨⟨xs, r'⟩, h4, h5⟩ := h
        simp only [Prod.mk.injEq] at h5
        have e1 := num_pNum hb h1
        have b1 : Byte l1 := Byte.tail (by rw [← e1]; exact hb)
        have e2 := num_pNum b1 h2
        have b2 : Byte l2 := Byte.tail (by rw [← e2]; exact b1)
        have e3 := pCount_down b2 h3
        have b3 : Byte l3 := Byte.tail (by rw [← e3.1]; exact b2)
        have e4 := pCode_down k l3 r' xs b3 h4
        rw [← h5.1]
        show xs.length ≤ 120
        have := e3.2
        omega
theorem pFuncs_small : ∀ (k : Nat) (l r : List Int) (fs : List Fn), Byte l → pFuncs k l = some (fs, r) → ∀ f ∈ fs, f.code.length ≤ 120 := by
  intro k
  induction k with
  | zero =>
    intro l r ts _ h
    simp only [pFuncs, Option.some.injEq, Prod.mk.injEq] at h
    rw [← h.1]
    simp
  | succ k ih =>
    intro l r ts hb h
    rw [pFuncs] at h
    split at h
    · cases h
    · rename_i f l1 h1
      rw [Option.map_eq_some_iff] at h
      obtain ⟨⟨ts', r'⟩, h3, h4⟩ := h
      simp only [Prod.mk.injEq] at h4
      have e1 := pFunc_down hb h1
      have b1 : Byte l1 := Byte.tail (by rw [← e1]; exact hb)
      rw [← h4.1]
      intro g hg
      rcases List.mem_cons.1 hg with rfl | hg
      · exact pFunc_small hb h1
      · exact ih l1 r' ts' b1 h3 g hg
theorem pModule_small {l r : List Int} {ts : List ByteArray} {fs : List Fn} (hb : Byte l) (h : pModule l = some ((ts, fs), r)) : Small ts fs := by
  rw [pModule] at h
  split at h
  · cases h
  · rename_i k l1 h1
    split at h
    · cases h
    · rename_i ts' l2 h2
      split at h
      · cases h
      · rename_i m l3 h3
        rw [Option.map_eq_some_iff] at h
        obtain ⟨⟨fs', r'⟩, h4, h5⟩ := h
        simp only [Prod.mk.injEq] at h5
        obtain ⟨⟨rfl, rfl⟩, rfl⟩ := h5
        have e1 := pCount_down hb h1
        have b1 : Byte l1 := Byte.tail (by rw [← e1.1]; exact hb)
        have e2 := pTexts_down k l1 l2 ts' b1 h2
        have b2 : Byte l2 := Byte.tail (by rw [← e2.1]; exact b1)
        have e3 := pCount_down b2 h3
        have b3 : Byte l3 := Byte.tail (by rw [← e3.1]; exact b2)
        have e4 := pFuncs_down m l3 r' fs' b3 h4
        have s2 := pTexts_small k l1 l2 ts' b1 h2
        have s4 := pFuncs_small m l3 r' fs' b3 h4
        have g1 := e1.2
        have g3 := e3.2
        refine ⟨by rw [e2.2]; omega, fun s hs => by have := s2 s hs; omega, by rw [e4.2]; omega, fun f hf => by have := s4 f hf; omega⟩
end Go.Proofs.YtbffmhcahdblnaaDoor
