/-
  What impl.DepthsOf and spec.DepthsOf return at every module within the stated sizes and every number; the laws' functions over slices of numbers.
-/
import Derived.Test.YtdbanpmidebjnaaV9
import Derived.Test.YtdbanpmidebjnaaW7
namespace Go.Proofs.Ytdbanpmidebjnaa
open Go.RowKit

theorem fine_of {ts : List ByteArray} {fs : List Fn} (h : modB ts fs = true) {k : Nat} (hk : k < fs.length) : Fine fs fs[k].code := by
  unfold modB at h
  simp only [Bool.and_eq_true, decide_eq_true_eq, List.all_eq_true] at h
  have hall := h.2
  have hf : ∀ f ∈ fs, fnB ts.length fs.length f = true := hall
  have hfn : ∀ f ∈ fs, (0 ≤ f.params ∧ f.params ≤ 6) ∧ 1 ≤ f.code.length ∧ f.code.length ≤ 120 ∧ ∀ x ∈ f.code, insB ts.length fs.length f.locals f.code.length x.1 x.2 = true := by
    intro f hm
    have := hf f hm
    unfold fnB at this
    simp only [Bool.and_eq_true, decide_eq_true_eq, List.all_eq_true] at this
    exact ⟨⟨by omega, by omega⟩, by omega, by omega, this.2⟩
  have hkk := hfn fs[k] (List.getElem_mem hk)
  refine ⟨fun f hm => (hfn f hm).1, hkk.2.1, hkk.2.2.1, fun i hi hj => ?_⟩
  have hx := hkk.2.2.2 fs[k].code[i] (List.getElem_mem hi)
  unfold insB at hx
  rcases hj with e | e | e
  all_goals
    rw [e] at hx
    simp at hx
    omega

/-- What DepthsOf is to answer. -/
def IsDep (ts : List ByteArray) (fs : List Fn) (f : Int) (d : List Int) : Prop :=
  (modB ts fs = true ∧ ∃ (k : Nat) (hk : k < fs.length), f = k ∧ Done fs fs[k].code d) ∨ (¬ (modB ts fs = true ∧ 0 ≤ f ∧ f < fs.length) ∧ d = [])

theorem IsDep.one {ts : List ByteArray} {fs : List Fn} {f : Int} {d e : List Int} (h1 : IsDep ts fs f d) (h2 : IsDep ts fs f e) : d = e := by
  rcases h1 with ⟨hm, k, hk, rfl, hd⟩ | ⟨hn, rfl⟩
  · rcases h2 with ⟨-, k', hk', e', hd'⟩ | ⟨hn, -⟩
    · obtain rfl : k = k' := by omega
      exact hd.one hd'
    · exact absurd ⟨hm, by omega, by omega⟩ hn
  · rcases h2 with ⟨hm, k, hk, rfl, -⟩ | ⟨-, rfl⟩
    · exact absurd ⟨hm, by omega, by omega⟩ hn
    · rfl
theorem IsDep.len {ts : List ByteArray} {fs : List Fn} {f : Int} {d : List Int} (h : IsDep ts fs f d) : d.length ≤ 120 := by
  rcases h with ⟨hm, k, hk, rfl, hd⟩ | ⟨-, rfl⟩
  · have F := fine_of hm hk
    have := F.most
    have := (hd.hts F).len
    omega
  · simp

/-- A slice of numbers in memory from 'base' on. -/
def DSl (w : World) (base : Nat) (v : Value) (d : List Int) : Prop := (d = [] ∧ ∃ a cap, v = .slice a 0 cap) ∨ (∃ g cap, v = .slice (some ⟨g, 0, none⟩) d.length cap ∧ base ≤ g ∧ Ht w g cap d)

theorem DSl.form {w : World} {base : Nat} {v : Value} {d : List Int} (h : DSl w base v d) : ∃ a cap, v = .slice a d.length cap ∧ IntsAt w base a d := by
  rcases h with ⟨rfl, a, cap, rfl⟩ | ⟨g, cap, rfl, hg, hH⟩
  · exact ⟨a, cap, rfl, fun i hi => absurd hi (by simp)⟩
  · exact ⟨_, cap, rfl, hH.ints hg⟩
theorem DSl.mono {w w' : World} {base : Nat} {v : Value} {d : List Int} (h : DSl w base v d) (hb : Below w.heap.size w w') : DSl w' base v d := by
  rcases h with h | ⟨g, cap, rfl, hg, hH⟩
  · exact .inl h
  · exact .inr ⟨g, cap, rfl, hg, hH.mono hb⟩
theorem Ht.keeps {w w' : World} {g cap B : Nat} {ts : List Nat} {d : List Int} (h : Ht w g cap d) (hk : Keeps B ts w w') (ht : 3 ∉ ts) : Ht w' g cap d := by
  obtain ⟨c, h1, h2⟩ := h
  exact ⟨c, hk.cell h1 ht, h2⟩
theorem DSl.keeps {w w' : World} {base B : Nat} {ts : List Nat} {v : Value} {d : List Int} (h : DSl w base v d) (hk : Keeps B ts w w') (ht : 3 ∉ ts) : DSl w' base v d := by
  rcases h with h | ⟨g, cap, rfl, hg, hH⟩
  · exact .inl h
  · exact .inr ⟨g, cap, rfl, hg, hH.keeps hk ht⟩
theorem DSl.low {w : World} {base base' : Nat} {v : Value} {d : List Int} (h : DSl w base v d) (hl : base' ≤ base) : DSl w base' v d := by
  rcases h with h | ⟨g, cap, rfl, hg, hH⟩
  · exact .inl h
  · exact .inr ⟨g, cap, rfl, by omega, hH⟩

end Go.Proofs.Ytdbanpmidebjnaa
