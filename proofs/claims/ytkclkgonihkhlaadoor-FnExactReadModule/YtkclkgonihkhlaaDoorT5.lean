/-
  What the program's own tables hold when the law on ShowModule begins.
-/
import Derived.Test.YtkclkgonihkhlaaDoorT1
import Derived.Test.YtkclkgonihkhlaaDoorRows
import Derived.Lib.LaidTab
import Derived.MakeChecks
import Derived.Stop.LaidErr
namespace Go.Proofs.YtkclkgonihkhlaaDoor
open Go.RowKit

theorem gPow : Tryd.prog.globalNamed "internal/strconv.uint64pow10" = some 2 := by kernel_rfl
theorem gWords : Tryd.prog.globalNamed "loop.example/g00094/impl.opWords" = some 0 := by kernel_rfl
theorem ePow : (Rows.laid_internal_strconv_uint64pow10 : DataW Unit) = Lib.tabData .u64 Lib.pow10Tab := by kernel_rfl
theorem eWords : (Rows.laid_loop_example_g00094_impl_opWords : DataW Unit) = .agg (words.map fun s => .lit (.string s.data.toList)) := by kernel_rfl

/-- An array of strings that reads as these texts holds them, cell for cell. -/
theorem cells_of_texts {H : Type} {enc : TypeId × Value → H} {P : Program} {w : World} {base : Nat} {sp : Nat → Bool} {held : Bool} {fuel : Nat} {t e : TypeId} {n : Nat} {cs : List Value} {ss : List ByteArray} {p : List MemPlace}
    (ht : P.underlying t = some (.array n e)) (he : P.underlying e = some .string) (hce : P.cellsOf e = 1) (hct : P.cellsOf t = n)
    (h : DataW.trod enc P w base sp held fuel t cs = some (.agg (ss.map fun s => .lit (Lit.string s.data.toList)), p)) : ∀ (i : Nat) (s : ByteArray), ss[i]? = some s → cs[i]? = some (Value.string s) := by
  cases fuel with
  | zero => simp [DataW.trod] at h
  | succ fuel =>
    simp only [DataW.trod, ht, hce, hct, Nat.mul_one] at h
    split at h
    · obtain ⟨xs, hm, hx⟩ := Option.map_eq_some_iff.1 h
      have hxs : xs.map (·.1) = ss.map fun s => (DataW.lit (.string s.data.toList) : DataW H) := by
        have := congrArg Prod.fst hx
        simpa using this
      have hxl : xs.length = n := by simpa using Lib.mapM_length hm
      have hzl : ss.length = n := by
        have := congrArg List.length hxs
        simp at this
        omega
      intro i s hs
      have hi : i < n := by rw [← hzl]; exact (List.getElem?_eq_some_iff.1 hs).1
      obtain ⟨b, hb, hf⟩ := Lib.mapM_at hm i i (by simp [hi])
      obtain ⟨s', hc, rfl, _⟩ := DataW.trod_string he hf
      have h1 : cs[i]? = some (.string s') := by
        have := congrArg (·[0]?) hc
        simpa [List.getElem?_take, List.getElem?_drop] using this
      have h2 : (xs.map (·.1))[i]? = some (DataW.lit (.string s'.data.toList) : DataW H) := by simp [hb]
      rw [hxs] at h2
      simp only [List.getElem?_map, hs, Option.map_some, Option.some.injEq, DataW.lit.injEq, Lit.string.injEq] at h2
      have : s' = s := ByteArray.ext (by rw [← Array.toList_inj]; exact h2.symm)
      rw [h1, this]
    · cases h
/-- What the listed tables give the walk. -/
theorem of_laid {W : World} (h : laidMetH Tryd.prog Rows.fnExactShowModuleRow.laid W) : (∀ k s, words[k]? = some s → W.cell? ⟨0, k, none⟩ = some (.string s)) ∧ Lib.TabIs Tryd.prog W "internal/strconv.uint64pow10" .u64 Lib.pow10Tab := by
  rw [MakeChecks.laidMetH_plain _ _ _ (by kernel_rfl)] at h
  have h2 : laidMet Tryd.prog (("internal/strconv.uint64pow10", Lib.tabData .u64 Lib.pow10Tab) :: [("loop.example/g00094/impl.opWords", .agg (words.map fun s => .lit (.string s.data.toList)))]) W := by
    rw [← ePow, ← eWords]
    exact h.tail.tail
  refine ⟨?_, Lib.tabIs_of_head gPow (t := 117) (e := 104) (by kernel_rfl) Tryd.underlying117 Tryd.underlying104 (by kernel_rfl) (by kernel_rfl) h2⟩
  obtain ⟨ps, ⟨g, t, cs, fuel, p, q, hg, ht, hvar, hd, _, _⟩, _⟩ := h2.tail
  obtain rfl := Option.some.inj (gWords.symm.trans hg)
  obtain rfl := Option.some.inj ((show (Tryd.prog.globals[0]?).map (·.type) = some 48 by kernel_rfl).symm.trans ht)
  intro k s hs
  have := World.var?_cell hg hvar k
  rw [this]
  have := cells_of_texts Tryd.underlying48 Tryd.underlying9 (by kernel_rfl) (by kernel_rfl) hd k s hs
  simpa using this
end Go.Proofs.YtkclkgonihkhlaaDoor
