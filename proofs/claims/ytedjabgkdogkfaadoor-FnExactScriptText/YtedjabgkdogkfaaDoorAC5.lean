/-
  What the table of limits holds when a law begins.
-/
import Derived.Test.YtedjabgkdogkfaaDoorAC0
import Derived.Test.YtedjabgkdogkfaaDoorRows
import Derived.Lib.LaidTab
import Derived.MakeChecks
import Derived.Stop.LaidErr
namespace Go.Proofs.YtedjabgkdogkfaaDoor
open Go.RowKit

def limL : List (List Lit) := lims.map fun r => [.int .i64 r.1, .int .i64 r.2.1, .int .i64 r.2.2.1, .bool r.2.2.2.1, .int .i64 r.2.2.2.2]
def litV : Lit → Value
  | .int k n => .int k n
  | .bool b => .bool b
  | _ => undef
theorem gLim : Tryd.prog.globalNamed "loop.example/g00094/impl.actLimits" = some 0 := by kernel_rfl
theorem eLim : (Rows.laid_loop_example_g00094_impl_actLimits : DataW Unit) = .agg (limL.map fun r => .agg (r.map fun (z : Lit) => .lit z)) := by kernel_rfl
theorem lim_len : limL.length = 6 := by decide
theorem cs3 : Tryd.prog.cellsOf 3 = 1 := by kernel_rfl
theorem cs4 : Tryd.prog.cellsOf 4 = 1 := by kernel_rfl
theorem cs37 : Tryd.prog.cellsOf 55 = 5 := by kernel_rfl
theorem cs38 : Tryd.prog.cellsOf 56 = 30 := by kernel_rfl
theorem lim_row : ∀ r ∈ limL, r.length = 5 := by decide
set_option maxRecDepth 100000 in
theorem cells_of_rows {H : Type} {enc : TypeId × Value → H} {w : World} {base : Nat} {sp : Nat → Bool} {held : Bool} {fuel : Nat} {cs : List Value} {p : List MemPlace}
    (h : DataW.trod enc Tryd.prog w base sp held fuel 56 cs = some (.agg (limL.map fun r => .agg (r.map fun (z : Lit) => .lit z)), p)) : ∀ op j (hop : op < limL.length) (hj : j < limL[op].length), cs[op * 5 + j]? = some (litV limL[op][j]) := by
  cases fuel with
  | zero => simp [DataW.trod] at h
  | succ fuel =>
    simp only [DataW.trod, Tryd.underlying56, cs37, cs38] at h
    split at h
    · obtain ⟨xs, hm, hx⟩ := Option.map_eq_some_iff.1 h
      have hxs : xs.map (·.1) = limL.map fun r => (DataW.agg (r.map fun (z : Lit) => .lit z) : DataW H) := by
        have := congrArg Prod.fst hx
        simpa using this
      intro op j hop hj
      obtain ⟨b, hb, hf⟩ := Lib.mapM_at hm op op (by rw [lim_len] at hop; simp [hop])
      have h2 : (xs.map (·.1))[op]? = some b.1 := by simp [hb]
      rw [hxs, List.getElem?_map, List.getElem?_eq_getElem hop] at h2
      obtain ⟨r, hr⟩ : ∃ r, r = limL[op] := ⟨_, rfl⟩
      have hrl : r.length = 5 := by rw [hr]; exact lim_row _ (List.getElem_mem hop)
      have hb1 : b.1 = DataW.agg (r.map fun (z : Lit) => .lit z) := by rw [hr]; simpa using h2.symm
      obtain ⟨ys, n', _, rfl, _, hyl, hg⟩ := DataW.trod_struct Tryd.underlying55 hf
      have hys : ys.map (·.1) = r.map fun (z : Lit) => (DataW.lit z : DataW H) := by simpa using hb1
      have hjr : j < r.length := by rw [hr]; exact hj
      have e0 : limL[op][j] = r[j] := by simp only [hr]
      rw [e0]
      have key : ∀ y, ys[j]? = some y → y.1 = DataW.lit r[j] := fun y hy => by
        have h3 : (ys.map (·.1))[j]? = some y.1 := by simp [hy]
        rw [hys, List.getElem?_map, List.getElem?_eq_getElem hjr] at h3
        simpa using h3.symm
      have hyl5 : ys.length = 5 := hyl
      have fin : ∀ y, ys[j]? = some y → DataW.trod enc Tryd.prog w base sp held n' 3 ((((cs.drop (op * 5)).take 5).drop j).take 1) = some y → cs[op * 5 + j]? = some (litV r[j]) := fun y hy ht => by
        obtain ⟨z, hc, rfl, _⟩ := DataW.trod_int Tryd.underlying3 ht
        have h4 := key _ hy
        simp at h4
        rw [← h4]
        have h5 := congrArg (·[0]?) hc
        simp [List.getElem?_drop, show j < 5 by omega] at h5
        rw [h5]; rfl
      have fin4 : ∀ y, ys[j]? = some y → DataW.trod enc Tryd.prog w base sp held n' 4 ((((cs.drop (op * 5)).take 5).drop j).take 1) = some y → cs[op * 5 + j]? = some (litV r[j]) := fun y hy ht => by
        obtain ⟨z, hc, rfl⟩ := DataW.trod_bool Tryd.underlying4 ht
        have h4 := key _ hy
        simp at h4
        rw [← h4]
        have h5 := congrArg (·[0]?) hc
        simp [List.getElem?_drop, show j < 5 by omega] at h5
        rw [h5]; rfl
      have yj : ys[j]? = some (ys[j]'(by omega)) := List.getElem?_eq_getElem (by omega)
      have hj5 : j = 0 ∨ j = 1 ∨ j = 2 ∨ j = 3 ∨ j = 4 := by omega
      rcases hj5 with rfl | rfl | rfl | rfl | rfl
      · exact fin _ yj (by rw [← yj]; simpa [cs3] using hg 0 _ rfl)
      · exact fin _ yj (by rw [← yj]; simpa [cs3] using hg 1 _ rfl)
      · exact fin _ yj (by rw [← yj]; simpa [cs3] using hg 2 _ rfl)
      · exact fin4 _ yj (by rw [← yj]; simpa [cs4] using hg 3 _ rfl)
      · exact fin _ yj (by rw [← yj]; simpa [cs3] using hg 4 _ rfl)
    · cases h
theorem of_laid {W : World} (h : laidMetH Tryd.prog Rows.fnExactScriptTextRow.laid W) : LimAt W := by
  rw [MakeChecks.laidMetH_plain _ _ _ (by kernel_rfl)] at h
  have h3 : laidMet Tryd.prog (("loop.example/g00094/impl.actLimits", .agg (limL.map fun r => .agg (r.map fun (z : Lit) => .lit z))) :: []) W := by
    rw [← eLim]
    exact h.tail.tail.tail
  obtain ⟨ps, ⟨g, t, cs, fuel, p, q, hg, ht, hvar, hd, _, _⟩, _⟩ := h3
  obtain rfl := Option.some.inj (gLim.symm.trans hg)
  obtain rfl := Option.some.inj ((show (Tryd.prog.globals[0]?).map (·.type) = some 56 by kernel_rfl).symm.trans ht)
  have key := cells_of_rows hd
  intro k hk
  have hk' : k < limL.length := by unfold limL; rw [List.length_map]; exact hk
  have e : limL[k] = [.int .i64 lims[k].1, .int .i64 lims[k].2.1, .int .i64 lims[k].2.2.1, .bool lims[k].2.2.2.1, .int .i64 lims[k].2.2.2.2] := by
    simp only [limL, List.getElem_map]
    rfl
  have hl : limL[k].length = 5 := by rw [e]; rfl
  have hv : ∀ j (hj : j < limL[k].length), W.cell? ⟨0, k * 5 + j, none⟩ = some (litV limL[k][j]) := fun j hj => by
    have := World.var?_cell hg hvar (k * 5 + j)
    rw [this]
    have := key k j hk' hj
    simpa using this
  have v0 := hv 0 (by omega)
  have v1 := hv 1 (by omega)
  have v2 := hv 2 (by omega)
  have v3 := hv 3 (by omega)
  have v4 := hv 4 (by omega)
  simp only [e] at v0 v1 v2 v3 v4
  exact ⟨v0, v1, v2, v3, v4⟩
end Go.Proofs.YtedjabgkdogkfaaDoor
