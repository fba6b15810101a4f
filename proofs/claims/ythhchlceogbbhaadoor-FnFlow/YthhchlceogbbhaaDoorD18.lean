/-
  What was drawn, as lists of texts and functions; what a good module's heights are; two troubles compared.
-/
import Derived.Test.YthhchlceogbbhaaDoorG7
import Derived.Test.YthhchlceogbbhaaDoorG11
import Derived.Test.YthhchlceogbbhaaDoorV14
import Derived.Test.YthhchlceogbbhaaDoorV15
import Derived.Laws.StructEq
namespace Go.Proofs.YthhchlceogbbhaaDoor
open Go.RowKit

theorem strs_of {w : World} {B n tc : Nat} {ta : Option Addr} (h : RowT w B (.slice ta n tc) n) : ∃ ts : List ByteArray, ts.length = n ∧ StrsAt w 0 ta ts ∧ ∀ s ∈ ts, s.size ≤ 1000 := by
  obtain ⟨vs, ho, hv⟩ := h
  have hl : vs.length = n := by have := ho.1; omega
  obtain ⟨ts, hts, hsz⟩ : ∃ ts : List ByteArray, vs = ts.map Value.string ∧ ∀ s ∈ ts, s.size ≤ 1000 := by
    clear ho hl
    induction vs with
    | nil => exact ⟨[], rfl, by simp⟩
    | cons v vs ih =>
      obtain ⟨ts, h1, h2⟩ := ih (fun u hu => hv u (List.mem_cons_of_mem _ hu))
      obtain ⟨s, rfl, hs⟩ := hv v (List.mem_cons_self ..)
      exact ⟨s :: ts, by rw [h1]; rfl, fun x hx => by
        rcases List.mem_cons.1 hx with rfl | hx
        · exact hs
        · exact h2 x hx⟩
  subst hts
  have hlen : ts.length = n := by simpa using hl
  refine ⟨ts, hlen, fun i hi => ?_, hsz⟩
  obtain ⟨g, rfl, -, -, -, hc⟩ := own_cells ho (by omega)
  exact ⟨g, 0, rfl, Nat.zero_le _, by rw [Nat.zero_add]; exact hc i _ (by simp [hi])⟩

theorem code_of {w : World} {B n cc : Nat} {ca : Option Addr} (h : RowI w B (.slice ca n cc) n) : ∃ xs : List (Int × Int), xs.length = n ∧ CodeAt w 0 ca xs := by
  obtain ⟨vs, ho, hv⟩ := h
  have hl : vs.length = n * 2 := ho.1
  have hz : ∀ i (hi : i < vs.length), ∃ z : Int, vs[i] = .int .i64 z := fun i hi => hv _ (List.getElem_mem hi)
  have num : ∀ i, ∃ z : Int, i < vs.length → vs[i]? = some (.int .i64 z) := fun i => by
    by_cases hi : i < vs.length
    · obtain ⟨z, e⟩ := hz i hi
      exact ⟨z, fun _ => by rw [List.getElem?_eq_getElem hi, e]⟩
    · exact ⟨0, fun h => absurd h hi⟩
  obtain ⟨z, hzz⟩ : ∃ z : Nat → Int, ∀ i, i < vs.length → vs[i]? = some (.int .i64 (z i)) := ⟨fun i => Classical.choose (num i), fun i hi => Classical.choose_spec (num i) hi⟩
  refine ⟨(List.range n).map fun i => (z (i * 2), z (i * 2 + 1)), by simp, fun i hi => ?_⟩
  have hi' : i < n := by simpa using hi
  obtain ⟨g, rfl, -, -, -, hc⟩ := own_cells ho (by omega)
  refine ⟨g, 0, rfl, Nat.zero_le _, ?_, ?_⟩
  · rw [Nat.zero_add]
    simpa using hc (i * 2) _ (hzz _ (by omega))
  · rw [Nat.zero_add]
    simpa using hc (i * 2 + 1) _ (hzz _ (by omega))

theorem fns_of {w : World} {B fc : Nat} {fa : Option Addr} {hs : List HF} (h : RowG w B (.slice fa hs.length fc) hs) : ∃ fs : List Fn, fs.length = hs.length ∧ FnsAt w 0 fa fs ∧ ∀ f ∈ fs, f.code.length ≤ 60000 := by
  have cd : ∀ i, ∃ xs : List (Int × Int), ∀ (hi : i < hs.length), xs.length = hs[i].n ∧ CodeAt w 0 hs[i].ca xs := fun i => by
    by_cases hi : i < hs.length
    · obtain ⟨xs, h1, h2⟩ := code_of (h.code hs[i] (List.getElem_mem hi)).1
      exact ⟨xs, fun _ => ⟨h1, h2⟩⟩
    · exact ⟨[], fun h => absurd h hi⟩
  obtain ⟨c, hc⟩ : ∃ c : Nat → List (Int × Int), ∀ i (hi : i < hs.length), (c i).length = hs[i].n ∧ CodeAt w 0 hs[i].ca (c i) := ⟨fun i => Classical.choose (cd i), fun i hi => Classical.choose_spec (cd i) hi⟩
  refine ⟨(List.range hs.length).map fun i => ⟨(hs.getD i ⟨0, 0, none, 0, 0⟩).p, (hs.getD i ⟨0, 0, none, 0, 0⟩).l, c i⟩, by simp, fun i hi => ?_, fun f hf => ?_⟩
  · have hi' : i < hs.length := by simpa using hi
    obtain ⟨g, rfl, -, -, -, hcl⟩ := own_cells h.own (by omega)
    obtain ⟨e1, e2, e3⟩ := flatF_at hs i hi'
    have k1 := hcl _ _ e1
    have k2 := hcl _ _ e2
    have k3 := hcl _ _ e3
    have hci := hc i hi'
    refine ⟨g, 0, hs[i].ca, hs[i].cc, rfl, Nat.zero_le _, ?_, ?_, ?_, ?_⟩
    · rw [Nat.zero_add]; simpa [List.getElem?_eq_getElem hi'] using k1
    · rw [Nat.zero_add]; simpa [List.getElem?_eq_getElem hi'] using k2
    · rw [Nat.zero_add]; simpa [hci.1] using k3
    · simpa using hci.2
  · obtain ⟨i, hi, rfl⟩ := List.mem_map.1 hf
    have hi' : i < hs.length := by simpa using hi
    have := (h.code hs[i] (List.getElem_mem hi')).2
    show (c i).length ≤ 60000
    rw [(hc i hi').1]
    exact this

theorem lay_keep {left nx : Int} {h : List Int} {i : Nat} (hi : 0 ≤ h.getD i (-1)) : (layB left h nx).getD i (-1) = h.getD i (-1) := by
  unfold layB
  split
  · rename_i hc
    by_cases e : nx.toNat = i
    · rw [e] at hc; omega
    · rw [List.getD_eq_getElem?_getD, List.getElem?_set_ne e, ← List.getD_eq_getElem?_getD]
  · rfl
theorem fold_keep {left : Int} (l : List Int) {i : Nat} : ∀ h : List Int, 0 ≤ h.getD i (-1) → (l.foldl (layB left) h).getD i (-1) = h.getD i (-1) := by
  induction l with
  | nil => exact fun _ _ => rfl
  | cons x l ih =>
    intro h hi
    have e := lay_keep (left := left) (nx := x) hi
    rw [List.foldl_cons, ih _ (by rw [e]; exact hi), e]
theorem part_keep {fs : List Fn} {code : List (Int × Int)} {i : Nat} {h : List Int} (hi : 0 ≤ h.getD i (-1)) : ∀ k, (partB fs code k h).getD i (-1) = h.getD i (-1) := by
  intro k
  induction k with
  | zero => rfl
  | succ k ih =>
    have e := ih
    show (stepB fs (code.getD k (0, 0)) k (partB fs code k h)).getD i (-1) = _
    unfold stepB
    split
    · exact e
    · rw [fold_keep _ _ (by rw [e]; exact hi), e]
theorem done_zero {fs : List Fn} {code : List (Int × Int)} (F : Fine fs code) {d : List Int} (h : Done fs code d) : d.getD 0 (-1) = 0 := by
  obtain ⟨⟨k, rfl⟩, -⟩ := h
  induction k with
  | zero =>
    show ((List.replicate code.length (-1)).set 0 0).getD 0 (-1) = 0
    have := F.one
    rw [List.getD_eq_getElem?_getD, List.getElem?_set_self (by simp; omega)]
    rfl
  | succ k ih =>
    show (partB fs code code.length (iterB fs code k)).getD 0 (-1) = 0
    rw [part_keep (by rw [ih]; omega) _]
    exact ih

/-- What no trouble at an instruction says. -/
theorem no_trouble {fs : List Fn} {code : List (Int × Int)} {d : List Int} {k : Nat} (hk : k < code.length) (h : troubleB fs code d k = 0) (hd : ¬ d.getD k (-1) < 0) :
    ¬ d.getD k (-1) < (usesB fs code[k].1 code[k].2).1 ∧ ¬ 16 < d.getD k (-1) - (usesB fs code[k].1 code[k].2).1 + (usesB fs code[k].1 code[k].2).2 ∧
    ∀ nx ∈ nextB code[k].1 code[k].2 k, nx < code.length ∧ d.getD nx.toNat (-1) = d.getD k (-1) - (usesB fs code[k].1 code[k].2).1 + (usesB fs code[k].1 code[k].2).2 := by
  unfold troubleB at h
  rw [getD_code hk] at h
  simp only at h
  rw [if_neg hd] at h
  split at h
  · cases h
  rename_i h1
  split at h
  · cases h
  rename_i h2
  split at h
  · cases h
  rename_i h3
  refine ⟨fun q => h1 (.inl q), fun q => h1 (.inr q), fun nx hnx => ⟨?_, ?_⟩⟩
  · have h2' : ¬ (code.length : Int) ≤ nx := fun q => h2 (List.any_eq_true.2 ⟨nx, hnx, by simpa using q⟩)
    omega
  · exact Classical.byContradiction fun q => h3 (List.any_eq_true.2 ⟨nx, hnx, by simpa using q⟩)

theorem guard30 : Tryd.prog.eqGuardType Tryd.prog.depth 61 = false := by kernel_rfl
set_option maxRecDepth 100000 in
theorem eqIn30 (c f a : Int) (W : World) : (Op.equalIn 10000 61 (.agg #[.int .i64 c, .int .i64 f, .int .i64 a]) (.agg #[.int .i64 c, .int .i64 f, .int .i64 a])).run Tryd.prog W = .ok true W := by
  have h : ∀ d : Nat, (Op.equalIn (d + 1 + 1) 61 (.agg #[.int .i64 c, .int .i64 f, .int .i64 a]) (.agg #[.int .i64 c, .int .i64 f, .int .i64 a])).run Tryd.prog W = .ok true W := fun d => by
    have ht : Tryd.prog.underlying 61 = some (.struct (Tryd.prog.fieldsOf 61)) := by kernel_rfl
    have hp : Tryd.prog.stoodInHeld 61 = false := by kernel_rfl
    have hf : (Tryd.prog.fieldsOf 61).toList.map (fun f => (f.name, f.type, f.offset)) = [("Code", 3, 0), ("Func", 3, 1), ("At", 3, 2)] := by kernel_rfl
    rw [run_equalIn_struct W (d + 1) 61 _ _ ht hp]
    have p0 : ∀ (a b c : Int) (W : World), (part 3 #[.int .i64 a, .int .i64 b, .int .i64 c] 0).run Tryd.prog W = .ok (.int .i64 a) W := fun _ _ _ _ => by kernel_rfl
    have p1 : ∀ (a b c : Int) (W : World), (part 3 #[.int .i64 a, .int .i64 b, .int .i64 c] 1).run Tryd.prog W = .ok (.int .i64 b) W := fun _ _ _ _ => by kernel_rfl
    have p2 : ∀ (a b c : Int) (W : World), (part 3 #[.int .i64 a, .int .i64 b, .int .i64 c] 2).run Tryd.prog W = .ok (.int .i64 c) W := fun _ _ _ _ => by kernel_rfl
    have e1 : ∀ (x : Int), (Op.equalIn (d + 1) 3 (.int .i64 x) (.int .i64 x)).run Tryd.prog W = .ok true W := fun x => by
      have := run_equalIn_int (P := Tryd.prog) W d 3 .i64 .i64 x x Tryd.underlying3
      simpa using this
    rcases hL : (Tryd.prog.fieldsOf 61).toList with _ | ⟨f1, _ | ⟨f2, _ | ⟨f3, _ | _⟩⟩⟩
    · rw [hL] at hf; simp at hf
    · rw [hL] at hf; simp at hf
    · rw [hL] at hf; simp at hf
    · rw [hL] at hf
      simp only [List.map_cons, List.map_nil, List.cons.injEq, Prod.mk.injEq, and_true] at hf
      obtain ⟨⟨n1, t1, o1⟩, ⟨n2, t2, o2⟩, n3, t3, o3⟩ := hf
      simp [Op.eqFields, n1, t1, o1, n2, t2, o2, n3, t3, o3, p0, p1, p2, e1]
    · rw [hL] at hf; simp at hf
  exact h 9998
end Go.Proofs.YthhchlceogbbhaaDoor
