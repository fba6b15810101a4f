/-
  A map by guesses, told by its keys: an entry more, one less, none, and how many there are.
-/
import Derived.Test.YtmjkkpmfneabjaaJ7
import Derived.LaidEql
import Derived.Maps.OwnSet
namespace Go.Proofs.Ytmjkkpmfneabjaa
open Go.RowKit

instance : DecidableEq Si := fun a b => decidable_of_iff (a.f = b.f ∧ a.pc = b.pc ∧ a.seen = b.seen ∧ a.target = b.target) si_eq.symm
/-- The keys of a map, in order. -/
def Keys (es : List MapEntry) (ks : List Si) : Prop := es.map (·.key) = ks.map (fun s => Value.agg s.cells)
/-- A map with these keys. -/
def MapIs (w : World) (b : Nat) (ks : List Si) : Prop := ∃ es c, w.heap[b]? = some (.map es c) ∧ Keys es.toList ks

theorem eq_key (u v : Si) (w : World) : (Op.equal 44 (.agg u.cells) (.agg v.cells)).run Try.prog w = .ok (decide (u = v)) w := by
  have h := eqIn44 u v w
  have hd : pB (u = v) = decide (u = v) := by
    by_cases e : u = v
    · rw [pB_yes e]; simp [e]
    · rw [pB_no e]; simp [e]
  rw [hd] at h
  exact h

theorem check_key (em : Bool) (u : Si) (w : World) : (Instr.checkKey em 10000 44 (.agg u.cells)).run Try.prog w = .ok () w := by
  have h : ∀ d : Nat, (Instr.checkKey em (d + 1 + 1) 44 (.agg u.cells)).run Try.prog w = .ok () w := fun d => by kernel_rfl
  exact h 9998

theorem find_ask (u : Si) (w : World) : ∀ (es : List MapEntry) (ks : List Si) (i : Nat), Keys es ks → ∃ r, (Instr.findAsking 44 (.agg u.cells) es i).run Try.prog w = .ok r w ∧ (u ∉ ks → r = none) ∧ (u ∈ ks → ∃ v, r = some (i + ks.idxOf u, v))
  | [], ks, i, h => by
    have : ks = [] := by simpa [Keys] using h.symm
    subst this
    exact ⟨none, by simp [Instr.findAsking], fun _ => rfl, fun h => by simp at h⟩
  | e :: es, ks, i, h => by
    cases ks with
    | nil => simp [Keys] at h
    | cons s ks =>
      simp only [Keys, List.map_cons, List.cons.injEq] at h
      obtain ⟨hk, ht⟩ := h
      by_cases hu : u = s
      · subst hu
        exact ⟨some (i, e.val), by simp [Instr.findAsking, hk, eq_key], fun h => by simp at h, fun _ => ⟨e.val, by simp⟩⟩
      · obtain ⟨r, h1, h2, h3⟩ := find_ask u w es ks (i + 1) ht
        refine ⟨r, ?_, fun h => h2 (fun h' => h (List.mem_cons_of_mem _ h')), fun h => ?_⟩
        · simp only [Instr.findAsking, Sem.run_bind, hk, eq_key, hu, decide_false]
          simpa using h1
        · obtain ⟨v, hv⟩ := h3 (by simpa [hu] using h)
          have hsu : (s == u) = false := by simpa using fun e : s = u => hu e.symm
          exact ⟨v, by rw [hv, List.idxOf_cons, hsu, cond_false, Nat.add_right_comm, Nat.add_assoc]⟩

theorem find_key (u : Si) (w : World) (es : List MapEntry) (ks : List Si) (h : Keys es ks) : ∃ r, (Instr.findKey 44 (.agg u.cells) es).run Try.prog w = .ok r w ∧ (u ∉ ks → r = none) ∧ (u ∈ ks → ∃ v, r = some (ks.idxOf u, v)) := by
  obtain ⟨r, h1, h2, h3⟩ := find_ask u w es ks 0 h
  have ht : Try.prog.underlying 44 = some (.struct (Try.prog.fieldsOf 44)) := by kernel_rfl
  cases es with
  | nil =>
    have : ks = [] := by simpa [Keys] using h.symm
    subst this
    refine ⟨none, ?_, fun _ => rfl, fun h => by simp at h⟩
    simp [Instr.findKey, run_underlying ht, Instr.findNow]
  | cons e es =>
    have hn : Instr.findNow (.struct (Try.prog.fieldsOf 44)) (.agg u.cells) (e :: es) 0 = none := rfl
    refine ⟨r, ?_, h2, fun hu => ?_⟩
    · simp only [Instr.findKey, Sem.run_bind, run_underlying ht]
      simpa [hn] using h1
    · simpa using h3 hu

theorem same_bits (u : Si) : Instr.sameBits 10000 (.agg u.cells) (.agg u.cells) = true := by
  have h : ∀ d : Nat, Instr.sameBits (d + 1 + 1) (.agg u.cells) (.agg u.cells) = true := fun d => by simp [Instr.sameBits, Si.cells]
  exact h 9998

/-- One key more, if it was not there. -/
theorem put_key (u : Si) (v : Value) (b : Nat) (ks : List Si) (w : World) (hm : MapIs w b ks) :
    ∃ es c ks', (Instr.mapUpdate 107 (.map (some b)) (.agg u.cells) v).run Try.prog w = .ok () (ChangeMaps.setBlock w b (.map es c)) ∧ Keys es.toList ks' ∧ ks'.length ≤ ks.length + 1 ∧ (∀ x, x ∈ ks' ↔ x ∈ ks ∨ x = u) := by
  obtain ⟨es, c, hb, hk⟩ := hm
  obtain ⟨r, h1, h2, h3⟩ := find_key u w es.toList ks hk
  by_cases hu : u ∈ ks
  · obtain ⟨x, rfl⟩ := h3 hu
    have hi : ks.idxOf u < ks.length := List.idxOf_lt_length_of_mem hu
    have hl : es.toList.length = ks.length := by simpa using congrArg List.length hk
    have hke : (es[ks.idxOf u]?).map (·.key) = some (.agg u.cells) := by
      have := congrArg (·[ks.idxOf u]?) hk
      simp only [List.getElem?_map, Array.getElem?_toList] at this
      rw [this, List.getElem?_eq_getElem hi]
      simp
    refine ⟨es.modify (ks.idxOf u) (fun e => { e with key := .agg u.cells, val := v }), c, ks, ?_, ?_, by omega, fun x => ⟨.inl, fun h => h.elim id (fun e => e ▸ hu)⟩⟩
    · simp [Instr.mapUpdate, Instr.keyThatStays, run_underlying Try.underlying107, MapKept.run_getObj_map hb, check_key, h1, hke, same_bits, MapKept.run_setObj_map _ hb, ChangeMaps.setBlock]
    · unfold Keys at hk ⊢
      rw [← hk]
      apply List.ext_getElem?
      intro j
      simp only [List.getElem?_map, Array.getElem?_toList, Array.getElem?_modify]
      by_cases e : ks.idxOf u = j
      · subst e
        rw [hke]
        simp
        rw [Array.getElem?_eq_some_iff.2 ⟨by have : es.size = ks.length := by simpa using hl
                                             omega, rfl⟩]
        simp
      · simp [e]
  · obtain rfl := h2 hu
    refine ⟨es.push ⟨.agg u.cells, v, c⟩, c + 1, ks ++ [u], ?_, ?_, by simp, fun x => by simp⟩
    · simp [Instr.mapUpdate, run_underlying Try.underlying107, MapKept.run_getObj_map hb, check_key, h1, MapKept.run_setObj_map _ hb, ChangeMaps.setBlock]
    · unfold Keys at hk ⊢
      simp [hk]

theorem erase_map {α β : Type} (f : α → β) : ∀ (l : List α) (i : Nat), (l.eraseIdx i).map f = (l.map f).eraseIdx i
  | [], i => by simp
  | a :: l, 0 => by simp
  | a :: l, i + 1 => by simp [erase_map f l i]

/-- One key less, if it was there. -/
theorem del_key (u : Si) (b : Nat) (ks : List Si) (t : TypeId) (w : World) (hm : MapIs w b ks) :
    ∃ es c ks', (Builtin.delete_ #[107, 44] t #[.map (some b), .agg u.cells]).run Try.prog w = .ok (.tuple #[]) (ChangeMaps.setBlock w b (.map es c)) ∧ Keys es.toList ks' ∧ (ks'.length < ks.length ↔ u ∈ ks) ∧ ks'.length ≤ ks.length ∧ (∀ x, x ≠ u → (x ∈ ks' ↔ x ∈ ks)) := by
  obtain ⟨es, c, hb, hk⟩ := hm
  obtain ⟨r, h1, h2, h3⟩ := find_key u w es.toList ks hk
  by_cases hu : u ∈ ks
  · obtain ⟨x, rfl⟩ := h3 hu
    have hi : ks.idxOf u < ks.length := List.idxOf_lt_length_of_mem hu
    have hl : es.toList.length = ks.length := by simpa using congrArg List.length hk
    have hl2 : es.size = ks.length := by simpa using hl
    refine ⟨es.eraseIdxIfInBounds (ks.idxOf u), c, ks.eraseIdx (ks.idxOf u), ?_, ?_, ?_, ?_, fun y hy => ?_⟩
    · simp [Builtin.delete_, run_underlying Try.underlying107, MapKept.run_getObj_map hb, check_key, h1, MapKept.run_setObj_map _ hb, ChangeMaps.setBlock]
    · unfold Keys at hk ⊢
      rw [erase_map, ← hk]
      simp [Array.eraseIdxIfInBounds, hl2, hi, erase_map]
    · simp [List.length_eraseIdx, hi, hu]; omega
    · simp [List.length_eraseIdx, hi]
    · have : ks.eraseIdx (ks.idxOf u) = ks.erase u := (List.erase_eq_eraseIdx_of_idxOf rfl).symm
      rw [this]
      exact List.mem_erase_of_ne hy
  · obtain rfl := h2 hu
    refine ⟨es, c, ks, ?_, hk, by simp [hu], by omega, fun _ _ => Iff.rfl⟩
    simp [Builtin.delete_, run_underlying Try.underlying107, MapKept.run_getObj_map hb, check_key, h1, MapKept.run_setObj_map _ hb, ChangeMaps.setBlock]

/-- No key at all. -/
theorem clear_keys (b : Nat) (ks : List Si) (t : TypeId) (w : World) (hm : MapIs w b ks) :
    ∃ c, (Builtin.clear_ #[107] t #[.map (some b)]).run Try.prog w = .ok (.tuple #[]) (ChangeMaps.setBlock w b (.map #[] c)) := by
  obtain ⟨es, c, hb, hk⟩ := hm
  exact ⟨c, by simp [Builtin.clear_, run_underlying Try.underlying107, MapKept.run_getObj_map hb, MapKept.run_setObj_map _ hb, ChangeMaps.setBlock]⟩
end Go.Proofs.Ytmjkkpmfneabjaa
