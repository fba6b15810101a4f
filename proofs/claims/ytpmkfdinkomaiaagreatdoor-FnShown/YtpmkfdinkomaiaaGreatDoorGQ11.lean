/-
  What the map of words holds; what an append to the last function's instructions leaves.
  What the marking functions of the laws write, cell by cell, and that what was marked is found again.
-/
import Derived.Test.YtpmkfdinkomaiaaGreatDoorGQ10
import Derived.Maps.Views
import Derived.Lib.ItoaMem
namespace Go.Proofs.YtpmkfdinkomaiaaGreatDoor
open Go.RowKit Go.Maps

theorem dOps_map {H : Type} : ∀ k, IsMap (dOps (H := H) k)
  | 0 => isMap_empty
  | k + 1 => (dOps_map k).put _ _
theorem string_key (s : ByteArray) : WideAt.IsKeyLit (.string s.data.toList) := by trivial
theorem has_none {H : Type} (s : ByteArray) : has (dOps (H := H) 0) (.string s.data.toList) = false := rfl

/-- A word's number, or none. -/
theorem dOps_get {H : Type} (s : ByteArray) : ∀ k, k ≤ 26 →
    (∃ j, 1 ≤ j ∧ j ≤ k ∧ words[j]? = some s ∧ (∀ z, (dOps (H := H) k).atKey (.string s.data.toList) z = .lit (.int .i64 (j : Int))) ∧ has (dOps (H := H) k) (.string s.data.toList) = true) ∨
    ((∀ j, 1 ≤ j → j ≤ k → words[j]? ≠ some s) ∧ has (dOps (H := H) k) (.string s.data.toList) = false)
  | 0, _ => .inr ⟨fun j h1 h2 => by omega, rfl⟩
  | k + 1, hk => by
    have hw : words[k + 1]? = some (words.getD (k + 1) ⟨#[]⟩) := by
      have hl : k + 1 < words.length := by simp [words]; omega
      rw [List.getD_eq_getElem?_getD, List.getElem?_eq_getElem hl]
      rfl
    by_cases e : s = words.getD (k + 1) ⟨#[]⟩
    · subst e
      exact .inl ⟨k + 1, by omega, Nat.le_refl _, hw, fun z => atKey_put_same (dOps_map k) (string_key _) _ z, has_put_same (dOps_map k) (string_key _) _⟩
    · have hne : (Lit.string s.data.toList) ≠ .string (words.getD (k + 1) ⟨#[]⟩).data.toList := by
        intro h
        injection h with h
        exact e (ByteArray.ext (by rw [← Array.toList_inj]; exact h))
      rcases dOps_get s k (by omega) with ⟨j, h1, h2, h3, h4, h5⟩ | ⟨h1, h2⟩
      · exact .inl ⟨j, h1, by omega, h3, fun z => (atKey_put_other hne _ z).trans (h4 z), (has_put_other hne _).trans h5⟩
      · refine .inr ⟨fun j q1 q2 => ?_, (has_put_other hne _).trans h2⟩
        by_cases ej : j = k + 1
        · subst ej; rw [hw]; intro h; injection h with h; exact e h.symm
        · exact h1 j q1 (by omega)
theorem words_one {i j : Nat} {s : ByteArray} (hi : words[i]? = some s) (hj : words[j]? = some s) : i = j := by
  have hn : words.Nodup := by decide
  obtain ⟨h1, e1⟩ := List.getElem?_eq_some_iff.1 hi
  obtain ⟨h2, e2⟩ := List.getElem?_eq_some_iff.1 hj
  exact (List.getElem_inj hn).1 (e1.trans e2.symm)

theorem own_put {w : World} {base e size n c : Nat} {a : Option Addr} {xs : List Value} (h : w.ownsRow base e size (.slice a n c) n xs) (j : Nat) (hj : j < n * size) :
    ∃ g, a = some ⟨g, 0, none⟩ ∧ base ≤ g ∧ w.frozen? ⟨g, j, none⟩ = false ∧ w.cell? ⟨g, j, none⟩ = xs[j]? ∧ (∃ u, xs[j]? = some u) ∧ (∀ v, (w.setCell ⟨g, j, none⟩ v).ownsRow base e size (.slice a n c) n (xs.set j v)) ∧ ∀ v, Only g w (w.setCell ⟨g, j, none⟩ v) := by
  have hxl := h.1
  rcases h.2 with ⟨-, hn⟩ | ⟨g, cap, cur, hv, hb, hh, hnc, hcm, hs, htake⟩
  · subst hn; simp at hj
  · cases hv
    refine ⟨g, rfl, hb, block_free hh j, ?_, ⟨xs[j]'(by omega), by simp [hxl, hj]⟩, fun v => ?_, fun v => (Only.refl _ _).set _ _⟩
    · rw [block_cell hh, ← htake, List.getElem?_take_of_lt hj, Array.getElem?_toList]
    · refine ⟨by simpa using hxl, .inr ⟨g, c, cur.setIfInBounds j v, rfl, hb, block_set hh v, hnc, hcm, by simpa using hs, ?_⟩⟩
      rw [← htake, Array.toList_setIfInBounds, List.take_set]
theorem Only.keeps {g B : Nat} {ts : List Nat} {w w' : World} {c : Array Value} {t : TypeId} (h : Only g w w') (hg : w.heap[g]? = some (.cells c t (0, 0))) (ht : t ∈ ts) (hB : B ≤ g) : Keeps B ts w w' :=
  ⟨h.os, h.tape, h.output, h.size, fun k o hk ho => by
    by_cases e : k = g
    · subst e
      rw [hg] at hk
      cases hk
      rcases ho with ho | ho
      · omega
      · exact absurd ht ho
    · rw [h.block k (lt_block hk) (by simpa using e)]; exact hk⟩
theorem own_blk {w : World} {base e size n c g : Nat} {a : Option Addr} {xs : List Value} (h : w.ownsRow base e size (.slice a n c) n xs) (ha : a = some ⟨g, 0, none⟩) : ∃ cur, w.heap[g]? = some (.cells cur e (0, 0)) := by
  rcases h.2 with ⟨hv, -⟩ | ⟨g', cap, cur, hv, -, hh, -⟩
  · cases hv; cases ha
  · cases hv; cases ha
    exact ⟨cur, hh⟩
/-- A row is kept where only another block is written. -/
theorem own_other {w w' : World} {base e size n c : Nat} {a : Option Addr} {xs : List Value} {r : Option Nat} (h : w.ownsRow base e size (.slice a n c) n xs) (hg : w.grownBy w' r) (hne : ∀ g, a = some ⟨g, 0, none⟩ → r ≠ some g) : w'.ownsRow base e size (.slice a n c) n xs := by
  refine ⟨h.1, ?_⟩
  rcases h.2 with hn | ⟨g, cap, cur, hv, hb, hh, q⟩
  · exact .inl hn
  · cases hv
    exact .inr ⟨g, c, cur, rfl, hb, by rw [hg.block g (lt_block hh) (fun e => hne g rfl e.symm)]; exact hh, q⟩
theorem fnVals_len {fs : List Fn} {cs : List (Option Addr × Nat)} (h : fs.length = cs.length) : (fnVals fs cs).length = fs.length * 3 := by
  induction fs generalizing cs with
  | nil => rfl
  | cons f fs ih =>
    cases cs with
    | nil => simp at h
    | cons c cs =>
      have := ih (cs := cs) (by simpa using h)
      unfold fnVals at *
      simp only [List.zip_cons_cons, List.flatMap_cons, List.length_append, List.length_cons, List.length_nil, this]
      omega

/-- An instruction more in the last function. -/
theorem ModOwn.addIns {w w4 : World} {base c1 c2 g cp g2 : Nat} {a1 : Option Addr} {ts : List ByteArray} {fs : List Fn} {f : Fn} {cs : List (Option Addr × Nat)} {c : Option Addr × Nat} {op a : Int}
    (h : ModOwn w base a1 c1 (some ⟨g2, 0, none⟩) c2 ts (fs ++ [f]) (cs ++ [c])) (hg : w.grownBy w4 (Value.slice c.1 f.code.length c.2).ownBlock)
    (ho : w4.ownsRow base 51 2 (.slice (some ⟨g, 0, none⟩) (f.code.length + 1) cp) (f.code.length + 1) (codeVals (f.code ++ [(op, a)]))) (hat : (Value.slice c.1 f.code.length c.2).ownBlock = some g ∨ w.heap.size ≤ g) :
    ModOwn (w4.setCell ⟨g2, fs.length * 3 + 2, none⟩ (.slice (some ⟨g, 0, none⟩) (f.code.length + 1) cp)) base a1 c1 (some ⟨g2, 0, none⟩) c2 ts (fs ++ [⟨f.params, f.locals, f.code ++ [(op, a)]⟩]) (cs ++ [(some ⟨g, 0, none⟩, cp)]) := by
  have hl : fs.length = cs.length := by have := h.codes.len; simpa using this
  have hown : w.ownsRow base 51 2 (.slice c.1 f.code.length c.2) f.code.length (codeVals f.code) := by
    have := h.codes.own fs.length (by simp) (by simp [hl])
    have e2 : (cs ++ [c])[fs.length]'(by simp [hl]) = c := by simp [hl]
    have e3 : (fs ++ [f])[fs.length]'(by simp) = f := by simp
    rw [e2, e3] at this
    exact this
  have hk : Keeps base [51] w w4 := Keeps.grown hown hg (by simp)
  have hf4 := own_keeps h.funcs hk (by simp)
  obtain ⟨g2', e2, hb2, -, -, -, hput, honly⟩ := own_put hf4 (fs.length * 3 + 2) (by simp; omega)
  obtain rfl : g2 = g2' := by cases e2; rfl
  obtain ⟨cur, hcur⟩ := own_blk hf4 rfl
  have hk5 : Keeps base [48] w4 (w4.setCell ⟨g2, fs.length * 3 + 2, none⟩ (.slice (some ⟨g, 0, none⟩) (f.code.length + 1) cp)) := (honly _).keeps hcur (by simp) hb2
  have hcb : ∀ q, c.1 = some ⟨q, 0, none⟩ ↔ (Value.slice c.1 f.code.length c.2).ownBlock = some q := fun q => by
    rcases hown.2 with ⟨hv, -⟩ | ⟨g', cap, cur', hv, -⟩
    · have e : c.1 = none := by injection hv
      rw [e]; simp [Value.ownBlock]
    · have e : c.1 = some ⟨g', 0, none⟩ := by injection hv
      rw [e]; simp [Value.ownBlock]
  have hold : ∀ i (hi : i < fs.length) (hi' : i < cs.length), w.ownsRow base 51 2 (.slice cs[i].1 fs[i].code.length cs[i].2) fs[i].code.length (codeVals fs[i].code) := fun i hi hi' => by
    have := h.codes.own i (by simp; omega) (by simp; omega)
    simpa only [List.getElem_append_left hi, List.getElem_append_left hi'] using this
  have hord : ∀ i (hi' : i < cs.length) q q', cs[i].1 = some ⟨q, 0, none⟩ → c.1 = some ⟨q', 0, none⟩ → q < q' := fun i hi' q q' e e' => by
    refine h.codes.order i cs.length hi' (by simp) q q' ?_ ?_
    · rw [List.getElem_append_left hi']; exact e
    · simpa using e'
  refine ⟨own_keeps (own_keeps h.texts hk (by simp)) hk5 (by simp), ?_, by simp [hl], fun i hi hi' => ?_, fun i j hij hj q q' hq hq' => ?_⟩
  · have hp := hput (.slice (some ⟨g, 0, none⟩) (f.code.length + 1) cp)
    have e : (fnVals (fs ++ [f]) (cs ++ [c])).set (fs.length * 3 + 2) (.slice (some ⟨g, 0, none⟩) (f.code.length + 1) cp) = fnVals (fs ++ [⟨f.params, f.locals, f.code ++ [(op, a)]⟩]) (cs ++ [(some ⟨g, 0, none⟩, cp)]) := by
      rw [fnVals_snoc hl, fnVals_snoc hl, List.set_append_right _ _ (by rw [fnVals_len hl]; omega), fnVals_len hl]
      have e9 : fs.length * 3 + 2 - fs.length * 3 = 2 := by omega
      rw [e9]
      simp
    rw [e] at hp
    simpa using hp
  · by_cases e : i < fs.length
    · have e' : i < cs.length := by omega
      simp only [List.getElem_append_left e, List.getElem_append_left e']
      refine own_keeps (own_other (hold i e e') hg fun q hq hr => ?_) hk5 (by simp)
      have := hord i e' q q hq ((hcb q).2 hr)
      omega
    · have e1 : i = fs.length := by simp at hi; omega
      subst e1
      have e2 : (cs ++ [(some (⟨g, 0, none⟩ : Addr), cp)])[fs.length]'hi' = (some ⟨g, 0, none⟩, cp) := by simp [hl]
      have e3 : (fs ++ [(⟨f.params, f.locals, f.code ++ [(op, a)]⟩ : Fn)])[fs.length]'hi = ⟨f.params, f.locals, f.code ++ [(op, a)]⟩ := by simp
      rw [e2, e3]
      have := own_keeps ho hk5 (by simp)
      simpa using this
  · have hjl : j < cs.length + 1 := by simpa using hj
    have ei : i < cs.length := by omega
    rw [List.getElem_append_left ei] at hq
    by_cases e : j < cs.length
    · rw [List.getElem_append_left e] at hq'
      have := h.codes.order i j hij (by simp; omega) q q'
      rw [List.getElem_append_left ei, List.getElem_append_left e] at this
      exact this hq hq'
    · have e1 : j = cs.length := by omega
      subst e1
      have e2 : (cs ++ [(some (⟨g, 0, none⟩ : Addr), cp)])[cs.length]'hj = (some ⟨g, 0, none⟩, cp) := by simp
      rw [e2] at hq'
      obtain rfl : g = q' := by cases hq'; rfl
      rcases hat with hat | hat
      · exact hord i ei q g hq ((hcb g).2 hat)
      · have := (own_lt (hold i (by omega) ei) hq).2
        omega
end Go.Proofs.YtpmkfdinkomaiaaGreatDoor

namespace Go.Proofs.YtpmkfdinkomaiaaGreatDoor
open Go.RowKit

def decText (n : Nat) : ByteArray := ⟨(Lib.decDigits n).toArray⟩
/-- The text of a mark. -/
def mText (k : Nat) : ByteArray := ⟨#[109]⟩ ++ decText k
def mTexts (k n : Nat) : List ByteArray := (List.range n).map fun i => mText (k + i)
def mCode (k n : Nat) : List (Int × Int) := (List.range n).map fun i => (((k + 2 * i : Nat) : Int), ((k + 2 * i + 1 : Nat) : Int))

theorem dec_small {n : Nat} (h : n < 10) : decText n = ⟨#[UInt8.ofNat (48 + n % 10)]⟩ := by
  unfold decText
  rw [Lib.decDigits, dif_pos h, Nat.mod_eq_of_lt h]
theorem dec_big {n : Nat} (h : ¬ n < 10) : decText n = decText (n / 10) ++ ⟨#[UInt8.ofNat (48 + n % 10)]⟩ := by
  unfold decText
  rw [Lib.decDigits, dif_neg h, bytes_append]

theorem codeVals_set (xs : List (Int × Int)) (i : Nat) (o a : Int) (h : i < xs.length) : ((codeVals xs).set (i * 2) (.int .i64 o)).set (i * 2 + 1) (.int .i64 a) = codeVals (xs.set i (o, a)) := by
  induction xs generalizing i with
  | nil => simp at h
  | cons x xs ih =>
    have e : ∀ y ys, codeVals (y :: ys) = .int .i64 y.1 :: .int .i64 y.2 :: codeVals ys := fun y ys => by simp [codeVals]
    cases i with
    | zero => simp [e]
    | succ i =>
      rw [e, show (i + 1) * 2 = i * 2 + 1 + 1 by omega]
      simp only [List.set_cons_succ]
      rw [ih i (by simpa using h), e]

end Go.Proofs.YtpmkfdinkomaiaaGreatDoor
