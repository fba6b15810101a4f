/-
  How far the document's reader has come, if the bytes are those of a module that is ok.
-/
import Derived.Test.YtbffmhcahdblnaaDoorM2
namespace Go.Proofs.YtbffmhcahdblnaaDoor
open Go.RowKit

/-- The texts dn are read; k are to come. -/
def PT (bs : List Int) (bd : Bool) (dn : List ByteArray) (k : Nat) (l : List Int) : Prop := ∀ ts fs, modB ts fs = true → bs = modBytes ts fs → bd = false ∧ ∃ ts', ts = dn ++ ts' ∧ ts'.length = k ∧ l = textsBytes ts' ++ (num fs.length ++ fnsBytes fs)
/-- The texts and the functions dn are read; k are to come. -/
def PF (bs : List Int) (bd : Bool) (tn : List ByteArray) (dn : List Fn) (k : Nat) (l : List Int) : Prop := ∀ ts fs, modB ts fs = true → bs = modBytes ts fs → bd = false ∧ ts = tn ∧ ∃ fs', fs = dn ++ fs' ∧ fs'.length = k ∧ l = fnsBytes fs'
/-- In the midst of a function. -/
def PC (bs : List Int) (bd : Bool) (tn : List ByteArray) (dn : List Fn) (k : Nat) (p lc : Int) (xs : List (Int × Int)) (i : Nat) (l : List Int) : Prop :=
  ∀ ts fs, modB ts fs = true → bs = modBytes ts fs → bd = false ∧ ts = tn ∧ ∃ fs' xs', fs = dn ++ ⟨p, lc, xs ++ xs'⟩ :: fs' ∧ fs'.length = k ∧ xs'.length = i ∧ l = codeBytes xs' ++ fnsBytes fs'

theorem PT.start {bs : List Int} {n q : Nat} {bd : Bool} (hc : ∀ v r, pCount 20 (bs.drop 0) = some (v, r) → n = v ∧ bs.drop q = r ∧ bd = false) : PT bs bd [] n (bs.drop q) := by
  intro ts fs hm hb
  have ok := okMod hm
  have h20 := ok.nt
  have := hc ts.length (textsBytes ts ++ (num fs.length ++ fnsBytes fs)) (by
    rw [List.drop_zero, hb, modBytes, List.append_assoc, List.append_assoc]
    exact pCount_num _ ⟨by omega, by omega⟩ (by omega))
  exact ⟨this.2.2, ts, rfl, this.1.symm, this.2.1⟩
theorem PT.step {bs : List Int} {n q q2 k : Nat} {bd bd' : Bool} {dn : List ByteArray} (h : PT bs bd dn (k + 1) (bs.drop q)) (hc : ∀ v r, pCount 60 (bs.drop q) = some (v, r) → n = v ∧ bs.drop q2 = r ∧ bd' = bd) :
    PT bs bd' (dn ++ [strOfNums ((bs.drop q2).take n)]) k (bs.drop (q2 + n)) := by
  intro ts fs hm hb
  obtain ⟨h1, ts', h2, h3, h4⟩ := h ts fs hm hb
  cases ts' with
  | nil => simp at h3
  | cons s r =>
    have ok := okMod hm
    have h60 := ok.text s (by rw [h2]; simp)
    have e : bs.drop q = num s.size ++ (textBytes s ++ (textsBytes r ++ (num fs.length ++ fnsBytes fs))) := by
      rw [h4]; simp [textsBytes]
    obtain ⟨c1, c2, c3⟩ := hc s.size _ (by rw [e]; exact pCount_num _ ⟨by omega, by omega⟩ (by omega))
    subst c1
    refine ⟨by rw [c3, h1], r, ?_, by simpa using h3, ?_⟩
    · rw [h2, c2, List.take_left' (textBytes_len s), strOfNums_text]
      simp
    · rw [← List.drop_drop, c2, List.drop_left' (textBytes_len s)]
theorem PT.out {bs : List Int} {n q q2 k : Nat} {bd bd' : Bool} {dn : List ByteArray} (h : PT bs bd dn (k + 1) (bs.drop q)) (hc : ∀ v r, pCount 60 (bs.drop q) = some (v, r) → n = v ∧ bs.drop q2 = r ∧ bd' = bd) (hq : q2 ≤ bs.length) (hn : bs.length < q2 + n) :
    ¬ ∃ ts fs, modB ts fs = true ∧ bs = modBytes ts fs := by
  rintro ⟨ts, fs, hm, hb⟩
  obtain ⟨h1, ts', h2, h3, h4⟩ := h ts fs hm hb
  cases ts' with
  | nil => simp at h3
  | cons s r =>
    have ok := okMod hm
    have h60 := ok.text s (by rw [h2]; simp)
    have e : bs.drop q = num s.size ++ (textBytes s ++ (textsBytes r ++ (num fs.length ++ fnsBytes fs))) := by
      rw [h4]; simp [textsBytes]
    obtain ⟨c1, c2, c3⟩ := hc s.size _ (by rw [e]; exact pCount_num _ ⟨by omega, by omega⟩ (by omega))
    have e2 := congrArg List.length c2
    rw [List.length_drop, List.length_append, textBytes_len] at e2
    omega
theorem PF.start {bs : List Int} {n q q2 : Nat} {bd bd' : Bool} {dn : List ByteArray} (h : PT bs bd dn 0 (bs.drop q)) (hc : ∀ v r, pCount 12 (bs.drop q) = some (v, r) → n = v ∧ bs.drop q2 = r ∧ bd' = bd) :
    PF bs bd' dn [] n (bs.drop q2) := by
  intro ts fs hm hb
  obtain ⟨h1, ts', h2, h3, h4⟩ := h ts fs hm hb
  obtain rfl := List.eq_nil_of_length_eq_zero h3
  have ok := okMod hm
  have h12 := ok.nf
  obtain ⟨c1, c2, c3⟩ := hc fs.length (fnsBytes fs) (by rw [h4]; exact pCount_num _ ⟨by omega, by omega⟩ (by omega))
  exact ⟨by rw [c3, h1], by simpa using h2, fs, rfl, c1.symm, c2⟩
theorem okFn {ts : List ByteArray} {fs : List Fn} (h : modB ts fs = true) : ∀ f ∈ fs, 0 ≤ f.params ∧ f.params ≤ 6 ∧ 0 ≤ f.locals ∧ f.locals ≤ 12 := by
  intro f hf
  unfold modB at h
  simp only [Bool.and_eq_true, decide_eq_true_eq, List.all_eq_true] at h
  have := h.2 f hf
  unfold fnB at this
  simp only [Bool.and_eq_true, decide_eq_true_eq] at this
  omega
theorem PC.start {bs : List Int} {k n1 n2 n3 q q1 q2 q3 : Nat} {bd b1 b2 b3 : Bool} {tn : List ByteArray} {dn : List Fn} (h : PF bs bd tn dn (k + 1) (bs.drop q)) (hc1 : ∀ v r, pCount 6 (bs.drop q) = some (v, r) → n1 = v ∧ bs.drop q1 = r ∧ b1 = bd)
    (hc2 : ∀ v r, pCount 12 (bs.drop q1) = some (v, r) → n2 = v ∧ bs.drop q2 = r ∧ b2 = b1) (hc3 : ∀ v r, pCount 120 (bs.drop q2) = some (v, r) → n3 = v ∧ bs.drop q3 = r ∧ b3 = b2) : PC bs b3 tn dn k n1 n2 [] n3 (bs.drop q3) := by
  intro ts fs hm hb
  obtain ⟨h1, h2, fs', h3, h4, h5⟩ := h ts fs hm hb
  cases fs' with
  | nil => simp at h4
  | cons f r =>
    have ok := okMod hm
    have hf : f ∈ fs := by rw [h3]; simp
    obtain ⟨o1, o2, o3, o4⟩ := okFn hm f hf
    have o5 := ok.ncode f hf
    obtain ⟨p, hp⟩ := Int.eq_ofNat_of_zero_le o1
    obtain ⟨lc, hlc⟩ := Int.eq_ofNat_of_zero_le o3
    have e : bs.drop q = num p ++ (num lc ++ (num f.code.length ++ (codeBytes f.code ++ fnsBytes r))) := by
      rw [h5, ← hp, ← hlc]; simp [fnsBytes, fnBytes]
    obtain ⟨c1, c2, c3⟩ := hc1 p _ (by rw [e]; exact pCount_num _ ⟨by omega, by omega⟩ (by omega))
    obtain ⟨d1, d2, d3⟩ := hc2 lc _ (by rw [c2]; exact pCount_num _ ⟨by omega, by omega⟩ (by omega))
    obtain ⟨e1, e2, e3⟩ := hc3 f.code.length _ (by rw [d2]; exact pCount_num _ ⟨by omega, by omega⟩ (by omega))
    refine ⟨by rw [e3, d3, c3, h1], h2, r, f.code, ?_, by simpa using h4, e1.symm, e2⟩
    rw [h3, c1, d1, ← hp, ← hlc]
    rfl
theorem PC.step {bs : List Int} {k i q q1 q2 : Nat} {bd b1 b2 : Bool} {tn : List ByteArray} {dn : List Fn} {p lc n1 n2 : Int} {xs : List (Int × Int)} (h : PC bs bd tn dn k p lc xs (i + 1) (bs.drop q)) (hc1 : ∀ v r, pNum (bs.drop q) = some (v, r) → n1 = v ∧ bs.drop q1 = r ∧ b1 = bd)
    (hc2 : ∀ v r, pNum (bs.drop q1) = some (v, r) → n2 = v ∧ bs.drop q2 = r ∧ b2 = b1) : PC bs b2 tn dn k p lc (xs ++ [(n1, n2)]) i (bs.drop q2) := by
  intro ts fs hm hb
  obtain ⟨h1, h2, fs', xs', h3, h4, h5, h6⟩ := h ts fs hm hb
  cases xs' with
  | nil => simp at h5
  | cons x r =>
    have ok := okMod hm
    have hf := ok.code ⟨p, lc, xs ++ x :: r⟩ (by rw [h3]; simp) x (by simp)
    have e : bs.drop q = num x.1 ++ (num x.2 ++ (codeBytes r ++ fnsBytes fs')) := by
      rw [h6]; simp [codeBytes]
    obtain ⟨c1, c2, c3⟩ := hc1 x.1 _ (by rw [e]; exact pNum_num _ hf.1)
    obtain ⟨d1, d2, d3⟩ := hc2 x.2 _ (by rw [c2]; exact pNum_num _ hf.2)
    refine ⟨by rw [d3, c3, h1], h2, fs', r, ?_, h4, by simpa using h5, d2⟩
    rw [h3, c1, d1]
    simp
theorem PC.fin {bs l : List Int} {k : Nat} {bd : Bool} {tn : List ByteArray} {dn : List Fn} {p lc : Int} {xs : List (Int × Int)} (h : PC bs bd tn dn k p lc xs 0 l) : PF bs bd tn (dn ++ [⟨p, lc, xs⟩]) k l := by
  intro ts fs hm hb
  obtain ⟨h1, h2, fs', xs', h3, h4, h5, h6⟩ := h ts fs hm hb
  obtain rfl := List.eq_nil_of_length_eq_zero h5
  exact ⟨h1, h2, fs', by rw [h3]; simp, h4, by rw [h6]; simp [codeBytes]⟩
theorem PF.fin {bs l : List Int} {bd : Bool} {tn : List ByteArray} {dn : List Fn} (h : PF bs bd tn dn 0 l) {ts : List ByteArray} {fs : List Fn} (hm : modB ts fs = true) (hb : bs = modBytes ts fs) : bd = false ∧ ts = tn ∧ fs = dn := by
  obtain ⟨h1, h2, fs', h3, h4, h5⟩ := h ts fs hm hb
  obtain rfl := List.eq_nil_of_length_eq_zero h4
  exact ⟨h1, h2, by simpa using h3⟩
theorem modBytes_len {ts : List ByteArray} {fs : List Fn} (hm : modB ts fs = true) : (modBytes ts fs).length ≤ 20000 := by
  have ok := okMod hm
  have h1 : (num (ts.length : Int)).length ≤ 5 := num_len (by omega) (by have := ok.nt; omega)
  have h2 : (num (fs.length : Int)).length ≤ 5 := num_len (by omega) (by have := ok.nf; omega)
  have h3 : (textsBytes ts).length ≤ ts.length * 65 := flat_len fun s hs => by
    have := ok.text s hs
    have h : (num (s.size : Int)).length ≤ 5 := num_len (by omega) (by omega)
    simp only [List.length_append, textBytes_len]
    omega
  have h4 : (fnsBytes fs).length ≤ fs.length * 1215 := flat_len fun f hf => fnBytes_len (ok.params f hf) (ok.locals f hf) (ok.ncode f hf) (ok.code f hf)
  have := ok.nt
  have := ok.nf
  unfold modBytes
  simp only [List.length_append]
  omega
end Go.Proofs.YtbffmhcahdblnaaDoor
