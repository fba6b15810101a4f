/-
  Reading a module off a list of bytes, as plain functions: what is read are the bytes of the module, and the bytes of a module that is ok are read as it.
-/
import Derived.Test.YtbffmhcahdblnaaDoorLPlain
namespace Go.Proofs.YtbffmhcahdblnaaDoor

def pCount (most : Int) (l : List Int) : Option (Nat × List Int) :=
  match pNum l with
  | none => none
  | some (n, r) => if 0 ≤ n ∧ n ≤ most then some (n.toNat, r) else none
def pText (n : Nat) (l : List Int) : Option (ByteArray × List Int) := if n ≤ l.length then some (strOfNums (l.take n), l.drop n) else none
def pTexts : Nat → List Int → Option (List ByteArray × List Int)
  | 0, l => some ([], l)
  | k + 1, l =>
    match pCount 60 l with
    | none => none
    | some (n, l1) =>
      match pText n l1 with
      | none => none
      | some (t, l2) => (pTexts k l2).map fun q => (t :: q.1, q.2)
def pCode : Nat → List Int → Option (List (Int × Int) × List Int)
  | 0, l => some ([], l)
  | k + 1, l =>
    match pNum l with
    | none => none
    | some (o, l1) =>
      match pNum l1 with
      | none => none
      | some (a, l2) => (pCode k l2).map fun q => ((o, a) :: q.1, q.2)
def pFunc (l : List Int) : Option (Fn × List Int) :=
  match pNum l with
  | none => none
  | some (p, l1) =>
    match pNum l1 with
    | none => none
    | some (lo, l2) =>
      match pCount 120 l2 with
      | none => none
      | some (k, l3) => (pCode k l3).map fun q => (⟨p, lo, q.1⟩, q.2)
def pFuncs : Nat → List Int → Option (List Fn × List Int)
  | 0, l => some ([], l)
  | k + 1, l =>
    match pFunc l with
    | none => none
    | some (f, l1) => (pFuncs k l1).map fun q => (f :: q.1, q.2)
def pModule (l : List Int) : Option ((List ByteArray × List Fn) × List Int) :=
  match pCount 20 l with
  | none => none
  | some (k, l1) =>
    match pTexts k l1 with
    | none => none
    | some (ts, l2) =>
      match pCount 12 l2 with
      | none => none
      | some (m, l3) => (pFuncs m l3).map fun q => ((ts, q.1), q.2)

/-! ### Up: the bytes of a module are read as it. -/
theorem pCount_num {most : Int} {n : Nat} (r : List Int) (h : Fits (n : Int)) (h2 : (n : Int) ≤ most) : pCount most (num n ++ r) = some (n, r) := by
  unfold pCount
  rw [pNum_num r h]
  simp [h2]
theorem strOfNums_text (s : ByteArray) : strOfNums (textBytes s) = s := by
  unfold strOfNums textBytes
  rw [List.map_map]
  have : (fun n : Int => UInt8.ofNat n.toNat) ∘ (fun b : UInt8 => (b.toNat : Int)) = id := by
    funext b
    simp
  rw [this, List.map_id]
theorem pText_text (s : ByteArray) (r : List Int) : pText s.size (textBytes s ++ r) = some (s, r) := by
  unfold pText
  have hl := textBytes_len s
  rw [if_pos (by rw [List.length_append, hl]; omega), List.take_append_of_le_length (by omega), List.take_of_length_le (by omega), strOfNums_text, List.drop_append_of_le_length (by omega), List.drop_of_length_le (by omega)]
  rfl
theorem pTexts_up (r : List Int) : ∀ ts : List ByteArray, (∀ s ∈ ts, s.size ≤ 60) → pTexts ts.length (textsBytes ts ++ r) = some (ts, r) := by
  intro ts
  induction ts with
  | nil => intro _; rfl
  | cons s ts ih =>
    intro h
    have hs := h s (by simp)
    have e : textsBytes (s :: ts) ++ r = num s.size ++ (textBytes s ++ (textsBytes ts ++ r)) := by simp [textsBytes]
    rw [e, List.length_cons, pTexts, pCount_num _ (by unfold Fits; omega) (by omega)]
    simp only
    rw [pText_text]
    simp only
    rw [ih fun t ht => h t (by simp [ht])]
    rfl
theorem pCode_up (r : List Int) : ∀ xs : List (Int × Int), (∀ x ∈ xs, Fits x.1 ∧ Fits x.2) → pCode xs.length (codeBytes xs ++ r) = some (xs, r) := by
  intro xs
  induction xs with
  | nil => intro _; rfl
  | cons x xs ih =>
    intro h
    have hx := h x (by simp)
    have e : codeBytes (x :: xs) ++ r = num x.1 ++ (num x.2 ++ (codeBytes xs ++ r)) := by simp [codeBytes]
    rw [e, List.length_cons, pCode, pNum_num _ hx.1]
    simp only
    rw [pNum_num _ hx.2]
    simp only
    rw [ih fun t ht => h t (by simp [ht])]
    rfl
theorem pFunc_up (r : List Int) (f : Fn) (h1 : Fits f.params) (h2 : Fits f.locals) (h3 : f.code.length ≤ 120) (h4 : ∀ x ∈ f.code, Fits x.1 ∧ Fits x.2) : pFunc (fnBytes f ++ r) = some (f, r) := by
  have e : fnBytes f ++ r = num f.params ++ (num f.locals ++ (num f.code.length ++ (codeBytes f.code ++ r))) := by simp [fnBytes]
  rw [e, pFunc, pNum_num _ h1]
  simp only
  rw [pNum_num _ h2]
  simp only
  rw [pCount_num _ (by unfold Fits; omega) (by omega)]
  simp only
  rw [pCode_up r _ h4]
  rfl
theorem pFuncs_up (r : List Int) : ∀ fs : List Fn, (∀ f ∈ fs, Fits f.params ∧ Fits f.locals ∧ f.code.length ≤ 120 ∧ ∀ x ∈ f.code, Fits x.1 ∧ Fits x.2) → pFuncs fs.length (fnsBytes fs ++ r) = some (fs, r) := by
  intro fs
  induction fs with
  | nil => intro _; rfl
  | cons f fs ih =>
    intro h
    have hf := h f (by simp)
    have e : fnsBytes (f :: fs) ++ r = fnBytes f ++ (fnsBytes fs ++ r) := by simp [fnsBytes]
    rw [e, List.length_cons, pFuncs, pFunc_up _ f hf.1 hf.2.1 hf.2.2.1 hf.2.2.2]
    simp only
    rw [ih fun t ht => h t (by simp [ht])]
    rfl
theorem pModule_up (r : List Int) {ts : List ByteArray} {fs : List Fn} (ok : OkMod ts fs) : pModule (modBytes ts fs ++ r) = some ((ts, fs), r) := by
  have n1 := ok.nt
  have n2 := ok.nf
  have e : modBytes ts fs ++ r = num ts.length ++ (textsBytes ts ++ (num fs.length ++ (fnsBytes fs ++ r))) := by simp [modBytes]
  rw [e, pModule, pCount_num _ (by unfold Fits; omega) (by omega)]
  simp only
  rw [pTexts_up _ ts ok.text]
  simp only
  rw [pCount_num _ (by unfold Fits; omega) (by omega)]
  simp only
  rw [pFuncs_up r fs fun f hf => ⟨ok.params f hf, ok.locals f hf, ok.ncode f hf, ok.code f hf⟩]
  rfl

/-! ### Down: what is read are those bytes. -/
theorem Byte.tail {a b : List Int} (h : Byte (a ++ b)) : Byte b := fun x hx => h x (by simp [hx])
theorem Byte.drop {l : List Int} (h : Byte l) (n : Nat) : Byte (l.drop n) := fun x hx => h x (List.mem_of_mem_drop hx)
theorem pCount_down {most : Int} {l r : List Int} {n : Nat} (hb : Byte l) (h : pCount most l = some (n, r)) : l = num n ++ r ∧ (n : Int) ≤ most := by
  unfold pCount at h
  split at h
  · cases h
  · rename_i m r' hm
    by_cases hc : 0 ≤ m ∧ m ≤ most
    · rw [if_pos hc] at h
      simp only [Option.some.injEq, Prod.mk.injEq] at h
      have hn : (n : Int) = m := by omega
      rw [num_pNum hb hm, ← h.2, hn]
      exact ⟨rfl, hc.2⟩
    · rw [if_neg hc] at h; cases h
theorem text_strOfNums {l : List Int} (hb : Byte l) : textBytes (strOfNums l) = l := by
  unfold strOfNums textBytes
  rw [List.map_map]
  conv => rhs; rw [← List.map_id l]
  apply List.map_congr_left
  intro x hx
  have := hb x hx
  simp
  omega
theorem pText_down {n : Nat} {l r : List Int} {s : ByteArray} (hb : Byte l) (h : pText n l = some (s, r)) : l = textBytes s ++ r ∧ s.size = n := by
  unfold pText at h
  by_cases hc : n ≤ l.length
  · rw [if_pos hc] at h
    simp only [Option.some.injEq, Prod.mk.injEq] at h
    have hbt : Byte (l.take n) := fun x hx => hb x (List.mem_of_mem_take hx)
    rw [← h.1, ← h.2, text_strOfNums hbt, List.take_append_drop]
    exact ⟨rfl, by rw [strOfNums_size, List.length_take]; omega⟩
  · rw [if_neg hc] at h; cases h
theorem pTexts_down : ∀ (k : Nat) (l r : List Int) (ts : List ByteArray), Byte l → pTexts k l = some (ts, r) → l = textsBytes ts ++ r ∧ ts.length = k := by
  intro k
  induction k with
  | zero =>
    intro l r ts _ h
    simp only [pTexts, Option.some.injEq, Prod.mk.injEq] at h
    rw [← h.1, ← h.2]
    exact ⟨rfl, rfl⟩
  | succ k ih =>
    intro l r ts hb h
    rw [pTexts] at h
    split at h
    · cases h
    · rename_i n l1 h1
      split at h
      · cases h
      · rename_i t l2 h2
        rw [Option.map_eq_some_iff] at h
        obtain ⟨⟨ts', r'⟩, h3, h4⟩ := h
        simp only [Prod.mk.injEq] at h4
        have e1 := (pCount_down hb h1).1
        have b1 : Byte l1 := Byte.tail (by rw [← e1]; exact hb)
        have e2 := pText_down b1 h2
        have b2 : Byte l2 := Byte.tail (by rw [← e2.1]; exact b1)
        have e3 := ih l2 r' ts' b2 h3
        rw [e1, e2.1, e3.1, ← h4.1, ← h4.2, ← e2.2]
        exact ⟨by simp [textsBytes], by simp [e3.2]⟩
theorem pCode_down : ∀ (k : Nat) (l r : List Int) (xs : List (Int × Int)), Byte l → pCode k l = some (xs, r) → l = codeBytes xs ++ r ∧ xs.length = k := by
  intro k
  induction k with
  | zero =>
    intro l r ts _ h
    simp only [pCode, Option.some.injEq, Prod.mk.injEq] at h
    rw [← h.1, ← h.2]
    exact ⟨rfl, rfl⟩
  | succ k ih =>
    intro l r ts hb h
    rw [pCode] at h
    split at h
    · cases h
    · rename_i n l1 h1
      split at h
      · cases h
      · rename_i t l2 h2
        rw [Option.map_eq_some_iff] at h
        obtain ⟨⟨ts', r'⟩, h3, h4⟩ := h
        simp only [Prod.mk.injEq] at h4
        have e1 := num_pNum hb h1
        have b1 : Byte l1 := Byte.tail (by rw [← e1]; exact hb)
        have e2 := num_pNum b1 h2
        have b2 : Byte l2 := Byte.tail (by rw [← e2]; exact b1)
        have e3 := ih l2 r' ts' b2 h3
        rw [e1, e2, e3.1, ← h4.1, ← h4.2]
        exact ⟨by simp [codeBytes], by simp [e3.2]⟩
theorem pFunc_down {l r : List Int} {f : Fn} (hb : Byte l) (h : pFunc l = some (f, r)) : l = fnBytes f ++ r := by
  rw [pFunc] at h
  split at h
  · cases h
  · rename_i p l1 h1
    split at h
    · cases h
    · rename_i lo l2 h2
      split at h
      · cases h
      · rename_i k l3 h3
        rw [Option.map_eq_some_iff] at h
        obtain ⟨⟨xs, r'⟩, h4, h5⟩ := h
        simp only [Prod.mk.injEq] at h5
        have e1 := num_pNum hb h1
        have b1 : Byte l1 := Byte.tail (by rw [← e1]; exact hb)
        have e2 := num_pNum b1 h2
        have b2 : Byte l2 := Byte.tail (by rw [← e2]; exact b1)
        have e3 := (pCount_down b2 h3).1
        have b3 : Byte l3 := Byte.tail (by rw [← e3]; exact b2)
        have e4 := pCode_down k l3 r' xs b3 h4
        rw [e1, e2, e3, e4.1, ← h5.1, ← h5.2, ← e4.2]
        simp [fnBytes]
theorem pFuncs_down : ∀ (k : Nat) (l r : List Int) (fs : List Fn), Byte l → pFuncs k l = some (fs, r) → l = fnsBytes fs ++ r ∧ fs.length = k := by
  intro k
  induction k with
  | zero =>
    intro l r ts _ h
    simp only [pFuncs, Option.some.injEq, Prod.mk.injEq] at h
    rw [← h.1, ← h.2]
    exact ⟨rfl, rfl⟩
  | succ k ih =>
    intro l r ts hb h
    rw [pFuncs] at h
    split at h
    · cases h
    · rename_i f l1 h1
      rw [Option.map_eq_some_iff] at h
      obtain ⟨⟨ts', r'⟩, h3, h4⟩ := h
      simp only [Prod.mk.injEq] at h4
      have e1 := pFunc_down hb h1
      have b1 : Byte l1 := Byte.tail (by rw [← e1]; exact hb)
      have e3 := ih l1 r' ts' b1 h3
      rw [e1, e3.1, ← h4.1, ← h4.2]
      exact ⟨by simp [fnsBytes], by simp [e3.2]⟩
theorem pModule_down {l r : List Int} {ts : List ByteArray} {fs : List Fn} (hb : Byte l) (h : pModule l = some ((ts, fs), r)) : l = modBytes ts fs ++ r := by
  rw [pModule] at h
  split at h
  · cases h
  · rename_i k l1 h1
    split at h
    · cases h
    · rename_i ts' l2 h2
      split at h
      · cases h
      · rename_i m l3 h3
        rw [Option.map_eq_some_iff] at h
        obtain ⟨⟨fs', r'⟩, h4, h5⟩ := h
        simp only [Prod.mk.injEq] at h5
        obtain ⟨⟨rfl, rfl⟩, rfl⟩ := h5
        have e1 := (pCount_down hb h1).1
        have b1 : Byte l1 := Byte.tail (by rw [← e1]; exact hb)
        have e2 := pTexts_down k l1 l2 ts' b1 h2
        have b2 : Byte l2 := Byte.tail (by rw [← e2.1]; exact b1)
        have e3 := (pCount_down b2 h3).1
        have b3 : Byte l3 := Byte.tail (by rw [← e3]; exact b2)
        have e4 := pFuncs_down m l3 r' fs' b3 h4
        rw [e1, e2.1, e3, e4.1, ← e2.2, ← e4.2]
        simp [modBytes]
end Go.Proofs.YtbffmhcahdblnaaDoor
