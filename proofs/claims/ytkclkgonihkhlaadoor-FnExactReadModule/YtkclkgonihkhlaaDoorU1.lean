/-
  The text of a module on plain data, and how long it is at most.
-/
import Derived.Test.YtkclkgonihkhlaaDoorT2
import Derived.Test.YtkclkgonihkhlaaDoorPlain4
import Derived.Test.YtkclkgonihkhlaaDoorMem3
namespace Go.Proofs.YtkclkgonihkhlaaDoor
open Go.RowKit

/-- The lines of a text, a function, an instruction. -/
def lineT (t : ByteArray) : ByteArray := ⟨#[116, 101, 120, 116, 32, 34]⟩ ++ t ++ ⟨#[34, 10]⟩
def lineF (p l : Int) : ByteArray := ⟨#[102, 117, 110, 99, 32]⟩ ++ numText p ++ ⟨#[32]⟩ ++ numText l ++ ⟨#[10]⟩
def lineI (o a : Int) : ByteArray := ⟨#[32, 32]⟩ ++ insText o a ++ ⟨#[10]⟩
def tB (ts : List ByteArray) : ByteArray := ts.foldl (fun s t => s ++ lineT t) ByteArray.empty
def cB (s : ByteArray) (xs : List (Int × Int)) : ByteArray := xs.foldl (fun s x => s ++ lineI x.1 x.2) s
def fB (s : ByteArray) (fs : List Fn) : ByteArray := fs.foldl (fun s f => cB (s ++ lineF f.params f.locals) f.code) s
/-- The text of a module that is ok. -/
def showB (ts : List ByteArray) (fs : List Fn) : ByteArray := fB (tB ts) fs
def shown (ts : List ByteArray) (fs : List Fn) : ByteArray := if modB ts fs = true then showB ts fs else ⟨#[]⟩

theorem tB_succ {ts : List ByteArray} {k : Nat} (h : k < ts.length) : tB (ts.take (k + 1)) = tB (ts.take k) ++ lineT ts[k] := by
  unfold tB
  rw [List.take_succ_eq_append_getElem h, List.foldl_append]
  rfl
theorem cB_succ {xs : List (Int × Int)} {s : ByteArray} {k : Nat} (h : k < xs.length) : cB s (xs.take (k + 1)) = cB s (xs.take k) ++ lineI xs[k].1 xs[k].2 := by
  unfold cB
  rw [List.take_succ_eq_append_getElem h, List.foldl_append]
  rfl
theorem fB_succ {fs : List Fn} {s : ByteArray} {k : Nat} (h : k < fs.length) : fB s (fs.take (k + 1)) = cB (fB s (fs.take k) ++ lineF fs[k].params fs[k].locals) fs[k].code := by
  unfold fB
  rw [List.take_succ_eq_append_getElem h, List.foldl_append]
  rfl
theorem tB_all (ts : List ByteArray) : tB (ts.take ts.length) = tB ts := by rw [List.take_of_length_le (Nat.le_refl _)]
theorem cB_all (s : ByteArray) (xs : List (Int × Int)) : cB s (xs.take xs.length) = cB s xs := by rw [List.take_of_length_le (Nat.le_refl _)]
theorem fB_all (s : ByteArray) (fs : List Fn) : fB s (fs.take fs.length) = fB s fs := by rw [List.take_of_length_le (Nat.le_refl _)]

theorem fits_num {n : Int} (h : Fits n) : (numText n).size ≤ 21 := numText_size n (by have := h.1; omega) (by have := h.2; omega)
theorem word_size (k : Nat) : (words.getD k ⟨#[]⟩).size ≤ 6 := by
  by_cases h : k < 27
  · have hall : ∀ i : Fin 27, (words.getD i.val ⟨#[]⟩).size ≤ 6 := by decide
    exact hall ⟨k, h⟩
  · rw [List.getD_eq_getElem?_getD, List.getElem?_eq_none (by simp [words]; omega)]
    exact Nat.zero_le _
theorem insText_size (o a : Int) (h : Fits a) : (insText o a).size ≤ 28 := by
  unfold insText
  have h1 := fits_num h
  have h2 := word_size o.toNat
  split
  · exact Nat.zero_le _
  · split
    · omega
    · rw [ByteArray.size_append, ByteArray.size_append]
      have : (⟨#[32]⟩ : ByteArray).size = 1 := rfl
      omega
theorem lineT_size {t : ByteArray} (h : t.size ≤ 60) : (lineT t).size ≤ 68 := by
  unfold lineT
  rw [ByteArray.size_append, ByteArray.size_append]
  have h1 : (⟨#[116, 101, 120, 116, 32, 34]⟩ : ByteArray).size = 6 := rfl
  have h2 : (⟨#[34, 10]⟩ : ByteArray).size = 2 := rfl
  omega
theorem lineF_size {p l : Int} (hp : Fits p) (hl : Fits l) : (lineF p l).size ≤ 49 := by
  unfold lineF
  have a := fits_num hp
  have b := fits_num hl
  simp only [ByteArray.size_append]
  have h1 : (⟨#[102, 117, 110, 99, 32]⟩ : ByteArray).size = 5 := rfl
  have h2 : (⟨#[32]⟩ : ByteArray).size = 1 := rfl
  have h3 : (⟨#[10]⟩ : ByteArray).size = 1 := rfl
  omega
theorem lineI_size {o a : Int} (h : Fits a) : (lineI o a).size ≤ 31 := by
  unfold lineI
  have b := insText_size o a h
  simp only [ByteArray.size_append]
  have h1 : (⟨#[32, 32]⟩ : ByteArray).size = 2 := rfl
  have h3 : (⟨#[10]⟩ : ByteArray).size = 1 := rfl
  omega
theorem tB_size {ts : List ByteArray} (h : ∀ s ∈ ts, s.size ≤ 60) : ∀ k, k ≤ ts.length → (tB (ts.take k)).size ≤ k * 68 := by
  intro k
  induction k with
  | zero => intro _; simp [tB]
  | succ k ih =>
    intro hk
    have h1 := ih (by omega)
    have h2 := lineT_size (h ts[k] (List.getElem_mem (by omega)))
    rw [tB_succ (by omega), ByteArray.size_append]
    omega
theorem cB_size {xs : List (Int × Int)} {s : ByteArray} (h : ∀ x ∈ xs, Fits x.2) : ∀ k, k ≤ xs.length → (cB s (xs.take k)).size ≤ s.size + k * 31 := by
  intro k
  induction k with
  | zero => intro _; simp [cB]
  | succ k ih =>
    intro hk
    have h1 := ih (by omega)
    have h2 := lineI_size (o := xs[k].1) (h xs[k] (List.getElem_mem (by omega)))
    rw [cB_succ (by omega), ByteArray.size_append]
    omega
theorem fB_size {ts : List ByteArray} {fs : List Fn} {s : ByteArray} (ok : OkMod ts fs) : ∀ k, k ≤ fs.length → (fB s (fs.take k)).size ≤ s.size + k * 3800 := by
  intro k
  induction k with
  | zero => intro _; simp [fB]
  | succ k ih =>
    intro hk
    have h1 := ih (by omega)
    have hm : fs[k] ∈ fs := List.getElem_mem (by omega)
    have h2 := lineF_size (ok.params fs[k] hm) (ok.locals fs[k] hm)
    have h3 := ok.ncode fs[k] hm
    have h4 := cB_size (xs := fs[k].code) (s := fB s (fs.take k) ++ lineF fs[k].params fs[k].locals) (fun x hx => (ok.code fs[k] hm x hx).2) fs[k].code.length (Nat.le_refl _)
    rw [cB_all, ByteArray.size_append] at h4
    rw [fB_succ (by omega)]
    omega
end Go.Proofs.YtkclkgonihkhlaaDoor
