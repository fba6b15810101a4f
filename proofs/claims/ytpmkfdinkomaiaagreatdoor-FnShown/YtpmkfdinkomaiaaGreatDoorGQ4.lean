/-
  The bytes of a number and of a module as lists of numbers.
  The bytes of a function and of a module, and how many they are at most.
  The text of a module on plain data, and how long it is at most.
-/
import Derived.Test.YtpmkfdinkomaiaaGreatDoorGQ2
import Derived.Test.YtpmkfdinkomaiaaGreatDoorGQ3
import Derived.Test.YtpmkfdinkomaiaaGreatDoorMem3
namespace Go.Proofs.YtpmkfdinkomaiaaGreatDoor

def zig (n : Int) : Nat := if n < 0 then (-2 * n - 1).toNat else (2 * n).toNat
def groups : Nat → Nat → List Int
  | 0, u => [(u : Int)]
  | f + 1, u => if u < 128 then [(u : Int)] else ((u : Int) % 128 + 128) :: groups f (u / 128)
/-- The bytes of a number. -/
def num (n : Int) : List Int := groups (zig n) (zig n)

theorem groups_small {f x : Nat} (h : x < 128) : groups f x = [(x : Int)] := by
  cases f with
  | zero => rfl
  | succ f => simp [groups, h]
theorem groups_big {f x : Nat} (h : 128 ≤ x) (hf : x ≤ f) : ∃ f', groups f x = ((x : Int) % 128 + 128) :: groups f' (x / 128) ∧ x / 128 ≤ f' := by
  cases f with
  | zero => omega
  | succ f => exact ⟨f, by rw [groups, if_neg (by omega)], by omega⟩
theorem groups_len (k : Nat) : ∀ f x, x < 128 ^ (k + 1) → (groups f x).length ≤ k + 1 := by
  induction k with
  | zero => intro f x h; rw [groups_small (by simpa using h)]; simp
  | succ k ih =>
    intro f x h
    cases f with
    | zero => simp [groups]
    | succ f =>
      unfold groups
      split
      · simp
      · have := ih f (x / 128) (Nat.div_lt_of_lt_mul (by rw [Nat.pow_succ] at h; omega))
        simp only [List.length_cons]
        omega
theorem num_len {n : Int} (h0 : -1000000000 ≤ n) (h1 : n ≤ 1000000000) : (num n).length ≤ 5 :=
  groups_len 4 _ _ (by unfold zig; split <;> omega)
end Go.Proofs.YtpmkfdinkomaiaaGreatDoor

namespace Go.Proofs.YtpmkfdinkomaiaaGreatDoor

/-- A number that a module may hold. -/
def Fits (n : Int) : Prop := -1000000000 ≤ n ∧ n ≤ 1000000000
def codeBytes (xs : List (Int × Int)) : List Int := xs.flatMap fun x => num x.1 ++ num x.2
def fnBytes (f : Fn) : List Int := num f.params ++ num f.locals ++ num f.code.length ++ codeBytes f.code
def textBytes (s : ByteArray) : List Int := s.data.toList.map fun b => (b.toNat : Int)
def textsBytes (ts : List ByteArray) : List Int := ts.flatMap fun s => num s.size ++ textBytes s
def fnsBytes (fs : List Fn) : List Int := fs.flatMap fnBytes
/-- The bytes of a module. -/
def modBytes (ts : List ByteArray) (fs : List Fn) : List Int := num ts.length ++ textsBytes ts ++ num fs.length ++ fnsBytes fs
/-- What Save gives. -/
def saved (ts : List ByteArray) (fs : List Fn) : List Int := if modB ts fs = true ∧ (modBytes ts fs).length ≤ 20000 then modBytes ts fs else []

theorem take_flat {α β : Type} {l : List α} {f : α → List β} {k : Nat} (h : k < l.length) : (l.take (k + 1)).flatMap f = (l.take k).flatMap f ++ f l[k] := by
  rw [List.take_succ_eq_append_getElem h, List.flatMap_append]
  simp
theorem flat_len {α β : Type} {l : List α} {f : α → List β} {c : Nat} (h : ∀ x ∈ l, (f x).length ≤ c) : (l.flatMap f).length ≤ l.length * c := by
  induction l with
  | nil => simp
  | cons x l ih =>
    rw [List.flatMap_cons, List.length_append, List.length_cons, Nat.succ_mul]
    have h1 := h x (by simp)
    have h2 := ih fun y hy => h y (by simp [hy])
    omega
theorem take_flat_len {α β : Type} {l : List α} {f : α → List β} {c : Nat} (h : ∀ x ∈ l, (f x).length ≤ c) (k : Nat) : ((l.take k).flatMap f).length ≤ k * c := by
  have h1 := flat_len (l := l.take k) (f := f) (c := c) fun x hx => h x (List.mem_of_mem_take hx)
  have h2 : (l.take k).length * c ≤ k * c := Nat.mul_le_mul_right _ (List.length_take_le _ _)
  omega
theorem take_all_flat {α β : Type} {l : List α} {f : α → List β} {k : Nat} (h : l.length ≤ k) : (l.take k).flatMap f = l.flatMap f := by rw [List.take_of_length_le h]
theorem num_fits {n : Int} (h : Fits n) : (num n).length ≤ 5 := num_len h.1 h.2
theorem textBytes_len (s : ByteArray) : (textBytes s).length = s.size := by simp [textBytes]

theorem insB_fits {nt nf loc nc op a : Int} (h : insB nt nf loc nc op a = true) (h1 : nt ≤ 1000) (h2 : nf ≤ 1000) (h3 : loc ≤ 1000) (h4 : nc ≤ 1000) : Fits op ∧ Fits a := by
  unfold insB at h
  unfold Fits
  repeat' (split at h)
  all_goals simp at h
  all_goals omega

/-- What is known of a module that is ok. -/
structure OkMod (ts : List ByteArray) (fs : List Fn) : Prop where
  nt : ts.length ≤ 20
  nf : fs.length ≤ 12
  text : ∀ s ∈ ts, s.size ≤ 60
  params : ∀ f ∈ fs, Fits f.params
  locals : ∀ f ∈ fs, Fits f.locals
  ncode : ∀ f ∈ fs, f.code.length ≤ 120
  code : ∀ f ∈ fs, ∀ x ∈ f.code, Fits x.1 ∧ Fits x.2

theorem okMod {ts : List ByteArray} {fs : List Fn} (h : modB ts fs = true) : OkMod ts fs := by
  unfold modB at h
  simp only [Bool.and_eq_true, decide_eq_true_eq, List.all_eq_true] at h
  obtain ⟨⟨⟨⟨h1, h2⟩, h3⟩, h4⟩, h5⟩ := h
  have key : ∀ f ∈ fs, (0 ≤ f.params ∧ f.params ≤ 6 ∧ f.params ≤ f.locals ∧ f.locals ≤ 12 ∧ f.code.length ≤ 120) ∧ ∀ x ∈ f.code, insB ts.length fs.length f.locals f.code.length x.1 x.2 = true := by
    intro f hf
    have := h5 f hf
    unfold fnB at this
    simp only [Bool.and_eq_true, decide_eq_true_eq, List.all_eq_true] at this
    obtain ⟨⟨⟨⟨⟨⟨a1, a2⟩, a3⟩, a4⟩, a5⟩, a6⟩, a7⟩ := this
    exact ⟨⟨a1, a2, a3, a4, a6⟩, a7⟩
  refine ⟨h3, h2, fun s hs => ?_, fun f hf => ?_, fun f hf => ?_, fun f hf => (key f hf).1.2.2.2.2, fun f hf x hx => ?_⟩
  · have := h4 s hs
    unfold textB at this
    simp only [Bool.and_eq_true, decide_eq_true_eq] at this
    exact this.1
  · have := (key f hf).1; unfold Fits; omega
  · have := (key f hf).1; unfold Fits; omega
  · have k1 := (key f hf).1
    exact insB_fits ((key f hf).2 x hx) (by omega) (by omega) (by omega) (by omega)

theorem codeBytes_len {xs : List (Int × Int)} (h : ∀ x ∈ xs, Fits x.1 ∧ Fits x.2) (k : Nat) : (codeBytes (xs.take k)).length ≤ k * 10 :=
  take_flat_len (fun x hx => by have a := num_fits (h x hx).1; have b := num_fits (h x hx).2; simp; omega) k
theorem fnBytes_len {f : Fn} (h1 : Fits f.params) (h2 : Fits f.locals) (h3 : f.code.length ≤ 120) (h4 : ∀ x ∈ f.code, Fits x.1 ∧ Fits x.2) : (fnBytes f).length ≤ 1215 := by
  have a := num_fits h1
  have b := num_fits h2
  have c : (num (f.code.length : Int)).length ≤ 5 := num_len (by omega) (by omega)
  have d := codeBytes_len h4 f.code.length
  rw [List.take_of_length_le (Nat.le_refl _)] at d
  unfold fnBytes
  simp only [List.length_append]
  omega
end Go.Proofs.YtpmkfdinkomaiaaGreatDoor

namespace Go.Proofs.YtpmkfdinkomaiaaGreatDoor
open Go.RowKit

/-- The lines of a text, a function, an instruction. -/
def lineT (t : ByteArray) : ByteArray := ⟨#[116, 101, 120, 116, 32, 34]⟩ ++ t ++ ⟨#[34, 10]⟩
def lineF (p l : Int) : ByteArray := ⟨#[102, 117, 110, 99, 32]⟩ ++ numText p ++ ⟨#[32]⟩ ++ numText l ++ ⟨#[10]⟩
def lineI (o a : Int) : ByteArray := ⟨#[32, 32]⟩ ++ insText o a ++ ⟨#[10]⟩
def tB (ts : List ByteArray) : ByteArray := ts.foldl (fun s t => s ++ lineT t) ByteArray.empty
def cB (s : ByteArray) (xs : List (Int × Int)) : ByteArray := xs.foldl (fun s x => s ++ lineI x.1 x.2) s
def fB (s : ByteArray) (fs : List Fn) : ByteArray := fs.foldl (fun s f => cB (s ++ lineF f.params f.locals) f.code) s
/-- The text of a module that is ok. -/
def showB (ts : List ByteArray) (fs : List Fn) : ByteArray := fB (tB ts) fs
def shown (ts : List ByteArray) (fs : List Fn) : ByteArray := if modB ts fs = true then showB ts fs else ⟨#[]⟩

theorem tB_succ {ts : List ByteArray} {k : Nat} (h : k < ts.length) : tB (ts.take (k + 1)) = tB (ts.take k) ++ lineT ts[k] := by
  unfold tB
  rw [List.take_succ_eq_append_getElem h, List.foldl_append]
  rfl
theorem cB_succ {xs : List (Int × Int)} {s : ByteArray} {k : Nat} (h : k < xs.length) : cB s (xs.take (k + 1)) = cB s (xs.take k) ++ lineI xs[k].1 xs[k].2 := by
  unfold cB
  rw [List.take_succ_eq_append_getElem h, List.foldl_append]
  rfl
theorem fB_succ {fs : List Fn} {s : ByteArray} {k : Nat} (h : k < fs.length) : fB s (fs.take (k + 1)) = cB (fB s (fs.take k) ++ lineF fs[k].params fs[k].locals) fs[k].code := by
  unfold fB
  rw [List.take_succ_eq_append_getElem h, List.foldl_append]
  rfl
theorem tB_all (ts : List ByteArray) : tB (ts.take ts.length) = tB ts := by rw [List.take_of_length_le (Nat.le_refl _)]
theorem cB_all (s : ByteArray) (xs : List (Int × Int)) : cB s (xs.take xs.length) = cB s xs := by rw [List.take_of_length_le (Nat.le_refl _)]
theorem fB_all (s : ByteArray) (fs : List Fn) : fB s (fs.take fs.length) = fB s fs := by rw [List.take_of_length_le (Nat.le_refl _)]

theorem fits_num {n : Int} (h : Fits n) : (numText n).size ≤ 21 := numText_size n (by have := h.1; omega) (by have := h.2; omega)
theorem word_size (k : Nat) : (words.getD k ⟨#[]⟩).size ≤ 6 := by
  by_cases h : k < 27
  · have hall : ∀ i : Fin 27, (words.getD i.val ⟨#[]⟩).size ≤ 6 := by decide
    exact hall ⟨k, h⟩
  · rw [List.getD_eq_getElem?_getD, List.getElem?_eq_none (by simp [words]; omega)]
    exact Nat.zero_le _
theorem insText_size (o a : Int) (h : Fits a) : (insText o a).size ≤ 28 := by
  unfold insText
  have h1 := fits_num h
  have h2 := word_size o.toNat
  split
  · exact Nat.zero_le _
  · split
    · omega
    · rw [ByteArray.size_append, ByteArray.size_append]
      have : (⟨#[32]⟩ : ByteArray).size = 1 := rfl
      omega
theorem lineT_size {t : ByteArray} (h : t.size ≤ 60) : (lineT t).size ≤ 68 := by
  unfold lineT
  rw [ByteArray.size_append, ByteArray.size_append]
  have h1 : (⟨#[116, 101, 120, 116, 32, 34]⟩ : ByteArray).size = 6 := rfl
  have h2 : (⟨#[34, 10]⟩ : ByteArray).size = 2 := rfl
  omega
theorem lineF_size {p l : Int} (hp : Fits p) (hl : Fits l) : (lineF p l).size ≤ 49 := by
  unfold lineF
  have a := fits_num hp
  have b := fits_num hl
  simp only [ByteArray.size_append]
  have h1 : (⟨#[102, 117, 110, 99, 32]⟩ : ByteArray).size = 5 := rfl
  have h2 : (⟨#[32]⟩ : ByteArray).size = 1 := rfl
  have h3 : (⟨#[10]⟩ : ByteArray).size = 1 := rfl
  omega
theorem lineI_size {o a : Int} (h : Fits a) : (lineI o a).size ≤ 31 := by
  unfold lineI
  have b := insText_size o a h
  simp only [ByteArray.size_append]
  have h1 : (⟨#[32, 32]⟩ : ByteArray).size = 2 := rfl
  have h3 : (⟨#[10]⟩ : ByteArray).size = 1 := rfl
  omega
theorem tB_size {ts : List ByteArray} (h : ∀ s ∈ ts, s.size ≤ 60) : ∀ k, k ≤ ts.length → (tB (ts.take k)).size ≤ k * 68 := by
  intro k
  induction k with
  | zero => intro _; simp [tB]
  | succ k ih =>
    intro hk
    have h1 := ih (by omega)
    have h2 := lineT_size (h ts[k] (List.getElem_mem (by omega)))
    rw [tB_succ (by omega), ByteArray.size_append]
    omega
theorem cB_size {xs : List (Int × Int)} {s : ByteArray} (h : ∀ x ∈ xs, Fits x.2) : ∀ k, k ≤ xs.length → (cB s (xs.take k)).size ≤ s.size + k * 31 := by
  intro k
  induction k with
  | zero => intro _; simp [cB]
  | succ k ih =>
    intro hk
    have h1 := ih (by omega)
    have h2 := lineI_size (o := xs[k].1) (h xs[k] (List.getElem_mem (by omega)))
    rw [cB_succ (by omega), ByteArray.size_append]
    omega
theorem fB_size {ts : List ByteArray} {fs : List Fn} {s : ByteArray} (ok : OkMod ts fs) : ∀ k, k ≤ fs.length → (fB s (fs.take k)).size ≤ s.size + k * 3800 := by
  intro k
  induction k with
  | zero => intro _; simp [fB]
  | succ k ih =>
    intro hk
    have h1 := ih (by omega)
    have hm : fs[k] ∈ fs := List.getElem_mem (by omega)
    have h2 := lineF_size (ok.params fs[k] hm) (ok.locals fs[k] hm)
    have h3 := ok.ncode fs[k] hm
    have h4 := cB_size (xs := fs[k].code) (s := fB s (fs.take k) ++ lineF fs[k].params fs[k].locals) (fun x hx => (ok.code fs[k] hm x hx).2) fs[k].code.length (Nat.le_refl _)
    rw [cB_all, ByteArray.size_append] at h4
    rw [fB_succ (by omega)]
    omega
end Go.Proofs.YtpmkfdinkomaiaaGreatDoor
