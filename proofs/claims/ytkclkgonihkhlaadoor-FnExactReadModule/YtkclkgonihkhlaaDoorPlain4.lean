/-
  The bytes of a function and of a module, and how many they are at most.
-/
import Derived.Test.YtkclkgonihkhlaaDoorPlain3
namespace Go.Proofs.YtkclkgonihkhlaaDoor

/-- A number that a module may hold. -/
def Fits (n : Int) : Prop := -1000000000 ≤ n ∧ n ≤ 1000000000
def codeBytes (xs : List (Int × Int)) : List Int := xs.flatMap fun x => num x.1 ++ num x.2
def fnBytes (f : Fn) : List Int := num f.params ++ num f.locals ++ num f.code.length ++ codeBytes f.code
def textBytes (s : ByteArray) : List Int := s.data.toList.map fun b => (b.toNat : Int)
def textsBytes (ts : List ByteArray) : List Int := ts.flatMap fun s => num s.size ++ textBytes s
def fnsBytes (fs : List Fn) : List Int := fs.flatMap fnBytes
/-- The bytes of a module. -/
def modBytes (ts : List ByteArray) (fs : List Fn) : List Int := num ts.length ++ textsBytes ts ++ num fs.length ++ fnsBytes fs
/-- What Save gives. -/
def saved (ts : List ByteArray) (fs : List Fn) : List Int := if modB ts fs = true ∧ (modBytes ts fs).length ≤ 20000 then modBytes ts fs else []

theorem take_flat {α β : Type} {l : List α} {f : α → List β} {k : Nat} (h : k < l.length) : (l.take (k + 1)).flatMap f = (l.take k).flatMap f ++ f l[k] := by
  rw [List.take_succ_eq_append_getElem h, List.flatMap_append]
  simp
theorem flat_len {α β : Type} {l : List α} {f : α → List β} {c : Nat} (h : ∀ x ∈ l, (f x).length ≤ c) : (l.flatMap f).length ≤ l.length * c := by
  induction l with
  | nil => simp
  | cons x l ih =>
    rw [List.flatMap_cons, List.length_append, List.length_cons, Nat.succ_mul]
    have h1 := h x (by simp)
    have h2 := ih fun y hy => h y (by simp [hy])
    omega
theorem take_flat_len {α β : Type} {l : List α} {f : α → List β} {c : Nat} (h : ∀ x ∈ l, (f x).length ≤ c) (k : Nat) : ((l.take k).flatMap f).length ≤ k * c := by
  have h1 := flat_len (l := l.take k) (f := f) (c := c) fun x hx => h x (List.mem_of_mem_take hx)
  have h2 : (l.take k).length * c ≤ k * c := Nat.mul_le_mul_right _ (List.length_take_le _ _)
  omega
theorem take_all_flat {α β : Type} {l : List α} {f : α → List β} {k : Nat} (h : l.length ≤ k) : (l.take k).flatMap f = l.flatMap f := by rw [List.take_of_length_le h]
theorem num_fits {n : Int} (h : Fits n) : (num n).length ≤ 5 := num_len h.1 h.2
theorem textBytes_len (s : ByteArray) : (textBytes s).length = s.size := by simp [textBytes]

theorem insB_fits {nt nf loc nc op a : Int} (h : insB nt nf loc nc op a = true) (h1 : nt ≤ 1000) (h2 : nf ≤ 1000) (h3 : loc ≤ 1000) (h4 : nc ≤ 1000) : Fits op ∧ Fits a := by
  unfold insB at h
  unfold Fits
  repeat' (split at h)
  all_goals simp at h
  all_goals omega

/-- What is known of a module that is ok. -/
structure OkMod (ts : List ByteArray) (fs : List Fn) : Prop where
  nt : ts.length ≤ 20
  nf : fs.length ≤ 12
  text : ∀ s ∈ ts, s.size ≤ 60
  params : ∀ f ∈ fs, Fits f.params
  locals : ∀ f ∈ fs, Fits f.locals
  ncode : ∀ f ∈ fs, f.code.length ≤ 120
  code : ∀ f ∈ fs, ∀ x ∈ f.code, Fits x.1 ∧ Fits x.2

theorem okMod {ts : List ByteArray} {fs : List Fn} (h : modB ts fs = true) : OkMod ts fs := by
  unfold modB at h
  simp only [Bool.and_eq_true, decide_eq_true_eq, List.all_eq_true] at h
  obtain ⟨⟨⟨⟨h1, h2⟩, h3⟩, h4⟩, h5⟩ := h
  have key : ∀ f ∈ fs, (0 ≤ f.params ∧ f.params ≤ 6 ∧ f.params ≤ f.locals ∧ f.locals ≤ 12 ∧ f.code.length ≤ 120) ∧ ∀ x ∈ f.code, insB ts.length fs.length f.locals f.code.length x.1 x.2 = true := by
    intro f hf
    have := h5 f hf
    unfold fnB at this
    simp only [Bool.and_eq_true, decide_eq_true_eq, List.all_eq_true] at this
    obtain ⟨⟨⟨⟨⟨⟨a1, a2⟩, a3⟩, a4⟩, a5⟩, a6⟩, a7⟩ := this
    exact ⟨⟨a1, a2, a3, a4, a6⟩, a7⟩
  refine ⟨h3, h2, fun s hs => ?_, fun f hf => ?_, fun f hf => ?_, fun f hf => (key f hf).1.2.2.2.2, fun f hf x hx => ?_⟩
  · have := h4 s hs
    unfold textB at this
    simp only [Bool.and_eq_true, decide_eq_true_eq] at this
    exact this.1
  · have := (key f hf).1; unfold Fits; omega
  · have := (key f hf).1; unfold Fits; omega
  · have k1 := (key f hf).1
    exact insB_fits ((key f hf).2 x hx) (by omega) (by omega) (by omega) (by omega)

theorem codeBytes_len {xs : List (Int × Int)} (h : ∀ x ∈ xs, Fits x.1 ∧ Fits x.2) (k : Nat) : (codeBytes (xs.take k)).length ≤ k * 10 :=
  take_flat_len (fun x hx => by have a := num_fits (h x hx).1; have b := num_fits (h x hx).2; simp; omega) k
theorem fnBytes_len {f : Fn} (h1 : Fits f.params) (h2 : Fits f.locals) (h3 : f.code.length ≤ 120) (h4 : ∀ x ∈ f.code, Fits x.1 ∧ Fits x.2) : (fnBytes f).length ≤ 1215 := by
  have a := num_fits h1
  have b := num_fits h2
  have c : (num (f.code.length : Int)).length ≤ 5 := num_len (by omega) (by omega)
  have d := codeBytes_len h4 f.code.length
  rw [List.take_of_length_le (Nat.le_refl _)] at d
  unfold fnBytes
  simp only [List.length_append]
  omega
end Go.Proofs.YtkclkgonihkhlaaDoor
