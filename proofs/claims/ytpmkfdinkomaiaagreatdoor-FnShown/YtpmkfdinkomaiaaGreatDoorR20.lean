/-
  Two ok modules with the same text are one module; what the law on ReadModule answers, of a specification that reads as it is to.
-/
import Derived.Test.YtpmkfdinkomaiaaGreatDoorGQ15
import Derived.Test.YtpmkfdinkomaiaaGreatDoorR17
import Derived.Test.YtpmkfdinkomaiaaGreatDoorGQ17
import Derived.Test.YtpmkfdinkomaiaaGreatDoorGQ1
namespace Go.Proofs.YtpmkfdinkomaiaaGreatDoor
open Go.RowKit

theorem dec_same {m n : Nat} (h : Lib.decDigits m = Lib.decDigits n) : m = n := by
  have := congrArg digVal h
  rw [digVal_dec, digVal_dec] at this
  omega
theorem num_forms (a : Int) : (∃ u : Nat, a = (u : Int) ∧ (numText a).data.toList = Lib.decDigits u) ∨ (∃ u : Nat, a = -(u : Int) ∧ (numText a).data.toList = 45 :: Lib.decDigits u) := by
  by_cases h : 0 ≤ a
  · refine .inl ⟨a.toNat, by omega, ?_⟩
    have e : a = ((a.toNat : Nat) : Int) := by omega
    have e2 := numText_pos a.toNat
    rw [← e] at e2
    rw [e2]
  · refine .inr ⟨(-a).toNat, by omega, ?_⟩
    have e : a = -(((-a).toNat : Nat) : Int) := by omega
    have e2 := numText_neg (-a).toNat (by omega)
    rw [← e] at e2
    rw [e2]
theorem dec_no_minus (u : Nat) (l : List UInt8) : Lib.decDigits u ≠ 45 :: l := fun h => by
  have := dec_digs u 45 (by rw [h]; exact List.mem_cons_self ..)
  have e : (45 : UInt8).toNat = 45 := rfl
  omega
theorem num_same {a b : Int} (h : numText a = numText b) : a = b := by
  have h' : (numText a).data.toList = (numText b).data.toList := by rw [h]
  rcases num_forms a with ⟨u, rfl, eu⟩ | ⟨u, rfl, eu⟩
  · rcases num_forms b with ⟨v, rfl, ev⟩ | ⟨v, rfl, ev⟩
    · rw [eu, ev] at h'
      rw [dec_same h']
    · rw [eu, ev] at h'
      exact absurd h' (dec_no_minus u _)
  · rcases num_forms b with ⟨v, rfl, ev⟩ | ⟨v, rfl, ev⟩
    · rw [eu, ev] at h'
      exact absurd h'.symm (dec_no_minus v _)
    · rw [eu, ev] at h'
      injection h' with _ h'
      rw [dec_same h']
theorem body_one {x y : It} (hx : x.ok) (hy : y.ok) (e : x.body = y.body) : x = y := by
  cases x with
  | t s =>
    cases y with
    | t s' =>
      have := congrArg (fun b : ByteArray => b.data.toList) e
      simp only [t_bytes, List.append_assoc] at this
      have := List.append_cancel_left this
      have := List.append_cancel_right this
      have : s = s' := ByteArray.ext (by rw [← Array.toList_inj]; exact this)
      rw [this]
    | f p l => exact absurd (e ▸ opens_t s) (opens_not_f p l)
    | i o a => exact absurd (e ▸ opens_t s) (opens_not_i o a)
  | f p l =>
    cases y with
    | t s' => exact absurd (e.symm ▸ opens_t s') (opens_not_f p l)
    | f p' l' =>
      have := congrArg (cutsB 32) e
      rw [words_f, words_f] at this
      injection this with _ this
      injection this with e1 this
      injection this with e2 _
      rw [num_same e1, num_same e2]
    | i o a =>
      have := congrArg (cutsB 32) e
      rw [words_f, words_i] at this
      injection this with e1 _
      exact absurd (congrArg (fun b : ByteArray => b.data.toList) e1) (by decide)
  | i o a =>
    cases y with
    | t s' => exact absurd (e.symm ▸ opens_t s') (opens_not_i o a)
    | f p l =>
      have := congrArg (cutsB 32) e
      rw [words_f, words_i] at this
      injection this with e1 _
      exact absurd (congrArg (fun b : ByteArray => b.data.toList) e1) (by decide)
    | i o' a' =>
      have := congrArg (cutsB 32) e
      rw [words_i, words_i] at this
      have this := List.append_cancel_left this
      rw [words_of_ins hx.1 hx.2.1, words_of_ins hy.1 hy.2.1] at this
      obtain ⟨w, hw1, hw2, -⟩ := words_at o.toNat (by have := hx.2.1; omega)
      obtain ⟨w', hw1', hw2', -⟩ := words_at o'.toNat (by have := hy.2.1; omega)
      rw [hw2, hw2'] at this
      have hx1 := hx.1
      have hy1 := hy.1
      have one : w = w' → o = o' := fun h => by
        subst h
        have := words_one hw1 hw1'
        omega
      split at this
      · split at this
        · rename_i b b'
          injection this with h1 _
          rw [one h1, hx.2.2.2 b, hy.2.2.2 b']
        · cases this
      · split at this
        · cases this
        · injection this with h1 h2
          injection h2 with h2 _
          rw [one h1, num_same h2]
theorem show_one {T T' : List ByteArray} {F F' : List Fn} (h : modB T F = true) (h' : modB T' F' = true) (e : showB T F = showB T' F') : T = T' ∧ F = F' := by
  have e1 := congrArg (cutsB 10) e
  rw [cutsB_show h, cutsB_show h'] at e1
  have e2 := List.append_cancel_right e1
  have hi : items T F = items T' F' := by
    have ok := items_ok h
    have ok' := items_ok h'
    revert e2 ok ok'
    generalize items T F = l
    generalize items T' F' = l'
    intro e2 ok ok'
    induction l generalizing l' with
    | nil => cases l' with
      | nil => rfl
      | cons y l' => cases e2
    | cons x l ih => cases l' with
      | nil => cases e2
      | cons y l' =>
        simp only [List.map_cons, List.cons.injEq] at e2
        rw [body_one (ok x (by simp)) (ok' y (by simp)) e2.1, ih l' e2.2 (fun z hz => ok z (by simp [hz])) (fun z hz => ok' z (by simp [hz]))]
  have := ap_all T F
  rw [hi, ap_all] at this
  injection this with a b
  exact ⟨a.symm, b.symm⟩

/-- What reading tells of the text. -/
def ReadOf (text : ByteArray) (ok : Bool) (ts : List ByteArray) (fs : List Fn) : Prop := (ok = true ∧ modB ts fs = true ∧ text = showB ts fs) ∨ (ok = false ∧ ts = [] ∧ fs = [] ∧ ∀ T F, modB T F = true → text ≠ showB T F)
theorem ReadOf.one {text : ByteArray} {ok ok' : Bool} {ts ts' : List ByteArray} {fs fs' : List Fn} (h : ReadOf text ok ts fs) (h' : ReadOf text ok' ts' fs') : ok' = ok ∧ ts' = ts ∧ fs' = fs := by
  rcases h with ⟨rfl, h1, h2⟩ | ⟨rfl, rfl, rfl, h3⟩
  · rcases h' with ⟨rfl, k1, k2⟩ | ⟨rfl, rfl, rfl, k3⟩
    · obtain ⟨rfl, rfl⟩ := show_one h1 k1 (h2.symm.trans k2)
      exact ⟨rfl, rfl, rfl⟩
    · exact absurd h2 (k3 _ _ h1)
  · rcases h' with ⟨rfl, k1, k2⟩ | ⟨rfl, rfl, rfl, k3⟩
    · exact absurd k2 (h3 _ _ k1)
    · exact ⟨rfl, rfl, rfl⟩

theorem ReadOf.small {text : ByteArray} {ok : Bool} {ts : List ByteArray} {fs : List Fn} (h : ReadOf text ok ts fs) : Small ts fs := by
  rcases h with ⟨rfl, h1, h2⟩ | ⟨rfl, rfl, rfl, h3⟩
  · have k := okMod h1
    exact ⟨by have := k.nt; omega, fun s hs => by have := k.text s hs; omega, by have := k.nf; omega, fun f hf => by have := k.ncode f hf; omega⟩
  · exact ⟨by simp, by simp, by simp, by simp⟩
theorem ModOwn.nil (w : World) (base : Nat) : ModOwn w base none 0 none 0 [] [] [] := ⟨World.ownsRow_nil _ _ _ _, World.ownsRow_nil _ _ _ _, CodesOwn.nil _ _⟩
/-- What a reader answers, both answers in one. -/
def OnePost (text : ByteArray) (w : World) (e : Ending) (w' : World) : Prop :=
  ∃ (ok : Bool) (ts : List ByteArray) (fs : List Fn) (cs : List (Option Addr × Nat)) (a1 : Option Addr) (c1 : Nat) (a2 : Option Addr) (c2 : Nat), Hid (ReadOf text ok ts fs) ∧ e = .returned (.tuple #[.agg #[.slice a1 ts.length c1, .slice a2 fs.length c2], .bool ok]) ∧ ModOwn w' w.heap.size a1 c1 a2 c2 ts fs cs ∧ Below w.heap.size w w'
theorem ReadPost.one {text : ByteArray} {w w' : World} {e : Ending} (h : ReadPost text w e w') : OnePost text w e w' := by
  obtain ⟨hb, ⟨ts, fs, a1, c1, a2, c2, cs, rfl, h1, h2, hm⟩ | ⟨rfl, hno⟩⟩ := h
  · exact ⟨true, ts, fs, cs, a1, c1, a2, c2, Or.inl ⟨rfl, h1, h2⟩, rfl, hm, hb⟩
  · exact ⟨false, [], [], [], none, 0, none, 0, Or.inr ⟨rfl, rfl, rfl, hno⟩, rfl, ModOwn.nil _ _, hb⟩

end Go.Proofs.YtpmkfdinkomaiaaGreatDoor
