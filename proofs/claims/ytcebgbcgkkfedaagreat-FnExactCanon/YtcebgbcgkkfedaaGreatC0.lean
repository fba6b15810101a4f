/-
  Records numbered anew in the order in which they are met, on plain data.
-/
import Derived.Test.YtcebgbcgkkfedaaGreatM0
namespace Go.Proofs.YtcebgbcgkkfedaaGreat
open Go.RowKit

/-- The place of n among those that were met; their number, if it is not among them. -/
def idx : List Nat → Nat → Nat
  | [], _ => 0
  | m :: ms, n => if m = n then 0 else idx ms n + 1
def seen (ms : List Nat) (n : Nat) : List Nat := if n ∈ ms then ms else ms ++ [n]
def mV (ms : List Nat) (v : Vl) : Vl := if v.k = 4 then ⟨v.k, (idx ms v.n.toNat : Int), v.s⟩ else v
def mS (ms : List Nat) (v : Vl) : List Nat := if v.k = 4 then seen ms v.n.toNat else ms

theorem idx_new : ∀ {ms : List Nat} {n : Nat}, n ∉ ms → idx ms n = ms.length
  | [], _, _ => rfl
  | m :: ms, n, h => by
    simp only [List.mem_cons, not_or] at h
    rw [idx, if_neg (fun e => h.1 e.symm), idx_new h.2]
    rfl
theorem idx_lt : ∀ {ms : List Nat} {n : Nat}, n ∈ ms → idx ms n < ms.length
  | m :: ms, n, h => by
    rw [idx]
    split
    · simp
    · rename_i hne
      simp only [List.mem_cons] at h
      rcases h with h | h
      · exact absurd h.symm hne
      · have := idx_lt h
        simp only [List.length_cons]
        omega
theorem idx_get : ∀ {ms : List Nat} {n : Nat}, n ∈ ms → ms[idx ms n]? = some n
  | m :: ms, n, h => by
    rw [idx]
    split
    · rename_i e
      rw [e]; rfl
    · rename_i hne
      simp only [List.mem_cons] at h
      rcases h with h | h
      · exact absurd h.symm hne
      · rw [List.getElem?_cons_succ]
        exact idx_get h
theorem idx_app : ∀ {ms : List Nat} {n : Nat} (x : Nat), n ∈ ms → idx (ms ++ [x]) n = idx ms n
  | m :: ms, n, x, h => by
    rw [List.cons_append, idx, idx]
    split
    · rfl
    · rename_i hne
      simp only [List.mem_cons] at h
      rcases h with h | h
      · exact absurd h.symm hne
      · rw [idx_app x h]
theorem idx_last {ms : List Nat} {n : Nat} (h : n ∉ ms) : idx (ms ++ [n]) n = ms.length := by
  induction ms with
  | nil => simp [idx]
  | cons m ms ih =>
    simp only [List.mem_cons, not_or] at h
    rw [List.cons_append, idx, if_neg (fun e => h.1 e.symm), ih h.2]
    rfl

def lS : List Nat → List Vl → List Nat
  | ms, [] => ms
  | ms, v :: vs => lS (mS ms v) vs
def lV : List Nat → List Vl → List Vl
  | _, [] => []
  | ms, v :: vs => mV ms v :: lV (mS ms v) vs
theorem lS_app : ∀ (ms : List Nat) (xs ys : List Vl), lS ms (xs ++ ys) = lS (lS ms xs) ys
  | _, [], _ => rfl
  | ms, v :: vs, ys => lS_app (mS ms v) vs ys
theorem lV_app : ∀ (ms : List Nat) (xs ys : List Vl), lV ms (xs ++ ys) = lV ms xs ++ lV (lS ms xs) ys
  | _, [], _ => rfl
  | ms, v :: vs, ys => by rw [List.cons_append, lV, lV, lV_app (mS ms v) vs ys]; rfl
theorem lV_len : ∀ (ms : List Nat) (xs : List Vl), (lV ms xs).length = xs.length
  | _, [] => rfl
  | ms, v :: vs => by rw [lV, List.length_cons, lV_len, List.length_cons]
theorem take_more {α : Type} {l : List α} {k : Nat} (h : k < l.length) : l.take (k + 1) = l.take k ++ [l[k]] := by
  rw [List.take_add_one, List.getElem?_eq_getElem h]; rfl
theorem lS_more {ms : List Nat} {vs : List Vl} {k : Nat} (h : k < vs.length) : lS ms (vs.take (k + 1)) = mS (lS ms (vs.take k)) vs[k] := by
  rw [take_more h, lS_app]; rfl
theorem lV_more {ms : List Nat} {vs : List Vl} {k : Nat} (h : k < vs.length) : lV ms (vs.take (k + 1)) = lV ms (vs.take k) ++ [mV (lS ms (vs.take k)) vs[k]] := by
  rw [take_more h, lV_app]; rfl
theorem lV_at {ms : List Nat} {vs : List Vl} {k : Nat} (h : k < vs.length) (h' : k < (lV ms vs).length) : (lV ms vs)[k] = mV (lS ms (vs.take k)) vs[k] := by
  have e : vs = vs.take k ++ (vs[k] :: vs.drop (k + 1)) := by rw [List.getElem_cons_drop, List.take_append_drop]
  have hl : (lV ms (vs.take k)).length = k := by rw [lV_len, List.length_take]; omega
  have e2 : lV ms vs = lV ms (vs.take k) ++ (mV (lS ms (vs.take k)) vs[k] :: lV (mS (lS ms (vs.take k)) vs[k]) (vs.drop (k + 1))) := by
    conv => lhs; rw [e, lV_app]
    rfl
  have e3 : (lV ms vs)[k]? = some (mV (lS ms (vs.take k)) vs[k]) := by
    rw [e2, List.getElem?_append_right (by omega), hl, Nat.sub_self]
    rfl
  rw [List.getElem?_eq_getElem h'] at e3
  exact Option.some.inj e3

def fS : List Nat → List Fr → List Nat
  | ms, [] => ms
  | ms, f :: fs => fS (lS (lS ms f.locals) f.stack) fs
def fV : List Nat → List Fr → List Fr
  | _, [] => []
  | ms, f :: fs => ⟨f.fn, f.pc, lV ms f.locals, lV (lS ms f.locals) f.stack⟩ :: fV (lS (lS ms f.locals) f.stack) fs
theorem fS_app : ∀ (ms : List Nat) (xs ys : List Fr), fS ms (xs ++ ys) = fS (fS ms xs) ys
  | _, [], _ => rfl
  | ms, f :: fs, ys => fS_app (lS (lS ms f.locals) f.stack) fs ys
theorem fV_app : ∀ (ms : List Nat) (xs ys : List Fr), fV ms (xs ++ ys) = fV ms xs ++ fV (fS ms xs) ys
  | _, [], _ => rfl
  | ms, f :: fs, ys => by rw [List.cons_append, fV, fV, fV_app _ fs ys]; rfl
theorem fV_len : ∀ (ms : List Nat) (xs : List Fr), (fV ms xs).length = xs.length
  | _, [] => rfl
  | ms, f :: fs => by rw [fV, List.length_cons, fV_len, List.length_cons]
theorem fS_more {ms : List Nat} {fs : List Fr} {k : Nat} (h : k < fs.length) : fS ms (fs.take (k + 1)) = lS (lS (fS ms (fs.take k)) fs[k].locals) fs[k].stack := by
  rw [take_more h, fS_app]; rfl
theorem fV_more {ms : List Nat} {fs : List Fr} {k : Nat} (h : k < fs.length) : fV ms (fs.take (k + 1)) = fV ms (fs.take k) ++ [⟨fs[k].fn, fs[k].pc, lV (fS ms (fs.take k)) fs[k].locals, lV (lS (fS ms (fs.take k)) fs[k].locals) fs[k].stack⟩] := by
  rw [take_more h, fV_app]; rfl
theorem fV_at {ms : List Nat} {fs : List Fr} {k : Nat} (h : k < fs.length) (h' : k < (fV ms fs).length) : (fV ms fs)[k] = ⟨fs[k].fn, fs[k].pc, lV (fS ms (fs.take k)) fs[k].locals, lV (lS (fS ms (fs.take k)) fs[k].locals) fs[k].stack⟩ := by
  have e : fs = fs.take k ++ (fs[k] :: fs.drop (k + 1)) := by rw [List.getElem_cons_drop, List.take_append_drop]
  have hl : (fV ms (fs.take k)).length = k := by rw [fV_len, List.length_take]; omega
  have e2 : fV ms fs = fV ms (fs.take k) ++ fV (fS ms (fs.take k)) (fs[k] :: fs.drop (k + 1)) := by
    conv => lhs; rw [e, fV_app]
  have e3 : (fV ms fs)[k]? = some ⟨fs[k].fn, fs[k].pc, lV (fS ms (fs.take k)) fs[k].locals, lV (lS (fS ms (fs.take k)) fs[k].locals) fs[k].stack⟩ := by
    rw [e2, List.getElem?_append_right (by omega), hl, Nat.sub_self]
    rfl
  rw [List.getElem?_eq_getElem h'] at e3
  exact Option.some.inj e3

/-- Behind i records: those that were met, and the records with their new fields. -/
def rIter (hp : List (List Vl)) (ms0 : List Nat) : Nat → List Nat × List (List Vl)
  | 0 => (ms0, [])
  | i + 1 => if i < (rIter hp ms0 i).1.length then (lS (rIter hp ms0 i).1 (hp.getD ((rIter hp ms0 i).1.getD i 0) []), (rIter hp ms0 i).2 ++ [lV (rIter hp ms0 i).1 (hp.getD ((rIter hp ms0 i).1.getD i 0) [])]) else rIter hp ms0 i

def ms0 (d : VmD) : List Nat := mS (fS [] d.frames) d.value
/-- The canon of a state. -/
def canonD (d : VmD) : VmD := { frames := fV [] d.frames, heap := (rIter d.heap (ms0 d) d.heap.length).2, made := d.made, out := d.out, status := d.status, trap := d.trap, value := mV (fS [] d.frames) d.value, steps := 0 }

theorem rIter_stay {hp : List (List Vl)} {ms0 : List Nat} {i : Nat} (h : (rIter hp ms0 i).1.length ≤ i) : ∀ k, rIter hp ms0 (i + k) = rIter hp ms0 i
  | 0 => rfl
  | k + 1 => by
    have ih := rIter_stay h k
    rw [← Nat.add_assoc, rIter, if_neg (by rw [ih]; omega), ih]
theorem rIter_end {hp : List (List Vl)} {ms0 : List Nat} {i n : Nat} (h : (rIter hp ms0 i).1.length ≤ i) (hn : i ≤ n) : rIter hp ms0 n = rIter hp ms0 i := by
  have := rIter_stay h (n - i)
  rw [show i + (n - i) = n by omega] at this
  exact this

/-- Numbers of records that are there, each once. -/
structure Met (H : Nat) (ms : List Nat) : Prop where
  once : ms.Nodup
  lt : ∀ n ∈ ms, n < H
theorem once_le : ∀ (H : Nat) (ms : List Nat), ms.Nodup → (∀ n ∈ ms, n < H) → ms.length ≤ H
  | 0, ms, _, h => by
    cases ms with
    | nil => simp
    | cons m ms => exact absurd (h m (by simp)) (Nat.not_lt_zero _)
  | H + 1, ms, hn, h => by
    have h1 := once_le H (ms.erase H) (hn.erase H) (fun n hm => by
      have := (hn.mem_erase_iff).1 hm
      have := h n this.2
      omega)
    by_cases hm : H ∈ ms
    · rw [List.length_erase_of_mem hm] at h1
      omega
    · rw [List.erase_of_not_mem hm] at h1
      omega
theorem Met.le {H : Nat} {ms : List Nat} (h : Met H ms) : ms.length ≤ H := once_le H ms h.once h.lt
theorem Met.nil (H : Nat) : Met H [] := ⟨List.nodup_nil, fun _ h => by simp at h⟩
theorem Met.seen {H n : Nat} {ms : List Nat} (h : Met H ms) (hn : n < H) : Met H (seen ms n) := by
  unfold Go.Proofs.YtcebgbcgkkfedaaGreat.seen
  split
  · exact h
  · rename_i hm
    refine ⟨?_, fun x hx => ?_⟩
    · rw [List.nodup_append]
      refine ⟨h.once, by simp, fun a ha b hb e => ?_⟩
      simp at hb
      rw [e, hb] at ha
      exact hm ha
    · simp at hx
      rcases hx with hx | rfl
      · exact h.lt x hx
      · exact hn

/-- A value that names no record which is not there. -/
def Named (H : Nat) (v : Vl) : Prop := v.k = 4 → 0 ≤ v.n ∧ v.n < (H : Int)
theorem Met.mS {H : Nat} {ms : List Nat} {v : Vl} (h : Met H ms) (hv : Named H v) : Met H (mS ms v) := by
  unfold Go.Proofs.YtcebgbcgkkfedaaGreat.mS
  split
  · rename_i e
    have := hv e
    exact h.seen (by omega)
  · exact h
theorem met_lS {H : Nat} (vs : List Vl) : ∀ (ms : List Nat), Met H ms → (∀ v ∈ vs, Named H v) → Met H (lS ms vs) := by
  induction vs with
  | nil => intro ms h _; exact h
  | cons v vs ih => intro ms h hv; exact ih (mS ms v) (h.mS (hv v (by simp))) (fun x hx => hv x (by simp [hx]))
theorem Met.lS {H : Nat} {ms : List Nat} {vs : List Vl} (h : Met H ms) (hv : ∀ v ∈ vs, Named H v) : Met H (lS ms vs) := met_lS vs ms h hv
theorem met_fS {H : Nat} (fs : List Fr) : ∀ (ms : List Nat), Met H ms → (∀ f ∈ fs, (∀ v ∈ f.locals, Named H v) ∧ (∀ v ∈ f.stack, Named H v)) → Met H (fS ms fs) := by
  induction fs with
  | nil => intro ms h _; exact h
  | cons f fs ih => intro ms h hv; exact ih _ ((h.lS (hv f (by simp)).1).lS (hv f (by simp)).2) (fun x hx => hv x (by simp [hx]))
theorem Met.fS {H : Nat} {ms : List Nat} {fs : List Fr} (h : Met H ms) (hv : ∀ f ∈ fs, (∀ v ∈ f.locals, Named H v) ∧ (∀ v ∈ f.stack, Named H v)) : Met H (fS ms fs) := met_fS fs ms h hv
theorem Met.rIter {hp : List (List Vl)} {ms0 : List Nat} (h : Met hp.length ms0) (hv : ∀ r ∈ hp, ∀ v ∈ r, Named hp.length v) : ∀ i, Met hp.length (rIter hp ms0 i).1
  | 0 => h
  | i + 1 => by
    have ih := Met.rIter h hv i
    rw [Go.Proofs.YtcebgbcgkkfedaaGreat.rIter]
    split
    · rename_i hlt
      refine ih.lS fun v hm => ?_
      rw [List.getD_eq_getElem?_getD] at hm
      cases hq : hp[(Go.Proofs.YtcebgbcgkkfedaaGreat.rIter hp ms0 i).1.getD i 0]? with
      | none => rw [hq] at hm; simp at hm
      | some r =>
        rw [hq] at hm
        exact hv r (List.mem_of_getElem? hq) v hm
    · exact ih
theorem rIter_len {hp : List (List Vl)} {ms0 : List Nat} : ∀ i, i ≤ (rIter hp ms0 i).1.length → (rIter hp ms0 i).2.length = i
  | 0, _ => rfl
  | i + 1, h => by
    rw [rIter] at h ⊢
    split at h
    · rename_i hlt
      rw [if_pos hlt]
      simp [rIter_len (hp := hp) (ms0 := ms0) i (by omega)]
    · rename_i hlt
      omega

/-- All values of a state name records that are there. -/
structure AllNamed (d : VmD) : Prop where
  frames : ∀ f ∈ d.frames, (∀ v ∈ f.locals, Named d.heap.length v) ∧ (∀ v ∈ f.stack, Named d.heap.length v)
  heap : ∀ r ∈ d.heap, ∀ v ∈ r, Named d.heap.length v
  value : Named d.heap.length d.value
theorem AllNamed.ms0 {d : VmD} (h : AllNamed d) : Met d.heap.length (ms0 d) := ((Met.nil _).fS h.frames).mS h.value
theorem canon_heap {d : VmD} {i : Nat} (hi : (rIter d.heap (ms0 d) i).1.length ≤ i) (hl : i ≤ d.heap.length) : (canonD d).heap = (rIter d.heap (ms0 d) i).2 := by
  show (rIter d.heap (Go.Proofs.YtcebgbcgkkfedaaGreat.ms0 d) d.heap.length).2 = _
  rw [rIter_end hi hl]
end Go.Proofs.YtcebgbcgkkfedaaGreat
