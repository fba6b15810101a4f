/-
  Records numbered anew in the order in which they are met, on plain data.
  A map by pointers into one row, whose entries are those that were met, in order: a lookup and a new entry.
  A frame for calls that write to blocks of some element types alone, and what a byte slice of the call's own holds.
  Which blocks of memory hold the texts, the functions and the instructions of a module that was copied, so that they may be written.
-/
import Derived.Test.YtcfbahaokmhbkaaGreatKC1
import Derived.LaidEql
import Derived.Maps.OwnSet
import Derived.Deep.AppendLies
namespace Go.Proofs.YtcfbahaokmhbkaaGreat
open Go.RowKit

/-- The place of n among those that were met; their number, if it is not among them. -/
def idx : List Nat → Nat → Nat
  | [], _ => 0
  | m :: ms, n => if m = n then 0 else idx ms n + 1
def seen (ms : List Nat) (n : Nat) : List Nat := if n ∈ ms then ms else ms ++ [n]
def mV (ms : List Nat) (v : Vl) : Vl := if v.k = 4 then ⟨v.k, (idx ms v.n.toNat : Int), v.s⟩ else v
def mS (ms : List Nat) (v : Vl) : List Nat := if v.k = 4 then seen ms v.n.toNat else ms

theorem idx_new : ∀ {ms : List Nat} {n : Nat}, n ∉ ms → idx ms n = ms.length
  | [], _, _ => rfl
  | m :: ms, n, h => by
    simp only [List.mem_cons, not_or] at h
    rw [idx, if_neg (fun e => h.1 e.symm), idx_new h.2]
    rfl
theorem idx_lt : ∀ {ms : List Nat} {n : Nat}, n ∈ ms → idx ms n < ms.length
  | m :: ms, n, h => by
    rw [idx]
    split
    · simp
    · rename_i hne
      simp only [List.mem_cons] at h
      rcases h with h | h
      · exact absurd h.symm hne
      · have := idx_lt h
        simp only [List.length_cons]
        omega
theorem idx_get : ∀ {ms : List Nat} {n : Nat}, n ∈ ms → ms[idx ms n]? = some n
  | m :: ms, n, h => by
    rw [idx]
    split
    · rename_i e
      rw [e]; rfl
    · rename_i hne
      simp only [List.mem_cons] at h
      rcases h with h | h
      · exact absurd h.symm hne
      · rw [List.getElem?_cons_succ]
        exact idx_get h
theorem idx_app : ∀ {ms : List Nat} {n : Nat} (x : Nat), n ∈ ms → idx (ms ++ [x]) n = idx ms n
  | m :: ms, n, x, h => by
    rw [List.cons_append, idx, idx]
    split
    · rfl
    · rename_i hne
      simp only [List.mem_cons] at h
      rcases h with h | h
      · exact absurd h.symm hne
      · rw [idx_app x h]
theorem idx_last {ms : List Nat} {n : Nat} (h : n ∉ ms) : idx (ms ++ [n]) n = ms.length := by
  induction ms with
  | nil => simp [idx]
  | cons m ms ih =>
    simp only [List.mem_cons, not_or] at h
    rw [List.cons_append, idx, if_neg (fun e => h.1 e.symm), ih h.2]
    rfl

def lS : List Nat → List Vl → List Nat
  | ms, [] => ms
  | ms, v :: vs => lS (mS ms v) vs
def lV : List Nat → List Vl → List Vl
  | _, [] => []
  | ms, v :: vs => mV ms v :: lV (mS ms v) vs
theorem lS_app : ∀ (ms : List Nat) (xs ys : List Vl), lS ms (xs ++ ys) = lS (lS ms xs) ys
  | _, [], _ => rfl
  | ms, v :: vs, ys => lS_app (mS ms v) vs ys
theorem lV_app : ∀ (ms : List Nat) (xs ys : List Vl), lV ms (xs ++ ys) = lV ms xs ++ lV (lS ms xs) ys
  | _, [], _ => rfl
  | ms, v :: vs, ys => by rw [List.cons_append, lV, lV, lV_app (mS ms v) vs ys]; rfl
theorem lV_len : ∀ (ms : List Nat) (xs : List Vl), (lV ms xs).length = xs.length
  | _, [] => rfl
  | ms, v :: vs => by rw [lV, List.length_cons, lV_len, List.length_cons]
theorem take_more {α : Type} {l : List α} {k : Nat} (h : k < l.length) : l.take (k + 1) = l.take k ++ [l[k]] := by
  rw [List.take_add_one, List.getElem?_eq_getElem h]; rfl
theorem lS_more {ms : List Nat} {vs : List Vl} {k : Nat} (h : k < vs.length) : lS ms (vs.take (k + 1)) = mS (lS ms (vs.take k)) vs[k] := by
  rw [take_more h, lS_app]; rfl
theorem lV_more {ms : List Nat} {vs : List Vl} {k : Nat} (h : k < vs.length) : lV ms (vs.take (k + 1)) = lV ms (vs.take k) ++ [mV (lS ms (vs.take k)) vs[k]] := by
  rw [take_more h, lV_app]; rfl
theorem lV_at {ms : List Nat} {vs : List Vl} {k : Nat} (h : k < vs.length) (h' : k < (lV ms vs).length) : (lV ms vs)[k] = mV (lS ms (vs.take k)) vs[k] := by
  have e : vs = vs.take k ++ (vs[k] :: vs.drop (k + 1)) := by rw [List.getElem_cons_drop, List.take_append_drop]
  have hl : (lV ms (vs.take k)).length = k := by rw [lV_len, List.length_take]; omega
  have e2 : lV ms vs = lV ms (vs.take k) ++ (mV (lS ms (vs.take k)) vs[k] :: lV (mS (lS ms (vs.take k)) vs[k]) (vs.drop (k + 1))) := by
    conv => lhs; rw [e, lV_app]
    rfl
  have e3 : (lV ms vs)[k]? = some (mV (lS ms (vs.take k)) vs[k]) := by
    rw [e2, List.getElem?_append_right (by omega), hl, Nat.sub_self]
    rfl
  rw [List.getElem?_eq_getElem h'] at e3
  exact Option.some.inj e3

def fS : List Nat → List Fr → List Nat
  | ms, [] => ms
  | ms, f :: fs => fS (lS (lS ms f.locals) f.stack) fs
def fV : List Nat → List Fr → List Fr
  | _, [] => []
  | ms, f :: fs => ⟨f.fn, f.pc, lV ms f.locals, lV (lS ms f.locals) f.stack⟩ :: fV (lS (lS ms f.locals) f.stack) fs
theorem fS_app : ∀ (ms : List Nat) (xs ys : List Fr), fS ms (xs ++ ys) = fS (fS ms xs) ys
  | _, [], _ => rfl
  | ms, f :: fs, ys => fS_app (lS (lS ms f.locals) f.stack) fs ys
theorem fV_app : ∀ (ms : List Nat) (xs ys : List Fr), fV ms (xs ++ ys) = fV ms xs ++ fV (fS ms xs) ys
  | _, [], _ => rfl
  | ms, f :: fs, ys => by rw [List.cons_append, fV, fV, fV_app _ fs ys]; rfl
theorem fV_len : ∀ (ms : List Nat) (xs : List Fr), (fV ms xs).length = xs.length
  | _, [] => rfl
  | ms, f :: fs => by rw [fV, List.length_cons, fV_len, List.length_cons]
theorem fS_more {ms : List Nat} {fs : List Fr} {k : Nat} (h : k < fs.length) : fS ms (fs.take (k + 1)) = lS (lS (fS ms (fs.take k)) fs[k].locals) fs[k].stack := by
  rw [take_more h, fS_app]; rfl
theorem fV_more {ms : List Nat} {fs : List Fr} {k : Nat} (h : k < fs.length) : fV ms (fs.take (k + 1)) = fV ms (fs.take k) ++ [⟨fs[k].fn, fs[k].pc, lV (fS ms (fs.take k)) fs[k].locals, lV (lS (fS ms (fs.take k)) fs[k].locals) fs[k].stack⟩] := by
  rw [take_more h, fV_app]; rfl
theorem fV_at {ms : List Nat} {fs : List Fr} {k : Nat} (h : k < fs.length) (h' : k < (fV ms fs).length) : (fV ms fs)[k] = ⟨fs[k].fn, fs[k].pc, lV (fS ms (fs.take k)) fs[k].locals, lV (lS (fS ms (fs.take k)) fs[k].locals) fs[k].stack⟩ := by
  have e : fs = fs.take k ++ (fs[k] :: fs.drop (k + 1)) := by rw [List.getElem_cons_drop, List.take_append_drop]
  have hl : (fV ms (fs.take k)).length = k := by rw [fV_len, List.length_take]; omega
  have e2 : fV ms fs = fV ms (fs.take k) ++ fV (fS ms (fs.take k)) (fs[k] :: fs.drop (k + 1)) := by
    conv => lhs; rw [e, fV_app]
  have e3 : (fV ms fs)[k]? = some ⟨fs[k].fn, fs[k].pc, lV (fS ms (fs.take k)) fs[k].locals, lV (lS (fS ms (fs.take k)) fs[k].locals) fs[k].stack⟩ := by
    rw [e2, List.getElem?_append_right (by omega), hl, Nat.sub_self]
    rfl
  rw [List.getElem?_eq_getElem h'] at e3
  exact Option.some.inj e3

/-- Behind i records: those that were met, and the records with their new fields. -/
def rIter (hp : List (List Vl)) (ms0 : List Nat) : Nat → List Nat × List (List Vl)
  | 0 => (ms0, [])
  | i + 1 => if i < (rIter hp ms0 i).1.length then (lS (rIter hp ms0 i).1 (hp.getD ((rIter hp ms0 i).1.getD i 0) []), (rIter hp ms0 i).2 ++ [lV (rIter hp ms0 i).1 (hp.getD ((rIter hp ms0 i).1.getD i 0) [])]) else rIter hp ms0 i

def ms0 (d : VmD) : List Nat := mS (fS [] d.frames) d.value
/-- The canon of a state. -/
def canonD (d : VmD) : VmD := { frames := fV [] d.frames, heap := (rIter d.heap (ms0 d) d.heap.length).2, made := d.made, out := d.out, status := d.status, trap := d.trap, value := mV (fS [] d.frames) d.value, steps := 0 }

theorem rIter_stay {hp : List (List Vl)} {ms0 : List Nat} {i : Nat} (h : (rIter hp ms0 i).1.length ≤ i) : ∀ k, rIter hp ms0 (i + k) = rIter hp ms0 i
  | 0 => rfl
  | k + 1 => by
    have ih := rIter_stay h k
    rw [← Nat.add_assoc, rIter, if_neg (by rw [ih]; omega), ih]
theorem rIter_end {hp : List (List Vl)} {ms0 : List Nat} {i n : Nat} (h : (rIter hp ms0 i).1.length ≤ i) (hn : i ≤ n) : rIter hp ms0 n = rIter hp ms0 i := by
  have := rIter_stay h (n - i)
  rw [show i + (n - i) = n by omega] at this
  exact this

/-- Numbers of records that are there, each once. -/
structure Met (H : Nat) (ms : List Nat) : Prop where
  once : ms.Nodup
  lt : ∀ n ∈ ms, n < H
theorem once_le : ∀ (H : Nat) (ms : List Nat), ms.Nodup → (∀ n ∈ ms, n < H) → ms.length ≤ H
  | 0, ms, _, h => by
    cases ms with
    | nil => simp
    | cons m ms => exact absurd (h m (by simp)) (Nat.not_lt_zero _)
  | H + 1, ms, hn, h => by
    have h1 := once_le H (ms.erase H) (hn.erase H) (fun n hm => by
      have := (hn.mem_erase_iff).1 hm
      have := h n this.2
      omega)
    by_cases hm : H ∈ ms
    · rw [List.length_erase_of_mem hm] at h1
      omega
    · rw [List.erase_of_not_mem hm] at h1
      omega
theorem Met.le {H : Nat} {ms : List Nat} (h : Met H ms) : ms.length ≤ H := once_le H ms h.once h.lt
theorem Met.nil (H : Nat) : Met H [] := ⟨List.nodup_nil, fun _ h => by simp at h⟩
theorem Met.seen {H n : Nat} {ms : List Nat} (h : Met H ms) (hn : n < H) : Met H (seen ms n) := by
  unfold Go.Proofs.YtcfbahaokmhbkaaGreat.seen
  split
  · exact h
  · rename_i hm
    refine ⟨?_, fun x hx => ?_⟩
    · rw [List.nodup_append]
      refine ⟨h.once, by simp, fun a ha b hb e => ?_⟩
      simp at hb
      rw [e, hb] at ha
      exact hm ha
    · simp at hx
      rcases hx with hx | rfl
      · exact h.lt x hx
      · exact hn

/-- A value that names no record which is not there. -/
def Named (H : Nat) (v : Vl) : Prop := v.k = 4 → 0 ≤ v.n ∧ v.n < (H : Int)
theorem Met.mS {H : Nat} {ms : List Nat} {v : Vl} (h : Met H ms) (hv : Named H v) : Met H (mS ms v) := by
  unfold Go.Proofs.YtcfbahaokmhbkaaGreat.mS
  split
  · rename_i e
    have := hv e
    exact h.seen (by omega)
  · exact h
theorem met_lS {H : Nat} (vs : List Vl) : ∀ (ms : List Nat), Met H ms → (∀ v ∈ vs, Named H v) → Met H (lS ms vs) := by
  induction vs with
  | nil => intro ms h _; exact h
  | cons v vs ih => intro ms h hv; exact ih (mS ms v) (h.mS (hv v (by simp))) (fun x hx => hv x (by simp [hx]))
theorem Met.lS {H : Nat} {ms : List Nat} {vs : List Vl} (h : Met H ms) (hv : ∀ v ∈ vs, Named H v) : Met H (lS ms vs) := met_lS vs ms h hv
theorem met_fS {H : Nat} (fs : List Fr) : ∀ (ms : List Nat), Met H ms → (∀ f ∈ fs, (∀ v ∈ f.locals, Named H v) ∧ (∀ v ∈ f.stack, Named H v)) → Met H (fS ms fs) := by
  induction fs with
  | nil => intro ms h _; exact h
  | cons f fs ih => intro ms h hv; exact ih _ ((h.lS (hv f (by simp)).1).lS (hv f (by simp)).2) (fun x hx => hv x (by simp [hx]))
theorem Met.fS {H : Nat} {ms : List Nat} {fs : List Fr} (h : Met H ms) (hv : ∀ f ∈ fs, (∀ v ∈ f.locals, Named H v) ∧ (∀ v ∈ f.stack, Named H v)) : Met H (fS ms fs) := met_fS fs ms h hv
theorem Met.rIter {hp : List (List Vl)} {ms0 : List Nat} (h : Met hp.length ms0) (hv : ∀ r ∈ hp, ∀ v ∈ r, Named hp.length v) : ∀ i, Met hp.length (rIter hp ms0 i).1
  | 0 => h
  | i + 1 => by
    have ih := Met.rIter h hv i
    rw [Go.Proofs.YtcfbahaokmhbkaaGreat.rIter]
    split
    · rename_i hlt
      refine ih.lS fun v hm => ?_
      rw [List.getD_eq_getElem?_getD] at hm
      cases hq : hp[(Go.Proofs.YtcfbahaokmhbkaaGreat.rIter hp ms0 i).1.getD i 0]? with
      | none => rw [hq] at hm; simp at hm
      | some r =>
        rw [hq] at hm
        exact hv r (List.mem_of_getElem? hq) v hm
    · exact ih
theorem rIter_len {hp : List (List Vl)} {ms0 : List Nat} : ∀ i, i ≤ (rIter hp ms0 i).1.length → (rIter hp ms0 i).2.length = i
  | 0, _ => rfl
  | i + 1, h => by
    rw [rIter] at h ⊢
    split at h
    · rename_i hlt
      rw [if_pos hlt]
      simp [rIter_len (hp := hp) (ms0 := ms0) i (by omega)]
    · rename_i hlt
      omega

/-- All values of a state name records that are there. -/
structure AllNamed (d : VmD) : Prop where
  frames : ∀ f ∈ d.frames, (∀ v ∈ f.locals, Named d.heap.length v) ∧ (∀ v ∈ f.stack, Named d.heap.length v)
  heap : ∀ r ∈ d.heap, ∀ v ∈ r, Named d.heap.length v
  value : Named d.heap.length d.value
theorem AllNamed.ms0 {d : VmD} (h : AllNamed d) : Met d.heap.length (ms0 d) := ((Met.nil _).fS h.frames).mS h.value
theorem canon_heap {d : VmD} {i : Nat} (hi : (rIter d.heap (ms0 d) i).1.length ≤ i) (hl : i ≤ d.heap.length) : (canonD d).heap = (rIter d.heap (ms0 d) i).2 := by
  show (rIter d.heap (Go.Proofs.YtcfbahaokmhbkaaGreat.ms0 d) d.heap.length).2 = _
  rw [rIter_end hi hl]
end Go.Proofs.YtcfbahaokmhbkaaGreat

namespace Go.Proofs.YtcfbahaokmhbkaaGreat
open Go.RowKit

def recEnt (Hb i n : Nat) : MapEntry := ⟨.pointer (some ⟨Hb, n, none⟩), .int .i64 i, i⟩
/-- The entries behind 'i' others. -/
def recEnts (Hb : Nat) : Nat → List Nat → List MapEntry
  | _, [] => []
  | i, n :: ms => recEnt Hb i n :: recEnts Hb (i + 1) ms
theorem recEnts_app (Hb : Nat) : ∀ (i : Nat) (ms : List Nat) (n : Nat), recEnts Hb i (ms ++ [n]) = recEnts Hb i ms ++ [recEnt Hb (i + ms.length) n]
  | i, [], n => by simp [recEnts]
  | i, m :: ms, n => by
    rw [List.cons_append, recEnts, recEnts_app Hb (i + 1) ms n, recEnts, List.cons_append, List.length_cons, show i + 1 + ms.length = i + (ms.length + 1) by omega]

theorem info94 : (Tryz.prog.info? 94).map (fun i => (i.zero, i.size, i.bytes)) = some (some (.agg #[.slice none 0 0]), 1, 24) := by kernel_rfl

theorem eq_ptr (Hb n m : Nat) (w : World) : (Op.equal 111 (.pointer (some ⟨Hb, n, none⟩)) (.pointer (some ⟨Hb, m, none⟩))).run Tryz.prog w = .ok (decide (n = m)) w := by
  obtain ⟨i0, hi, hz0, hz1, hz2⟩ := info_parts info94
  have h : ∀ d : Nat, (Op.equalIn (d + 1) 111 (.pointer (some ⟨Hb, n, none⟩)) (.pointer (some ⟨Hb, m, none⟩))).run Tryz.prog w = .ok (decide (n = m)) w := fun d => by
    simp [Op.equalIn, run_underlying Tryz.underlying111, sizeOf, typeInfo, hi, hz1, sameAddr]
    rw [Bool.eq_iff_iff]
    simp
  exact h 9999

theorem find_ptr (Hb n : Nat) (w : World) : ∀ (ms : List Nat) (i j : Nat), (Instr.findAsking 111 (.pointer (some ⟨Hb, n, none⟩)) (recEnts Hb i ms) j).run Tryz.prog w = .ok (if n ∈ ms then some (j + idx ms n, .int .i64 ((i + idx ms n : Nat) : Int)) else none) w
  | [], i, j => by simp [recEnts, Instr.findAsking]
  | m :: ms, i, j => by
    simp only [recEnts, Instr.findAsking, recEnt]
    by_cases h : n = m
    · subst h
      simp [eq_ptr, idx]
    · have ih := find_ptr Hb n w ms (i + 1) (j + 1)
      simp only [Sem.run_bind, eq_ptr, h, decide_false]
      simp [ih, idx, h, show ¬ m = n from fun e => h e.symm]
      split
      · simp; omega
      · rfl

theorem findKey_ptr (Hb n : Nat) (w : World) (ms : List Nat) : (Instr.findKey 111 (.pointer (some ⟨Hb, n, none⟩)) (recEnts Hb 0 ms)).run Tryz.prog w = .ok (if n ∈ ms then some (idx ms n, .int .i64 ((idx ms n : Nat) : Int)) else none) w := by
  have hf := find_ptr Hb n w ms 0 0
  cases ms with
  | nil => simp [Instr.findKey, run_underlying Tryz.underlying111, recEnts, Instr.findNow]
  | cons m ms =>
    have hn : Instr.findNow (.pointer 94) (.pointer (some ⟨Hb, n, none⟩)) (recEnts Hb 0 (m :: ms)) 0 = none := rfl
    simp [Instr.findKey, run_underlying Tryz.underlying111, hn, hf]

theorem check_ptr (em : Bool) (a : Option Addr) (w : World) : (Instr.checkKey em 10000 111 (.pointer a)).run Tryz.prog w = .ok () w := by
  have h : ∀ d : Nat, (Instr.checkKey em (d + 1) 111 (.pointer a)).run Tryz.prog w = .ok () w := fun d => by
    unfold Instr.checkKey
    simp [run_underlying Tryz.underlying111]
  exact h 9999

theorem look_ptr (Hb n b : Nat) (ms : List Nat) (c : Nat) (w : World) (hm : w.heap[b]? = some (.map (recEnts Hb 0 ms).toArray c)) :
    (Instr.lookup 147 (.map (some b)) (.pointer (some ⟨Hb, n, none⟩)) true).run Tryz.prog w = .ok (.tuple #[.int .i64 (if n ∈ ms then ((idx ms n : Nat) : Int) else 0), .bool (decide (n ∈ ms))]) w := by
  by_cases h : n ∈ ms
  · simp [Instr.lookup, run_underlying Tryz.underlying147, MapKept.run_getObj_map hm, check_ptr, findKey_ptr, h]
  · simp [Instr.lookup, run_underlying Tryz.underlying147, MapKept.run_getObj_map hm, check_ptr, findKey_ptr, h]

theorem put_ptr (Hb n b : Nat) (ms : List Nat) (w : World) (hn : n ∉ ms) (hm : w.heap[b]? = some (.map (recEnts Hb 0 ms).toArray ms.length)) :
    (Instr.mapUpdate 147 (.map (some b)) (.pointer (some ⟨Hb, n, none⟩)) (.int .i64 ms.length)).run Tryz.prog w = .ok () (ChangeMaps.setBlock w b (.map (recEnts Hb 0 (ms ++ [n])).toArray (ms ++ [n]).length)) := by
  simp [Instr.mapUpdate, run_underlying Tryz.underlying147, MapKept.run_getObj_map hm, check_ptr, findKey_ptr, hn, MapKept.run_setObj_map _ hm, ChangeMaps.setBlock, recEnts_app, recEnt]
end Go.Proofs.YtcfbahaokmhbkaaGreat

namespace Go.Proofs.YtcfbahaokmhbkaaGreat
open Go.RowKit

/-- The object is a row of cells of one of these types. -/
def ofTypes (ts : List Nat) : Obj → Prop
  | .cells _ t _ => t ∈ ts
  | _ => False

/-- Blocks below B, and blocks of other types than 'ts', are as they were. -/
structure Keeps (B : Nat) (ts : List Nat) (w w' : World) : Prop where
  os : w'.os = w.os
  tape : w'.tape = w.tape
  output : w'.output = w.output
  size : w.heap.size ≤ w'.heap.size
  block : ∀ k o, w.heap[k]? = some o → (k < B ∨ ¬ ofTypes ts o) → w'.heap[k]? = some o

theorem Keeps.refl (B : Nat) (ts : List Nat) (w : World) : Keeps B ts w w := ⟨rfl, rfl, rfl, Nat.le_refl _, fun _ _ h _ => h⟩
theorem Keeps.trans {B : Nat} {ts : List Nat} {a b c : World} (h : Keeps B ts a b) (k : Keeps B ts b c) : Keeps B ts a c :=
  ⟨k.os.trans h.os, k.tape.trans h.tape, k.output.trans h.output, Nat.le_trans h.size k.size, fun i o hi ho => k.block i o (h.block i o hi ho) ho⟩
theorem Keeps.below {B : Nat} {ts : List Nat} {w w' : World} (h : Below w.heap.size w w') : Keeps B ts w w' :=
  ⟨h.os, h.tape, h.output, h.size, fun _ _ hi _ => block_kept hi h⟩
theorem Keeps.alloc {B : Nat} {ts : List Nat} {a w : World} (h : Keeps B ts a w) (o : Obj) : Keeps B ts a (w.alloc o) := h.trans (Keeps.below ((Below.refl _ _).alloc (Nat.le_refl _) o))
theorem Keeps.drew {B : Nat} {ts : List Nat} {a w : World} (h : Keeps B ts a w) : Keeps B ts a w.drew := ⟨h.os, h.tape, h.output, h.size, h.block⟩
theorem Keeps.mono {B B' : Nat} {ts ts' : List Nat} {w w' : World} (h : Keeps B ts w w') (hB : B' ≤ B) (ht : ∀ t ∈ ts, t ∈ ts') : Keeps B' ts' w w' :=
  ⟨h.os, h.tape, h.output, h.size, fun k o hk ho => h.block k o hk (by
    rcases ho with ho | ho
    · exact .inl (by omega)
    · refine .inr fun hx => ho ?_
      cases o <;> first | exact ht _ hx | exact hx)⟩
theorem Keeps.toBelow {B : Nat} {ts : List Nat} {w w' : World} (h : Keeps B ts w w') (hB : B ≤ w.heap.size) : Below B w w' :=
  ⟨h.os, h.tape, h.output, h.size, fun k hk => by
    have : k < w.heap.size := by omega
    rw [Array.getElem?_eq_getElem this]
    exact h.block k _ (Array.getElem?_eq_getElem this) (.inl hk)⟩
/-- Behind an append to a slice of the call's own. -/
theorem Keeps.grown {B e size n : Nat} {ts : List Nat} {v : Value} {xs : List Value} {w w' : World} (hown : w.ownsRow B e size v n xs) (hg : w.grownBy w' v.ownBlock) (he : e ∈ ts) : Keeps B ts w w' := by
  refine ⟨hg.os, hg.tape, hg.output, hg.size, fun k o hk ho => ?_⟩
  have hlt : k < w.heap.size := by
    rcases Nat.lt_or_ge k w.heap.size with h' | h'
    · exact h'
    · rw [Array.getElem?_eq_none h'] at hk; cases hk
  rw [hg.block k hlt ?_]
  · exact hk
  · intro hkv
    rcases hown.2 with ⟨rfl, -⟩ | ⟨g, cap, cur, rfl, hb, hh, -⟩
    · simp [Value.ownBlock] at hkv
    · simp [Value.ownBlock] at hkv
      subst hkv
      rw [hh] at hk
      cases hk
      rcases ho with ho | ho
      · omega
      · exact ho he
theorem Keeps.cell {B : Nat} {ts : List Nat} {w w' : World} (h : Keeps B ts w w') {b : Nat} {cs : Array Value} {t : TypeId} {fr : Nat × Nat} (hb : w.heap[b]? = some (.cells cs t fr)) (ht : t ∉ ts) : w'.heap[b]? = some (.cells cs t fr) :=
  h.block b _ hb (.inr ht)

/-- Behind a store into a block of one of the types. -/
theorem Keeps.set {B g : Nat} {ts : List Nat} {a w : World} {c : Array Value} {t : TypeId} {fr : Nat × Nat} (h : Keeps B ts a w) (hg : w.heap[g]? = some (.cells c t fr)) (ht : t ∈ ts) (hB : B ≤ g) (i : Nat) (v : Value) : Keeps B ts a (w.setCell ⟨g, i, none⟩ v) := by
  refine ⟨h.os, h.tape, h.output, by simpa using h.size, fun k o hk ho => ?_⟩
  by_cases e : k = g
  · subst e
    have := h.block k o hk ho
    rw [hg] at this
    cases this
    rcases ho with ho | ho
    · omega
    · exact absurd ht ho
  · rw [Below.heap_setCell _ _ _ _ e]
    exact h.block k o hk ho

/-- The rows of cells have the sizes that they had. -/
def SameShape (w w' : World) : Prop := ∀ (b : Nat) (c : Array Value) (t : TypeId), w.heap[b]? = some (Obj.cells c t (0, 0)) → ∃ c' : Array Value, w'.heap[b]? = some (Obj.cells c' t (0, 0)) ∧ c'.size = c.size
theorem SameShape.refl (w : World) : SameShape w w := fun _ c _ h => ⟨c, h, rfl⟩
theorem SameShape.trans {a b c : World} (h : SameShape a b) (k : SameShape b c) : SameShape a c := fun i x t hi => by
  obtain ⟨y, hy, e1⟩ := h i x t hi
  obtain ⟨z, hz, e2⟩ := k i y t hy
  exact ⟨z, hz, e2.trans e1⟩
theorem SameShape.below {w w' : World} (h : Below w.heap.size w w') : SameShape w w' := fun _ c _ hb => ⟨c, block_kept hb h, rfl⟩
theorem SameShape.set {a w : World} {g : Nat} {c : Array Value} {t : TypeId} (h : SameShape a w) (hg : w.heap[g]? = some (.cells c t (0, 0))) (i : Nat) (v : Value) : SameShape a (w.setCell ⟨g, i, none⟩ v) := fun b x u hb => by
  obtain ⟨y, hy, e1⟩ := h b x u hb
  by_cases e : b = g
  · subst e
    rw [hg] at hy
    cases hy
    exact ⟨_, block_set hg v, by simpa using e1⟩
  · exact ⟨y, by rw [Below.heap_setCell _ _ _ _ e]; exact hy, e1⟩

/-- A byte slice of the call's own, in a block from B on. -/
def Buf (w : World) (B : Nat) (v : Value) (bs : List Int) : Prop := w.ownsRow B 5 1 v bs.length (bs.map (Value.int .u8))

theorem Buf.of {w : World} {B n m cap : Nat} {a : Option Addr} {vs : List Value} {xs : List Int} (h : w.ownsRow B 5 1 (.slice a n cap) n vs) (hv : vs = xs.map (Value.int .u8)) (hn : n = xs.length) (hm : m = n) : Buf w B (.slice a m cap) xs := by
  subst hm
  subst hn
  subst hv
  exact h
theorem ret_slice {a : Option Addr} {n m c : Nat} (h : n = m) : Ending.returned (.slice a n c) = .returned (.slice a m c) := by rw [h]

/-- The cells of a byte slice. -/
def BytesAt (w : World) (lo : Nat) (a : Option Addr) (bs : List Int) : Prop :=
  ∀ i (h : i < bs.length), ∃ b off, a = some ⟨b, off, none⟩ ∧ lo ≤ b ∧ w.cell? ⟨b, off + i, none⟩ = some (.int .u8 bs[i])

theorem BytesAt.mono {w w' : World} {lo : Nat} {a : Option Addr} {bs : List Int} (h : BytesAt w lo a bs) (hb : Below w.heap.size w w') : BytesAt w' lo a bs := by
  intro i hi
  obtain ⟨b, off, h1, h2, h3⟩ := h i hi
  exact ⟨b, off, h1, h2, cell_later hb h3⟩

theorem Buf.form {w : World} {B : Nat} {v : Value} {bs : List Int} (h : Buf w B v bs) : ∃ a cap, v = .slice a bs.length cap ∧ BytesAt w B a bs := by
  rcases h.2 with ⟨rfl, hn⟩ | ⟨g, cap, cur, rfl, hb, hh, hn, -, hs, htake⟩
  · exact ⟨none, 0, by rw [hn], fun i hi => by omega⟩
  · refine ⟨_, cap, rfl, fun i hi => ⟨g, 0, rfl, hb, ?_⟩⟩
    rw [block_cell hh, Nat.zero_add]
    have h1 : (cur.toList.take (bs.length * 1))[i]? = (bs.map (Value.int .u8))[i]? := by rw [htake]
    rw [List.getElem?_take_of_lt (by omega)] at h1
    simpa [hi] using h1
end Go.Proofs.YtcfbahaokmhbkaaGreat
namespace Go.Proofs.YtcfbahaokmhbkaaGreat
open Go.RowKit

def TextBlk (w : World) (g n : Nat) : Prop := ∃ cur : Array Value, w.heap[g]? = some (Obj.cells cur 9 (0, 0)) ∧ cur.size = n
def CodeBlk (w : World) (g n : Nat) : Prop := ∃ cur : Array Value, w.heap[g]? = some (Obj.cells cur 156 (0, 0)) ∧ cur.size = n * 2
def FnsBlk (w : World) (lo g : Nat) (fs : List Fn) : Prop := ∃ cur : Array Value, w.heap[g]? = some (Obj.cells cur 97 (0, 0)) ∧ cur.size = fs.length * 3 ∧
  ∀ j (hj : j < fs.length), ∃ gc, cur[j * 3 + 2]? = some (.slice (some ⟨gc, 0, none⟩) fs[j].code.length fs[j].code.length) ∧ lo ≤ gc ∧ CodeBlk w gc fs[j].code.length

theorem block_above {lo g : Nat} {w w' : World} {o : Obj} (h : Above lo w w') (hg : lo ≤ g) (hb : w.heap[g]? = some o) : w'.heap[g]? = some o := by
  have hlt : g < w.heap.size := by
    rcases Nat.lt_or_ge g w.heap.size with h' | h'
    · exact h'
    · rw [Array.getElem?_eq_none h'] at hb; cases hb
  rw [h g hg hlt]; exact hb
theorem TextBlk.mono {w w' : World} {g n : Nat} (h : TextBlk w g n) (hb : Below w.heap.size w w') : TextBlk w' g n := by
  obtain ⟨c, h1, h2⟩ := h
  exact ⟨c, block_kept h1 hb, h2⟩
theorem CodeBlk.mono {w w' : World} {g n : Nat} (h : CodeBlk w g n) (hb : Below w.heap.size w w') : CodeBlk w' g n := by
  obtain ⟨c, h1, h2⟩ := h
  exact ⟨c, block_kept h1 hb, h2⟩
theorem FnsBlk.mono {w w' : World} {lo g : Nat} {fs : List Fn} (h : FnsBlk w lo g fs) (hb : Below w.heap.size w w') : FnsBlk w' lo g fs := by
  obtain ⟨c, h1, h2, h3⟩ := h
  refine ⟨c, block_kept h1 hb, h2, fun j hj => ?_⟩
  obtain ⟨gc, a, b, d⟩ := h3 j hj
  exact ⟨gc, a, b, d.mono hb⟩
theorem TextBlk.above {w w' : World} {lo g n : Nat} (h : TextBlk w g n) (hb : Above lo w w') (hg : lo ≤ g) : TextBlk w' g n := by
  obtain ⟨c, h1, h2⟩ := h
  exact ⟨c, block_above hb hg h1, h2⟩
theorem CodeBlk.above {w w' : World} {lo g n : Nat} (h : CodeBlk w g n) (hb : Above lo w w') (hg : lo ≤ g) : CodeBlk w' g n := by
  obtain ⟨c, h1, h2⟩ := h
  exact ⟨c, block_above hb hg h1, h2⟩
theorem FnsBlk.above {w w' : World} {lo lo' g : Nat} {fs : List Fn} (h : FnsBlk w lo g fs) (hb : Above lo' w w') (hg : lo' ≤ g) (hl : lo' ≤ lo) : FnsBlk w' lo g fs := by
  obtain ⟨c, h1, h2, h3⟩ := h
  refine ⟨c, block_above hb hg h1, h2, fun j hj => ?_⟩
  obtain ⟨gc, a, b, d⟩ := h3 j hj
  exact ⟨gc, a, b, d.above hb (by omega)⟩
theorem FnsBlk.low {w : World} {lo lo' g : Nat} {fs : List Fn} (h : FnsBlk w lo g fs) (hl : lo' ≤ lo) : FnsBlk w lo' g fs := by
  obtain ⟨c, h1, h2, h3⟩ := h
  refine ⟨c, h1, h2, fun j hj => ?_⟩
  obtain ⟨gc, a, b, d⟩ := h3 j hj
  exact ⟨gc, a, by omega, d⟩
theorem TextBlk.shape {w w' : World} {g n : Nat} (h : TextBlk w g n) (hs : SameShape w w') : TextBlk w' g n := by
  obtain ⟨c, h1, h2⟩ := h
  obtain ⟨c', h3, h4⟩ := hs g c 9 h1
  exact ⟨c', h3, h4.trans h2⟩
theorem CodeBlk.shape {w w' : World} {g n : Nat} (h : CodeBlk w g n) (hs : SameShape w w') : CodeBlk w' g n := by
  obtain ⟨c, h1, h2⟩ := h
  obtain ⟨c', h3, h4⟩ := hs g c 156 h1
  exact ⟨c', h3, h4.trans h2⟩
end Go.Proofs.YtcfbahaokmhbkaaGreat
