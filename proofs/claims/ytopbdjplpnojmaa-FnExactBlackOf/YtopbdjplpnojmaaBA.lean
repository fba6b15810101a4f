/-
  Blocks but one; marks in rows of four numbers.
-/
import Derived.Test.YtopbdjplpnojmaaY1
import Derived.Test.YtopbdjplpnojmaaN5
namespace Go.Proofs.Ytopbdjplpnojmaa
open Go.RowKit

theorem hidz {p : Prop} (h : p) : Hid p := h



/-- Nothing that was there is another, but block g. -/
structure But (g : Nat) (w w' : World) : Prop where
  os : w'.os = w.os
  tape : w'.tape = w.tape
  output : w'.output = w.output
  size : w.heap.size ≤ w'.heap.size
  block : ∀ k, k < w.heap.size → k ≠ g → w'.heap[k]? = w.heap[k]?


theorem But.refl (g : Nat) (w : World) : But g w w := ⟨rfl, rfl, rfl, Nat.le_refl _, fun _ _ _ => rfl⟩


theorem But.trans {g : Nat} {a b c : World} (h : But g a b) (k : But g b c) : But g a c :=
  ⟨k.os.trans h.os, k.tape.trans h.tape, k.output.trans h.output, Nat.le_trans h.size k.size, fun i hi hg => (k.block i (Nat.lt_of_lt_of_le hi h.size) hg).trans (h.block i hi hg)⟩


theorem But.of_below {g : Nat} {w w' : World} (h : Below w.heap.size w w') : But g w w' := ⟨h.os, h.tape, h.output, h.size, fun k hk _ => h.block k hk⟩


theorem But.below {g B : Nat} {a w w' : World} (hb : Below B a w) (h : But g w w') (hg : B ≤ g) (hB : B ≤ w.heap.size) : Below B a w' :=
  ⟨h.os.trans hb.os, h.tape.trans hb.tape, h.output.trans hb.output, Nat.le_trans hb.size h.size, fun k hk => (h.block k (by omega) (by omega)).trans (hb.block k hk)⟩


theorem But.setCell (g i : Nat) (w : World) (v : Value) : But g w (w.setCell ⟨g, i, none⟩ v) := ⟨rfl, rfl, rfl, by simp [World.setCell], fun _ _ hg => Below.heap_setCell _ _ _ _ hg⟩


theorem lt_sizez {w : World} {g : Nat} {o : Obj} (h : w.heap[g]? = some o) : g < w.heap.size := (Array.getElem?_eq_some_iff.1 h).1


theorem But.kept {g k : Nat} {w w' : World} {o : Obj} (h : But g w w') (hk : k ≠ g) (ho : w.heap[k]? = some o) : w'.heap[k]? = some o := (h.block k (lt_sizez ho) hk).trans ho



theorem But.grown {g : Nat} {w w' : World} (h : But g w w') : w.grownBy w' (some g) := ⟨h.os, h.tape, h.output, h.size, fun k hk hr => h.block k hk (fun e => hr (by rw [e]))⟩


theorem below_grown {r : Option Nat} {w w' : World} (h : Below w.heap.size w w') : w.grownBy w' r := ⟨h.os, h.tape, h.output, h.size, fun k hk _ => h.block k hk⟩


theorem grown_trans {r : Option Nat} {a b c : World} (h : a.grownBy b r) (k : b.grownBy c r) : a.grownBy c r :=
  ⟨k.os.trans h.os, k.tape.trans h.tape, k.output.trans h.output, Nat.le_trans h.size k.size, fun i hi hr => (k.block i (Nat.lt_of_lt_of_le hi h.size) hr).trans (h.block i hi hr)⟩


/-- A row of another type than the one that grows is as it was. -/
theorem grown_other {w w' : World} {base e size n k : Nat} {v : Value} {xs : List Value} {c : Array Value} {t : TypeId} {fr : Nat × Nat} (hown : w.ownsRow base e size v n xs) (ho : w.heap[k]? = some (.cells c t fr)) (ht : t ≠ e) (hg : w.grownBy w' v.ownBlock) : w'.heap[k]? = some (.cells c t fr) := by
  rw [hg.block k (lt_sizez ho) ?_]
  · exact ho
  · intro hkv
    rcases hown.2 with ⟨rfl, -⟩ | ⟨b, cap, cur, rfl, hb, hh, -⟩
    · simp [Value.ownBlock] at hkv
    · simp [Value.ownBlock] at hkv
      subst hkv
      rw [ho] at hh
      cases hh
      exact ht rfl



theorem own_below {w w' : World} {base e size n : Nat} {v : Value} {xs : List Value} (h : w.ownsRow base e size v n xs) (hb : Below w.heap.size w w') : w'.ownsRow base e size v n xs := by
  refine ⟨h.1, ?_⟩
  rcases h.2 with hn | ⟨g, cap, cur, hv, hbb, hg, r⟩
  · exact .inl hn
  · exact .inr ⟨g, cap, cur, hv, hbb, block_kept hg hb, r⟩


theorem own_lowz {w : World} {B B' e size n : Nat} {v : Value} {xs : List Value} (h : w.ownsRow B e size v n xs) (hl : B' ≤ B) : w.ownsRow B' e size v n xs := by
  refine ⟨h.1, ?_⟩
  rcases h.2 with hn | ⟨g, cap, cur, hv, hbb, hg, r⟩
  · exact .inl hn
  · exact .inr ⟨g, cap, cur, hv, by omega, hg, r⟩


theorem own_formz {w : World} {B e size n : Nat} {v : Value} {xs : List Value} (h : w.ownsRow B e size v n xs) : ∃ a cap, v = .slice a n cap := by
  rcases h.2 with ⟨hv, h0⟩ | ⟨g, cap, cur, hv, -⟩
  · exact ⟨none, 0, by rw [hv, h0]⟩
  · exact ⟨_, _, hv⟩


def flatS (l : List Si) : List Value := (l.map fun s => s.cells.toList).flatten


theorem flatS_app (a b : List Si) : flatS (a ++ b) = flatS a ++ flatS b := by simp [flatS]


theorem flatS_len (l : List Si) : (flatS l).length = l.length * 4 := by
  induction l with
  | nil => rfl
  | cons s l ih => simp only [flatS, List.map_cons, List.flatten_cons, List.length_append, List.length_cons] at *; rw [ih]; simp [Si.cells]; omega


theorem flatS_at : ∀ (ss : List Si) (i : Nat) (h : i < ss.length), (flatS ss)[i * 4]? = some (.int .i64 ss[i].f) ∧ (flatS ss)[i * 4 + 1]? = some (.int .i64 ss[i].pc) ∧ (flatS ss)[i * 4 + 2]? = some (.int .i64 ss[i].seen) ∧ (flatS ss)[i * 4 + 3]? = some (.int .i64 ss[i].target)
  | [], i, h => by simp at h
  | s :: ss, 0, _ => by simp [flatS, Si.cells]
  | s :: ss, i + 1, h => by
    have := flatS_at ss i (by simpa using h)
    have e : flatS (s :: ss) = [.int .i64 s.f, .int .i64 s.pc, .int .i64 s.seen, .int .i64 s.target] ++ flatS ss := by simp [flatS, Si.cells]
    rw [e, show (i + 1) * 4 = i * 4 + 4 by omega]
    simp only [List.getElem_cons_succ]
    refine ⟨?_, ?_, ?_, ?_⟩
    · rw [List.getElem?_append_right (by simp)]; simpa using this.1
    · rw [List.getElem?_append_right (by simp)]; simpa using this.2.1
    · rw [List.getElem?_append_right (by simp)]; simpa using this.2.2.1
    · rw [List.getElem?_append_right (by simp)]; simpa using this.2.2.2




/-- The first n of a row bear marks from k0 on. -/
def Marked (w : World) (g t n : Nat) (k0 : Int) : Prop := ∃ cur : Array Value, w.heap[g]? = some (.cells cur t (0, 0)) ∧ ∀ j, j < n → cur[j * 4]? = some (.int .i64 (k0 + 4 * j)) ∧ cur[j * 4 + 1]? = some (.int .i64 (k0 + 4 * j + 1)) ∧ cur[j * 4 + 2]? = some (.int .i64 (k0 + 4 * j + 2)) ∧ cur[j * 4 + 3]? = some (.int .i64 (k0 + 4 * j + 3))


theorem Marked.mono {w w' : World} {g t n : Nat} {k0 : Int} (h : Marked w g t n k0) (hb : Below w.heap.size w w') : Marked w' g t n k0 := by
  obtain ⟨cur, h1, h2⟩ := h
  exact ⟨cur, block_kept h1 hb, h2⟩


theorem own_butz {w w' : World} {base e size n g : Nat} {v : Value} {xs : List Value} (h : w.ownsRow base e size v n xs) (hb : But g w w') (hg : g < base) : w'.ownsRow base e size v n xs := by
  refine ⟨h.1, ?_⟩
  rcases h.2 with ⟨e, hn⟩ | ⟨b, cap, cur, e, hb', hh, r⟩
  · exact .inl ⟨e, hn⟩
  · exact .inr ⟨b, cap, cur, e, hb', hb.kept (by omega) hh, r⟩


end Go.Proofs.Ytopbdjplpnojmaa
