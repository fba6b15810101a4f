/-
  Lines of words that grow, in memory.
-/
import Derived.Test.YtfefbgemcakabaaGreatDoorTX5
import Derived.Deep.Onto
namespace Go.Proofs.YtfefbgemcakabaaGreatDoor
open Go.RowKit

theorem own_keeps {w w' : World} {base e size n B : Nat} {ts : List Nat} {v : Value} {xs : List Value} (h : w.ownsRow base e size v n xs) (hk : Keeps B ts w w') (he : e ∉ ts) : w'.ownsRow base e size v n xs := by
  refine ⟨h.1, ?_⟩
  rcases h.2 with hn | ⟨g, cap, cur, hv, hb, hg, r⟩
  · exact .inl hn
  · exact .inr ⟨g, cap, cur, hv, hb, hk.cell hg he, r⟩
theorem own_below {w w' : World} {base e size n : Nat} {v : Value} {xs : List Value} (h : w.ownsRow base e size v n xs) (hb : Below w.heap.size w w') : w'.ownsRow base e size v n xs :=
  own_keeps (B := 0) (ts := []) h (Keeps.below hb) (by simp)
theorem own_row {w : World} {base n g : Nat} {e : TypeId} {cur : Array Value} (hb : base ≤ g) (h : w.heap[g]? = some (.cells cur e (0, 0))) (hs : cur.size = n) (hm : n ≤ 100) : w.ownsRow base e 1 (.slice (some ⟨g, 0, none⟩) n n) n cur.toList :=
  ⟨by simp [hs], .inr ⟨g, n, cur, rfl, hb, h, Nat.le_refl _, by unfold maxLen; omega, by omega, by rw [List.take_of_length_le]; simp; omega⟩⟩
theorem LineAt.of_own {w : World} {base : Nat} {v : Value} {ws : List ByteArray} (h : w.ownsRow base 9 1 v ws.length (ws.map Value.string)) (hn : 0 < ws.length) : LineAt w base v ws := by
  rcases h.2 with ⟨-, h0⟩ | ⟨g, cap, cur, rfl, hb, hg, hnc, -, hs, ht⟩
  · omega
  · refine ⟨g, cap, cur, rfl, hb, hg, hnc, ?_⟩
    intro j x hx
    have hj : j < ws.length := (List.getElem?_eq_some_iff.1 hx).1
    have h1 : (cur.toList.take (ws.length * 1))[j]? = (ws.map Value.string)[j]? := by rw [ht]
    rw [List.getElem?_take_of_lt (by omega), Array.getElem?_toList, List.getElem?_map, hx] at h1
    exact h1
/-- A row of rows of words, that the call may write into. -/
def LinesO (w : World) (B : Nat) (v : Value) (lls : List (List ByteArray)) : Prop := ∃ vs : List Value, w.ownsRow B 22 1 v lls.length vs ∧ ∀ j (h : j < lls.length), ∃ u, vs[j]? = some u ∧ LineAt w 0 u lls[j]
theorem LinesO.mono {w w' : World} {B : Nat} {v : Value} {lls : List (List ByteArray)} (h : LinesO w B v lls) (hb : Below w.heap.size w w') : LinesO w' B v lls := by
  obtain ⟨vs, h1, h2⟩ := h
  refine ⟨vs, own_below h1 hb, fun j hj => ?_⟩
  obtain ⟨u, h3, h4⟩ := h2 j hj
  exact ⟨u, h3, h4.mono hb⟩
theorem LinesO.add {w w' : World} {B B' : Nat} {v' u : Value} {lls : List (List ByteArray)} {l : List ByteArray} {vs : List Value} (h1 : ∀ j (h : j < lls.length), ∃ u, vs[j]? = some u ∧ LineAt w 0 u lls[j]) (hl : vs.length = lls.length) (h2 : w'.ownsRow B 22 1 v' (lls.length + 1) (vs ++ [u])) (hk : Keeps B' [22] w w') (hu : LineAt w 0 u l) : LinesO w' B v' (lls ++ [l]) := by
  refine ⟨vs ++ [u], by simpa using h2, fun j hj => ?_⟩
  by_cases e : j < lls.length
  · obtain ⟨u', h3, h4⟩ := h1 j e
    refine ⟨u', by rw [List.getElem?_append_left (by omega)]; exact h3, ?_⟩
    rw [List.getElem_append_left e]
    exact h4.keeps hk (by decide)
  · have e2 : j = lls.length := by simp at hj; omega
    subst e2
    refine ⟨u, by rw [List.getElem?_append_right (by omega), hl]; simp, ?_⟩
    rw [List.getElem_append_right (by omega)]
    simp only [Nat.sub_self, List.getElem_cons_zero]
    exact hu.keeps hk (by decide)
theorem LinesO.rows {w : World} {B g cap : Nat} {lls : List (List ByteArray)} (h : LinesO w B (.slice (some ⟨g, 0, none⟩) lls.length cap) lls) : RowsAt w (some ⟨g, 0, none⟩) lls := by
  obtain ⟨vs, h1, h2⟩ := h
  intro j hj
  obtain ⟨u, h3, h4⟩ := h2 j hj
  refine ⟨g, 0, u, rfl, ?_, h4⟩
  rw [Nat.zero_add, h1.cellAt j (by omega)]
  exact h3
end Go.Proofs.YtfefbgemcakabaaGreatDoor
