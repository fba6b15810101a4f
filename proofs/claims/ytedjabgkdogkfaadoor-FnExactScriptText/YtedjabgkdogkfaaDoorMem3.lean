/-
  A frame for calls that write to blocks of some element types alone, and what a byte slice of the call's own holds.
  Which blocks of memory hold the texts, the functions and the instructions of a module that was copied, so that they may be written.
-/
import Derived.Test.YtedjabgkdogkfaaDoorMem
import Derived.Deep.AppendLies
namespace Go.Proofs.YtedjabgkdogkfaaDoor
open Go.RowKit

/-- The object is a row of cells of one of these types. -/
def ofTypes (ts : List Nat) : Obj → Prop
  | .cells _ t _ => t ∈ ts
  | _ => False

/-- Blocks below B, and blocks of other types than 'ts', are as they were. -/
structure Keeps (B : Nat) (ts : List Nat) (w w' : World) : Prop where
  os : w'.os = w.os
  tape : w'.tape = w.tape
  output : w'.output = w.output
  size : w.heap.size ≤ w'.heap.size
  block : ∀ k o, w.heap[k]? = some o → (k < B ∨ ¬ ofTypes ts o) → w'.heap[k]? = some o

theorem Keeps.refl (B : Nat) (ts : List Nat) (w : World) : Keeps B ts w w := ⟨rfl, rfl, rfl, Nat.le_refl _, fun _ _ h _ => h⟩
theorem Keeps.trans {B : Nat} {ts : List Nat} {a b c : World} (h : Keeps B ts a b) (k : Keeps B ts b c) : Keeps B ts a c :=
  ⟨k.os.trans h.os, k.tape.trans h.tape, k.output.trans h.output, Nat.le_trans h.size k.size, fun i o hi ho => k.block i o (h.block i o hi ho) ho⟩
theorem Keeps.below {B : Nat} {ts : List Nat} {w w' : World} (h : Below w.heap.size w w') : Keeps B ts w w' :=
  ⟨h.os, h.tape, h.output, h.size, fun _ _ hi _ => block_kept hi h⟩
theorem Keeps.alloc {B : Nat} {ts : List Nat} {a w : World} (h : Keeps B ts a w) (o : Obj) : Keeps B ts a (w.alloc o) := h.trans (Keeps.below ((Below.refl _ _).alloc (Nat.le_refl _) o))
theorem Keeps.drew {B : Nat} {ts : List Nat} {a w : World} (h : Keeps B ts a w) : Keeps B ts a w.drew := ⟨h.os, h.tape, h.output, h.size, h.block⟩
theorem Keeps.mono {B B' : Nat} {ts ts' : List Nat} {w w' : World} (h : Keeps B ts w w') (hB : B' ≤ B) (ht : ∀ t ∈ ts, t ∈ ts') : Keeps B' ts' w w' :=
  ⟨h.os, h.tape, h.output, h.size, fun k o hk ho => h.block k o hk (by
    rcases ho with ho | ho
    · exact .inl (by omega)
    · refine .inr fun hx => ho ?_
      cases o <;> first | exact ht _ hx | exact hx)⟩
theorem Keeps.toBelow {B : Nat} {ts : List Nat} {w w' : World} (h : Keeps B ts w w') (hB : B ≤ w.heap.size) : Below B w w' :=
  ⟨h.os, h.tape, h.output, h.size, fun k hk => by
    have : k < w.heap.size := by omega
    rw [Array.getElem?_eq_getElem this]
    exact h.block k _ (Array.getElem?_eq_getElem this) (.inl hk)⟩
/-- Behind an append to a slice of the call's own. -/
theorem Keeps.grown {B e size n : Nat} {ts : List Nat} {v : Value} {xs : List Value} {w w' : World} (hown : w.ownsRow B e size v n xs) (hg : w.grownBy w' v.ownBlock) (he : e ∈ ts) : Keeps B ts w w' := by
  refine ⟨hg.os, hg.tape, hg.output, hg.size, fun k o hk ho => ?_⟩
  have hlt : k < w.heap.size := by
    rcases Nat.lt_or_ge k w.heap.size with h' | h'
    · exact h'
    · rw [Array.getElem?_eq_none h'] at hk; cases hk
  rw [hg.block k hlt ?_]
  · exact hk
  · intro hkv
    rcases hown.2 with ⟨rfl, -⟩ | ⟨g, cap, cur, rfl, hb, hh, -⟩
    · simp [Value.ownBlock] at hkv
    · simp [Value.ownBlock] at hkv
      subst hkv
      rw [hh] at hk
      cases hk
      rcases ho with ho | ho
      · omega
      · exact ho he
theorem Keeps.cell {B : Nat} {ts : List Nat} {w w' : World} (h : Keeps B ts w w') {b : Nat} {cs : Array Value} {t : TypeId} {fr : Nat × Nat} (hb : w.heap[b]? = some (.cells cs t fr)) (ht : t ∉ ts) : w'.heap[b]? = some (.cells cs t fr) :=
  h.block b _ hb (.inr ht)

/-- Behind a store into a block of one of the types. -/
theorem Keeps.set {B g : Nat} {ts : List Nat} {a w : World} {c : Array Value} {t : TypeId} {fr : Nat × Nat} (h : Keeps B ts a w) (hg : w.heap[g]? = some (.cells c t fr)) (ht : t ∈ ts) (hB : B ≤ g) (i : Nat) (v : Value) : Keeps B ts a (w.setCell ⟨g, i, none⟩ v) := by
  refine ⟨h.os, h.tape, h.output, by simpa using h.size, fun k o hk ho => ?_⟩
  by_cases e : k = g
  · subst e
    have := h.block k o hk ho
    rw [hg] at this
    cases this
    rcases ho with ho | ho
    · omega
    · exact absurd ht ho
  · rw [Below.heap_setCell _ _ _ _ e]
    exact h.block k o hk ho

/-- The rows of cells have the sizes that they had. -/
def SameShape (w w' : World) : Prop := ∀ (b : Nat) (c : Array Value) (t : TypeId), w.heap[b]? = some (Obj.cells c t (0, 0)) → ∃ c' : Array Value, w'.heap[b]? = some (Obj.cells c' t (0, 0)) ∧ c'.size = c.size
theorem SameShape.refl (w : World) : SameShape w w := fun _ c _ h => ⟨c, h, rfl⟩
theorem SameShape.trans {a b c : World} (h : SameShape a b) (k : SameShape b c) : SameShape a c := fun i x t hi => by
  obtain ⟨y, hy, e1⟩ := h i x t hi
  obtain ⟨z, hz, e2⟩ := k i y t hy
  exact ⟨z, hz, e2.trans e1⟩
theorem SameShape.below {w w' : World} (h : Below w.heap.size w w') : SameShape w w' := fun _ c _ hb => ⟨c, block_kept hb h, rfl⟩
theorem SameShape.set {a w : World} {g : Nat} {c : Array Value} {t : TypeId} (h : SameShape a w) (hg : w.heap[g]? = some (.cells c t (0, 0))) (i : Nat) (v : Value) : SameShape a (w.setCell ⟨g, i, none⟩ v) := fun b x u hb => by
  obtain ⟨y, hy, e1⟩ := h b x u hb
  by_cases e : b = g
  · subst e
    rw [hg] at hy
    cases hy
    exact ⟨_, block_set hg v, by simpa using e1⟩
  · exact ⟨y, by rw [Below.heap_setCell _ _ _ _ e]; exact hy, e1⟩

/-- A byte slice of the call's own, in a block from B on. -/
def Buf (w : World) (B : Nat) (v : Value) (bs : List Int) : Prop := w.ownsRow B 5 1 v bs.length (bs.map (Value.int .u8))

theorem Buf.of {w : World} {B n m cap : Nat} {a : Option Addr} {vs : List Value} {xs : List Int} (h : w.ownsRow B 5 1 (.slice a n cap) n vs) (hv : vs = xs.map (Value.int .u8)) (hn : n = xs.length) (hm : m = n) : Buf w B (.slice a m cap) xs := by
  subst hm
  subst hn
  subst hv
  exact h
theorem ret_slice {a : Option Addr} {n m c : Nat} (h : n = m) : Ending.returned (.slice a n c) = .returned (.slice a m c) := by rw [h]

/-- The cells of a byte slice. -/
def BytesAt (w : World) (lo : Nat) (a : Option Addr) (bs : List Int) : Prop :=
  ∀ i (h : i < bs.length), ∃ b off, a = some ⟨b, off, none⟩ ∧ lo ≤ b ∧ w.cell? ⟨b, off + i, none⟩ = some (.int .u8 bs[i])

theorem BytesAt.mono {w w' : World} {lo : Nat} {a : Option Addr} {bs : List Int} (h : BytesAt w lo a bs) (hb : Below w.heap.size w w') : BytesAt w' lo a bs := by
  intro i hi
  obtain ⟨b, off, h1, h2, h3⟩ := h i hi
  exact ⟨b, off, h1, h2, cell_later hb h3⟩

theorem Buf.form {w : World} {B : Nat} {v : Value} {bs : List Int} (h : Buf w B v bs) : ∃ a cap, v = .slice a bs.length cap ∧ BytesAt w B a bs := by
  rcases h.2 with ⟨rfl, hn⟩ | ⟨g, cap, cur, rfl, hb, hh, hn, -, hs, htake⟩
  · exact ⟨none, 0, by rw [hn], fun i hi => by omega⟩
  · refine ⟨_, cap, rfl, fun i hi => ⟨g, 0, rfl, hb, ?_⟩⟩
    rw [block_cell hh, Nat.zero_add]
    have h1 : (cur.toList.take (bs.length * 1))[i]? = (bs.map (Value.int .u8))[i]? := by rw [htake]
    rw [List.getElem?_take_of_lt (by omega)] at h1
    simpa [hi] using h1
end Go.Proofs.YtedjabgkdogkfaaDoor
namespace Go.Proofs.YtedjabgkdogkfaaDoor
open Go.RowKit

def TextBlk (w : World) (g n : Nat) : Prop := ∃ cur : Array Value, w.heap[g]? = some (Obj.cells cur 9 (0, 0)) ∧ cur.size = n
theorem block_above {lo g : Nat} {w w' : World} {o : Obj} (h : Above lo w w') (hg : lo ≤ g) (hb : w.heap[g]? = some o) : w'.heap[g]? = some o := by
  have hlt : g < w.heap.size := by
    rcases Nat.lt_or_ge g w.heap.size with h' | h'
    · exact h'
    · rw [Array.getElem?_eq_none h'] at hb; cases hb
  rw [h g hg hlt]; exact hb
theorem TextBlk.mono {w w' : World} {g n : Nat} (h : TextBlk w g n) (hb : Below w.heap.size w w') : TextBlk w' g n := by
  obtain ⟨c, h1, h2⟩ := h
  exact ⟨c, block_kept h1 hb, h2⟩
theorem TextBlk.above {w w' : World} {lo g n : Nat} (h : TextBlk w g n) (hb : Above lo w w') (hg : lo ≤ g) : TextBlk w' g n := by
  obtain ⟨c, h1, h2⟩ := h
  exact ⟨c, block_above hb hg h1, h2⟩
theorem TextBlk.shape {w w' : World} {g n : Nat} (h : TextBlk w g n) (hs : SameShape w w') : TextBlk w' g n := by
  obtain ⟨c, h1, h2⟩ := h
  obtain ⟨c', h3, h4⟩ := hs g c 9 h1
  exact ⟨c', h3, h4.trans h2⟩
end Go.Proofs.YtedjabgkdogkfaaDoor
