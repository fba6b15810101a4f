/-
  Plain predicates that say which cells of memory hold a list of texts, of instructions, of functions; they stay true where nothing that was there is written.
-/
import Derived.WalkKit
import Derived.WalkSpells
namespace Go.Proofs.YtmmcockkbhnopaaGreat
open Go.RowKit

/-- A function of a module as plain data. -/
structure Fn where
  params : Int
  locals : Int
  code : List (Int × Int)

theorem ret_int {k : IntKind} {a b : Int} (h : a = b) : Ending.returned (.int k a) = .returned (.int k b) := by rw [h]
theorem ret_bool {a b : Bool} (h : a = b) : Ending.returned (.bool a) = .returned (.bool b) := by rw [h]

theorem cell_new (w : World) (C : Array Value) (t : TypeId) (j : Nat) : (w.alloc (.cells C t)).cell? ⟨w.heap.size, j, none⟩ = C[j]? := World.cell?_alloc_mark w C t (0, 0) j

/-- The cells of a list of strings, in blocks from 'lo' on. -/
def StrsAt (w : World) (lo : Nat) (a : Option Addr) (ss : List ByteArray) : Prop :=
  ∀ i (h : i < ss.length), ∃ b off, a = some ⟨b, off, none⟩ ∧ lo ≤ b ∧ w.cell? ⟨b, off + i, none⟩ = some (.string ss[i])

/-- The cells of a list of instructions. -/
def CodeAt (w : World) (lo : Nat) (a : Option Addr) (xs : List (Int × Int)) : Prop :=
  ∀ i (h : i < xs.length), ∃ b off, a = some ⟨b, off, none⟩ ∧ lo ≤ b ∧ w.cell? ⟨b, off + i * 2, none⟩ = some (.int .i64 xs[i].1) ∧ w.cell? ⟨b, off + i * 2 + 1, none⟩ = some (.int .i64 xs[i].2)

/-- The cells of a list of functions. -/
def FnsAt (w : World) (lo : Nat) (a : Option Addr) (fs : List Fn) : Prop :=
  ∀ i (h : i < fs.length), ∃ b off ca cc, a = some ⟨b, off, none⟩ ∧ lo ≤ b ∧ w.cell? ⟨b, off + i * 3, none⟩ = some (.int .i64 fs[i].params) ∧
    w.cell? ⟨b, off + i * 3 + 1, none⟩ = some (.int .i64 fs[i].locals) ∧ w.cell? ⟨b, off + i * 3 + 2, none⟩ = some (.slice ca fs[i].code.length cc) ∧ CodeAt w lo ca fs[i].code

theorem StrsAt.mono {w w' : World} {lo : Nat} {a : Option Addr} {ss : List ByteArray} (h : StrsAt w lo a ss) (hb : Below w.heap.size w w') : StrsAt w' lo a ss := by
  intro i hi
  obtain ⟨b, off, h1, h2, h3⟩ := h i hi
  exact ⟨b, off, h1, h2, cell_later hb h3⟩

theorem CodeAt.mono {w w' : World} {lo : Nat} {a : Option Addr} {xs : List (Int × Int)} (h : CodeAt w lo a xs) (hb : Below w.heap.size w w') : CodeAt w' lo a xs := by
  intro i hi
  obtain ⟨b, off, h1, h2, h3, h4⟩ := h i hi
  exact ⟨b, off, h1, h2, cell_later hb h3, cell_later hb h4⟩

theorem FnsAt.mono {w w' : World} {lo : Nat} {a : Option Addr} {fs : List Fn} (h : FnsAt w lo a fs) (hb : Below w.heap.size w w') : FnsAt w' lo a fs := by
  intro i hi
  obtain ⟨b, off, ca, cc, h1, h2, h3, h4, h5, h6⟩ := h i hi
  exact ⟨b, off, ca, cc, h1, h2, cell_later hb h3, cell_later hb h4, cell_later hb h5, h6.mono hb⟩

/-- The block of a slice that 'make' laid. -/
theorem made_block {w1 : World} {base e size g n : Nat} {xs : List Value} (h : w1.ownsRow base e size (.slice (some ⟨g, 0, none⟩) n n) n xs) : ∃ cur, w1.heap[g]? = some (.cells cur e (0, 0)) ∧ cur.size = n * size := by
  rcases h.2 with ⟨hv, -⟩ | ⟨g', cap, cur, hv, -, hh, -, -, hs, -⟩
  · cases hv
  · cases hv
    exact ⟨cur, hh, hs⟩

theorem block_cell {w : World} {g : Nat} {cs : Array Value} {t : TypeId} {fr : Nat × Nat} (h : w.heap[g]? = some (.cells cs t fr)) (i : Nat) : w.cell? ⟨g, i, none⟩ = cs[i]? := by simp [World.cell?, h]
theorem block_free {w : World} {g : Nat} {cs : Array Value} {t : TypeId} (h : w.heap[g]? = some (.cells cs t (0, 0))) (i : Nat) : w.frozen? ⟨g, i, none⟩ = false := by simp [World.frozen?, h]
theorem block_set {w : World} {g i : Nat} {cs : Array Value} {t : TypeId} {fr : Nat × Nat} (h : w.heap[g]? = some (.cells cs t fr)) (v : Value) : (w.setCell ⟨g, i, none⟩ v).heap[g]? = some (.cells (cs.setIfInBounds i v) t fr) := by
  rw [setCell_eq_setRow w g i cs t fr v h]
  exact setRow_heap w g _ _ t _ h

theorem block_kept {w w' : World} {g : Nat} {o : Obj} (h : w.heap[g]? = some o) (hb : Below w.heap.size w w') : w'.heap[g]? = some o := by
  have hlt : g < w.heap.size := by
    rcases Nat.lt_or_ge g w.heap.size with h' | h'
    · exact h'
    · rw [Array.getElem?_eq_none h'] at h; cases h
  rw [hb.block g hlt, h]

theorem set_self {cur : Array Value} {k : Nat} (v : Value) (h : k < cur.size) : (cur.setIfInBounds k v)[k]? = some v := by simp [h]
theorem set_else {cur : Array Value} {k j : Nat} (v : Value) (h : j ≠ k) : (cur.setIfInBounds k v)[j]? = cur[j]? := Array.getElem?_setIfInBounds_ne (fun x => h x.symm)

theorem block_new (w : World) (C : Array Value) (t : TypeId) : (w.alloc (.cells C t)).heap[w.heap.size]? = some (.cells C t (0, 0)) := by
  show (w.heap.push _)[w.heap.size]? = _
  simp
theorem block_old {w : World} {g : Nat} {o : Obj} (h : w.heap[g]? = some o) (x : Obj) : (w.alloc x).heap[g]? = some o := block_kept h ((Below.refl _ _).alloc (Nat.le_refl _) x)

/-- From block 'lo' on the two worlds are one. -/
def Above (lo : Nat) (w w' : World) : Prop := ∀ k, lo ≤ k → k < w.heap.size → w'.heap[k]? = w.heap[k]?
theorem Above.refl (lo : Nat) (w : World) : Above lo w w := fun _ _ _ => rfl
theorem Above.setCell {lo : Nat} {w w' : World} (h : Above lo w w') {p : Addr} (hp : p.block < lo) (v : Value) : Above lo w (w'.setCell p v) := fun k hk hs => by
  rw [Below.heap_setCell _ _ _ _ (by omega)]; exact h k hk hs
theorem Above.cell {lo : Nat} {w w' : World} (h : Above lo w w') {b off : Nat} {v : Value} (hb : lo ≤ b) (hc : w.cell? ⟨b, off, none⟩ = some v) : w'.cell? ⟨b, off, none⟩ = some v := by
  rw [World.cell?_of_block (w := w) (h b hb (World.block_lt_of_cell? w _ hc))]; exact hc
theorem StrsAt.above {w w' : World} {lo : Nat} {a : Option Addr} {ss : List ByteArray} (h : StrsAt w lo a ss) (hb : Above lo w w') : StrsAt w' lo a ss := by
  intro i hi
  obtain ⟨b, off, h1, h2, h3⟩ := h i hi
  exact ⟨b, off, h1, h2, hb.cell h2 h3⟩
theorem CodeAt.above {w w' : World} {lo : Nat} {a : Option Addr} {xs : List (Int × Int)} (h : CodeAt w lo a xs) (hb : Above lo w w') : CodeAt w' lo a xs := by
  intro i hi
  obtain ⟨b, off, h1, h2, h3, h4⟩ := h i hi
  exact ⟨b, off, h1, h2, hb.cell h2 h3, hb.cell h2 h4⟩
theorem FnsAt.above {w w' : World} {lo : Nat} {a : Option Addr} {fs : List Fn} (h : FnsAt w lo a fs) (hb : Above lo w w') : FnsAt w' lo a fs := by
  intro i hi
  obtain ⟨b, off, ca, cc, h1, h2, h3, h4, h5, h6⟩ := h i hi
  exact ⟨b, off, ca, cc, h1, h2, hb.cell h2 h3, hb.cell h2 h4, hb.cell h2 h5, h6.above hb⟩
theorem StrsAt.low {w : World} {lo lo' : Nat} {a : Option Addr} {ss : List ByteArray} (h : StrsAt w lo a ss) (hl : lo' ≤ lo) : StrsAt w lo' a ss := fun i hi => by
  obtain ⟨b, off, h1, h2, h3⟩ := h i hi
  exact ⟨b, off, h1, by omega, h3⟩
theorem CodeAt.low {w : World} {lo lo' : Nat} {a : Option Addr} {xs : List (Int × Int)} (h : CodeAt w lo a xs) (hl : lo' ≤ lo) : CodeAt w lo' a xs := fun i hi => by
  obtain ⟨b, off, h1, h2, h3, h4⟩ := h i hi
  exact ⟨b, off, h1, by omega, h3, h4⟩
theorem FnsAt.low {w : World} {lo lo' : Nat} {a : Option Addr} {fs : List Fn} (h : FnsAt w lo a fs) (hl : lo' ≤ lo) : FnsAt w lo' a fs := fun i hi => by
  obtain ⟨b, off, ca, cc, h1, h2, h3, h4, h5, h6⟩ := h i hi
  exact ⟨b, off, ca, cc, h1, by omega, h3, h4, h5, h6.low hl⟩

/-- What the guard of a law leaves: nothing is longer than 1048576. -/
structure Small (ts : List ByteArray) (fs : List Fn) : Prop where
  texts : ts.length ≤ 1048576
  text : ∀ s ∈ ts, s.size ≤ 1048576
  funcs : fs.length ≤ 1048576
  code : ∀ f ∈ fs, f.code.length ≤ 1048576
end Go.Proofs.YtmmcockkbhnopaaGreat
