/-
  A frame for calls that write to blocks of some element types alone, and what a byte slice of the call's own holds.
  Which blocks of memory hold the texts, the functions and the instructions of a module that was copied, so that they may be written.
  What spec.l03Next returns: the places that may follow, in memory of the call's own.
  What spec.l01Text, impl.textOk and impl.argBounds return, for every argument within the stated sizes.
-/
import Derived.Test.YtjdoljaailokmaaGreatDoorZFQ2
import Derived.Deep.AppendLies
import Derived.Test.YtjdoljaailokmaaGreatDoorZFQ4
import Derived.Test.YtjdoljaailokmaaGreatDoorZV0
import Derived.Deep.QuietTactic
import Derived.BigQuiet
import Derived.Deep.RegionWith
namespace Go.Proofs.YtjdoljaailokmaaGreatDoor
open Go.RowKit

/-- The object is a row of cells of one of these types. -/
def ofTypes (ts : List Nat) : Obj → Prop
  | .cells _ t _ => t ∈ ts
  | _ => False

/-- Blocks below B, and blocks of other types than 'ts', are as they were. -/
structure Keeps (B : Nat) (ts : List Nat) (w w' : World) : Prop where
  os : w'.os = w.os
  tape : w'.tape = w.tape
  output : w'.output = w.output
  size : w.heap.size ≤ w'.heap.size
  block : ∀ k o, w.heap[k]? = some o → (k < B ∨ ¬ ofTypes ts o) → w'.heap[k]? = some o

theorem Keeps.refl (B : Nat) (ts : List Nat) (w : World) : Keeps B ts w w := ⟨rfl, rfl, rfl, Nat.le_refl _, fun _ _ h _ => h⟩
theorem Keeps.trans {B : Nat} {ts : List Nat} {a b c : World} (h : Keeps B ts a b) (k : Keeps B ts b c) : Keeps B ts a c :=
  ⟨k.os.trans h.os, k.tape.trans h.tape, k.output.trans h.output, Nat.le_trans h.size k.size, fun i o hi ho => k.block i o (h.block i o hi ho) ho⟩
theorem Keeps.below {B : Nat} {ts : List Nat} {w w' : World} (h : Below w.heap.size w w') : Keeps B ts w w' :=
  ⟨h.os, h.tape, h.output, h.size, fun _ _ hi _ => block_kept hi h⟩
theorem Keeps.alloc {B : Nat} {ts : List Nat} {a w : World} (h : Keeps B ts a w) (o : Obj) : Keeps B ts a (w.alloc o) := h.trans (Keeps.below ((Below.refl _ _).alloc (Nat.le_refl _) o))
theorem Keeps.drew {B : Nat} {ts : List Nat} {a w : World} (h : Keeps B ts a w) : Keeps B ts a w.drew := ⟨h.os, h.tape, h.output, h.size, h.block⟩
theorem Keeps.mono {B B' : Nat} {ts ts' : List Nat} {w w' : World} (h : Keeps B ts w w') (hB : B' ≤ B) (ht : ∀ t ∈ ts, t ∈ ts') : Keeps B' ts' w w' :=
  ⟨h.os, h.tape, h.output, h.size, fun k o hk ho => h.block k o hk (by
    rcases ho with ho | ho
    · exact .inl (by omega)
    · refine .inr fun hx => ho ?_
      cases o <;> first | exact ht _ hx | exact hx)⟩
theorem Keeps.toBelow {B : Nat} {ts : List Nat} {w w' : World} (h : Keeps B ts w w') (hB : B ≤ w.heap.size) : Below B w w' :=
  ⟨h.os, h.tape, h.output, h.size, fun k hk => by
    have : k < w.heap.size := by omega
    rw [Array.getElem?_eq_getElem this]
    exact h.block k _ (Array.getElem?_eq_getElem this) (.inl hk)⟩
/-- Behind an append to a slice of the call's own. -/
theorem Keeps.grown {B e size n : Nat} {ts : List Nat} {v : Value} {xs : List Value} {w w' : World} (hown : w.ownsRow B e size v n xs) (hg : w.grownBy w' v.ownBlock) (he : e ∈ ts) : Keeps B ts w w' := by
  refine ⟨hg.os, hg.tape, hg.output, hg.size, fun k o hk ho => ?_⟩
  have hlt : k < w.heap.size := by
    rcases Nat.lt_or_ge k w.heap.size with h' | h'
    · exact h'
    · rw [Array.getElem?_eq_none h'] at hk; cases hk
  rw [hg.block k hlt ?_]
  · exact hk
  · intro hkv
    rcases hown.2 with ⟨rfl, -⟩ | ⟨g, cap, cur, rfl, hb, hh, -⟩
    · simp [Value.ownBlock] at hkv
    · simp [Value.ownBlock] at hkv
      subst hkv
      rw [hh] at hk
      cases hk
      rcases ho with ho | ho
      · omega
      · exact ho he
theorem Keeps.cell {B : Nat} {ts : List Nat} {w w' : World} (h : Keeps B ts w w') {b : Nat} {cs : Array Value} {t : TypeId} {fr : Nat × Nat} (hb : w.heap[b]? = some (.cells cs t fr)) (ht : t ∉ ts) : w'.heap[b]? = some (.cells cs t fr) :=
  h.block b _ hb (.inr ht)

/-- Behind a store into a block of one of the types. -/
theorem Keeps.set {B g : Nat} {ts : List Nat} {a w : World} {c : Array Value} {t : TypeId} {fr : Nat × Nat} (h : Keeps B ts a w) (hg : w.heap[g]? = some (.cells c t fr)) (ht : t ∈ ts) (hB : B ≤ g) (i : Nat) (v : Value) : Keeps B ts a (w.setCell ⟨g, i, none⟩ v) := by
  refine ⟨h.os, h.tape, h.output, by simpa using h.size, fun k o hk ho => ?_⟩
  by_cases e : k = g
  · subst e
    have := h.block k o hk ho
    rw [hg] at this
    cases this
    rcases ho with ho | ho
    · omega
    · exact absurd ht ho
  · rw [Below.heap_setCell _ _ _ _ e]
    exact h.block k o hk ho

/-- The rows of cells have the sizes that they had. -/
def SameShape (w w' : World) : Prop := ∀ (b : Nat) (c : Array Value) (t : TypeId), w.heap[b]? = some (Obj.cells c t (0, 0)) → ∃ c' : Array Value, w'.heap[b]? = some (Obj.cells c' t (0, 0)) ∧ c'.size = c.size
theorem SameShape.refl (w : World) : SameShape w w := fun _ c _ h => ⟨c, h, rfl⟩
theorem SameShape.trans {a b c : World} (h : SameShape a b) (k : SameShape b c) : SameShape a c := fun i x t hi => by
  obtain ⟨y, hy, e1⟩ := h i x t hi
  obtain ⟨z, hz, e2⟩ := k i y t hy
  exact ⟨z, hz, e2.trans e1⟩
theorem SameShape.below {w w' : World} (h : Below w.heap.size w w') : SameShape w w' := fun _ c _ hb => ⟨c, block_kept hb h, rfl⟩
theorem SameShape.set {a w : World} {g : Nat} {c : Array Value} {t : TypeId} (h : SameShape a w) (hg : w.heap[g]? = some (.cells c t (0, 0))) (i : Nat) (v : Value) : SameShape a (w.setCell ⟨g, i, none⟩ v) := fun b x u hb => by
  obtain ⟨y, hy, e1⟩ := h b x u hb
  by_cases e : b = g
  · subst e
    rw [hg] at hy
    cases hy
    exact ⟨_, block_set hg v, by simpa using e1⟩
  · exact ⟨y, by rw [Below.heap_setCell _ _ _ _ e]; exact hy, e1⟩

/-- A byte slice of the call's own, in a block from B on. -/
def Buf (w : World) (B : Nat) (v : Value) (bs : List Int) : Prop := w.ownsRow B 5 1 v bs.length (bs.map (Value.int .u8))

theorem Buf.of {w : World} {B n m cap : Nat} {a : Option Addr} {vs : List Value} {xs : List Int} (h : w.ownsRow B 5 1 (.slice a n cap) n vs) (hv : vs = xs.map (Value.int .u8)) (hn : n = xs.length) (hm : m = n) : Buf w B (.slice a m cap) xs := by
  subst hm
  subst hn
  subst hv
  exact h
theorem ret_slice {a : Option Addr} {n m c : Nat} (h : n = m) : Ending.returned (.slice a n c) = .returned (.slice a m c) := by rw [h]

/-- The cells of a byte slice. -/
def BytesAt (w : World) (lo : Nat) (a : Option Addr) (bs : List Int) : Prop :=
  ∀ i (h : i < bs.length), ∃ b off, a = some ⟨b, off, none⟩ ∧ lo ≤ b ∧ w.cell? ⟨b, off + i, none⟩ = some (.int .u8 bs[i])

theorem BytesAt.mono {w w' : World} {lo : Nat} {a : Option Addr} {bs : List Int} (h : BytesAt w lo a bs) (hb : Below w.heap.size w w') : BytesAt w' lo a bs := by
  intro i hi
  obtain ⟨b, off, h1, h2, h3⟩ := h i hi
  exact ⟨b, off, h1, h2, cell_later hb h3⟩

theorem Buf.form {w : World} {B : Nat} {v : Value} {bs : List Int} (h : Buf w B v bs) : ∃ a cap, v = .slice a bs.length cap ∧ BytesAt w B a bs := by
  rcases h.2 with ⟨rfl, hn⟩ | ⟨g, cap, cur, rfl, hb, hh, hn, -, hs, htake⟩
  · exact ⟨none, 0, by rw [hn], fun i hi => by omega⟩
  · refine ⟨_, cap, rfl, fun i hi => ⟨g, 0, rfl, hb, ?_⟩⟩
    rw [block_cell hh, Nat.zero_add]
    have h1 : (cur.toList.take (bs.length * 1))[i]? = (bs.map (Value.int .u8))[i]? := by rw [htake]
    rw [List.getElem?_take_of_lt (by omega)] at h1
    simpa [hi] using h1
end Go.Proofs.YtjdoljaailokmaaGreatDoor
namespace Go.Proofs.YtjdoljaailokmaaGreatDoor
open Go.RowKit

def TextBlk (w : World) (g n : Nat) : Prop := ∃ cur : Array Value, w.heap[g]? = some (Obj.cells cur 9 (0, 0)) ∧ cur.size = n
def CodeBlk (w : World) (g n : Nat) : Prop := ∃ cur : Array Value, w.heap[g]? = some (Obj.cells cur 44 (0, 0)) ∧ cur.size = n * 2
def FnsBlk (w : World) (lo g : Nat) (fs : List Fn) : Prop := ∃ cur : Array Value, w.heap[g]? = some (Obj.cells cur 40 (0, 0)) ∧ cur.size = fs.length * 3 ∧
  ∀ j (hj : j < fs.length), ∃ gc, cur[j * 3 + 2]? = some (.slice (some ⟨gc, 0, none⟩) fs[j].code.length fs[j].code.length) ∧ lo ≤ gc ∧ CodeBlk w gc fs[j].code.length

theorem block_above {lo g : Nat} {w w' : World} {o : Obj} (h : Above lo w w') (hg : lo ≤ g) (hb : w.heap[g]? = some o) : w'.heap[g]? = some o := by
  have hlt : g < w.heap.size := by
    rcases Nat.lt_or_ge g w.heap.size with h' | h'
    · exact h'
    · rw [Array.getElem?_eq_none h'] at hb; cases hb
  rw [h g hg hlt]; exact hb
theorem TextBlk.mono {w w' : World} {g n : Nat} (h : TextBlk w g n) (hb : Below w.heap.size w w') : TextBlk w' g n := by
  obtain ⟨c, h1, h2⟩ := h
  exact ⟨c, block_kept h1 hb, h2⟩
theorem CodeBlk.mono {w w' : World} {g n : Nat} (h : CodeBlk w g n) (hb : Below w.heap.size w w') : CodeBlk w' g n := by
  obtain ⟨c, h1, h2⟩ := h
  exact ⟨c, block_kept h1 hb, h2⟩
theorem FnsBlk.mono {w w' : World} {lo g : Nat} {fs : List Fn} (h : FnsBlk w lo g fs) (hb : Below w.heap.size w w') : FnsBlk w' lo g fs := by
  obtain ⟨c, h1, h2, h3⟩ := h
  refine ⟨c, block_kept h1 hb, h2, fun j hj => ?_⟩
  obtain ⟨gc, a, b, d⟩ := h3 j hj
  exact ⟨gc, a, b, d.mono hb⟩
theorem TextBlk.above {w w' : World} {lo g n : Nat} (h : TextBlk w g n) (hb : Above lo w w') (hg : lo ≤ g) : TextBlk w' g n := by
  obtain ⟨c, h1, h2⟩ := h
  exact ⟨c, block_above hb hg h1, h2⟩
theorem CodeBlk.above {w w' : World} {lo g n : Nat} (h : CodeBlk w g n) (hb : Above lo w w') (hg : lo ≤ g) : CodeBlk w' g n := by
  obtain ⟨c, h1, h2⟩ := h
  exact ⟨c, block_above hb hg h1, h2⟩
theorem FnsBlk.above {w w' : World} {lo lo' g : Nat} {fs : List Fn} (h : FnsBlk w lo g fs) (hb : Above lo' w w') (hg : lo' ≤ g) (hl : lo' ≤ lo) : FnsBlk w' lo g fs := by
  obtain ⟨c, h1, h2, h3⟩ := h
  refine ⟨c, block_above hb hg h1, h2, fun j hj => ?_⟩
  obtain ⟨gc, a, b, d⟩ := h3 j hj
  exact ⟨gc, a, b, d.above hb (by omega)⟩
theorem FnsBlk.low {w : World} {lo lo' g : Nat} {fs : List Fn} (h : FnsBlk w lo g fs) (hl : lo' ≤ lo) : FnsBlk w lo' g fs := by
  obtain ⟨c, h1, h2, h3⟩ := h
  refine ⟨c, h1, h2, fun j hj => ?_⟩
  obtain ⟨gc, a, b, d⟩ := h3 j hj
  exact ⟨gc, a, by omega, d⟩
theorem TextBlk.shape {w w' : World} {g n : Nat} (h : TextBlk w g n) (hs : SameShape w w') : TextBlk w' g n := by
  obtain ⟨c, h1, h2⟩ := h
  obtain ⟨c', h3, h4⟩ := hs g c 9 h1
  exact ⟨c', h3, h4.trans h2⟩
theorem CodeBlk.shape {w w' : World} {g n : Nat} (h : CodeBlk w g n) (hs : SameShape w w') : CodeBlk w' g n := by
  obtain ⟨c, h1, h2⟩ := h
  obtain ⟨c', h3, h4⟩ := hs g c 44 h1
  exact ⟨c', h3, h4.trans h2⟩
end Go.Proofs.YtjdoljaailokmaaGreatDoor

namespace Go.Proofs.YtjdoljaailokmaaGreatDoor
open Go.RowKit

theorem info3 : (Tryz.prog.info? 3).map (fun i => (i.zero, i.size, i.bytes)) = some (some (.int .i64 0), 1, 8) := by kernel_rfl

/-- The cells of a slice of numbers. -/
def IntsAt (w : World) (lo : Nat) (a : Option Addr) (xs : List Int) : Prop :=
  ∀ i (h : i < xs.length), ∃ b off, a = some ⟨b, off, none⟩ ∧ lo ≤ b ∧ w.cell? ⟨b, off + i, none⟩ = some (.int .i64 xs[i])

theorem IntsAt.mono {w w' : World} {lo : Nat} {a : Option Addr} {xs : List Int} (h : IntsAt w lo a xs) (hb : Below w.heap.size w w') : IntsAt w' lo a xs := by
  intro i hi
  obtain ⟨b, off, h1, h2, h3⟩ := h i hi
  exact ⟨b, off, h1, h2, cell_later hb h3⟩
theorem IntsAt.low {w : World} {lo lo' : Nat} {a : Option Addr} {xs : List Int} (h : IntsAt w lo a xs) (hl : lo' ≤ lo) : IntsAt w lo' a xs := fun i hi => by
  obtain ⟨b, off, h1, h2, h3⟩ := h i hi
  exact ⟨b, off, h1, by omega, h3⟩
theorem IntsAt.above {w w' : World} {lo : Nat} {a : Option Addr} {xs : List Int} (h : IntsAt w lo a xs) (hb : Above lo w w') : IntsAt w' lo a xs := by
  intro i hi
  obtain ⟨b, off, h1, h2, h3⟩ := h i hi
  exact ⟨b, off, h1, h2, hb.cell h2 h3⟩

theorem IntsAt.own {w : World} {B n cap : Nat} {a : Option Addr} {xs : List Int} {vs : List Value} (h : w.ownsRow B 3 1 (.slice a n cap) n vs) (hv : vs = xs.map (Value.int .i64)) (hn : n = xs.length) : IntsAt w B a xs := by
  subst hv
  subst hn
  rcases h.2 with ⟨-, hn⟩ | ⟨g, cap, cur, hv, hb, hh, hn, -, hs, htake⟩
  · exact fun i hi => by omega
  · cases hv
    refine fun i hi => ⟨g, 0, rfl, hb, ?_⟩
    rw [block_cell hh, Nat.zero_add]
    have h1 : (cur.toList.take (xs.length * 1))[i]? = (xs.map (Value.int .i64))[i]? := by rw [htake]
    rw [List.getElem?_take_of_lt (by omega)] at h1
    simpa [hi] using h1

theorem next25 (a : Int) (pc : Nat) : nextB 25 a pc = [] := rfl
theorem next17 (a : Int) (pc : Nat) : nextB 17 a pc = [a] := rfl
theorem next18 (a : Int) (pc : Nat) : nextB 18 a pc = [(pc : Int) + 1, a] := rfl
theorem next19 (a : Int) (pc : Nat) : nextB 19 a pc = [(pc : Int) + 1, a] := rfl
theorem next_else {op : Int} (a : Int) (pc : Nat) (h1 : op ≠ 25) (h2 : op ≠ 17) (h3 : op ≠ 18) (h4 : op ≠ 19) : nextB op a pc = [(pc : Int) + 1] := by
  unfold nextB
  rw [if_neg h1, if_neg h2, if_neg (by omega)]

theorem one_new (W : World) (n : Nat) (hn : W.heap.size = n) (v : Value) (t : TypeId) : ∀ (j : Nat) (u : Value), [v][j]? = some u → (W.alloc (.cells #[v] t)).cell? ((⟨n, 0, none⟩ : Addr).add j) = some u := by
  subst hn
  exact cell_one_new _ _ _

set_option maxRecDepth 100000 in
set_option maxHeartbeats 800000 in
theorem sNext_any (op a : Int) (pc : Nat) (w : World) (hpc : pc ≤ 1048576) :
    Calls Tryz.prog 54 #[.agg #[.int .i64 op, .int .i64 a], .int .i64 pc] w fun e w' => ∃ ad cap, e = .returned (.slice ad (nextB op a pc).length cap) ∧ IntsAt w' w.heap.size ad (nextB op a pc) ∧ Below w.heap.size w w' := by
  obtain ⟨i0, hi, hz0, hz1, hz2⟩ := info_parts info3
  by_cases h25 : op = 25
  · subst h25
    rw [next25]
    go_enter Tryz.func54, Tryz.ntmps54
    go_wp2
    go_ret
    exact ⟨_, _, rfl, fun i hi => absurd hi (by simp), ((Below.refl _ _).alloc (Nat.le_refl _) _).alloc (by simp) _⟩
  have hM0 := block_old (block_new w #[.int .i64 op, .int .i64 a] 44) (.cells #[] 3)
  have hE0 : ((w.alloc (.cells #[.int .i64 op, .int .i64 a] 44)).alloc (.cells #[] 3)).ownsRow w.heap.size 3 1 (.slice (some ⟨w.heap.size + 1, 0, none⟩) 0 0) 0 [] := by
    have := World.ownsRow_made (base := w.heap.size) (e := 3) (size := 1) (w.alloc (.cells #[.int .i64 op, .int .i64 a] 44)) #[] 0 (by simp) (by unfold maxLen; omega) rfl
    simpa using this
  have hbA : Below w.heap.size w ((w.alloc (.cells #[.int .i64 op, .int .i64 a] 44)).alloc (.cells #[] 3)) := ((Below.refl _ _).alloc (Nat.le_refl _) _).alloc (by simp) _
  by_cases h17 : op = 17
  · subst h17
    rw [next17]
    go_enter Tryz.func54, Tryz.ntmps54
    go_wp2_with (first | (at_builtin; refine wpList_append_lies _ rfl _ _ 62 rfl w.heap.size 3 i0 (.int .i64 0) 1 8 Tryz.underlying62 hi hz0 hz1 hz2 rfl (by decide) _ _ _ rfl (World.ownsRow.alloc hE0 _) ⟨w.heap.size + 1 + 1, 0, none⟩ 1 1 [.int .i64 a] rfl rfl (one_new _ _ (by simp) _ _) (by intro u hu; simp at hu; subst hu; rfl) (by decide) (by unfold maxLen; omega) (by omega) (by simp; omega) _ rfl ?_; intro g cap w1 hown1 hgrow1 hat1 hlt1))
    have hb1 : Below w.heap.size w w1 := (hbA.alloc (by simp; omega) _).trans ((Keeps.grown (ts := [3]) (World.ownsRow.alloc hE0 _) hgrow1 (by simp)).toBelow (by simp; omega))
    go_ret
    exact ⟨_, _, rfl, IntsAt.own hown1 (by simp) (by simp), hb1⟩
  by_cases h2 : op = 18 ∨ op = 19
  · rcases h2 with rfl | rfl
    all_goals
      first | rw [next18] | rw [next19]
      clear h25 h17
      go_enter Tryz.func54, Tryz.ntmps54
      go_wp2_with (first | (at_builtin; refine wpList_append_lies _ rfl _ _ 62 rfl w.heap.size 3 i0 (.int .i64 0) 1 8 Tryz.underlying62 hi hz0 hz1 hz2 rfl (by decide) _ _ _ rfl (World.ownsRow.alloc hE0 _) ⟨w.heap.size + 1 + 1, 0, none⟩ 1 1 [.int .i64 ((pc : Int) + 1)] rfl rfl (one_new _ _ (by simp) _ _) (by intro u hu; simp at hu; subst hu; rfl) (by decide) (by unfold maxLen; omega) (by omega) (by simp; omega) _ rfl ?_; intro g cap w1 hown1 hgrow1 hat1 hlt1; have hk1 := Keeps.grown (ts := [3]) (World.ownsRow.alloc hE0 _) hgrow1 (by simp); have hb1 : Below w.heap.size w w1 := (hbA.alloc (by simp; omega) _).trans (hk1.toBelow (by simp; omega)); have hM1 := hk1.cell (block_old hM0 _) (by simp); have x1 := block_cell hM1; have hsz1 := hb1.size; simp only [Nat.zero_add, List.nil_append] at hown1; clear hk1 hgrow1 hat1 hlt1 hE0 hM0 hM1 hbA; go_wp2_with (at_builtin; refine wpList_append_lies _ rfl _ _ 62 rfl w.heap.size 3 i0 (.int .i64 0) 1 8 Tryz.underlying62 hi hz0 hz1 hz2 rfl (by decide) (.slice (some ⟨g, 0, none⟩) 1 cap) 1 [.int .i64 ((pc : Int) + 1)] rfl (World.ownsRow.alloc hown1 _) ⟨w1.heap.size, 0, none⟩ 1 1 [.int .i64 a] rfl rfl (cell_one_new _ _ _) (by intro u hu; simp at hu; subst hu; rfl) (by decide) (by unfold maxLen; omega) (by omega) (by simp; omega) _ rfl ?_; intro g2 cap2 w2 hown2 hgrow2 hat2 hlt2)))
      have hb2 : Below w.heap.size w w2 := (hb1.alloc hb1.size _).trans ((Keeps.grown (ts := [3]) (World.ownsRow.alloc hown1 _) hgrow2 (by simp)).toBelow (by simp; omega))
      go_ret
      exact ⟨_, _, rfl, IntsAt.own hown2 (by simp) (by simp), hb2⟩
  · have h18 : op ≠ 18 := fun h => h2 (Or.inl h)
    have h19 : op ≠ 19 := fun h => h2 (Or.inr h)
    rw [next_else a pc h25 h17 h18 h19]
    have b25 : (op != 25) = true := by simpa using h25
    have b17 : (op != 17) = true := by simpa using h17
    have d17 : (op == 17) = false := by simpa using h17
    have b18 : (op == 18) = false := by simpa using h18
    have b19 : (op == 19) = false := by simpa using h19
    clear h2 h25 h17 h18 h19
    go_enter Tryz.func54, Tryz.ntmps54
    go_wp2_with (first | (at_builtin; refine wpList_append_lies _ rfl _ _ 62 rfl w.heap.size 3 i0 (.int .i64 0) 1 8 Tryz.underlying62 hi hz0 hz1 hz2 rfl (by decide) _ _ _ rfl (World.ownsRow.alloc hE0 _) ⟨w.heap.size + 1 + 1, 0, none⟩ 1 1 [.int .i64 ((pc : Int) + 1)] rfl rfl (one_new _ _ (by simp) _ _) (by intro u hu; simp at hu; subst hu; rfl) (by decide) (by unfold maxLen; omega) (by omega) (by simp; omega) _ rfl ?_; intro g cap w1 hown1 hgrow1 hat1 hlt1; have hk1 := Keeps.grown (ts := [3]) (World.ownsRow.alloc hE0 _) hgrow1 (by simp); have hb1 : Below w.heap.size w w1 := (hbA.alloc (by simp; omega) _).trans (hk1.toBelow (by simp; omega)); have hM1 := hk1.cell (block_old hM0 _) (by simp); have x1 := block_cell hM1))
    go_ret
    exact ⟨_, _, rfl, IntsAt.own hown1 (by simp) (by simp), hb1⟩
end Go.Proofs.YtjdoljaailokmaaGreatDoor

namespace Go.Proofs.YtjdoljaailokmaaGreatDoor
open Go.RowKit


set_option maxHeartbeats 800000 in
theorem l01Text_any (s : ByteArray) (w : World) (hs : s.size ≤ 1048576) :
    Calls Tryz.prog 71 #[.string s] w fun e w' => e = .returned (.bool (textB s)) ∧ w' = w := by
  by_cases h60 : s.size ≤ 60
  · go_enter Tryz.func71, Tryz.ntmps71
    go_wp2
    go_loop [3] (fun i => ∃ k : Nat, k ≤ s.size ∧ i = .int .i64 k ∧ ∀ j (hj : j < s.size), j < k → byteB s[j] = true) (fun i => s.size - (intOf i).toNat)
    case atStart => exact ⟨0, by omega, rfl, fun j _ h => by omega⟩
    case round =>
      obtain ⟨k, hk, rfl, hall⟩ := hrel
      by_cases hlt : k < s.size
      · by_cases b1 : (s[k].toNat : Int) < 32
        · go_wp2
          go_ret
          exact ⟨ret_bool (textB_no hlt (by unfold byteB; simp; omega)).symm, rfl⟩
        by_cases b2 : 126 < (s[k].toNat : Int)
        · go_wp2
          go_ret
          exact ⟨ret_bool (textB_no hlt (by unfold byteB; simp; omega)).symm, rfl⟩
        by_cases b3 : (s[k].toNat : Int) = 34
        · have b3' : ((s[k].toNat : Int) == 34) = true := by simpa using b3
          have hno := textB_no hlt (by unfold byteB; simp; omega)
          clear b3
          go_wp2
          go_ret
          exact ⟨rfl, rfl⟩
        · have b3' : ((s[k].toNat : Int) == 34) = false := by simpa using b3
          have hyes : byteB s[k] = true := by unfold byteB; simp; omega
          go_wp2
          go_round
          case rel =>
            refine ⟨k + 1, by omega, by go_num, fun j hj hjk => ?_⟩
            by_cases e : j = k
            · subst e; exact hyes
            · exact hall j hj (by omega)
          case measure => simp [intOf]; omega
      · go_wp2
        go_ret
        exact ⟨ret_bool (textB_yes h60 fun j hj => hall j hj (by omega)).symm, rfl⟩
  · go_enter Tryz.func71, Tryz.ntmps71
    go_wp2
    go_ret
    exact ⟨ret_bool (by simp [textB, h60]), rfl⟩

set_option maxHeartbeats 800000 in
theorem textOk_any (s : ByteArray) (w : World) (hs : s.size ≤ 1048576) :
    Calls Tryz.prog 84 #[.string s] w fun e w' => e = .returned (.bool (textB s)) ∧ w' = w := by
  by_cases h60 : s.size ≤ 60
  · go_enter Tryz.func84, Tryz.ntmps84
    go_wp2
    go_loop [3] (fun i => ∃ k : Nat, k ≤ s.size ∧ i = .int .i64 k ∧ ∀ j (hj : j < s.size), j < k → byteB s[j] = true) (fun i => s.size - (intOf i).toNat)
    case atStart => exact ⟨0, by omega, rfl, fun j _ h => by omega⟩
    case round =>
      obtain ⟨k, hk, rfl, hall⟩ := hrel
      by_cases hlt : k < s.size
      · by_cases b1 : (s[k].toNat : Int) < 32
        · go_wp2
          go_ret
          exact ⟨ret_bool (textB_no hlt (by unfold byteB; simp; omega)).symm, rfl⟩
        by_cases b2 : 126 < (s[k].toNat : Int)
        · go_wp2
          go_ret
          exact ⟨ret_bool (textB_no hlt (by unfold byteB; simp; omega)).symm, rfl⟩
        by_cases b3 : (s[k].toNat : Int) = 34
        · have b3' : ((s[k].toNat : Int) == 34) = true := by simpa using b3
          have hno := textB_no hlt (by unfold byteB; simp; omega)
          clear b3
          go_wp2
          go_ret
          exact ⟨rfl, rfl⟩
        · have b3' : ((s[k].toNat : Int) == 34) = false := by simpa using b3
          have hyes : byteB s[k] = true := by unfold byteB; simp; omega
          go_wp2
          go_round
          case rel =>
            refine ⟨k + 1, by omega, by go_num, fun j hj hjk => ?_⟩
            by_cases e : j = k
            · subst e; exact hyes
            · exact hall j hj (by omega)
          case measure => simp [intOf]; omega
      · go_wp2
        go_ret
        exact ⟨ret_bool (textB_yes h60 fun j hj => hall j hj (by omega)).symm, rfl⟩
  · go_enter Tryz.func84, Tryz.ntmps84
    go_wp2
    go_ret
    exact ⟨ret_bool (by simp [textB, h60]), rfl⟩

theorem ret_two {a b c d : Int} (h : a = c) (k : b = d) : Ending.returned (.tuple #[.int .i64 a, .int .i64 b]) = .returned (.tuple #[.int .i64 c, .int .i64 d]) := by rw [h, k]

set_option maxHeartbeats 4000000 in
theorem argBounds_any (a1 a2 a3 : Option Addr) (nt c1 nf c2 nc c3 : Nat) (p l op : Int) (w : World) :
    Calls Tryz.prog 102 #[.agg #[.slice a1 nt c1, .slice a2 nf c2], .agg #[.int .i64 p, .int .i64 l, .slice a3 nc c3], .int .i64 op] w fun e w' => e = .returned (.tuple #[.int .i64 (boundsB nt nf l nc op).1, .int .i64 (boundsB nt nf l nc op).2]) ∧ Below w.heap.size w w' := by
  rcases ops_cases op with rfl | rfl | rfl | rfl | rfl | rfl | rfl | rfl | rfl | rfl | rfl | rfl | rfl | rfl | rfl | rfl | rfl | rfl | rfl | rfl | rfl | rfl | rfl | rfl | rfl | rfl | h | h
  case inr.inr.inr.inr.inr.inr.inr.inr.inr.inr.inr.inr.inr.inr.inr.inr.inr.inr.inr.inr.inr.inr.inr.inr.inr.inr.inl =>
    have hbb := boundsB_out (nt := nt) (nf := nf) (loc := l) (nc := nc) (Or.inl h : op < 1 ∨ 26 < op)
    rw [hbb]
    clear hbb
    go_enter Tryz.func102, Tryz.ntmps102
    go_wp2
    go_ret2
    exact ⟨rfl, ((Below.refl _ _).alloc (Nat.le_refl _) _).alloc (by simp) _⟩
  case inr.inr.inr.inr.inr.inr.inr.inr.inr.inr.inr.inr.inr.inr.inr.inr.inr.inr.inr.inr.inr.inr.inr.inr.inr.inr.inr =>
    have hbb := boundsB_out (nt := nt) (nf := nf) (loc := l) (nc := nc) (Or.inr h : op < 1 ∨ 26 < op)
    rw [hbb]
    clear hbb
    go_enter Tryz.func102, Tryz.ntmps102
    go_wp2
    go_ret2
    exact ⟨rfl, ((Below.refl _ _).alloc (Nat.le_refl _) _).alloc (by simp) _⟩
  all_goals
    go_enter Tryz.func102, Tryz.ntmps102
    go_wp2
    try go_quiet (fail)
    try go_wp2
    go_ret2
    refine ⟨rfl, ?_⟩
    first | exact ((Below.refl _ _).alloc (Nat.le_refl _) _).alloc (by simp) _ | exact below_draws (((Below.refl _ _).alloc (Nat.le_refl _) _).alloc (by simp) _) _

end Go.Proofs.YtjdoljaailokmaaGreatDoor
