/-
  Values: a frame by element types, a byte row that holds a text, strings.Builder.
-/
import Derived.Test.YtlpbolchedngoaaDoorE8
import Derived.Test.YtlpbolchedngoaaDoorShelfB
import Derived.Deep.AppendLies
import Derived.Lib.AppendStr
import Derived.Lib.Builder
import Derived.Lib.UnsafeStr
import Derived.Laws.Externs
namespace Go.Proofs.YtlpbolchedngoaaDoor
open Go.RowKit

theorem info_parts {P : Program} {t : TypeId} {z : Option Value} {s b : Nat} (h : (P.info? t).map (fun i => (i.zero, i.size, i.bytes)) = some (z, s, b)) : ∃ i, P.info? t = some i ∧ i.zero = z ∧ i.size = s ∧ i.bytes = b := by
  obtain ⟨i, hi, e⟩ := Option.map_eq_some_iff.1 h
  simp only [Prod.mk.injEq] at e
  exact ⟨i, hi, e.1, e.2.1, e.2.2⟩

/-- The object is a row of cells of one of these types. -/
def ofTypes (ts : List Nat) : Obj → Prop
  | .cells _ t _ => t ∈ ts
  | _ => False

/-- Blocks below B, and blocks of other types than 'ts', are as they were. -/
structure Keeps (B : Nat) (ts : List Nat) (w w' : World) : Prop where
  os : w'.os = w.os
  tape : w'.tape = w.tape
  output : w'.output = w.output
  size : w.heap.size ≤ w'.heap.size
  block : ∀ k o, w.heap[k]? = some o → (k < B ∨ ¬ ofTypes ts o) → w'.heap[k]? = some o

theorem Keeps.refl (B : Nat) (ts : List Nat) (w : World) : Keeps B ts w w := ⟨rfl, rfl, rfl, Nat.le_refl _, fun _ _ h _ => h⟩
theorem Keeps.trans {B : Nat} {ts : List Nat} {a b c : World} (h : Keeps B ts a b) (k : Keeps B ts b c) : Keeps B ts a c :=
  ⟨k.os.trans h.os, k.tape.trans h.tape, k.output.trans h.output, Nat.le_trans h.size k.size, fun i o hi ho => k.block i o (h.block i o hi ho) ho⟩
theorem Keeps.below {B : Nat} {ts : List Nat} {w w' : World} (h : Below w.heap.size w w') : Keeps B ts w w' :=
  ⟨h.os, h.tape, h.output, h.size, fun _ _ hi _ => block_kept hi h⟩
theorem Keeps.alloc {B : Nat} {ts : List Nat} {a w : World} (h : Keeps B ts a w) (o : Obj) : Keeps B ts a (w.alloc o) := h.trans (Keeps.below ((Below.refl _ _).alloc (Nat.le_refl _) o))
theorem Keeps.drew {B : Nat} {ts : List Nat} {a w : World} (h : Keeps B ts a w) : Keeps B ts a w.drew := ⟨h.os, h.tape, h.output, h.size, h.block⟩
theorem Keeps.mono {B B' : Nat} {ts ts' : List Nat} {w w' : World} (h : Keeps B ts w w') (hB : B' ≤ B) (ht : ∀ t ∈ ts, t ∈ ts') : Keeps B' ts' w w' :=
  ⟨h.os, h.tape, h.output, h.size, fun k o hk ho => h.block k o hk (by
    rcases ho with ho | ho
    · exact .inl (by omega)
    · refine .inr fun hx => ho ?_
      cases o <;> first | exact ht _ hx | exact hx)⟩
theorem Keeps.toBelow {B : Nat} {ts : List Nat} {w w' : World} (h : Keeps B ts w w') (hB : B ≤ w.heap.size) : Below B w w' :=
  ⟨h.os, h.tape, h.output, h.size, fun k hk => by
    have : k < w.heap.size := by omega
    rw [Array.getElem?_eq_getElem this]
    exact h.block k _ (Array.getElem?_eq_getElem this) (.inl hk)⟩
/-- Behind an append to a slice of the call's own. -/
theorem Keeps.grown {B e size n : Nat} {ts : List Nat} {v : Value} {xs : List Value} {w w' : World} (hown : w.ownsRow B e size v n xs) (hg : w.grownBy w' v.ownBlock) (he : e ∈ ts) : Keeps B ts w w' := by
  refine ⟨hg.os, hg.tape, hg.output, hg.size, fun k o hk ho => ?_⟩
  have hlt : k < w.heap.size := by
    rcases Nat.lt_or_ge k w.heap.size with h' | h'
    · exact h'
    · rw [Array.getElem?_eq_none h'] at hk; cases hk
  rw [hg.block k hlt ?_]
  · exact hk
  · intro hkv
    rcases hown.2 with ⟨rfl, -⟩ | ⟨g, cap, cur, rfl, hb, hh, -⟩
    · simp [Value.ownBlock] at hkv
    · simp [Value.ownBlock] at hkv
      subst hkv
      rw [hh] at hk
      cases hk
      rcases ho with ho | ho
      · omega
      · exact ho he
theorem Keeps.cell {B : Nat} {ts : List Nat} {w w' : World} (h : Keeps B ts w w') {b : Nat} {cs : Array Value} {t : TypeId} {fr : Nat × Nat} (hb : w.heap[b]? = some (.cells cs t fr)) (ht : t ∉ ts) : w'.heap[b]? = some (.cells cs t fr) :=
  h.block b _ hb (.inr ht)

/-- Behind a store into a block of one of the types. -/
theorem Keeps.set {B g : Nat} {ts : List Nat} {a w : World} {c : Array Value} {t : TypeId} {fr : Nat × Nat} (h : Keeps B ts a w) (hg : w.heap[g]? = some (.cells c t fr)) (ht : t ∈ ts) (hB : B ≤ g) (i : Nat) (v : Value) : Keeps B ts a (w.setCell ⟨g, i, none⟩ v) := by
  refine ⟨h.os, h.tape, h.output, by simpa using h.size, fun k o hk ho => ?_⟩
  by_cases e : k = g
  · subst e
    have := h.block k o hk ho
    rw [hg] at this
    cases this
    rcases ho with ho | ho
    · omega
    · exact absurd ht ho
  · rw [Below.heap_setCell _ _ _ _ e]
    exact h.block k o hk ho


/-- A byte slice of the call's own that holds this text. -/
def TBuf (w : World) (B : Nat) (v : Value) (s : ByteArray) : Prop := w.ownsRow B 5 1 v s.size (Lib.strCells s)
theorem strCells_append (a b : ByteArray) : Lib.strCells (a ++ b) = Lib.strCells a ++ Lib.strCells b := by simp [Lib.strCells]
theorem TBuf.add {w : World} {B : Nat} {v : Value} {s t : ByteArray} (h : w.ownsRow B 5 1 v (s.size + t.size) (Lib.strCells s ++ Lib.strCells t)) : TBuf w B v (s ++ t) := by
  unfold TBuf
  rw [strCells_append, ByteArray.size_append]
  exact h
theorem TBuf.keeps {w w' : World} {B lo : Nat} {l : List Nat} {v : Value} {s : ByteArray} (h : TBuf w B v s) (hk : Keeps lo l w w') (h5 : 5 ∉ l) : TBuf w' B v s := by
  refine ⟨h.1, ?_⟩
  rcases h.2 with hn | ⟨g, cap, cur, hv, hb, hg, r⟩
  · exact .inl hn
  · exact .inr ⟨g, cap, cur, hv, hb, hk.cell hg h5, r⟩
theorem TBuf.below {w w' : World} {B : Nat} {v : Value} {s : ByteArray} (h : TBuf w B v s) (hb : Below w.heap.size w w') : TBuf w' B v s := h.keeps (lo := 0) (l := []) (Keeps.below hb) (by simp)
theorem info5 : (Tryd.prog.info? 5).map (fun i => (i.zero, i.size, i.bytes)) = some (some (.int .u8 0), 1, 1) := by kernel_rfl

/-- A Builder of the call's own that holds this text. -/
def Bld (w : World) (B b : Nat) (s : ByteArray) : Prop := B ≤ b ∧ ∃ p v, w.heap[b]? = some (Obj.cells #[p, v] 79 (0, 0)) ∧ (p = .pointer none ∨ p = .pointer (some ⟨b, 0, none⟩)) ∧ TBuf w B v s
theorem sizeB : (Tryd.prog.info? 79).map (·.size) = some 2 := by kernel_rfl
theorem liesB : liesAt Tryd.prog Tryd.prog.depth 79 (2 / Tryd.prog.cellsOf 79) 0 79 1 = true := by kernel_rfl
theorem Bld.keeps {w w' : World} {B b lo : Nat} {l : List Nat} {s : ByteArray} (h : Bld w B b s) (hk : Keeps lo l w w') (h5 : 5 ∉ l) (h79 : 79 ∉ l) : Bld w' B b s := by
  obtain ⟨h1, p, v, hb, hp, ht⟩ := h
  exact ⟨h1, p, v, hk.cell hb h79, hp, ht.keeps hk h5⟩
theorem Bld.below {w w' : World} {B b : Nat} {s : ByteArray} (h : Bld w B b s) (hb : Below w.heap.size w w') : Bld w' B b s := h.keeps (lo := 0) (l := []) (Keeps.below hb) (by simp) (by simp)

set_option maxHeartbeats 1000000 in
set_option maxRecDepth 100000 in
theorem copyCheck_used (b : Nat) (w : World) (h0 : w.cell? ⟨b, 0, none⟩ = some (.pointer (some ⟨b, 0, none⟩))) :
    Calls Tryd.prog 48 #[.pointer (some ⟨b, 0, none⟩)] w fun e w' => e = .returned (.tuple #[]) ∧ w' = w := by
  obtain ⟨j, hj, _⟩ := Option.map_eq_some_iff.1 sizeB
  go_enter Tryd.func48, Tryd.ntmps48
  go_wp2
  rw [Lib.run_neq_ptr_same w _ Tryd.underlying77 hj]
  go_wp2
  go_end0
  exact ⟨rfl, rfl⟩
set_option maxHeartbeats 1000000 in
set_option maxRecDepth 100000 in
theorem copyCheck_fresh (b : Nat) (w : World) (h0 : w.cell? ⟨b, 0, none⟩ = some (.pointer none)) (hsh : w.shape? b = some (79, 2)) (hfz : w.frozen? ⟨b, 0, none⟩ = false) :
    Calls Tryd.prog 48 #[.pointer (some ⟨b, 0, none⟩)] w fun e w' => e = .returned (.tuple #[]) ∧ w' = w.setCell ⟨b, 0, none⟩ (.pointer (some ⟨b, 0, none⟩)) := by
  obtain ⟨j, hj, hjs⟩ := Option.map_eq_some_iff.1 sizeB
  go_enter Tryd.func48, Tryd.ntmps48
  go_wp2
  rw [Lib.run_to_unsafe w ⟨b, 0, none⟩ Tryd.underlying77 Tryd.underlying102 hj (by rw [hjs]; decide) hsh (Nat.zero_lt_succ 1)]
  simp only [Result.andThen]
  rw [Oper.upon_value]
  go_wp2
  rw [run_callFunc_extern Tryd.func50 (by kernel_rfl) (by kernel_rfl) (by kernel_rfl) (e := Extern.AbiNoEscape.same) (by kernel_rfl)]
  rw [Lib.run_noEscape]
  simp only [Result.andThen]
  rw [Oper.upon_value]
  go_wp2
  rw [Lib.run_from_unsafe w ⟨b, 0, none⟩ Tryd.underlying102 Tryd.underlying77 hj hsh liesB]
  simp only [Result.andThen]
  rw [Oper.upon_value]
  go_wp2
  go_end0
  exact ⟨rfl, rfl⟩
theorem copyCheck_is (B b : Nat) (s : ByteArray) (w : World) (h : Bld w B b s) :
    Calls Tryd.prog 48 #[.pointer (some ⟨b, 0, none⟩)] w fun e w' => e = .returned (.tuple #[]) ∧ (∃ v, w'.heap[b]? = some (Obj.cells #[.pointer (some ⟨b, 0, none⟩)  , v] 79 (0, 0)) ∧ TBuf w' B v s) ∧ Keeps B [5, 79] w w' := by
  obtain ⟨hB, p, v, hb, hp, ht⟩ := h
  rcases hp with rfl | rfl
  · refine (copyCheck_fresh b w (by rw [block_cell hb]; rfl) (by simp [World.shape?, hb]) (block_free hb 0)).mono ?_
    rintro e w' ⟨rfl, rfl⟩
    have hk : Keeps B [79] w (w.setCell ⟨b, 0, none⟩ (.pointer (some ⟨b, 0, none⟩))) := (Keeps.refl B [79] w).set hb (by simp) hB 0 _
    refine ⟨rfl, ⟨v, ?_, ht.keeps hk (by simp)⟩, hk.mono (Nat.le_refl _) (by simp)⟩
    have := block_set (i := 0) hb (.pointer (some ⟨b, 0, none⟩))
    simpa using this
  · refine (copyCheck_used b w (by rw [block_cell hb]; rfl)).mono ?_
    rintro e w' ⟨rfl, rfl⟩
    exact ⟨rfl, ⟨v, hb, ht⟩, Keeps.refl _ _ _⟩

theorem own_slice {w : World} {B e size n : Nat} {v : Value} {xs : List Value} (h : w.ownsRow B e size v n xs) : ∃ ao n' cap, v = .slice ao n' cap := by
  rcases h.2 with ⟨hv, _⟩ | ⟨g, cap, cur, hv, _⟩
  · exact ⟨_, _, _, hv⟩
  · exact ⟨_, _, _, hv⟩
set_option maxHeartbeats 2000000 in
set_option maxRecDepth 100000 in
theorem write_is (B b : Nat) (s t : ByteArray) (w : World) (h : Bld w B b s) (hlen : s.size + t.size ≤ 1000000) (hBw : B ≤ w.heap.size) :
    Calls Tryd.prog 43 #[.pointer (some ⟨b, 0, none⟩), .string t] w fun e w' => e = .returned (.tuple #[.int .i64 t.size, .nilIface]) ∧ Bld w' B b (s ++ t) ∧ Keeps B [5, 79] w w' := by
  obtain ⟨i0, hi, hz0, hz1, hz2⟩ := info_parts info5
  have hB := h.1
  go_enter Tryd.func43, Tryd.ntmps43
  go_wp2_with fail
  refine (copyCheck_is B b s _ h).mono ?_
  rintro e w1 ⟨rfl, ⟨v, hbk, hown⟩, hk1⟩
  have c0 := block_cell hbk
  have hB1 : B ≤ w1.heap.size := Nat.le_trans hBw hk1.size
  go_wp2_with (first | (at_builtin; refine Lib.wpList_append_own_string _ rfl _ _ 22 9 rfl B 5 i0 Tryd.underlying22 Tryd.underlying9 hi hz0 hz1 hz2 _ _ _ rfl hown t rfl (by unfold maxLen; omega) (by omega) hB1 ?_; intro v4 w4 hown4 hgrow4 hnil4; obtain ⟨ao, n4, cp4, rfl⟩ := own_slice hown4; have hk4 : Keeps B [5] w1 w4 := Keeps.grown hown hgrow4 (by simp); have hb4 := hk4.cell hbk (by simp); have d0 := block_cell hb4; have f0 := block_free hb4))
  have hblk := block_set (i := 1) hb4 (.slice ao n4 cp4)
  have hkk : Keeps B [79] w4 (w4.setCell ⟨b, 1, none⟩ (.slice ao n4 cp4)) := (Keeps.refl B [79] w4).set hb4 (by simp) hB 1 _
  have ht := (TBuf.add hown4).keeps hkk (by simp)
  have hkz : Keeps B [5, 79] w (w4.setCell ⟨b, 1, none⟩ (.slice ao n4 cp4)) := (hk1.trans (hk4.mono (Nat.le_refl _) (by simp))).trans (hkk.mono (Nat.le_refl _) (by simp))
  clear hown4 hgrow4 hnil4
  go_wp2
  go_ret2
  exact ⟨rfl, ⟨hB, _, _, by simpa using hblk, Or.inr rfl, ht⟩, hkz⟩
end Go.Proofs.YtlpbolchedngoaaDoor
