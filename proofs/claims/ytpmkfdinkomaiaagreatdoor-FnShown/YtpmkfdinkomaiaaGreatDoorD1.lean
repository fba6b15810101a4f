/-
  The drawing functions of the document's model: what a piece of code that is being put together is in memory, and its first methods (put, pick, once).
-/
import Derived.Test.YtpmkfdinkomaiaaGreatDoorD0
import Derived.Deep.RegionLaw
namespace Go.Proofs.YtpmkfdinkomaiaaGreatDoor
open Go.RowKit

set_option maxHeartbeats 400000 in
theorem once_any (W : World) (C xc M : Nat) (xa : Option Addr) (bs : List Int) (n : Int) (w : World) (h : CurAt W w C xa bs xc M) (hM : M ≤ 100000000) (h0 : 0 ≤ n) (h1 : n ≤ 1000000) :
    Calls Tryz.prog 29 #[.pointer (some ⟨C, 0, none⟩), .int .i64 n] w fun e w' => ∃ r : Bool, e = .returned (.bool r) ∧ CurAt W w' C xa bs xc (M + 1) ∧ Px C w w' := by
  go_enter Tryz.func29, Tryz.ntmps29
  go_wp2_with fail
  refine (pick_any W C xc M xa bs n _ h hM).mono ?_
  rintro e w1 ⟨r, rfl, r0, r1, hC, hP⟩
  go_wp2
  go_ret
  exact ⟨_, rfl, hC, hP⟩

/-- Blocks below N but C and A are as they were. -/
structure Fr (C A N : Nat) (w w' : World) : Prop where
  os : w'.os = w.os
  tape : w'.tape = w.tape
  output : w'.output = w.output
  size : w.heap.size ≤ w'.heap.size
  block : ∀ k, k < N → k ≠ C → k ≠ A → w'.heap[k]? = w.heap[k]?
theorem Fr.refl (C A N : Nat) (w : World) : Fr C A N w w := ⟨rfl, rfl, rfl, Nat.le_refl _, fun _ _ _ _ => rfl⟩
theorem Fr.trans {C A N : Nat} {a b c : World} (h : Fr C A N a b) (k : Fr C A N b c) : Fr C A N a c :=
  ⟨k.os.trans h.os, k.tape.trans h.tape, k.output.trans h.output, Nat.le_trans h.size k.size, fun i h1 h2 h3 => (k.block i h1 h2 h3).trans (h.block i h1 h2 h3)⟩
theorem Fr.px {C A N : Nat} {w w' : World} (h : Px C w w') : Fr C A N w w' := ⟨h.os, h.tape, h.output, by rw [h.size]; exact Nat.le_refl _, fun k _ h2 _ => h.block k h2⟩
theorem Fr.below {C A N : Nat} {w w' : World} (h : Below w.heap.size w w') (hN : N ≤ w.heap.size) : Fr C A N w w' := ⟨h.os, h.tape, h.output, h.size, fun k h1 _ _ => h.block k (by omega)⟩
theorem Fr.setA {C A N : Nat} {a w : World} (h : Fr C A N a w) (i : Nat) (v : Value) : Fr C A N a (w.setCell ⟨A, i, none⟩ v) :=
  ⟨h.os, h.tape, h.output, by simpa using h.size, fun k h1 h2 h3 => by rw [Below.heap_setCell _ _ _ _ h3]; exact h.block k h1 h2 h3⟩
theorem Fr.setFar {C A N : Nat} {a w : World} (h : Fr C A N a w) {p : Addr} (hp : N ≤ p.block) (v : Value) : Fr C A N a (w.setCell p v) :=
  ⟨h.os, h.tape, h.output, by simpa using h.size, fun k h1 h2 h3 => by rw [Below.heap_setCell _ _ _ _ (by omega)]; exact h.block k h1 h2 h3⟩
theorem Fr.toBelow {C A N B : Nat} {w w' : World} (h : Fr C A N w w') (h1 : B ≤ C) (h2 : B ≤ A) (h3 : B ≤ N) : Below B w w' :=
  ⟨h.os, h.tape, h.output, h.size, fun k hk => h.block k (by omega) (by omega) (by omega)⟩

/-- A row of instructions of the call's own, from block N on. -/
def RowI (w : World) (N : Nat) (v : Value) (n : Nat) : Prop := ∃ vs : List Value, w.ownsRow N 51 2 v n vs ∧ ∀ u ∈ vs, ∃ z : Int, u = .int .i64 z

theorem ownsRow_block {w w' : World} {N e size n : Nat} {v : Value} {vs : List Value} (h : w.ownsRow N e size v n vs) (hb : ∀ k, N ≤ k → k < w.heap.size → w'.heap[k]? = w.heap[k]?) : w'.ownsRow N e size v n vs := by
  refine ⟨h.1, ?_⟩
  rcases h.2 with h | ⟨g, cap, cur, hv, hg, hh, rest⟩
  · exact .inl h
  · exact .inr ⟨g, cap, cur, hv, hg, by rw [hb g hg (lt_block hh)]; exact hh, rest⟩
theorem RowI.keep {w w' : World} {N n : Nat} {v : Value} (h : RowI w N v n) (hb : ∀ k, N ≤ k → k < w.heap.size → w'.heap[k]? = w.heap[k]?) : RowI w' N v n := by
  obtain ⟨vs, h1, h2⟩ := h
  exact ⟨vs, ownsRow_block h1 hb, h2⟩

/-- Code that is being put together, at block A, with its cursor at C; its row lies from block N on. -/
structure AsmAt (W w0 w : World) (C A N : Nat) (xa : Option Addr) (bs : List Int) (xc : Nat) (fa : Option Addr) (fc : Nat) (ps : List Int) (tx lc : Int) (mb : Bool) (M L K : Nat) : Prop where
  cur : CurAt W w C xa bs xc M
  code : ∃ ca cc n, w.heap[A]? = some (.cells #[.pointer (some ⟨C, 0, none⟩), .slice ca n cc, .slice fa ps.length fc, .int .i64 tx, .int .i64 lc, .bool mb] 82 (0, 0)) ∧ RowI w N (.slice ca n cc) n ∧ L ≤ n ∧ n ≤ K
  par : ∀ i (h : i < ps.length), ∃ b off, fa = some ⟨b, off, none⟩ ∧ b < N ∧ b ≠ C ∧ b ≠ A ∧ w.cell? ⟨b, off + i * 3, none⟩ = some (.int .i64 ps[i])
  pok : ∀ p ∈ ps, 0 ≤ p ∧ p ≤ 2
  psl : ps.length ≤ 100
  ne : A ≠ C
  cN : C < N
  aN : A < N
  wlow : W.heap.size ≤ A
  size : N ≤ w.heap.size
  lc0 : 1 ≤ lc
  lc1 : lc ≤ 100
  tx0 : 0 ≤ tx
  tx1 : tx ≤ 100
  fr : Fr C A N w0 w

section
variable {W w0 w w' : World} {C A N : Nat} {xa : Option Addr} {bs : List Int} {xc : Nat} {fa : Option Addr} {fc : Nat} {ps : List Int} {tx lc : Int} {mb : Bool} {M L K : Nat}

theorem AsmAt.cells (h : AsmAt W w0 w C A N xa bs xc fa fc ps tx lc mb M L K) : w.cell? ⟨A, 0, none⟩ = some (.pointer (some ⟨C, 0, none⟩)) ∧ w.cell? ⟨A, 2, none⟩ = some (.slice fa ps.length fc) ∧ w.cell? ⟨A, 3, none⟩ = some (.int .i64 tx) ∧ w.cell? ⟨A, 4, none⟩ = some (.int .i64 lc) := by
  obtain ⟨ca, cc, n, hb, -⟩ := h.code
  have := block_cell hb
  exact ⟨by rw [this]; rfl, by rw [this]; rfl, by rw [this]; rfl, by rw [this]; rfl⟩

theorem AsmAt.mono (h : AsmAt W w0 w C A N xa bs xc fa fc ps tx lc mb M L K) {M' L' K' : Nat} (hM : M ≤ M') (hL : L' ≤ L) (hK : K ≤ K') : AsmAt W w0 w C A N xa bs xc fa fc ps tx lc mb M' L' K' := by
  obtain ⟨⟨p, s, h1, h2, h3, h4⟩, q⟩ := h.cur
  obtain ⟨ca, cc, n, hb, hr, hn0, hn⟩ := h.code
  exact { h with cur := { h.cur with blk := ⟨p, s, h1, h2, by omega, h4⟩ }, code := ⟨ca, cc, n, hb, hr, by omega, by omega⟩ }

/-- Behind a number taken off the cursor. -/
theorem AsmAt.px (h : AsmAt W w0 w C A N xa bs xc fa fc ps tx lc mb M L K) {M' : Nat} (hC : CurAt W w' C xa bs xc M') (hP : Px C w w') : AsmAt W w0 w' C A N xa bs xc fa fc ps tx lc mb M' L K := by
  obtain ⟨ca, cc, n, hb, hr, hn⟩ := h.code
  have hcN := h.cN
  refine { h with cur := hC, code := ⟨ca, cc, n, by rw [hP.block A h.ne]; exact hb, hr.keep (fun k h1 _ => hP.block k (by omega)), hn⟩, par := fun i hi => ?_, size := by rw [hP.size]; exact h.size, fr := h.fr.trans (Fr.px hP) }
  obtain ⟨b, off, e, h1, h2, h3, h4⟩ := h.par i hi
  exact ⟨b, off, e, h1, h2, h3, by rw [World.cell?_of_block (w := w) (hP.block b h2)]; exact h4⟩

/-- Behind new memory. -/
theorem AsmAt.below (h : AsmAt W w0 w C A N xa bs xc fa fc ps tx lc mb M L K) (hb : Below w.heap.size w w') : AsmAt W w0 w' C A N xa bs xc fa fc ps tx lc mb M L K := by
  obtain ⟨ca, cc, n, hb1, hr, hn⟩ := h.code
  have hs := h.size
  obtain ⟨p, s, hc, q⟩ := h.cur.blk
  have hWC := h.cur.low
  have hlc := lt_block hc
  refine { h with cur := { h.cur with blk := ⟨p, s, block_kept hc hb, q⟩, below := h.cur.below.trans (hb.mono (by omega)) }, code := ⟨ca, cc, n, block_kept hb1 hb, hr.keep (fun k _ h2 => hb.block k h2), hn⟩, par := fun i hi => ?_, size := Nat.le_trans h.size hb.size, fr := h.fr.trans (Fr.below hb h.size) }
  obtain ⟨b, off, e, h1, h2, h3, h4⟩ := h.par i hi
  exact ⟨b, off, e, h1, h2, h3, cell_later hb h4⟩

/-- Behind a change of the row and of its slice alone. -/
theorem AsmAt.step (h : AsmAt W w0 w C A N xa bs xc fa fc ps tx lc mb M L K) {L' K' : Nat} (hf : Fr A A N w w')
    (hc : ∃ ca cc n, w'.heap[A]? = some (.cells #[.pointer (some ⟨C, 0, none⟩), .slice ca n cc, .slice fa ps.length fc, .int .i64 tx, .int .i64 lc, .bool mb] 82 (0, 0)) ∧ RowI w' N (.slice ca n cc) n ∧ L' ≤ n ∧ n ≤ K') : AsmAt W w0 w' C A N xa bs xc fa fc ps tx lc mb M L' K' := by
  obtain ⟨p, s, hcb, q⟩ := h.cur.blk
  have hWC := h.cur.low
  have hcN := h.cN
  have haN := h.aN
  have hwl := h.wlow
  have hCA : C ≠ A := fun e => h.ne e.symm
  refine { h with cur := { h.cur with blk := ⟨p, s, by rw [hf.block C hcN hCA hCA]; exact hcb, q⟩, below := h.cur.below.trans (hf.toBelow hwl hwl (by omega)) }, code := hc, par := fun i hi => ?_, size := Nat.le_trans h.size hf.size, fr := h.fr.trans ⟨hf.os, hf.tape, hf.output, hf.size, fun k h1 _ h3 => hf.block k h1 h3 h3⟩ }
  obtain ⟨b, off, e, h1, h2, h3, h4⟩ := h.par i hi
  exact ⟨b, off, e, h1, h2, h3, by rw [World.cell?_of_block (w := w) (hf.block b h1 h3 h3)]; exact h4⟩
end

theorem info51 : (Tryz.prog.info? 51).map (fun i => (i.zero, i.size, i.bytes)) = some (some (.agg #[.int .i64 0, .int .i64 0]), 2, 16) := by kernel_rfl

set_option maxRecDepth 100000 in
set_option maxHeartbeats 800000 in
theorem put_any (W w0 : World) (C A N xc fc M L K : Nat) (xa fa : Option Addr) (bs ps : List Int) (tx lc : Int) (mb : Bool) (op x : Int) (w : World) (h : AsmAt W w0 w C A N xa bs xc fa fc ps tx lc mb M L K) (hK : K ≤ 1000000) :
    Calls Tryz.prog 50 #[.pointer (some ⟨A, 0, none⟩), .int .i64 op, .int .i64 x] w fun e w' => e = .returned (.tuple #[]) ∧ AsmAt W w0 w' C A N xa bs xc fa fc ps tx lc mb M (L + 1) (K + 1) := by
  obtain ⟨i0, hi, hz0, hz1, hz2⟩ := info_parts info51
  obtain ⟨ca, cc, n, hb, ⟨vs, hown, hvs⟩, hn0, hn⟩ := h.code
  have hc := block_cell hb
  have hbA := block_cell (block_old hb (.cells #[.int .i64 op, .int .i64 x] 51))
  have hsz := h.size
  have haN := h.aN
  go_enter Tryz.func50, Tryz.ntmps50
  go_wp2_with (at_builtin; refine wpList_append_lies _ rfl _ _ 46 rfl N 51 i0 (.agg #[.int .i64 0, .int .i64 0]) 2 16 Tryz.underlying46 hi hz0 hz1 hz2 rfl (by decide) _ _ _ rfl (World.ownsRow.alloc hown _) ⟨w.heap.size, 0, none⟩ 1 1 [.int .i64 op, .int .i64 x] rfl rfl (World.news_of_block (cs := #[.int .i64 op, .int .i64 x]) (t := 51) (fr := (0, 0)) (heap_alloc_new w _)) (by simp [Value.oneCell']) (by decide) (by unfold maxLen; omega) (by omega) (by simp; omega) _ rfl ?_; intro g cap w1 hown1 hgrow1 hat1 hlt1; have hk1 : Keeps N [51] (w.alloc (.cells #[.int .i64 op, .int .i64 x] 51)) w1 := Keeps.grown (World.ownsRow.alloc hown _) hgrow1 (by simp); have hb1 := hk1.cell (block_old hb _) (by simp); have c1 := block_cell hb1; have f1 := block_free hb1)
  have hfr : Fr A A N w w1 := (Fr.below ((Below.refl _ _).alloc (Nat.le_refl _) _) hsz).trans ⟨hk1.os, hk1.tape, hk1.output, hk1.size, fun k h1 _ _ => (hk1.toBelow (by simp; omega)).block k h1⟩
  have hgN : N ≤ g := by
    rcases hown1.2 with ⟨hv, -⟩ | ⟨g', cap', cur', hv, hg', -⟩
    · cases hv
    · cases hv; exact hg'
  go_end0
  refine ⟨rfl, ?_⟩
  refine h.step (hfr.setA 1 _) ⟨some ⟨g, 0, none⟩, cap, n + 1, ?_, ?_, by omega, by omega⟩
  · have := block_set (i := 1) hb1 (.slice (some ⟨g, 0, none⟩) (n + 1) cap)
    simpa using this
  · refine RowI.keep (w := w1) ⟨_, hown1, ?_⟩ (fun k hk _ => Below.heap_setCell _ _ _ _ (by simp; omega))
    intro u hu
    rcases List.mem_append.1 hu with hu | hu
    · exact hvs u hu
    · simp at hu
      rcases hu with rfl | rfl
      · exact ⟨_, rfl⟩
      · exact ⟨_, rfl⟩
end Go.Proofs.YtpmkfdinkomaiaaGreatDoor
