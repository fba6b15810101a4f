/-
The document's look at code: what each look leaves.
What spec.Enters returns.
-/
import Derived.Test.YtbjmgmmekmfjhaaGreatDoorE23
import Derived.Test.YtbjmgmmekmfjhaaGreatDoorE25
import Derived.Test.YtbjmgmmekmfjhaaGreatDoorE38
namespace Go.Proofs.YtbjmgmmekmfjhaaGreatDoor
set_option maxRecDepth 100000
open Go.RowKit
def chkCells (a1 a2 oa ea : Option Addr) (nt c1 c2 oc ec nf : Nat) (D : FastD) (b : Bool) : Array Value :=
 #[.slice a1 nt c1, .slice a2 nf c2, .int .i64 D.fn, .int .i64 D.entry, .int .i64 D.vals, .int .i64 D.nums, .slice oa D.ops.length oc, .slice ea D.exits.length ec, .bool b]
structure Chk (a1 a2 oa ea : Option Addr) (nt c1 c2 oc ec nf K : Nat) (D : FastD) (wK : World) (b : Bool) (w : World) : Prop where
 blk : w.heap[K]? = some (Obj.cells (chkCells a1 a2 oa ea nt c1 c2 oc ec nf D b) 233 (0, 0))
 bel : Below K wK w
def Rk (K : Nat) (w w' : World) : Prop := w.heap.size ≤ w'.heap.size ∧ ∀ g, g < w.heap.size → g ≠ K → w'.heap[g]? = w.heap[g]?
theorem Rk.refl (K : Nat) (w : World) : Rk K w w := ⟨Nat.le_refl _, fun _ _ _ => rfl⟩
theorem Rk.trans {K : Nat} {w w' w'' : World} (h : Rk K w w') (h' : Rk K w' w'') : Rk K w w'' := ⟨Nat.le_trans h.1 h'.1, fun g h1 h2 => (h'.2 g (Nat.lt_of_lt_of_le h1 h.1) h2).trans (h.2 g h1 h2)⟩
theorem Rk.of {K : Nat} {w w' : World} (h : Below w.heap.size w w') : Rk K w w' := ⟨h.size, fun g h1 _ => h.block g h1⟩
theorem Rk.set {K i : Nat} {w w' : World} (h : Rk K w w') (v : Value) : Rk K w (w'.setCell ⟨K, i, none⟩ v) := ⟨by rw [show (w'.setCell ⟨K, i, none⟩ v).heap.size = w'.heap.size by simp]; exact h.1, fun g h1 h2 => by rw [Below.heap_setCell _ _ _ _ (by simpa using h2)]; exact h.2 g h1 h2⟩
theorem block_rk {K g : Nat} {w w' : World} {o : Obj} (h : w.heap[g]? = some o) (hne : g ≠ K) (r : Rk K w w') : w'.heap[g]? = some o := by
 rw [r.2 g (lt_block h) hne]; exact h
theorem or_pB (b : Bool) (P Q : Prop) : ((b || !pB P) || !pB Q) = (b || !pB (P ∧ Q)) := by
 rw [pB_and]; cases b <;> cases pB P <;> cases pB Q <;> rfl
theorem pB_congr {P Q : Prop} (h : P ↔ Q) : pB P = pB Q := by rw [show P = Q from propext h]
section
variable {a1 a2 oa ea : Option Addr} {nt c1 c2 oc ec nf K : Nat} {D : FastD} {wK w : World} {b : Bool}
theorem Chk.cells (h : Chk a1 a2 oa ea nt c1 c2 oc ec nf K D wK b w) (i : Nat) : w.cell? ⟨K, i, none⟩ = (#[.slice a1 nt c1, .slice a2 nf c2, .int .i64 D.fn, .int .i64 D.entry, .int .i64 D.vals, .int .i64 D.nums, .slice oa D.ops.length oc, .slice ea D.exits.length ec, .bool b] : Array Value)[i]? := block_cell h.blk i
theorem Chk.free (h : Chk a1 a2 oa ea nt c1 c2 oc ec nf K D wK b w) (i : Nat) : w.frozen? ⟨K, i, none⟩ = false := block_free h.blk i
theorem Chk.mono {w' : World} (h : Chk a1 a2 oa ea nt c1 c2 oc ec nf K D wK b w) (hb : Below w.heap.size w w') : Chk a1 a2 oa ea nt c1 c2 oc ec nf K D wK b w' := ⟨block_kept h.blk hb, h.bel.trans (hb.mono (Nat.le_of_lt (lt_block h.blk)))⟩
theorem Chk.set (h : Chk a1 a2 oa ea nt c1 c2 oc ec nf K D wK b w) (b' : Bool) : Chk a1 a2 oa ea nt c1 c2 oc ec nf K D wK b' (w.setCell ⟨K, 8, none⟩ (.bool b')) :=
 ⟨by simpa [chkCells] using block_set (i := 8) h.blk (.bool b'), h.bel.setCell (Nat.le_refl _) _⟩
theorem Chk.both {P Q : Prop} (h : Chk a1 a2 oa ea nt c1 c2 oc ec nf K D wK ((b || !pB P) || !pB Q) w) : Chk a1 a2 oa ea nt c1 c2 oc ec nf K D wK (b || !pB (P ∧ Q)) w := by rw [← or_pB]; exact h
theorem Chk.iff {P Q : Prop} (h : Chk a1 a2 oa ea nt c1 c2 oc ec nf K D wK (b || !pB P) w) (hq : P ↔ Q) : Chk a1 a2 oa ea nt c1 c2 oc ec nf K D wK (b || !pB Q) w := by rw [← pB_congr hq]; exact h
theorem Chk.no {P : Prop} (h : Chk a1 a2 oa ea nt c1 c2 oc ec nf K D wK true w) (hq : ¬ P) : Chk a1 a2 oa ea nt c1 c2 oc ec nf K D wK (b || !pB P) w := by rw [pB_no hq]; cases b <;> exact h
set_option maxHeartbeats 1000000 in
theorem need_any (c : Bool) (h : Chk a1 a2 oa ea nt c1 c2 oc ec nf K D wK b w) :
  Calls Tryz.prog 205 #[.pointer (some ⟨K, 0, none⟩), .bool c] w fun e w' => e = .returned (.tuple #[]) ∧ Chk a1 a2 oa ea nt c1 c2 oc ec nf K D wK (b || !c) w' ∧ Rk K w w' := by
 have k1 := h.cells
 have k2 := h.free
 have HC : Hid (∀ b', Chk a1 a2 oa ea nt c1 c2 oc ec nf K D wK b' (w.setCell ⟨K, 8, none⟩ (.bool b'))) := h.set
 clear h
 cases b
 ·
  go_enter Tryz.func205, Tryz.ntmps205
  go_wp2
  go_end0
  refine ⟨rfl, HC.out _, (Rk.refl _ _).set _⟩
 ·
  go_enter Tryz.func205, Tryz.ntmps205
  go_wp2
  go_end0
  refine ⟨rfl, HC.out _, (Rk.refl _ _).set _⟩
theorem needP_any (P : Prop) (h : Chk a1 a2 oa ea nt c1 c2 oc ec nf K D wK b w) :
  Calls Tryz.prog 205 #[.pointer (some ⟨K, 0, none⟩), .bool (pB P)] w fun e w' => e = .returned (.tuple #[]) ∧ Chk a1 a2 oa ea nt c1 c2 oc ec nf K D wK (b || !pB P) w' ∧ Rk K w w' := need_any (pB P) h
theorem btw_any (n lo hi : Int) (w : World) : Calls Tryz.prog 72 #[.int .i64 n, .int .i64 lo, .int .i64 hi] w fun e w' => e = .returned (.bool (pB (Btw n lo hi))) ∧ w' = w :=
 (between_any n lo hi w).mono fun _ _ q => ⟨q.1.trans (ret_pB (by simp [Btw])), q.2⟩
theorem btwIn (W : World) (n lo hi : Int) (h : Btw n lo hi) : Hid (∀ w', Below W.heap.size W w' → Calls Tryz.prog 72 #[.int .i64 n, .int .i64 lo, .int .i64 hi] w' fun e w'' => e = .returned (.bool true) ∧ Below w'.heap.size w' w'') := fun w' _ => (btw_any _ _ _ _).mono fun _ _ q => ⟨by rw [q.1, pB_yes h], by rw [q.2]; exact Below.refl _ _⟩
theorem btw_reg (n : Int) (c : Nat) : pB (Btw n 0 ((c : Int) - 1)) = pB (Reg n c) := pB_congr ⟨fun q => ⟨q.1, by have := q.2; omega⟩, fun q => ⟨q.1, by have := q.2; omega⟩⟩
set_option maxHeartbeats 1000000 in
theorem kVal_any (r : Int) (hv : -1 ≤ D.vals ∧ D.vals ≤ 400) (h : Chk a1 a2 oa ea nt c1 c2 oc ec nf K D wK b w) :
  Calls Tryz.prog 204 #[.pointer (some ⟨K, 0, none⟩), .int .i64 r] w fun e w' => e = .returned (.tuple #[]) ∧ Chk a1 a2 oa ea nt c1 c2 oc ec nf K D wK (b || !pB (Reg r D.vals)) w' ∧ Rk K w w' := by
 have k1 := h.cells
 have hw1 : IntKind.i64.wrap (D.vals - 1) = D.vals - 1 := by rw [IntKind.wrap_i64]; omega
 go_enter Tryz.func204, Tryz.ntmps204
 go_wp2_with fail
 refine (btw_any _ _ _ _).mono ?_
 rintro e w1 ⟨rfl, hw⟩
 rw [hw]
 clear hw
 go_wp2_with fail
 refine (needP_any _ h).mono ?_
 rintro e w2 ⟨rfl, hc, hr⟩
 clear k1
 go_wp2
 go_end0
 refine ⟨rfl, ?_, ?_⟩
 · exact hc.iff ⟨fun q => ⟨q.1, by have := q.2; omega⟩, fun q => ⟨q.1, by have := q.2; omega⟩⟩
 · exact hr
set_option maxHeartbeats 1000000 in
theorem kNum_any (r : Int) (hv : 0 ≤ D.nums ∧ D.nums ≤ 400) (h : Chk a1 a2 oa ea nt c1 c2 oc ec nf K D wK b w) :
  Calls Tryz.prog 206 #[.pointer (some ⟨K, 0, none⟩), .int .i64 r] w fun e w' => e = .returned (.tuple #[]) ∧ Chk a1 a2 oa ea nt c1 c2 oc ec nf K D wK (b || !pB (Reg r D.nums)) w' ∧ Rk K w w' := by
 have k1 := h.cells
 have hw1 : IntKind.i64.wrap (D.nums - 1) = D.nums - 1 := by rw [IntKind.wrap_i64]; omega
 go_enter Tryz.func206, Tryz.ntmps206
 go_wp2_with fail
 refine (btw_any _ _ _ _).mono ?_
 rintro e w1 ⟨rfl, hw⟩
 rw [hw]
 clear hw
 go_wp2_with fail
 refine (needP_any _ h).mono ?_
 rintro e w2 ⟨rfl, hc, hr⟩
 clear k1
 go_wp2
 go_end0
 refine ⟨rfl, ?_, ?_⟩
 · exact hc.iff ⟨fun q => ⟨q.1, by have := q.2; omega⟩, fun q => ⟨q.1, by have := q.2; omega⟩⟩
 · exact hr
set_option maxHeartbeats 1000000 in
theorem kExit_any (r : Int) (hv : D.exits.length ≤ 1048576) (h : Chk a1 a2 oa ea nt c1 c2 oc ec nf K D wK b w) :
  Calls Tryz.prog 201 #[.pointer (some ⟨K, 0, none⟩), .int .i64 r] w fun e w' => e = .returned (.tuple #[]) ∧ Chk a1 a2 oa ea nt c1 c2 oc ec nf K D wK (b || !pB (Reg r D.exits.length)) w' ∧ Rk K w w' := by
 have k1 := h.cells
 have hw1 : IntKind.i64.wrap ((D.exits.length : Int) - 1) = (D.exits.length : Int) - 1 := by rw [IntKind.wrap_i64]; omega
 go_enter Tryz.func201, Tryz.ntmps201
 go_wp2_with fail
 refine (btw_any _ _ _ _).mono ?_
 rintro e w1 ⟨rfl, hw⟩
 rw [hw]
 clear hw
 go_wp2_with fail
 refine (needP_any _ h).mono ?_
 rintro e w2 ⟨rfl, hc, hr⟩
 clear k1
 go_wp2
 go_end0
 refine ⟨rfl, ?_, ?_⟩
 · exact hc.iff ⟨fun q => ⟨q.1, by have := q.2; omega⟩, fun q => ⟨q.1, by have := q.2; omega⟩⟩
 · exact hr
set_option maxHeartbeats 1000000 in
theorem kZero_any (r : Int) (h : Chk a1 a2 oa ea nt c1 c2 oc ec nf K D wK b w) :
  Calls Tryz.prog 202 #[.pointer (some ⟨K, 0, none⟩), .int .i64 r] w fun e w' => e = .returned (.tuple #[]) ∧ Chk a1 a2 oa ea nt c1 c2 oc ec nf K D wK (b || !pB (r = 0)) w' ∧ Rk K w w' := by
 go_enter Tryz.func202, Tryz.ntmps202
 go_wp2_with fail
 rw [int_eq]
 refine (needP_any _ h).mono ?_
 rintro e w2 ⟨rfl, hc, hr⟩
 go_wp2
 go_end0
 refine ⟨rfl, ?_, ?_⟩
 · exact hc
 · exact hr
set_option maxHeartbeats 1000000 in
theorem kNone_any (v : Vl) (h : Chk a1 a2 oa ea nt c1 c2 oc ec nf K D wK b w) :
  Calls Tryz.prog 203 #[.pointer (some ⟨K, 0, none⟩), .agg #[.int .i64 v.k, .int .i64 v.n, .string v.s]] w fun e w' => e = .returned (.tuple #[]) ∧ Chk a1 a2 oa ea nt c1 c2 oc ec nf K D wK (b || !pB (v = zeroV)) w' ∧ Rk K w w' := by
 have g36 := guard36
 have e36 := eqIn36 v zeroV
 unfold zeroV at e36
 dsimp only at e36
 have hA := h.mono ((Below.refl _ _).alloc (Nat.le_refl _) (.cells #[.int .i64 v.k, .int .i64 v.n, .string v.s] 80))
 go_enter Tryz.func203, Tryz.ntmps203
 go_wp2_with fail
 refine (needP_any _ hA).mono ?_
 rintro e w2 ⟨rfl, hc, hr⟩
 clear e36 g36
 go_wp2
 go_end0
 refine ⟨rfl, ?_, ?_⟩
 · exact hc
 · exact (Rk.of ((Below.refl _ _).alloc (Nat.le_refl _) _)).trans hr
end
end Go.Proofs.YtbjmgmmekmfjhaaGreatDoor
namespace Go.Proofs.YtbjmgmmekmfjhaaGreatDoor
open Go.RowKit
set_option maxHeartbeats 4000000 in
theorem sL12_any (oa ea : Option Addr) (oc ec : Nat) (D : FastD) (fa ha ua : Option Addr) (fc hcp uc : Nat) (d : VmD) (w : World) (hv : VmSmall d) (hw : VmAt w 0 fa ha ua d) (hne : d.status = 0 → 0 < d.frames.length) :
  Calls Tryz.prog 89 #[.agg #[.int .i64 D.fn, .int .i64 D.entry, .int .i64 D.vals, .int .i64 D.nums, .slice oa D.ops.length oc, .slice ea D.exits.length ec], .agg #[.slice fa d.frames.length fc, .slice ha d.heap.length hcp, .int .i64 d.made, .slice ua d.out.length uc, .int .i64 d.status, .int .i64 d.trap, .int .i64 d.value.k, .int .i64 d.value.n, .string d.value.s, .int .i64 d.steps]] w fun e w' => e = .returned (.bool (pB (d.status = 0 ∧ AtEntry D d))) ∧ Below w.heap.size w w' := by
 obtain ⟨w0, hw0⟩ : ∃ w0, w0 = (w.alloc (.cells #[.int .i64 D.fn, .int .i64 D.entry, .int .i64 D.vals, .int .i64 D.nums, .slice oa D.ops.length oc, .slice ea D.exits.length ec] 41)).alloc (.cells #[.slice fa d.frames.length fc, .slice ha d.heap.length hcp, .int .i64 d.made, .slice ua d.out.length uc, .int .i64 d.status, .int .i64 d.trap, .int .i64 d.value.k, .int .i64 d.value.n, .string d.value.s, .int .i64 d.steps] 82) := ⟨_, rfl⟩
 have hb0 : Below w.heap.size w w0 := by rw [hw0]; exact ((Below.refl _ _).alloc (Nat.le_refl _) _).alloc (by simp) _
 have hF0 : w0.heap[w.heap.size]? = some (.cells #[.int .i64 D.fn, .int .i64 D.entry, .int .i64 D.vals, .int .i64 D.nums, .slice oa D.ops.length oc, .slice ea D.exits.length ec] 41 (0, 0)) := by rw [hw0]; exact block_old (block_new _ _ _) _
 have hV0 : w0.heap[w.heap.size + 1]? = some (.cells #[.slice fa d.frames.length fc, .slice ha d.heap.length hcp, .int .i64 d.made, .slice ua d.out.length uc, .int .i64 d.status, .int .i64 d.trap, .int .i64 d.value.k, .int .i64 d.value.n, .string d.value.s, .int .i64 d.steps] 82 (0, 0)) := by rw [hw0]; exact block_new_at _ _ _ _ (by simp)
 have hfl := hv.frames
 have fx := block_cell hF0
 have vx := block_cell hV0
 go_enter Tryz.func89, Tryz.ntmps89
 go_upto_region 1 with fail
 rw [← hw0]
 clear hw0
 by_cases h3 : d.status = 0
 case neg =>
  have g3 : (d.status != 0) = true := by simpa using h3
  have HN : Hid (¬ (d.status = 0 ∧ AtEntry D d)) := fun q => h3 q.1
  clear h3
  go_wp2
  go_ret
  exact ⟨ret_bool (pB_no HN.out).symm, hb0⟩
 have g3 : (d.status != 0) = false := by simpa using h3
 have h0 := hne h3
 obtain ⟨p, hp⟩ : ∃ p : Nat, p + 1 = d.frames.length := ⟨d.frames.length - 1, by omega⟩
 have hpl : p < d.frames.length := by omega
 obtain ⟨bb, off, la, lc, sa, sc, hfa, -, q1, q2, q3, q4, -, -⟩ := hw.frs p hpl
 subst hfa
 replace q1 := cell_later hb0 q1
 replace q2 := cell_later hb0 q2
 replace q3 := cell_later hb0 q3
 replace q4 := cell_later hb0 q4
 have HK : Hid (d.status = 0 ∧ AtEntry D d ↔ d.frames[p].fn = D.fn ∧ d.frames[p].pc = D.entry) := by
  show _ ↔ _
  constructor
  ·
   rintro ⟨-, p', hp', e0, e1, e2⟩
   obtain rfl : p' = p := by omega
   exact ⟨e1, e2⟩
  ·
   rintro ⟨e1, e2⟩
   exact ⟨h3, p, hpl, hp, e1, e2⟩
 have hsub : IntKind.i64.wrap ((d.frames.length : Int) - 1) = (p : Int) := by rw [IntKind.wrap_i64]; omega
 have zp : (p : Int) < (d.frames.length : Int) := by omega
 have zp0 : (0 : Int) ≤ (p : Int) := by omega
 obtain ⟨w1, hw1⟩ : ∃ w1, w1 = w0.alloc (.cells #[.int .i64 d.frames[p].fn, .int .i64 d.frames[p].pc, .slice la d.frames[p].locals.length lc, .slice sa d.frames[p].stack.length sc] 136) := ⟨_, rfl⟩
 have hb1 : Below w.heap.size w w1 := by rw [hw1]; exact hb0.alloc hb0.size _
 have fx2 := block_cell (block_old hF0 (.cells #[.int .i64 d.frames[p].fn, .int .i64 d.frames[p].pc, .slice la d.frames[p].locals.length lc, .slice sa d.frames[p].stack.length sc] 136))
 have fr2 := block_cell (block_new w0 #[.int .i64 d.frames[p].fn, .int .i64 d.frames[p].pc, .slice la d.frames[p].locals.length lc, .slice sa d.frames[p].stack.length sc] 136)
 clear h3 hp h0 hne
 by_cases h1 : d.frames[p].fn = D.fn
 case neg =>
  have g1 : (d.frames[p].fn == D.fn) = false := by simpa using h1
  have HN : Hid (¬ (d.status = 0 ∧ AtEntry D d)) := fun q => h1 (HK.out.1 q).1
  clear h1
  go_wp2
  go_ret
  first | exact ⟨ret_bool (pB_no HN.out).symm, by rw [← hw1]; exact hb1⟩ | exact ⟨ret_bool (pB_no HN.out).symm, by rw [hw1] at hb1; exact hb1⟩
 have g1 : (d.frames[p].fn == D.fn) = true := by simpa using h1
 have H1 : Hid (d.frames[p].fn = D.fn) := h1
 clear h1
 by_cases h2 : d.frames[p].pc = D.entry
 case neg =>
  have g2 : (d.frames[p].pc == D.entry) = false := by simpa using h2
  have HN : Hid (¬ (d.status = 0 ∧ AtEntry D d)) := fun q => h2 (HK.out.1 q).2
  clear h2
  go_wp2
  go_ret
  first | exact ⟨ret_bool (pB_no HN.out).symm, by rw [← hw1]; exact hb1⟩ | exact ⟨ret_bool (pB_no HN.out).symm, by rw [hw1] at hb1; exact hb1⟩
 have g2 : (d.frames[p].pc == D.entry) = true := by simpa using h2
 have HY : Hid (d.status = 0 ∧ AtEntry D d) := HK.out.2 ⟨H1.out, h2⟩
 clear h2
 go_wp2
 go_ret
 first | exact ⟨ret_bool (pB_yes HY.out).symm, by rw [← hw1]; exact hb1⟩ | exact ⟨ret_bool (pB_yes HY.out).symm, by rw [hw1] at hb1; exact hb1⟩
set_option maxHeartbeats 8000000 in
theorem sEnters_any (SF : SFast) (a1 a2 oa ea : Option Addr) (c1 c2 oc ec : Nat) (ts : List ByteArray) (fs : List Fn) (D : FastD) (fa ha ua : Option Addr) (fc hcp uc : Nat) (d : VmD) (w : World) (hs : Small ts fs) (hd : FastSmall D) (hv : VmSmall d) (hm : StrsAt w 0 a1 ts) (hm2 : FnsAt w 0 a2 fs) (hf : FastAt w 0 oa ea D) (hw : VmAt w 0 fa ha ua d) :
  Calls Tryz.prog 41 #[.agg #[.slice a1 ts.length c1, .slice a2 fs.length c2], .agg (fastCells oa ea oc ec D), .agg (vmCells fa ha ua fc hcp uc d)] w fun e w' => e = .returned (.bool (pB (EntersP ts fs D d))) ∧ Below w.heap.size w w' := by
 obtain ⟨w0, hw0⟩ : ∃ w0, w0 = ((w.alloc (.cells #[.slice a1 ts.length c1, .slice a2 fs.length c2] 36)).alloc (.cells #[.int .i64 D.fn, .int .i64 D.entry, .int .i64 D.vals, .int .i64 D.nums, .slice oa D.ops.length oc, .slice ea D.exits.length ec] 41)).alloc (.cells #[.slice fa d.frames.length fc, .slice ha d.heap.length hcp, .int .i64 d.made, .slice ua d.out.length uc, .int .i64 d.status, .int .i64 d.trap, .int .i64 d.value.k, .int .i64 d.value.n, .string d.value.s, .int .i64 d.steps] 82) := ⟨_, rfl⟩
 have hb0 : Below w.heap.size w w0 := by rw [hw0]; exact (((Below.refl _ _).alloc (Nat.le_refl _) _).alloc (by simp) _).alloc (by simp; omega) _
 have hM0 : w0.heap[w.heap.size]? = some (.cells #[.slice a1 ts.length c1, .slice a2 fs.length c2] 36 (0, 0)) := by rw [hw0]; exact block_old (block_old (block_new _ _ _) _) _
 have hF0 : w0.heap[w.heap.size + 1]? = some (.cells #[.int .i64 D.fn, .int .i64 D.entry, .int .i64 D.vals, .int .i64 D.nums, .slice oa D.ops.length oc, .slice ea D.exits.length ec] 41 (0, 0)) := by rw [hw0]; exact block_old (block_new_at _ _ _ _ (by simp)) _
 have hV0 : w0.heap[w.heap.size + 1 + 1]? = some (.cells #[.slice fa d.frames.length fc, .slice ha d.heap.length hcp, .int .i64 d.made, .slice ua d.out.length uc, .int .i64 d.status, .int .i64 d.trap, .int .i64 d.value.k, .int .i64 d.value.n, .string d.value.s, .int .i64 d.steps] 82 (0, 0)) := by rw [hw0]; exact block_new_at _ _ _ _ (by simp)
 have hfo := SF a1 a2 oa ea c1 c2 oc ec ts fs D w0 hs hd (hm.mono hb0) (hm2.mono hb0) (hf.mono hb0)
 unfold fastCells at hfo ⊢
 have hvo := fun (w' : World) (hG : Good ts fs) => sVm_any a1 a2 ts.length c1 c2 fs fa ha ua fc hcp uc d w' hs.funcs hv
 unfold vmCells at hvo ⊢
 go_enter Tryz.func41, Tryz.ntmps41
 go_wp2_with fail
 rw [← hw0]
 refine hfo.mono ?_
 clear hfo hw0
 rintro e w1 ⟨rfl, hb1⟩
 have hB1 := hb0.trans (hb1.mono hb0.size)
 have hM1 := block_kept hM0 hb1
 have hF1 := block_kept hF0 hb1
 have hV1 := block_kept hV0 hb1
 clear hM0 hF0 hV0 hb0 hb1
 by_cases hP : FastP ts fs D
 case neg =>
  rw [pB_no hP]
  have HN : Hid (¬ EntersP ts fs D d) := fun q => hP q.1
  clear hP hvo
  go_wp2
  go_ret
  exact ⟨ret_bool (pB_no HN.out).symm, hB1⟩
 rw [pB_yes hP]
 have HP : Hid (FastP ts fs D) := hP
 clear hP
 have mx := block_cell hM1
 have vx := block_cell hV1
 go_wp2_with fail
 refine (hvo w1 HP.out.1 (hw.mono hB1) (hm2.mono hB1) (fun k hk => fine_of (good_mod HP.out.1) hk)).mono ?_
 rintro e w2 ⟨hsay, hb2⟩
 have hB2 := hB1.trans (hb2.mono hB1.size)
 have hF2 := block_kept hF1 hb2
 have hV2 := block_kept hV1 hb2
 obtain rfl := hsay.eq
 clear hsay hb2 hvo mx vx hB1 hM1 hF1 hV1
 by_cases hG : Room d ∧ Frames fs d ∧ Vals fs.length d
 case neg =>
  rw [pB_no hG]
  have HN : Hid (¬ EntersP ts fs D d) := fun q => hG q.2.1
  clear hG
  go_wp2
  go_ret
  exact ⟨ret_bool (pB_no HN.out).symm, hB2⟩
 rw [pB_yes hG]
 have HG : Hid (Room d ∧ Frames fs d ∧ Vals fs.length d) := hG
 have hne : d.status = 0 → 0 < d.frames.length := by
  intro h
  rcases hG.2.1 with ⟨h1, -⟩ | ⟨-, h1, -⟩ <;> omega
 clear hG
 have fx := block_cell hF2
 have vx := block_cell hV2
 go_wp2_with fail
 refine (sL12_any oa ea oc ec D fa ha ua fc hcp uc d w2 hv (hw.mono hB2) hne).mono ?_
 rintro e w3 ⟨rfl, hb3⟩
 have hB3 := hB2.trans (hb3.mono hB2.size)
 clear fx vx hF2 hV2 hb3 hB2 hne
 go_wp2
 go_ret
 exact ⟨ret_pB (by rw [pB_iff']; exact ⟨fun q => ⟨HP.out, HG.out, q.1, q.2⟩, fun q => q.2.2⟩), hB3⟩
end Go.Proofs.YtbjmgmmekmfjhaaGreatDoor
