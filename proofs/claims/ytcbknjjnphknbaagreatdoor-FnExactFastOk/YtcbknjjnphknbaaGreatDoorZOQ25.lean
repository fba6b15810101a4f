/-
  The document's look at code: what each look leaves.
  The document's look at where an op goes on.
  The document's l10Exits, op by op.
  The document's look at an op: what stands ahead of its Op; bounds.
  The document's look at an op, Op by Op (7).
-/
import Derived.Test.YtcbknjjnphknbaaGreatDoorZOQ20
import Derived.Test.YtcbknjjnphknbaaGreatDoorZOQ21
import Derived.Test.YtcbknjjnphknbaaGreatDoorZOQ2
import Derived.Test.YtcbknjjnphknbaaGreatDoorZOQ5
import Derived.Deep.RegionHeld3
namespace Go.Proofs.YtcbknjjnphknbaaGreatDoor
open Go.RowKit

/-- The cells of the document's look. -/
def chkCells (a1 a2 oa ea : Option Addr) (nt c1 c2 oc ec nf : Nat) (D : FastD) (b : Bool) : Array Value :=
  #[.slice a1 nt c1, .slice a2 nf c2, .int .i64 D.fn, .int .i64 D.entry, .int .i64 D.vals, .int .i64 D.nums, .slice oa D.ops.length oc, .slice ea D.exits.length ec, .bool b]
/-- The look lies in block K, b tells whether something was wrong; below K all is as it was. -/
structure Chk (a1 a2 oa ea : Option Addr) (nt c1 c2 oc ec nf K : Nat) (D : FastD) (wK : World) (b : Bool) (w : World) : Prop where
  blk : w.heap[K]? = some (Obj.cells (chkCells a1 a2 oa ea nt c1 c2 oc ec nf D b) 94 (0, 0))
  bel : Below K wK w
/-- All blocks but K are as they were. -/
def Rk (K : Nat) (w w' : World) : Prop := w.heap.size ≤ w'.heap.size ∧ ∀ g, g < w.heap.size → g ≠ K → w'.heap[g]? = w.heap[g]?
theorem Rk.refl (K : Nat) (w : World) : Rk K w w := ⟨Nat.le_refl _, fun _ _ _ => rfl⟩
theorem Rk.trans {K : Nat} {w w' w'' : World} (h : Rk K w w') (h' : Rk K w' w'') : Rk K w w'' := ⟨Nat.le_trans h.1 h'.1, fun g h1 h2 => (h'.2 g (Nat.lt_of_lt_of_le h1 h.1) h2).trans (h.2 g h1 h2)⟩
theorem Rk.of {K : Nat} {w w' : World} (h : Below w.heap.size w w') : Rk K w w' := ⟨h.size, fun g h1 _ => h.block g h1⟩
theorem Rk.set {K i : Nat} {w w' : World} (h : Rk K w w') (v : Value) : Rk K w (w'.setCell ⟨K, i, none⟩ v) := ⟨by rw [show (w'.setCell ⟨K, i, none⟩ v).heap.size = w'.heap.size by simp]; exact h.1, fun g h1 h2 => by rw [Below.heap_setCell _ _ _ _ (by simpa using h2)]; exact h.2 g h1 h2⟩
theorem block_rk {K g : Nat} {w w' : World} {o : Obj} (h : w.heap[g]? = some o) (hne : g ≠ K) (r : Rk K w w') : w'.heap[g]? = some o := by
  rw [r.2 g (lt_block h) hne]; exact h
theorem or_pB (b : Bool) (P Q : Prop) : ((b || !pB P) || !pB Q) = (b || !pB (P ∧ Q)) := by
  rw [pB_and]; cases b <;> cases pB P <;> cases pB Q <;> rfl
theorem pB_congr {P Q : Prop} (h : P ↔ Q) : pB P = pB Q := by rw [show P = Q from propext h]
section
variable {a1 a2 oa ea : Option Addr} {nt c1 c2 oc ec nf K : Nat} {D : FastD} {wK w : World} {b : Bool}
theorem Chk.cells (h : Chk a1 a2 oa ea nt c1 c2 oc ec nf K D wK b w) (i : Nat) : w.cell? ⟨K, i, none⟩ = (#[.slice a1 nt c1, .slice a2 nf c2, .int .i64 D.fn, .int .i64 D.entry, .int .i64 D.vals, .int .i64 D.nums, .slice oa D.ops.length oc, .slice ea D.exits.length ec, .bool b] : Array Value)[i]? := block_cell h.blk i
theorem Chk.free (h : Chk a1 a2 oa ea nt c1 c2 oc ec nf K D wK b w) (i : Nat) : w.frozen? ⟨K, i, none⟩ = false := block_free h.blk i
theorem Chk.mono {w' : World} (h : Chk a1 a2 oa ea nt c1 c2 oc ec nf K D wK b w) (hb : Below w.heap.size w w') : Chk a1 a2 oa ea nt c1 c2 oc ec nf K D wK b w' := ⟨block_kept h.blk hb, h.bel.trans (hb.mono (Nat.le_of_lt (lt_block h.blk)))⟩
theorem Chk.set (h : Chk a1 a2 oa ea nt c1 c2 oc ec nf K D wK b w) (b' : Bool) : Chk a1 a2 oa ea nt c1 c2 oc ec nf K D wK b' (w.setCell ⟨K, 8, none⟩ (.bool b')) :=
  ⟨by simpa [chkCells] using block_set (i := 8) h.blk (.bool b'), h.bel.setCell (Nat.le_refl _) _⟩
theorem Chk.both {P Q : Prop} (h : Chk a1 a2 oa ea nt c1 c2 oc ec nf K D wK ((b || !pB P) || !pB Q) w) : Chk a1 a2 oa ea nt c1 c2 oc ec nf K D wK (b || !pB (P ∧ Q)) w := by rw [← or_pB]; exact h
theorem Chk.iff {P Q : Prop} (h : Chk a1 a2 oa ea nt c1 c2 oc ec nf K D wK (b || !pB P) w) (hq : P ↔ Q) : Chk a1 a2 oa ea nt c1 c2 oc ec nf K D wK (b || !pB Q) w := by rw [← pB_congr hq]; exact h
theorem Chk.no {P : Prop} (h : Chk a1 a2 oa ea nt c1 c2 oc ec nf K D wK true w) (hq : ¬ P) : Chk a1 a2 oa ea nt c1 c2 oc ec nf K D wK (b || !pB P) w := by rw [pB_no hq]; cases b <;> exact h

set_option maxRecDepth 100000 in
set_option maxHeartbeats 1000000 in
theorem need_any (c : Bool) (h : Chk a1 a2 oa ea nt c1 c2 oc ec nf K D wK b w) :
    Calls Tryz.prog 72 #[.pointer (some ⟨K, 0, none⟩), .bool c] w fun e w' => e = .returned (.tuple #[]) ∧ Chk a1 a2 oa ea nt c1 c2 oc ec nf K D wK (b || !c) w' ∧ Rk K w w' := by
  have k1 := h.cells
  have k2 := h.free
  have HC : Hid (∀ b', Chk a1 a2 oa ea nt c1 c2 oc ec nf K D wK b' (w.setCell ⟨K, 8, none⟩ (.bool b'))) := h.set
  clear h
  cases b
  · go_enter Tryz.func72, Tryz.ntmps72
    go_wp2
    go_end0
    refine ⟨rfl, HC.out _, (Rk.refl _ _).set _⟩
  · go_enter Tryz.func72, Tryz.ntmps72
    go_wp2
    go_end0
    refine ⟨rfl, HC.out _, (Rk.refl _ _).set _⟩

theorem needP_any (P : Prop) (h : Chk a1 a2 oa ea nt c1 c2 oc ec nf K D wK b w) :
    Calls Tryz.prog 72 #[.pointer (some ⟨K, 0, none⟩), .bool (pB P)] w fun e w' => e = .returned (.tuple #[]) ∧ Chk a1 a2 oa ea nt c1 c2 oc ec nf K D wK (b || !pB P) w' ∧ Rk K w w' := need_any (pB P) h
/-- The document's l01Between, told by a Prop. -/
theorem btw_any (n lo hi : Int) (w : World) : Calls Tryz.prog 34 #[.int .i64 n, .int .i64 lo, .int .i64 hi] w fun e w' => e = .returned (.bool (pB (Btw n lo hi))) ∧ w' = w :=
  (between_any n lo hi w).mono fun _ _ q => ⟨q.1.trans (ret_pB (by simp [Btw])), q.2⟩
theorem btw_reg (n : Int) (c : Nat) : pB (Btw n 0 ((c : Int) - 1)) = pB (Reg n c) := pB_congr ⟨fun q => ⟨q.1, by have := q.2; omega⟩, fun q => ⟨q.1, by have := q.2; omega⟩⟩

set_option maxRecDepth 100000 in
set_option maxHeartbeats 1000000 in
theorem kVal_any (r : Int) (hv : -1 ≤ D.vals ∧ D.vals ≤ 400) (h : Chk a1 a2 oa ea nt c1 c2 oc ec nf K D wK b w) :
    Calls Tryz.prog 71 #[.pointer (some ⟨K, 0, none⟩), .int .i64 r] w fun e w' => e = .returned (.tuple #[]) ∧ Chk a1 a2 oa ea nt c1 c2 oc ec nf K D wK (b || !pB (Reg r D.vals)) w' ∧ Rk K w w' := by
  have k1 := h.cells
  have hw1 : IntKind.i64.wrap (D.vals - 1) = D.vals - 1 := by rw [IntKind.wrap_i64]; omega
  go_enter Tryz.func71, Tryz.ntmps71
  go_wp2_with fail
  refine (btw_any _ _ _ _).mono ?_
  rintro e w1 ⟨rfl, hw⟩
  rw [hw]
  clear hw
  go_wp2_with fail
  refine (needP_any _ h).mono ?_
  rintro e w2 ⟨rfl, hc, hr⟩
  clear k1
  go_wp2
  go_end0
  refine ⟨rfl, ?_, ?_⟩
  · exact hc.iff ⟨fun q => ⟨q.1, by have := q.2; omega⟩, fun q => ⟨q.1, by have := q.2; omega⟩⟩
  · exact hr

set_option maxRecDepth 100000 in
set_option maxHeartbeats 1000000 in
theorem kNum_any (r : Int) (hv : 0 ≤ D.nums ∧ D.nums ≤ 400) (h : Chk a1 a2 oa ea nt c1 c2 oc ec nf K D wK b w) :
    Calls Tryz.prog 74 #[.pointer (some ⟨K, 0, none⟩), .int .i64 r] w fun e w' => e = .returned (.tuple #[]) ∧ Chk a1 a2 oa ea nt c1 c2 oc ec nf K D wK (b || !pB (Reg r D.nums)) w' ∧ Rk K w w' := by
  have k1 := h.cells
  have hw1 : IntKind.i64.wrap (D.nums - 1) = D.nums - 1 := by rw [IntKind.wrap_i64]; omega
  go_enter Tryz.func74, Tryz.ntmps74
  go_wp2_with fail
  refine (btw_any _ _ _ _).mono ?_
  rintro e w1 ⟨rfl, hw⟩
  rw [hw]
  clear hw
  go_wp2_with fail
  refine (needP_any _ h).mono ?_
  rintro e w2 ⟨rfl, hc, hr⟩
  clear k1
  go_wp2
  go_end0
  refine ⟨rfl, ?_, ?_⟩
  · exact hc.iff ⟨fun q => ⟨q.1, by have := q.2; omega⟩, fun q => ⟨q.1, by have := q.2; omega⟩⟩
  · exact hr

set_option maxRecDepth 100000 in
set_option maxHeartbeats 1000000 in
theorem kExit_any (r : Int) (hv : D.exits.length ≤ 1048576) (h : Chk a1 a2 oa ea nt c1 c2 oc ec nf K D wK b w) :
    Calls Tryz.prog 68 #[.pointer (some ⟨K, 0, none⟩), .int .i64 r] w fun e w' => e = .returned (.tuple #[]) ∧ Chk a1 a2 oa ea nt c1 c2 oc ec nf K D wK (b || !pB (Reg r D.exits.length)) w' ∧ Rk K w w' := by
  have k1 := h.cells
  have hw1 : IntKind.i64.wrap ((D.exits.length : Int) - 1) = (D.exits.length : Int) - 1 := by rw [IntKind.wrap_i64]; omega
  go_enter Tryz.func68, Tryz.ntmps68
  go_wp2_with fail
  refine (btw_any _ _ _ _).mono ?_
  rintro e w1 ⟨rfl, hw⟩
  rw [hw]
  clear hw
  go_wp2_with fail
  refine (needP_any _ h).mono ?_
  rintro e w2 ⟨rfl, hc, hr⟩
  clear k1
  go_wp2
  go_end0
  refine ⟨rfl, ?_, ?_⟩
  · exact hc.iff ⟨fun q => ⟨q.1, by have := q.2; omega⟩, fun q => ⟨q.1, by have := q.2; omega⟩⟩
  · exact hr

set_option maxRecDepth 100000 in
set_option maxHeartbeats 1000000 in
theorem kZero_any (r : Int) (h : Chk a1 a2 oa ea nt c1 c2 oc ec nf K D wK b w) :
    Calls Tryz.prog 69 #[.pointer (some ⟨K, 0, none⟩), .int .i64 r] w fun e w' => e = .returned (.tuple #[]) ∧ Chk a1 a2 oa ea nt c1 c2 oc ec nf K D wK (b || !pB (r = 0)) w' ∧ Rk K w w' := by
  go_enter Tryz.func69, Tryz.ntmps69
  go_wp2_with fail
  rw [int_eq]
  refine (needP_any _ h).mono ?_
  rintro e w2 ⟨rfl, hc, hr⟩
  go_wp2
  go_end0
  refine ⟨rfl, ?_, ?_⟩
  · exact hc
  · exact hr

set_option maxRecDepth 100000 in
set_option maxHeartbeats 1000000 in
theorem kNone_any (v : Vl) (h : Chk a1 a2 oa ea nt c1 c2 oc ec nf K D wK b w) :
    Calls Tryz.prog 70 #[.pointer (some ⟨K, 0, none⟩), .agg #[.int .i64 v.k, .int .i64 v.n, .string v.s]] w fun e w' => e = .returned (.tuple #[]) ∧ Chk a1 a2 oa ea nt c1 c2 oc ec nf K D wK (b || !pB (v = zeroV)) w' ∧ Rk K w w' := by
  have g36 := guard36
  have e36 := eqIn36 v zeroV
  unfold zeroV at e36
  dsimp only at e36
  have hA := h.mono ((Below.refl _ _).alloc (Nat.le_refl _) (.cells #[.int .i64 v.k, .int .i64 v.n, .string v.s] 102))
  go_enter Tryz.func70, Tryz.ntmps70
  go_wp2_with fail
  refine (needP_any _ hA).mono ?_
  rintro e w2 ⟨rfl, hc, hr⟩
  clear e36 g36
  go_wp2
  go_end0
  refine ⟨rfl, ?_, ?_⟩
  · exact hc
  · exact (Rk.of ((Below.refl _ _).alloc (Nat.le_refl _) _)).trans hr

end
end Go.Proofs.YtcbknjjnphknbaaGreatDoor

namespace Go.Proofs.YtcbknjjnphknbaaGreatDoor
open Go.RowKit

section
variable {a1 a2 oa ea : Option Addr} {nt c1 c2 oc ec nf K : Nat} {D : FastD} {wK w : World} {b : Bool}
set_option maxRecDepth 100000 in
set_option maxHeartbeats 8000000 in
theorem kGoal_any (at' n : Int) (hn : D.ops.length ≤ 1048576) (ho : FosAt w 0 oa D.ops) (h : Chk a1 a2 oa ea nt c1 c2 oc ec nf K D wK b w) :
    Calls Tryz.prog 75 #[.pointer (some ⟨K, 0, none⟩), .int .i64 at', .int .i64 n] w fun e w' => e = .returned (.tuple #[]) ∧ Chk a1 a2 oa ea nt c1 c2 oc ec nf K D wK (b || !pB (PartP nf D at' 6 n)) w' ∧ Rk K w w' := by
  have k1 := h.cells
  have k2 := h.free
  have hw1 : IntKind.i64.wrap ((D.ops.length : Int) - 1) = (D.ops.length : Int) - 1 := by rw [IntKind.wrap_i64]; omega
  have HH : Hid (Chk a1 a2 oa ea nt c1 c2 oc ec nf K D wK b w) := h
  by_cases hr : Reg n D.ops.length
  case neg =>
    have HB : pB (Btw n 0 ((D.ops.length : Int) - 1)) = false := by rw [btw_reg]; exact pB_no hr
    have HN : Hid (¬ PartP nf D at' 6 n) := fun q => hr ⟨q.1, by obtain ⟨q1, q2, -⟩ := q; omega⟩
    clear hr h
    go_enter Tryz.func75, Tryz.ntmps75
    go_wp2_with fail
    refine (btw_any _ _ _ _).mono ?_
    rintro e w1 ⟨rfl, hw⟩
    rw [hw, HB]
    clear hw w1
    go_wp2_with fail
    (try simp only [Exit.inBlock, Exit.then])
    refine bodyPost_ret (results_none rfl _ _ _) rfl ?_
    exact ⟨rfl, (HH.out.set true).no HN.out, (Rk.refl _ _).set _⟩
  have HB : pB (Btw n 0 ((D.ops.length : Int) - 1)) = true := by rw [btw_reg]; exact pB_yes hr
  obtain ⟨i, rfl⟩ : ∃ i : Nat, n = i := ⟨n.toNat, by have := hr.1; omega⟩
  have hi : i < D.ops.length := by have := hr.2; omega
  clear hr h
  obtain ⟨b', off, rfl, -, d0, -⟩ := ho i hi
  have z1 : (i : Int) < (D.ops.length : Int) := by omega
  by_cases ha : at' < (i : Int)
  case pos =>
    go_enter Tryz.func75, Tryz.ntmps75
    go_wp2_with fail
    refine (btw_any _ _ _ _).mono ?_
    rintro e w1 ⟨rfl, hw⟩
    rw [hw, HB]
    clear hw w1
    go_wp2_with fail
    refine (need_any true HH.out).mono ?_
    rintro e w2 ⟨rfl, hc, hr⟩
    clear k1 k2 d0
    go_wp2
    go_end0
    refine ⟨rfl, ?_, hr⟩
    rw [pB_yes (show PartP nf D at' 6 (i : Int) from ⟨by omega, by simpa using hi, .inl ha⟩)]
    exact hc
  have HI : Hid (PartP nf D at' 6 (i : Int) ↔ D.ops[i].op = 25) := by
    constructor
    · rintro ⟨_, _, q | q⟩
      · exact absurd q ha
      · simpa using q
    · intro q
      exact ⟨by omega, by simpa using hi, .inr (by simpa using q)⟩
  have ha' : ¬ at' < (i : Int) := ha
  by_cases ho2 : D.ops[i].op = 25
  case pos =>
    have HO : Hid (D.ops[i].op = 25) := ho2
    rw [ho2] at d0
    clear ho2
    go_enter Tryz.func75, Tryz.ntmps75
    go_wp2_with fail
    refine (btw_any _ _ _ _).mono ?_
    rintro e w1 ⟨rfl, hw⟩
    rw [hw, HB]
    clear hw w1
    go_wp2_with fail
    refine (need_any true HH.out).mono ?_
    rintro e w2 ⟨rfl, hc, hr⟩
    clear k1 k2 d0
    go_wp2
    go_end0
    refine ⟨rfl, ?_, hr⟩
    rw [pB_yes (HI.out.2 HO.out)]
    exact hc
  case neg =>
    have HO : Hid (¬ D.ops[i].op = 25) := ho2
    have ho3 : (D.ops[i].op == 25) = false := by simpa using ho2
    obtain ⟨ov, hov⟩ : ∃ ov, ov = D.ops[i].op := ⟨_, rfl⟩
    rw [← hov] at d0 ho3
    clear ho2 hov
    go_enter Tryz.func75, Tryz.ntmps75
    go_wp2_with fail
    refine (btw_any _ _ _ _).mono ?_
    rintro e w1 ⟨rfl, hw⟩
    rw [hw, HB]
    clear hw w1
    go_wp2_with fail
    rw [show decide (at' < (i : Int)) = false by simp; omega]
    refine (need_any false HH.out).mono ?_
    rintro e w2 ⟨rfl, hc, hr⟩
    clear k1 k2 d0
    go_wp2
    go_end0
    refine ⟨rfl, ?_, hr⟩
    rw [pB_no (fun q => HO.out (HI.out.1 q))]
    exact hc
end
end Go.Proofs.YtcbknjjnphknbaaGreatDoor

namespace Go.Proofs.YtcbknjjnphknbaaGreatDoor
open Go.RowKit

set_option maxRecDepth 100000 in
set_option maxHeartbeats 1000000 in
theorem exits1_any (w : World) : Calls Tryz.prog 67 #[.int .i64 1] w fun e w' => e = .returned (.bool false) ∧ w' = w := by
  go_enter Tryz.func67, Tryz.ntmps67
  go_wp2
  go_ret
  exact ⟨rfl, rfl⟩
set_option maxRecDepth 100000 in
set_option maxHeartbeats 1000000 in
theorem exits2_any (w : World) : Calls Tryz.prog 67 #[.int .i64 2] w fun e w' => e = .returned (.bool false) ∧ w' = w := by
  go_enter Tryz.func67, Tryz.ntmps67
  go_wp2
  go_ret
  exact ⟨rfl, rfl⟩
set_option maxRecDepth 100000 in
set_option maxHeartbeats 1000000 in
theorem exits3_any (w : World) : Calls Tryz.prog 67 #[.int .i64 3] w fun e w' => e = .returned (.bool false) ∧ w' = w := by
  go_enter Tryz.func67, Tryz.ntmps67
  go_wp2
  go_ret
  exact ⟨rfl, rfl⟩
set_option maxRecDepth 100000 in
set_option maxHeartbeats 1000000 in
theorem exits4_any (w : World) : Calls Tryz.prog 67 #[.int .i64 4] w fun e w' => e = .returned (.bool false) ∧ w' = w := by
  go_enter Tryz.func67, Tryz.ntmps67
  go_wp2
  go_ret
  exact ⟨rfl, rfl⟩
set_option maxRecDepth 100000 in
set_option maxHeartbeats 1000000 in
theorem exits5_any (w : World) : Calls Tryz.prog 67 #[.int .i64 5] w fun e w' => e = .returned (.bool true) ∧ w' = w := by
  go_enter Tryz.func67, Tryz.ntmps67
  go_wp2
  go_ret
  exact ⟨rfl, rfl⟩
set_option maxRecDepth 100000 in
set_option maxHeartbeats 1000000 in
theorem exits6_any (w : World) : Calls Tryz.prog 67 #[.int .i64 6] w fun e w' => e = .returned (.bool false) ∧ w' = w := by
  go_enter Tryz.func67, Tryz.ntmps67
  go_wp2
  go_ret
  exact ⟨rfl, rfl⟩
set_option maxRecDepth 100000 in
set_option maxHeartbeats 1000000 in
theorem exits7_any (w : World) : Calls Tryz.prog 67 #[.int .i64 7] w fun e w' => e = .returned (.bool true) ∧ w' = w := by
  go_enter Tryz.func67, Tryz.ntmps67
  go_wp2
  go_ret
  exact ⟨rfl, rfl⟩
set_option maxRecDepth 100000 in
set_option maxHeartbeats 1000000 in
theorem exits8_any (w : World) : Calls Tryz.prog 67 #[.int .i64 8] w fun e w' => e = .returned (.bool true) ∧ w' = w := by
  go_enter Tryz.func67, Tryz.ntmps67
  go_wp2
  go_ret
  exact ⟨rfl, rfl⟩
set_option maxRecDepth 100000 in
set_option maxHeartbeats 1000000 in
theorem exits9_any (w : World) : Calls Tryz.prog 67 #[.int .i64 9] w fun e w' => e = .returned (.bool true) ∧ w' = w := by
  go_enter Tryz.func67, Tryz.ntmps67
  go_wp2
  go_ret
  exact ⟨rfl, rfl⟩
set_option maxRecDepth 100000 in
set_option maxHeartbeats 1000000 in
theorem exits10_any (w : World) : Calls Tryz.prog 67 #[.int .i64 10] w fun e w' => e = .returned (.bool true) ∧ w' = w := by
  go_enter Tryz.func67, Tryz.ntmps67
  go_wp2
  go_ret
  exact ⟨rfl, rfl⟩
set_option maxRecDepth 100000 in
set_option maxHeartbeats 1000000 in
theorem exits11_any (w : World) : Calls Tryz.prog 67 #[.int .i64 11] w fun e w' => e = .returned (.bool false) ∧ w' = w := by
  go_enter Tryz.func67, Tryz.ntmps67
  go_wp2
  go_ret
  exact ⟨rfl, rfl⟩
set_option maxRecDepth 100000 in
set_option maxHeartbeats 1000000 in
theorem exits12_any (w : World) : Calls Tryz.prog 67 #[.int .i64 12] w fun e w' => e = .returned (.bool true) ∧ w' = w := by
  go_enter Tryz.func67, Tryz.ntmps67
  go_wp2
  go_ret
  exact ⟨rfl, rfl⟩
set_option maxRecDepth 100000 in
set_option maxHeartbeats 1000000 in
theorem exits13_any (w : World) : Calls Tryz.prog 67 #[.int .i64 13] w fun e w' => e = .returned (.bool true) ∧ w' = w := by
  go_enter Tryz.func67, Tryz.ntmps67
  go_wp2
  go_ret
  exact ⟨rfl, rfl⟩
set_option maxRecDepth 100000 in
set_option maxHeartbeats 1000000 in
theorem exits14_any (w : World) : Calls Tryz.prog 67 #[.int .i64 14] w fun e w' => e = .returned (.bool true) ∧ w' = w := by
  go_enter Tryz.func67, Tryz.ntmps67
  go_wp2
  go_ret
  exact ⟨rfl, rfl⟩
set_option maxRecDepth 100000 in
set_option maxHeartbeats 1000000 in
theorem exits15_any (w : World) : Calls Tryz.prog 67 #[.int .i64 15] w fun e w' => e = .returned (.bool true) ∧ w' = w := by
  go_enter Tryz.func67, Tryz.ntmps67
  go_wp2
  go_ret
  exact ⟨rfl, rfl⟩
set_option maxRecDepth 100000 in
set_option maxHeartbeats 1000000 in
theorem exits16_any (w : World) : Calls Tryz.prog 67 #[.int .i64 16] w fun e w' => e = .returned (.bool false) ∧ w' = w := by
  go_enter Tryz.func67, Tryz.ntmps67
  go_wp2
  go_ret
  exact ⟨rfl, rfl⟩
set_option maxRecDepth 100000 in
set_option maxHeartbeats 1000000 in
theorem exits17_any (w : World) : Calls Tryz.prog 67 #[.int .i64 17] w fun e w' => e = .returned (.bool true) ∧ w' = w := by
  go_enter Tryz.func67, Tryz.ntmps67
  go_wp2
  go_ret
  exact ⟨rfl, rfl⟩
set_option maxRecDepth 100000 in
set_option maxHeartbeats 1000000 in
theorem exits18_any (w : World) : Calls Tryz.prog 67 #[.int .i64 18] w fun e w' => e = .returned (.bool true) ∧ w' = w := by
  go_enter Tryz.func67, Tryz.ntmps67
  go_wp2
  go_ret
  exact ⟨rfl, rfl⟩
set_option maxRecDepth 100000 in
set_option maxHeartbeats 1000000 in
theorem exits19_any (w : World) : Calls Tryz.prog 67 #[.int .i64 19] w fun e w' => e = .returned (.bool true) ∧ w' = w := by
  go_enter Tryz.func67, Tryz.ntmps67
  go_wp2
  go_ret
  exact ⟨rfl, rfl⟩
set_option maxRecDepth 100000 in
set_option maxHeartbeats 1000000 in
theorem exits20_any (w : World) : Calls Tryz.prog 67 #[.int .i64 20] w fun e w' => e = .returned (.bool true) ∧ w' = w := by
  go_enter Tryz.func67, Tryz.ntmps67
  go_wp2
  go_ret
  exact ⟨rfl, rfl⟩
set_option maxRecDepth 100000 in
set_option maxHeartbeats 1000000 in
theorem exits21_any (w : World) : Calls Tryz.prog 67 #[.int .i64 21] w fun e w' => e = .returned (.bool false) ∧ w' = w := by
  go_enter Tryz.func67, Tryz.ntmps67
  go_wp2
  go_ret
  exact ⟨rfl, rfl⟩
set_option maxRecDepth 100000 in
set_option maxHeartbeats 1000000 in
theorem exits22_any (w : World) : Calls Tryz.prog 67 #[.int .i64 22] w fun e w' => e = .returned (.bool true) ∧ w' = w := by
  go_enter Tryz.func67, Tryz.ntmps67
  go_wp2
  go_ret
  exact ⟨rfl, rfl⟩
set_option maxRecDepth 100000 in
set_option maxHeartbeats 1000000 in
theorem exits23_any (w : World) : Calls Tryz.prog 67 #[.int .i64 23] w fun e w' => e = .returned (.bool false) ∧ w' = w := by
  go_enter Tryz.func67, Tryz.ntmps67
  go_wp2
  go_ret
  exact ⟨rfl, rfl⟩
set_option maxRecDepth 100000 in
set_option maxHeartbeats 1000000 in
theorem exits24_any (w : World) : Calls Tryz.prog 67 #[.int .i64 24] w fun e w' => e = .returned (.bool true) ∧ w' = w := by
  go_enter Tryz.func67, Tryz.ntmps67
  go_wp2
  go_ret
  exact ⟨rfl, rfl⟩
set_option maxRecDepth 100000 in
set_option maxHeartbeats 1000000 in
theorem exits25_any (w : World) : Calls Tryz.prog 67 #[.int .i64 25] w fun e w' => e = .returned (.bool true) ∧ w' = w := by
  go_enter Tryz.func67, Tryz.ntmps67
  go_wp2
  go_ret
  exact ⟨rfl, rfl⟩
set_option maxRecDepth 100000 in
set_option maxHeartbeats 1000000 in
theorem exits26_any (w : World) : Calls Tryz.prog 67 #[.int .i64 26] w fun e w' => e = .returned (.bool true) ∧ w' = w := by
  go_enter Tryz.func67, Tryz.ntmps67
  go_wp2
  go_ret
  exact ⟨rfl, rfl⟩
set_option maxRecDepth 100000 in
set_option maxHeartbeats 1000000 in
theorem exits27_any (w : World) : Calls Tryz.prog 67 #[.int .i64 27] w fun e w' => e = .returned (.bool false) ∧ w' = w := by
  go_enter Tryz.func67, Tryz.ntmps67
  go_wp2
  go_ret
  exact ⟨rfl, rfl⟩
set_option maxRecDepth 100000 in
set_option maxHeartbeats 1000000 in
theorem exits28_any (w : World) : Calls Tryz.prog 67 #[.int .i64 28] w fun e w' => e = .returned (.bool true) ∧ w' = w := by
  go_enter Tryz.func67, Tryz.ntmps67
  go_wp2
  go_ret
  exact ⟨rfl, rfl⟩
set_option maxRecDepth 100000 in
set_option maxHeartbeats 1000000 in
theorem exits29_any (w : World) : Calls Tryz.prog 67 #[.int .i64 29] w fun e w' => e = .returned (.bool true) ∧ w' = w := by
  go_enter Tryz.func67, Tryz.ntmps67
  go_wp2
  go_ret
  exact ⟨rfl, rfl⟩

set_option maxRecDepth 100000 in
set_option maxHeartbeats 4000000 in
theorem exitsNo_any (op : Int) (w : World) (h : op < 1 ∨ 29 < op) : Calls Tryz.prog 67 #[.int .i64 op] w fun e w' => e = .returned (.bool false) ∧ w' = w := by
  have h5 : (op == 5) = false := by simp; omega
  have h7 : (op == 7) = false := by simp; omega
  have h8 : (op == 8) = false := by simp; omega
  have h9 : (op == 9) = false := by simp; omega
  have h10 : (op == 10) = false := by simp; omega
  have h12 : (op == 12) = false := by simp; omega
  have h13 : (op == 13) = false := by simp; omega
  have h14 : (op == 14) = false := by simp; omega
  have h15 : (op == 15) = false := by simp; omega
  have h17 : (op == 17) = false := by simp; omega
  have h18 : (op == 18) = false := by simp; omega
  have h19 : (op == 19) = false := by simp; omega
  have h20 : (op == 20) = false := by simp; omega
  have h22 : (op == 22) = false := by simp; omega
  have h24 : (op == 24) = false := by simp; omega
  have h25 : (op == 25) = false := by simp; omega
  have h26 : (op == 26) = false := by simp; omega
  have h28 : (op == 28) = false := by simp; omega
  have h29 : (op == 29) = false := by simp; omega
  go_enter Tryz.func67, Tryz.ntmps67
  go_wp2
  go_ret
  exact ⟨rfl, rfl⟩
end Go.Proofs.YtcbknjjnphknbaaGreatDoor

namespace Go.Proofs.YtcbknjjnphknbaaGreatDoor
open Go.RowKit

/-- The bounds in which the document's look works. -/
structure SLim (fs : List Fn) (D : FastD) (K : Nat) (wK : World) (a2 oa ea : Option Addr) : Prop where
  size : K = wK.heap.size
  nf : fs.length ≤ 1048576
  code : ∀ f ∈ fs, f.code.length ≤ 1048576
  vals : -1 ≤ D.vals ∧ D.vals ≤ 400
  nums : 0 ≤ D.nums ∧ D.nums ≤ 400
  nops : D.ops.length ≤ 1048576
  nex : D.exits.length ≤ 1048576
  fns : FnsAt wK 0 a2 fs
  ops : FosAt wK 0 oa D.ops
  exits : ExsAt wK 0 ea D.exits
  fast : FastSmall D
  fine : ∀ k (hk : k < fs.length), Fine fs fs[k].code
section
variable {fs : List Fn} {a1 a2 oa ea : Option Addr} {nt c1 c2 oc ec K : Nat} {D : FastD} {wK w : World} {b : Bool}
theorem SLim.at {nf : Nat} (l : SLim fs D K wK a2 oa ea) (h : Chk a1 a2 oa ea nt c1 c2 oc ec nf K D wK b w) : FnsAt w 0 a2 fs ∧ FosAt w 0 oa D.ops ∧ ExsAt w 0 ea D.exits := by
  have hb := h.bel
  rw [l.size] at hb
  exact ⟨l.fns.mono hb, l.ops.mono hb, l.exits.mono hb⟩
theorem fop_at {at' : Int} {x : Fo} (v : Nat) (hop : x.op = v) (h1 : 1 ≤ v) (h2 : v ≤ 29) (his : (insD fs x.f x.p).isSome = true) : FopP fs D at' x ↔ PartP fs.length D at' (sh v 0) x.d ∧ PartP fs.length D at' (sh v 1) x.a ∧ PartP fs.length D at' (sh v 2) x.b ∧ PartP fs.length D at' (sh v 3) x.x ∧ ConstP fs.length (sh v 4) x.v := by
  have e : x.op.toNat = v := by omega
  unfold FopP
  rw [e]
  exact ⟨fun q => q.2.2, fun q => ⟨⟨by omega, by omega⟩, his, q⟩⟩
theorem ins_at {f p : Int} (h : (insD fs f p).isSome = true) : ∃ (i j : Nat) (hi : i < fs.length), f = i ∧ p = j ∧ j < fs[i].code.length := by
  unfold insD at h
  split at h
  case isFalse => cases h
  case isTrue q =>
    cases e : fs[f.toNat]? with
    | none => rw [e] at h; cases h
    | some g =>
      rw [e] at h
      obtain ⟨hi, he⟩ := List.getElem?_eq_some_iff.1 e
      have h' : (g.code[p.toNat]?).isSome = true := h
      have hj : p.toNat < g.code.length := by simpa using h'
      exact ⟨f.toNat, p.toNat, hi, by omega, by omega, by rw [he]; exact hj⟩
end
end Go.Proofs.YtcbknjjnphknbaaGreatDoor

namespace Go.Proofs.YtcbknjjnphknbaaGreatDoor
open Go.RowKit

section
variable {fs : List Fn} {a1 a2 oa ea : Option Addr} {nt c1 c2 oc ec K : Nat} {D : FastD} {wK w : World} {b : Bool}
set_option maxRecDepth 100000 in
set_option maxHeartbeats 8000000 in
theorem sOp7_any (i : Nat) (hi : i < D.ops.length) (hop : D.ops[i].op = 7) (his : (insD fs D.ops[i].f D.ops[i].p).isSome = true) (l : SLim fs D K wK a2 oa ea) (h : Chk a1 a2 oa ea nt c1 c2 oc ec fs.length K D wK b w) :
    Calls Tryz.prog 37 #[.pointer (some ⟨K, 0, none⟩), .int .i64 (i : Nat)] w fun e w' => e = .returned (.tuple #[]) ∧ Chk a1 a2 oa ea nt c1 c2 oc ec fs.length K D wK (b || !pB (FopP fs D i D.ops[i])) w' ∧ Rk K w w' := by
  obtain ⟨hmf, hmo, -⟩ := l.at h
  obtain ⟨fi, pi, hfi, hfe, hpe, hpi⟩ := ins_at his
  obtain ⟨bf, of, ca, cc, rfl, -, -, -, f3, -⟩ := hmf fi hfi
  obtain ⟨bo, oo, rfl, -, d0, d1, d2, d3, d4, d5, d6, d7, d8, d9⟩ := hmo i hi
  have hsz := l.fast.1.2 _ (List.getElem_mem hi)
  obtain ⟨x, hx⟩ : ∃ x, x = D.ops[i] := ⟨_, rfl⟩
  have HF : Hid (FopP fs D i D.ops[i] ↔ PartP fs.length D i (sh 7 0) x.d ∧ PartP fs.length D i (sh 7 1) x.a ∧ PartP fs.length D i (sh 7 2) x.b ∧ PartP fs.length D i (sh 7 3) x.x ∧ ConstP fs.length (sh 7 4) x.v) := by rw [hx]; exact fop_at 7 hop (by decide) (by decide) his
  rw [hop] at d0
  rw [← hx] at d1 d2 d3 d4 d5 d6 d7 d8 d9 hfe hpe hsz
  have HX : Hid (x = D.ops[i]) := hx
  have hsz' : x.v.s.size ≤ 1048576 := hsz
  have z1 : (i : Int) < (D.ops.length : Int) := by omega
  have k1 := h.cells
  have hwk : K < w.heap.size := lt_block h.blk
  obtain ⟨wA, hwA⟩ : ∃ wA, wA = w.alloc (.cells #[.int .i64 7, .int .i64 x.d, .int .i64 x.a, .int .i64 x.b, .int .i64 x.x, .int .i64 x.f, .int .i64 x.p, .int .i64 x.v.k, .int .i64 x.v.n, .string x.v.s] 104) := ⟨_, rfl⟩
  have hbA : Below w.heap.size w wA := by rw [hwA]; exact (Below.refl _ _).alloc (Nat.le_refl _) _
  have hX0 : wA.heap[w.heap.size]? = some (.cells #[.int .i64 7, .int .i64 x.d, .int .i64 x.a, .int .i64 x.b, .int .i64 x.x, .int .i64 x.f, .int .i64 x.p, .int .i64 x.v.k, .int .i64 x.v.n, .string x.v.s] 104 (0, 0)) := by rw [hwA]; exact block_new _ _ _
  have hC0 := h.mono hbA
  have hne : w.heap.size ≠ K := by omega
  have HFE : Hid (x.f = (fi : Int)) := hfe
  have HPE : Hid (x.p = (pi : Int)) := hpe
  have f3A := cell_later hbA f3
  have HS : Hid (∀ w', Below wA.heap.size wA w' → w'.cell? ⟨K, 1, none⟩ = some (.slice (some ⟨bf, of, none⟩) fs.length c2) ∧ w'.cell? ⟨w.heap.size, 5, none⟩ = some (.int .i64 (fi : Int)) ∧ w'.cell? ⟨w.heap.size, 6, none⟩ = some (.int .i64 (pi : Int)) ∧ w'.cell? ⟨bf, of + fi * 3 + 2, none⟩ = some (.slice ca fs[fi].code.length cc)) := fun w' q => by
    have t5 := block_cell (block_kept hX0 q) 5
    have t6 := block_cell (block_kept hX0 q) 6
    rw [HFE.out] at t5
    rw [HPE.out] at t6
    exact ⟨(hC0.mono q).cells 1, t5, t6, cell_later q f3A⟩
  have hcl := l.code _ (List.getElem_mem hfi)
  have hnf := l.nf
  have hw1 : IntKind.i64.wrap ((fs.length : Int) - 1) = (fs.length : Int) - 1 := by rw [IntKind.wrap_i64]; omega
  have hw2 : IntKind.i64.wrap ((fs[fi].code.length : Int) - 1) = (fs[fi].code.length : Int) - 1 := by rw [IntKind.wrap_i64]; omega
  have y0 : (0 : Int) ≤ (fi : Int) := by omega
  have y1 : (fi : Int) < (fs.length : Int) := by omega
  have HC0 : Hid (∀ w', Below wA.heap.size wA w' → Calls Tryz.prog 34 #[.int .i64 (fi : Int), .int .i64 0, .int .i64 ((fs.length : Int) - 1)] w' fun e w'' => e = .returned (.bool true) ∧ Below w'.heap.size w' w'') := fun w' _ => (btw_any _ _ _ _).mono fun _ _ q => ⟨by rw [q.1, pB_yes ⟨by omega, by omega⟩], by rw [q.2]; exact Below.refl _ _⟩
  have HC1 : Hid (∀ w', Below wA.heap.size wA w' → Calls Tryz.prog 34 #[.int .i64 (pi : Int), .int .i64 0, .int .i64 ((fs[fi].code.length : Int) - 1)] w' fun e w'' => e = .returned (.bool true) ∧ Below w'.heap.size w' w'') := fun w' _ => (btw_any _ _ _ _).mono fun _ _ q => ⟨by rw [q.1, pB_yes ⟨by omega, by omega⟩], by rw [q.2]; exact Below.refl _ _⟩
  have HL : Hid (SLim fs D K wK (some ⟨bf, of, none⟩) (some ⟨bo, oo, none⟩) ea) := l
  clear hfe hpe hx f3 f3A hop his hmf hmo hsz h
  go_enter Tryz.func37, Tryz.ntmps37
  go_upto_region 1 with fail
  rw [← hwA]
  clear hwA d0 d1 d2 d3 d4 d5 d6 d7 d8 d9 k1
  refine wp_below (by kernel_rfl) (by kernel_rfl) ?_
  iterate 9
    refine q_want (v := ?_) (by kernel_rfl) ?_ ?_
    rotate_left
    · intro w' hC
      obtain ⟨j0, j1, j2, j3⟩ := HS.out w' hC
      go_simp
      try with_reducible rfl
    try simp only [Act.put, List.setIfInBounds_toArray, List.set_cons_zero, List.set_cons_succ]
  refine q_want (v := .bool true) (by kernel_rfl) ?_ ?_
  · intro w' hC
    go_simp
    refine (HC0.out _ hC).mono ?_
    rintro e w'' ⟨rfl, hb2⟩
    exact ⟨rfl, hC.trans (hb2.mono hC.size)⟩
  try simp only [Act.put, List.setIfInBounds_toArray, List.set_cons_zero, List.set_cons_succ]
  iterate 16
    refine q_want (v := ?_) (by kernel_rfl) ?_ ?_
    rotate_left
    · intro w' hC
      obtain ⟨j0, j1, j2, j3⟩ := HS.out w' hC
      go_simp
      try with_reducible rfl
    try simp only [Act.put, List.setIfInBounds_toArray, List.set_cons_zero, List.set_cons_succ]
  refine q_want (v := .bool true) (by kernel_rfl) ?_ ?_
  · intro w' hC
    go_simp
    refine (HC1.out _ hC).mono ?_
    rintro e w'' ⟨rfl, hb2⟩
    exact ⟨rfl, hC.trans (hb2.mono hC.size)⟩
  try simp only [Act.put, List.setIfInBounds_toArray, List.set_cons_zero, List.set_cons_succ]
  iterate 2
    refine q_want (v := ?_) (by kernel_rfl) ?_ ?_
    rotate_left
    · intro w' hC
      obtain ⟨j0, j1, j2, j3⟩ := HS.out w' hC
      go_simp
      try with_reducible rfl
    try simp only [Act.put, List.setIfInBounds_toArray, List.set_cons_zero, List.set_cons_succ]
  refine wpQuiet_nil ?_
  intro w2 q2
  have hC1 := hC0.mono q2
  have hX1 := block_kept hX0 q2
  have R1 : Rk K w w2 := (Rk.of hbA).trans (Rk.of q2)
  clear HS HC0 HC1 hC0 hX0 hbA q2 hw2 y0 y1
  have x1 := block_cell hX1
  go_wp2_with fail
  refine (exits7_any _).mono ?_
  rintro e w3 ⟨rfl, hw⟩
  rw [hw]
  clear hw w3
  go_wp2_with fail
  refine (kExit_any x.x HL.out.nex hC1).mono ?_
  rintro e w11 ⟨rfl, hC2, hr⟩
  have hX2 := block_rk hX1 hne hr
  have R2 := R1.trans hr
  clear x1 hX1 R1 hC1 hr
  have x2 := block_cell hX2
  go_wp2_with fail
  refine (kNone_any x.v hC2).mono ?_
  rintro e w12 ⟨rfl, hC3, hr⟩
  have hX3 := block_rk hX2 hne hr
  have R3 := R2.trans hr
  clear x2 hX2 R2 hC2 hr
  have x3 := block_cell hX3
  go_wp2_with fail
  refine (kVal_any x.d HL.out.vals hC3).mono ?_
  rintro e w13 ⟨rfl, hC4, hr⟩
  have hX4 := block_rk hX3 hne hr
  have R4 := R3.trans hr
  clear x3 hX3 R3 hC3 hr
  have x4 := block_cell hX4
  go_wp2_with fail
  refine (kVal_any x.a HL.out.vals hC4).mono ?_
  rintro e w14 ⟨rfl, hC5, hr⟩
  have hX5 := block_rk hX4 hne hr
  have R5 := R4.trans hr
  clear x4 hX4 R4 hC4 hr
  have x5 := block_cell hX5
  go_wp2_with fail
  refine (kVal_any x.b HL.out.vals hC5).mono ?_
  rintro e w15 ⟨rfl, hC6, hr⟩
  have hX6 := block_rk hX5 hne hr
  have R6 := R5.trans hr
  clear x5 hX5 R5 hC5 hr
  have x6 := block_cell hX6
  go_wp2
  go_end0
  refine ⟨rfl, ?_, R6⟩
  refine (hC6.both.both.both.both).iff ?_
  rw [HF.out]
  exact ⟨fun ⟨s0, s1, s2, s3, s4⟩ => ⟨s2, s3, s4, s0, s1⟩, fun ⟨s2, s3, s4, s0, s1⟩ => ⟨s0, s1, s2, s3, s4⟩⟩

end
end Go.Proofs.YtcbknjjnphknbaaGreatDoor
