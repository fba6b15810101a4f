/-
  The jumps of a function that one comes to, as a list, and the contract of the function that goes through them (jumpsIn).
-/
import Derived.Test.YtjdoljaailokmaaGreatDoorZFQ4
import Derived.Test.YtjdoljaailokmaaGreatDoorZFQ7
import Derived.RangeFuncNested
import Derived.RangeFuncBound
import Derived.RangeFuncCalls
import Derived.RangeFuncLeaves
import Derived.Shelf.Abstract
import Derived.Shelf.RegionOpen
import Derived.WalkKit
import Derived.OwnWalkIn
import Derived.TacticsInMore
import Derived.LoopNIn
import Derived.LoopIn
namespace Go.Proofs.YtjdoljaailokmaaGreatDoor
open Go.RowKit Go.Shelf

attribute [local go_sem] Oper.semAt_some

/-- A jump, with its place: both it and what is behind it are within a set of bits. -/
structure Jp where
  at' : Nat
  op : Int
  a : Nat
  h1 : at' + 1 < 128
  h2 : a < 128

/-- Whether instruction k is a jump that one comes to. -/
def isJ (code : List (Int × Int)) (d : List Int) (k : Nat) : Prop := d.getD k (-1) ≠ -1 ∧ ((code.getD k (0, 0)).1 = 17 ∨ (code.getD k (0, 0)).1 = 18 ∨ (code.getD k (0, 0)).1 = 19)
/-- What is asked of jumps. -/
def JOk (code : List (Int × Int)) : Prop := code.length ≤ 120 ∧ ∀ k, k < code.length → ((code.getD k (0, 0)).1 = 17 ∨ (code.getD k (0, 0)).1 = 18 ∨ (code.getD k (0, 0)).1 = 19) → 0 ≤ (code.getD k (0, 0)).2 ∧ (code.getD k (0, 0)).2 < 120
open Classical in
/-- The jumps among the first k. -/
noncomputable def jl (code : List (Int × Int)) (d : List Int) : Nat → List Jp
  | 0 => []
  | k + 1 => if h : isJ code d k ∧ k + 1 < 128 ∧ (code.getD k (0, 0)).2.toNat < 128 then jl code d k ++ [⟨k, (code.getD k (0, 0)).1, (code.getD k (0, 0)).2.toNat, h.2.1, h.2.2⟩] else jl code d k
theorem jl_no {code : List (Int × Int)} {d : List Int} {k : Nat} (h : ¬ isJ code d k) : jl code d (k + 1) = jl code d k := dif_neg (fun q => h q.1)
theorem jl_yes {code : List (Int × Int)} {d : List Int} {k : Nat} (H : JOk code) (hk : k < code.length) (h : isJ code d k) :
    ∃ x : Jp, x.at' = k ∧ x.op = code[k].1 ∧ (x.a : Int) = code[k].2 ∧ jl code d (k + 1) = jl code d k ++ [x] := by
  have h2 := H.2 k hk h.2
  have hl := H.1
  have e : code.getD k (0, 0) = code[k] := by rw [List.getD_eq_getElem?_getD, List.getElem?_eq_getElem hk]; rfl
  refine ⟨⟨k, (code.getD k (0, 0)).1, (code.getD k (0, 0)).2.toNat, by omega, by omega⟩, rfl, by show (code.getD k (0, 0)).1 = _; rw [e], by show (((code.getD k (0, 0)).2.toNat : Nat) : Int) = _; rw [← e]; omega, dif_pos ⟨h, by omega, by omega⟩⟩
theorem jl_len (code : List (Int × Int)) (d : List Int) (k : Nat) : (jl code d k).length ≤ k := by
  induction k with
  | zero => simp [jl]
  | succ k ih =>
    unfold jl
    split
    · simp; omega
    · omega

def encJ (x : Jp) : Array Value := #[.int .i64 (x.at' : Int), .agg #[.int .i64 x.op, .int .i64 (x.a : Int)]]

set_option maxRecDepth 100000 in
set_option maxHeartbeats 1000000 in
theorem jumpOp_any (op : Int) (w : World) : Calls Tryz.prog 68 #[.int .i64 op] w fun e w' => e = .returned (.bool (decide (op = 17 ∨ op = 18 ∨ op = 19))) ∧ w' = w := by
  by_cases h1 : op = 17
  · subst h1
    go_enter Tryz.func68, Tryz.ntmps68
    go_wp2
    go_ret
    exact ⟨rfl, rfl⟩
  by_cases h2 : op = 18
  · subst h2
    go_enter Tryz.func68, Tryz.ntmps68
    go_wp2
    go_ret
    exact ⟨rfl, rfl⟩
  by_cases h3 : op = 19
  · subst h3
    go_enter Tryz.func68, Tryz.ntmps68
    go_wp2
    go_ret
    exact ⟨rfl, rfl⟩
  rw [decide_eq_false (by omega)]
  go_enter Tryz.func68, Tryz.ntmps68
  go_wp2
  go_ret
  exact ⟨rfl, rfl⟩

/-- What a round keeps. -/
def Kq (n₀ Bh : Nat) (W W' : World) : Prop := Below n₀ W W' ∧ ∀ o, W.heap[Bh]? = some o → W'.heap[Bh]? = some o
theorem Kq.trans {n₀ Bh : Nat} {A B C : World} (h : Kq n₀ Bh A B) (k : Kq n₀ Bh B C) : Kq n₀ Bh A C := ⟨h.1.trans k.1, fun o ho => k.2 o (h.2 o ho)⟩
theorem Kq.put {n₀ Bh : Nat} {w : World} (hn : n₀ ≤ w.heap.size) (hB : Bh < w.heap.size) (W : World) (l : Nat) (o o' : Obj) (hl : w.heap.size ≤ l) (h : W.heap[l]? = some o) (h1 : o.isCells = false) (h2 : o.isWalk = false) : Kq n₀ Bh W (W.putObj l o') :=
  ⟨belowK_b hn W l o o' hl h h1 h2, fun x hx => (World.putObj_heap_other (by omega)).trans hx⟩

set_option maxRecDepth 100000 in
set_option maxHeartbeats 2000000 in
theorem jumps1_in (n : Nat) (hn : 2 ≤ n) (l Bc Bh n₀ g cap cc : Nat) (ca : Option Addr) (code : List (Int × Int)) (d : List Int) (HJ : JOk code) (hd : d.length = code.length) (J Jx : List Jp → World → Prop)
    (hY : ∀ pre x W, J pre W → pre.length < code.length → YieldAt Fence.wide (n - 1) Tryz.prog l (encJ x) W fun e W' =>
      (e = .returned (.bool true) ∧ J (pre ++ [x]) W' ∧ Kq n₀ Bh W W') ∨ (e = .returned (.bool false) ∧ Jx (pre ++ [x]) W'))
    (W : World) (hJ : AbidesFrom W.heap.size J) (hBc : W.cell? ⟨Bc, 0, none⟩ = some (.slice ca code.length cc)) (hBh : W.heap[Bh]? = some (.cells #[.slice (some ⟨g, 0, none⟩) code.length code.length] 62 (0, 0)))
    (hcode : CodeAt W 0 ca code) (hclt : ∀ b off, ca = some ⟨b, off, none⟩ → b < n₀) (hH : Ht W g cap d) (hg : g < n₀) (hn₀ : n₀ ≤ W.heap.size) (h0 : J [] W) :
    CallsIn Fence.wide n Tryz.prog 78 #[.func (.yield l) #[] #[], .pointer (some ⟨Bc, 0, none⟩), .pointer (some ⟨Bh, 0, none⟩)] W fun e W' => (∃ v, e = .returned v) ∧
      ((∃ ys, ys = jl code d code.length ∧ J ys W') ∨ (∃ pre, True ∧ Jx pre W')) := by
  refine callsIn_of_wp Tryz.func78 rfl trivial ?_ rfl
  simp only [Tryz.ntmps78, List.size_toArray, List.length_cons, List.length_nil, Nat.reduceAdd, Nat.reduceSub, Array.replicate_succ, Array.replicate_zero, List.push_toArray, List.append_toArray, List.nil_append, List.cons_append]
  gi_wp2
  gi_loopw [8] (fun i wr => ∃ k : Nat, k ≤ code.length ∧ i = .int .i64 k ∧ J (jl code d k) wr ∧ Below n₀ W wr ∧ wr.heap[Bh]? = some (.cells #[.slice (some ⟨g, 0, none⟩) code.length code.length] 62 (0, 0)))
    (fun i _ => code.length - (intOf i).toNat)
  case atStart => exact ⟨0, Nat.zero_le _, rfl, h0, Below.refl _ _, hBh⟩
  case round =>
    obtain ⟨k, hk, rfl, hJs, hnx, hB⟩ := hrel
    by_cases hlt : k < code.length
    case neg =>
      obtain rfl : k = code.length := by omega
      gi_wp2
      go_end0
      exact ⟨⟨_, rfl⟩, .inl ⟨_, rfl, hJs⟩⟩
    have hkd : k < d.length := by omega
    have hl120 := HJ.1
    obtain ⟨b, off, rfl, -, c1, c2⟩ := hcode k hlt
    have hb := hclt b off rfl
    obtain ⟨wx, hwx⟩ : ∃ wx, wx = wr.alloc (.cells #[.int .i64 code[k].1, .int .i64 code[k].2] 44) := ⟨_, rfl⟩
    have hbx : Below wr.heap.size wr wx := by rw [hwx]; exact (Below.refl _ _).alloc (Nat.le_refl _) _
    have hnw : n₀ ≤ wr.heap.size := Nat.le_trans hn₀ hnx.size
    have hJx0 : J (jl code d k) wx := by rw [hwx]; exact hJ _ wr _ none hJs (World.grownBy_alloc wr _ none) (fun r e => by cases e)
    have c1' := (hnx.cell (p := ⟨b, off + k * 2, none⟩) hb).trans c1
    have c2' := (hnx.cell (p := ⟨b, off + k * 2 + 1, none⟩) hb).trans c2
    have c3 := (hnx.cell (p := ⟨g, k, none⟩) hg).trans (hH.cell hkd)
    have HC3 : Hid (wx.cell? ⟨g, k, none⟩ = some (.int .i64 d[k])) := cell_later hbx c3
    have HB3 : Hid (wx.heap[Bh]? = some (.cells #[.slice (some ⟨g, 0, none⟩) code.length code.length] 62 (0, 0))) := block_kept hB hbx
    have HX3 : Hid (wx.heap[wr.heap.size]? = some (.cells #[.int .i64 code[k].1, .int .i64 code[k].2] 44 (0, 0))) := by show _ = _; rw [hwx]; exact block_new _ _ _
    have ed : d.getD k (-1) = d[k] := by rw [List.getD_eq_getElem?_getD, List.getElem?_eq_getElem hkd]; rfl
    have ec : code.getD k (0, 0) = code[k] := by rw [List.getD_eq_getElem?_getD, List.getElem?_eq_getElem hlt]; rfl
    clear c1 c2 c3
    have c3 := cell_later (wx := wr.alloc (.cells #[.int .i64 code[k].1, .int .i64 code[k].2] 44)) ((Below.refl _ _).alloc (Nat.le_refl _) _) ((hnx.cell (p := ⟨g, k, none⟩) hg).trans (hH.cell hkd))
    have c4 := block_cell (block_old hB (.cells #[.int .i64 code[k].1, .int .i64 code[k].2] 44))
    have HJs : Hid (J (jl code d k) wx) := hJx0
    have HB0 : Hid (Below n₀ W wx) := hnx.trans (hbx.mono hnw)
    have HED : Hid (isJ code d k ↔ d[k] ≠ -1 ∧ (code[k].1 = 17 ∨ code[k].1 = 18 ∨ code[k].1 = 19)) := by show _ ↔ _; unfold isJ; rw [ed, ec]
    clear ed ec hJx0 hJs
    by_cases hz : d[k] = -1
    · have HNo : Hid (jl code d (k + 1) = jl code d k) := jl_no (fun h => (HED.out.1 h).1 hz)
      have c3' := c3
      rw [hz] at c3'
      clear c3
      gi_wp2
      refine ⟨trivial, ?_⟩
      gi_wp2
      refine ⟨fun _ h => (by cases h), ?_⟩
      gi_wp2
      rw [← hwx]
      go_roundw
      case rel => exact ⟨k + 1, by omega, by go_num, by rw [HNo.out]; exact HJs.out, HB0.out, HB3.out⟩
      case measure => simp [intOf]; omega
    have hz' : (d[k] != -1) = true := by simpa using hz
    by_cases hj : code[k].1 = 17 ∨ code[k].1 = 18 ∨ code[k].1 = 19
    case neg =>
      have HNo : Hid (jl code d (k + 1) = jl code d k) := jl_no (fun h => hj (HED.out.1 h).2)
      gi_wp2
      refine ⟨trivial, fun _ => by omega, ?_⟩
      refine (callsIn_wide.2 (jumpOp_any _ _)).mono ?_
      rintro e w1 ⟨rfl, rfl⟩
      rw [decide_eq_false hj]
      gi_wp2
      refine ⟨fun _ h => (by cases h), ?_⟩
      gi_wp2
      rw [← hwx]
      go_roundw
      case rel => exact ⟨k + 1, by omega, by go_num, by rw [HNo.out]; exact HJs.out, HB0.out, HB3.out⟩
      case measure => simp [intOf]; omega
    obtain ⟨x, hx1, hx2, hx3, hx4⟩ := jl_yes HJ hlt (HED.out.2 ⟨hz, hj⟩)
    have HX4 : Hid (jl code d (k + 1) = jl code d k ++ [x]) := hx4
    clear hx4
    obtain ⟨fn, tmps, assign, body, hy, hR⟩ := hY _ x wx HJs.out (Nat.lt_of_le_of_lt (jl_len _ _ _) hlt)
    simp only [encJ, hx1, hx2, hx3] at hy
    rw [hwx] at hy
    have x5 := block_cell (block_new wr #[.int .i64 code[k].1, .int .i64 code[k].2] 44)
    gi_wp2
    refine ⟨trivial, fun _ => by omega, ?_⟩
    refine (callsIn_wide.2 (jumpOp_any _ _)).mono ?_
    rintro e w1 ⟨rfl, rfl⟩
    rw [decide_eq_true hj]
    gi_wp2
    refine ⟨fun _ => by omega, ?_⟩
    rw [← hwx]
    refine hR.mono ?_
    rintro e W3 (⟨rfl, hJ3, hk3⟩ | ⟨rfl, hJx3⟩)
    · gi_wp2
      go_roundw
      case rel => exact ⟨k + 1, by omega, by go_num, by rw [HX4.out]; exact hJ3, HB0.out.trans hk3.1, hk3.2 _ HB3.out⟩
      case measure => simp [intOf]; omega
    · gi_wp2
      refine bodyPost_ret (results_none rfl _ _ _) rfl ?_
      exact ⟨⟨_, rfl⟩, .inr ⟨_, trivial, hJx3⟩⟩

set_option maxHeartbeats 1000000 in
theorem jumps_any (a b : Option Addr) (n c n2 c2 : Nat) (w : World) :
    Calls Tryz.prog 64 #[.slice a n c, .slice b n2 c2] w fun e w' => e = .returned (.func (.func 78) #[] #[.pointer (some ⟨w.heap.size, 0, none⟩), .pointer (some ⟨w.heap.size + 1, 0, none⟩)]) ∧ w' = (w.alloc (.cells #[.slice a n c] 38)).alloc (.cells #[.slice b n2 c2] 62) := by
  go_enter Tryz.func64, Tryz.ntmps64
  go_wp2
  go_ret
  exact ⟨rfl, rfl⟩

theorem jumps_stops (n : Nat) (hn : 2 ≤ n) (Bc Bh n₀ g cap cc : Nat) (ca : Option Addr) (code : List (Int × Int)) (d : List Int) (HJ : JOk code) (hd : d.length = code.length) (w : World)
    (hBc : w.cell? ⟨Bc, 0, none⟩ = some (.slice ca code.length cc)) (hBcl : Bc < w.heap.size) (hBh : w.heap[Bh]? = some (.cells #[.slice (some ⟨g, 0, none⟩) code.length code.length] 62 (0, 0)))
    (hcode : CodeAt w 0 ca code) (hclt : ∀ b off, ca = some ⟨b, off, none⟩ → b < n₀) (hH : Ht w g cap d) (hg : g < n₀) (hn₀ : n₀ ≤ w.heap.size) :
    SeqStopsK Fence.wide n Tryz.prog 78 #[.pointer (some ⟨Bc, 0, none⟩), .pointer (some ⟨Bh, 0, none⟩)] encJ (Kq n₀ Bh) (fun ys => ys = jl code d code.length) (fun _ => True) code.length w := fun l J Jx W hW hJ _ hY h0 =>
  jumps1_in n hn l Bc Bh n₀ g cap cc ca code d HJ hd J Jx hY W hJ ((hW.cell (p := ⟨Bc, 0, none⟩) hBcl).trans hBc) (block_kept hBh hW) (hcode.mono hW) hclt (hH.mono hW) hg (Nat.le_trans hn₀ hW.size) h0
end Go.Proofs.YtjdoljaailokmaaGreatDoor
