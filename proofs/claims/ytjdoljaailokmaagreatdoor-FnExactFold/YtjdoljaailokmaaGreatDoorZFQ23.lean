/-
  What the laws' functions over bytes (eqByteS, markByteS, heldByteS) and markText return.
  The marking functions of the laws write to blocks of the module that was handed in alone, and return a number from 0 on.
  Marks of a module: only blocks of its own are written.
-/
import Derived.Test.YtjdoljaailokmaaGreatDoorZFQ4
import Derived.Test.YtjdoljaailokmaaGreatDoorZFQ5
import Derived.Test.YtjdoljaailokmaaGreatDoorZFQ22
import Derived.Test.YtjdoljaailokmaaGreatDoorZFQ14
namespace Go.Proofs.YtjdoljaailokmaaGreatDoor
open Go.RowKit

/-- The marks of n bytes, from k on. -/
def marks (k : Int) (n : Nat) : List Int := (List.range n).map fun (i : Nat) => (k + (i : Int)) % 256
theorem marks_len (k : Int) (n : Nat) : (marks k n).length = n := by simp [marks]
theorem marks_at (k : Int) (n i : Nat) (h : i < (marks k n).length) : (marks k n)[i] = (k + i) % 256 := by simp [marks]

set_option maxHeartbeats 400000 in
theorem markText_any (k0 : Int) (w : World) (h0 : 0 ≤ k0) (h1 : k0 ≤ 1000000000000000) :
    Calls Tryz.prog 48 #[.int .i64 k0] w fun e w' => ∃ s : ByteArray, e = .returned (.string s) ∧ Below w.heap.size w w' := by
  by_cases hz : k0 ≤ 0
  · go_enter Tryz.func48, Tryz.ntmps48
    go_wp2
    go_ret
    exact ⟨_, rfl, Below.refl _ _⟩
  · go_enter Tryz.func48, Tryz.ntmps48
    go_wp2
    go_loopw [0, 3] (fun q o wr => ∃ (x : Nat) (s : ByteArray), q = .int .i64 x ∧ o = .string s ∧ s.size + x ≤ k0 ∧ Below w.heap.size w wr) (fun q _ _ => (intOf q).toNat)
    case atStart => exact ⟨k0.toNat, ByteArray.empty, by go_num, rfl, by simp; omega, Below.refl _ _⟩
    case round =>
      obtain ⟨x, s, rfl, rfl, hsz, hb⟩ := hrel
      by_cases hx : 0 < x
      · have hx' : (0 : Int) < (x : Int) := by omega
        have hcv := run_convert_bytes_arg (P := Tryz.prog) (wr.alloc (.cells #[.int .u8 (48 + (x : Int) % 10)] 5)) 114 5 Tryz.underlying114 Tryz.underlying5 wr.heap.size 0 1 1 [48 + (x : Int) % 10] rfl
          (fun i hi => by have : i = 0 := by omega
                          subst this
                          rw [cell_new]; rfl) 9 Tryz.underlying9
        have hsn : (strOfNums [48 + (x : Int) % 10]).size ≤ 1 := by simp [strOfNums, ByteArray.size]
        generalize strOfNums [48 + (x : Int) % 10] = t at *
        go_wp2
        go_roundw
        case rel => exact ⟨x / 10, t ++ s, by go_num, rfl, by rw [ByteArray.size_append]; omega, hb.alloc hb.size _⟩
        case measure => simp [intOf]; omega
      · have hx' : (x : Int) ≤ 0 := by omega
        go_wp2
        go_ret
        exact ⟨_, rfl, hb⟩

end Go.Proofs.YtjdoljaailokmaaGreatDoor
namespace Go.Proofs.YtjdoljaailokmaaGreatDoor
open Go.RowKit

set_option maxHeartbeats 400000 in
theorem markStringS_any (lo g n cap : Nat) (k0 : Int) (w : World) (hn : n ≤ 1048576) (h0 : 0 ≤ k0) (h1 : k0 ≤ 1000000) (hg : lo ≤ g) (hblk0 : TextBlk w g n) :
    Calls Tryz.prog 24 #[.slice (some ⟨g, 0, none⟩) n cap, .int .i64 k0] w fun e w' => e = .returned (.int .i64 (k0 + n)) ∧ Keeps lo [9] w w' ∧ SameShape w w' := by
  go_enter Tryz.func24, Tryz.ntmps24
  go_wp2
  go_loopw [1, 5] (fun q i wr => ∃ (k : Nat), k ≤ n ∧ i = .int .i64 k ∧ q = .int .i64 (k0 + k) ∧ Keeps lo [9] w wr ∧ SameShape w wr) (fun _ i _ => n - (intOf i).toNat)
  case atStart => exact ⟨0, by omega, rfl, by go_num, Keeps.refl _ _ _, SameShape.refl _⟩
  case round =>
    obtain ⟨k, hk, rfl, rfl, hkr, hsh⟩ := hrel
    by_cases hlt : k < n
    · go_wp2_with fail
      refine (markText_any (k0 + k) _ (by omega) (by omega)).mono ?_
      rintro e w1 ⟨s, rfl, hb⟩
      have hk1 : Keeps lo [9] w w1 := hkr.trans (Keeps.below hb)
      have hs1 : SameShape w w1 := hsh.trans (SameShape.below hb)
      obtain ⟨cur, hblk, hsz⟩ := hblk0.shape hs1
      have hfz := block_free hblk k
      have hcl : w1.cell? ⟨g, k, none⟩ = some cur[k] := by rw [block_cell hblk k]; simp
      go_wp2
      go_roundw
      case rel => exact ⟨k + 1, by omega, by go_num, by go_num, Keeps.set hk1 hblk (by simp) hg _ _, SameShape.set hs1 hblk _ _⟩
      case measure => simp [intOf]; omega
    · go_wp2
      go_ret
      exact ⟨ret_int (by omega), hkr, hsh⟩

set_option maxHeartbeats 400000 in
theorem markInsS_any (lo g n cap : Nat) (k0 : Int) (w : World) (hn : n ≤ 1048576) (h0 : 0 ≤ k0) (h1 : k0 ≤ 10000000000000) (hg : lo ≤ g) (hblk0 : CodeBlk w g n) :
    Calls Tryz.prog 49 #[.slice (some ⟨g, 0, none⟩) n cap, .int .i64 k0] w fun e w' => e = .returned (.int .i64 (k0 + 2 * n)) ∧ Keeps lo [44] w w' ∧ SameShape w w' := by
  go_enter Tryz.func49, Tryz.ntmps49
  go_wp2
  go_loopw [1, 5] (fun q i wr => ∃ (k : Nat), k ≤ n ∧ i = .int .i64 k ∧ q = .int .i64 (k0 + 2 * k) ∧ Keeps lo [44] w wr ∧ SameShape w wr) (fun _ i _ => n - (intOf i).toNat)
  case atStart => exact ⟨0, by omega, rfl, by go_num, Keeps.refl _ _ _, SameShape.refl _⟩
  case round =>
    obtain ⟨k, hk, rfl, rfl, hkr, hsh⟩ := hrel
    by_cases hlt : k < n
    · obtain ⟨cur, hblk, hsz⟩ := hblk0.shape hsh
      have hfz := block_free hblk
      have hcl : wr.cell? ⟨g, k * 2, none⟩ = some cur[k * 2] := by rw [block_cell hblk]; simp
      have hcl2 : wr.cell? ⟨g, k * 2 + 1, none⟩ = some cur[k * 2 + 1] := by rw [block_cell hblk]; simp
      go_wp2
      go_roundw
      case rel => exact ⟨k + 1, by omega, by go_num, by go_num, Keeps.set (Keeps.set hkr hblk (by simp) hg _ _) (block_set hblk _) (by simp) hg _ _, SameShape.set (SameShape.set hsh hblk _ _) (block_set hblk _) _ _⟩
      case measure => simp [intOf]; omega
    · go_wp2
      go_ret
      exact ⟨ret_int (by omega), hkr, hsh⟩

set_option maxHeartbeats 400000 in
theorem markFuncS_any (lo g cap : Nat) (fs : List Fn) (k0 : Int) (w : World) (hn : fs.length ≤ 1048576) (hc : ∀ f ∈ fs, f.code.length ≤ 1048576) (h0 : 0 ≤ k0) (h1 : k0 ≤ 10000000) (hg : lo ≤ g) (hblk0 : FnsBlk w lo g fs) :
    Calls Tryz.prog 25 #[.slice (some ⟨g, 0, none⟩) fs.length cap, .int .i64 k0] w fun e w' => ∃ r : Int, e = .returned (.int .i64 r) ∧ 0 ≤ r ∧ r ≤ 10000000000000 ∧ Keeps lo [44, 40] w w' := by
  obtain ⟨cur0, hb0, hsz0, hcode0⟩ := hblk0
  go_enter Tryz.func25, Tryz.ntmps25
  go_wp2
  go_loopw [1, 5] (fun q i wr => ∃ (k : Nat) (r : Int) (cur : Array Value), k ≤ fs.length ∧ i = .int .i64 k ∧ q = .int .i64 r ∧ 0 ≤ r ∧ r ≤ k0 + k * 3000000 ∧ wr.heap[g]? = some (.cells cur 40 (0, 0)) ∧ cur.size = fs.length * 3 ∧ (∀ j, j < fs.length → cur[j * 3 + 2]? = cur0[j * 3 + 2]?) ∧ Keeps lo [44, 40] w wr ∧ SameShape w wr) (fun _ i _ => fs.length - (intOf i).toNat)
  case atStart => exact ⟨0, k0, cur0, by omega, rfl, rfl, h0, by omega, hb0, hsz0, fun _ _ => rfl, Keeps.refl _ _ _, SameShape.refl _⟩
  case round =>
    obtain ⟨k, r, cur, hk, rfl, rfl, hr0, hr1, hblk, hsz, hsame, hkr, hsh⟩ := hrel
    by_cases hlt : k < fs.length
    · have hfz := block_free hblk
      have hcl : wr.cell? ⟨g, k * 3, none⟩ = some cur[k * 3] := by rw [block_cell hblk]; simp
      have hcl2 : wr.cell? ⟨g, k * 3 + 1, none⟩ = some cur[k * 3 + 1] := by rw [block_cell hblk]; simp
      obtain ⟨gc, hgc, hgl, hcb⟩ := hcode0 k hlt
      have hcl3 : wr.cell? ⟨g, k * 3 + 2, none⟩ = some (.slice (some ⟨gc, 0, none⟩) fs[k].code.length fs[k].code.length) := by rw [block_cell hblk, hsame k hlt, hgc]
      have hck := hc fs[k] (List.getElem_mem hlt)
      have hr2 : r ≤ 10000000 + 1048576 * 3000000 := by omega
      go_wp2_with fail
      have hk1 : Keeps lo [44, 40] w ((wr.setCell ⟨g, k * 3, none⟩ (.int .i64 r)).setCell ⟨g, k * 3 + 1, none⟩ (.int .i64 (r + 1))) := Keeps.set (Keeps.set hkr hblk (by simp) hg _ _) (block_set hblk _) (by simp) hg _ _
      have hs1 : SameShape w ((wr.setCell ⟨g, k * 3, none⟩ (.int .i64 r)).setCell ⟨g, k * 3 + 1, none⟩ (.int .i64 (r + 1))) := SameShape.set (SameShape.set hsh hblk _ _) (block_set hblk _) _ _
      have hblk1 := block_set (i := k * 3 + 1) (block_set (i := k * 3) hblk (.int .i64 r)) (.int .i64 (r + 1))
      refine (markInsS_any lo gc fs[k].code.length _ (r + 1 + 1) _ hck (by omega) (by omega) hgl (hcb.shape hs1)).mono ?_
      rintro e w2 ⟨rfl, hk2, hs2⟩
      have hblk2 := hk2.cell hblk1 (by simp)
      have hk3 : Keeps lo [44, 40] w w2 := hk1.trans (hk2.mono (Nat.le_refl _) (by simp))
      have hs3 : SameShape w w2 := hs1.trans hs2
      clear hfz hcl hcl2 hcl3 hblk hkr hsh hk1 hs1 hblk1 hk2 hs2
      go_wp2
      go_roundw
      case rel =>
        refine ⟨k + 1, _, _, by omega, by go_num, rfl, by omega, by omega, hblk2, by simpa using hsz, fun j hj => ?_, hk3, hs3⟩
        rw [set_else _ (by omega), set_else _ (by omega)]
        exact hsame j hj
      case measure => simp [intOf]; omega
    · go_wp2
      go_ret
      exact ⟨r, rfl, hr0, by omega, hkr⟩

set_option maxHeartbeats 400000 in
theorem markModule_any (lo g g2 c1 c2 : Nat) (ts : List ByteArray) (fs : List Fn) (w : World) (hs : Small ts fs) (hg : lo ≤ g) (hg2 : lo ≤ g2) (ht : TextBlk w g ts.length) (hf : FnsBlk w lo g2 fs) :
    Calls Tryz.prog 9 #[.agg #[.slice (some ⟨g, 0, none⟩) ts.length c1, .slice (some ⟨g2, 0, none⟩) fs.length c2], .int .i64 1] w fun e w' => ∃ r : Int, e = .returned (.int .i64 r) ∧ 0 ≤ r ∧ r ≤ 10000000000000 ∧ Keeps lo [9, 44, 40] w w' := by
  have s1 := hs.texts
  go_enter Tryz.func9, Tryz.ntmps9
  go_wp2_with fail
  have hbA : Below w.heap.size w (w.alloc (.cells #[.slice (some ⟨g, 0, none⟩) ts.length c1, .slice (some ⟨g2, 0, none⟩) fs.length c2] 29)) := (Below.refl _ _).alloc (Nat.le_refl _) _
  have hM := block_new w #[.slice (some ⟨g, 0, none⟩) ts.length c1, .slice (some ⟨g2, 0, none⟩) fs.length c2] 29
  refine (markStringS_any lo g ts.length _ 1 _ hs.texts (by omega) (by omega) hg (ht.mono hbA)).mono ?_
  rintro e w1 ⟨rfl, hk1, hs1⟩
  have hM1 := hk1.cell hM (by simp)
  have x1 := block_cell hM1
  have hf1 : FnsBlk w1 lo g2 fs := by
    obtain ⟨c, q1, q2, q3⟩ := hf.mono hbA
    refine ⟨c, hk1.cell q1 (by simp), q2, fun j hj => ?_⟩
    obtain ⟨gc, a, b, d⟩ := q3 j hj
    exact ⟨gc, a, b, d.shape hs1⟩
  have hk2 : Keeps lo [9, 44, 40] w w1 := (Keeps.below hbA).trans (hk1.mono (Nat.le_refl _) (by simp))
  clear hM hbA
  go_wp2_with fail
  refine (markFuncS_any lo g2 _ fs (1 + ts.length) _ hs.funcs hs.code (by omega) (by omega) hg2 hf1).mono ?_
  rintro e w2 ⟨r, rfl, hr, hrm, hk3⟩
  go_wp2
  go_ret
  exact ⟨r, rfl, hr, hrm, hk2.trans (hk3.mono (Nat.le_refl _) (by simp))⟩
end Go.Proofs.YtjdoljaailokmaaGreatDoor

namespace Go.Proofs.YtjdoljaailokmaaGreatDoor
open Go.RowKit

/-- Nothing but blocks of S was written. -/
structure OnlyR (S : Nat → Prop) (w w' : World) : Prop where
  below : ∀ B, (∀ k, S k → B ≤ k) → B ≤ w.heap.size → Below B w w'
  size : w.heap.size ≤ w'.heap.size
  block : ∀ k, k < w.heap.size → ¬ S k → w'.heap[k]? = w.heap[k]?
theorem OnlyR.refl (S : Nat → Prop) (w : World) : OnlyR S w w := ⟨fun _ _ _ => Below.refl _ _, Nat.le_refl _, fun _ _ _ => rfl⟩
theorem OnlyR.trans {S : Nat → Prop} {a b c : World} (h : OnlyR S a b) (k : OnlyR S b c) : OnlyR S a c :=
  ⟨fun B hB h2 => (h.below B hB h2).trans (k.below B hB (Nat.le_trans h2 h.size)), Nat.le_trans h.size k.size, fun i hi hS => (k.block i (Nat.lt_of_lt_of_le hi h.size) hS).trans (h.block i hi hS)⟩

theorem OnlyR.of {S : Nat → Prop} {a b : World} (h : Below a.heap.size a b) : OnlyR S a b := ⟨fun _ _ h2 => h.mono h2, h.size, fun k hk _ => h.block k hk⟩
theorem OnlyR.set {S : Nat → Prop} {g i : Nat} {a b : World} (h : OnlyR S a b) (hS : S g) (v : Value) : OnlyR S a (b.setCell ⟨g, i, none⟩ v) :=
  ⟨fun B hB h2 => (h.below B hB h2).setCell (hB g hS) _, by simpa using h.size, fun k hk hs => by rw [Below.heap_setCell _ _ _ _ (fun e => hs (by rw [show k = g from e]; exact hS))]; exact h.block k hk hs⟩
theorem OnlyR.kept {S : Nat → Prop} {k : Nat} {a b : World} {o : Obj} (h : OnlyR S a b) (ho : a.heap[k]? = some o) (hk : ¬ S k) : b.heap[k]? = some o := by rw [h.block k (lt_block ho) hk]; exact ho
theorem OnlyR.wide {S S' : Nat → Prop} {a b : World} (h : OnlyR S a b) (hS : ∀ k, S k → S' k) : OnlyR S' a b := ⟨fun B hB h2 => h.below B (fun k hk => hB k (hS k hk)) h2, h.size, fun k hk hs => h.block k hk (fun e => hs (hS k e))⟩

/-- Between lo and hi. -/
def Rng (lo hi b : Nat) : Prop := lo ≤ b ∧ b < hi


set_option maxHeartbeats 400000 in
theorem markStringS_w (lo hi g n cap : Nat) (k0 : Int) (w : World) (hn : n ≤ 1048576) (h0 : 0 ≤ k0) (h1 : k0 ≤ 100000000000000) (hg : lo ≤ g) (hh : g < hi) (hblk0 : TextBlk w g n) :
    Calls Tryz.prog 24 #[.slice (some ⟨g, 0, none⟩) n cap, .int .i64 k0] w fun e w' => e = .returned (.int .i64 (k0 + n)) ∧ Keeps lo [9] w w' ∧ SameShape w w' ∧ OnlyR (Rng lo hi) w w' := by
  go_enter Tryz.func24, Tryz.ntmps24
  go_wp2
  go_loopw [1, 5] (fun q i wr => ∃ (k : Nat), k ≤ n ∧ i = .int .i64 k ∧ q = .int .i64 (k0 + k) ∧ Keeps lo [9] w wr ∧ SameShape w wr ∧ OnlyR (Rng lo hi) w wr) (fun _ i _ => n - (intOf i).toNat)
  case atStart => exact ⟨0, by omega, rfl, by go_num, Keeps.refl _ _ _, SameShape.refl _, OnlyR.refl _ _⟩
  case round =>
    obtain ⟨k, hk, rfl, rfl, hkr, hsh, hor⟩ := hrel
    by_cases hlt : k < n
    · go_wp2_with fail
      refine (markText_any (k0 + k) _ (by omega) (by omega)).mono ?_
      rintro e w1 ⟨s, rfl, hb⟩
      have hk1 : Keeps lo [9] w w1 := hkr.trans (Keeps.below hb)
      have ho1 : OnlyR (Rng lo hi) w w1 := hor.trans (OnlyR.of hb)
      have hs1 : SameShape w w1 := hsh.trans (SameShape.below hb)
      obtain ⟨cur, hblk, hsz⟩ := hblk0.shape hs1
      have hfz := block_free hblk k
      have hcl : w1.cell? ⟨g, k, none⟩ = some cur[k] := by rw [block_cell hblk k]; simp
      go_wp2
      go_roundw
      case rel => exact ⟨k + 1, by omega, by go_num, by go_num, Keeps.set hk1 hblk (by simp) hg _ _, SameShape.set hs1 hblk _ _, ho1.set ⟨hg, hh⟩ _⟩
      case measure => simp [intOf]; omega
    · go_wp2
      go_ret
      exact ⟨ret_int (by omega), hkr, hsh, hor⟩


/-- A row of functions, its rows of instructions between two places. -/
def FnH (w : World) (lo hi g : Nat) (fs : List Fn) : Prop := ∃ cur : Array Value, w.heap[g]? = some (Obj.cells cur 40 (0, 0)) ∧ cur.size = fs.length * 3 ∧ ∀ j (h : j < fs.length), ∃ gc, cur[j * 3 + 2]? = some (.slice (some ⟨gc, 0, none⟩) fs[j].code.length fs[j].code.length) ∧ lo ≤ gc ∧ gc < hi ∧ CodeBlk w gc fs[j].code.length
theorem FnH.mono {w w' : World} {lo hi g : Nat} {fs : List Fn} (h : FnH w lo hi g fs) (hb : Below w.heap.size w w') : FnH w' lo hi g fs := by
  obtain ⟨c, h1, h2, h3⟩ := h
  refine ⟨c, block_kept h1 hb, h2, fun j hj => ?_⟩
  obtain ⟨gc, q1, q2, q3, q4⟩ := h3 j hj
  exact ⟨gc, q1, q2, q3, q4.mono hb⟩
theorem FnsBlk.h {w : World} {lo g : Nat} {fs : List Fn} (h : FnsBlk w lo g fs) : FnH w lo w.heap.size g fs := by
  obtain ⟨c, h1, h2, h3⟩ := h
  refine ⟨c, h1, h2, fun j hj => ?_⟩
  obtain ⟨gc, q1, q2, q3⟩ := h3 j hj
  obtain ⟨c2, r1, r2⟩ := q3
  exact ⟨gc, q1, q2, lt_block r1, c2, r1, r2⟩

set_option maxHeartbeats 400000 in
theorem markInsS_w (lo hi g n cap : Nat) (k0 : Int) (w : World) (hn : n ≤ 1048576) (h0 : 0 ≤ k0) (h1 : k0 ≤ 10000000000000) (hg : lo ≤ g) (hh : g < hi) (hblk0 : CodeBlk w g n) :
    Calls Tryz.prog 49 #[.slice (some ⟨g, 0, none⟩) n cap, .int .i64 k0] w fun e w' => e = .returned (.int .i64 (k0 + 2 * n)) ∧ Keeps lo [44] w w' ∧ SameShape w w' ∧ OnlyR (Rng lo hi) w w' := by
  go_enter Tryz.func49, Tryz.ntmps49
  go_wp2
  go_loopw [1, 5] (fun q i wr => ∃ (k : Nat), k ≤ n ∧ i = .int .i64 k ∧ q = .int .i64 (k0 + 2 * k) ∧ Keeps lo [44] w wr ∧ SameShape w wr ∧ OnlyR (Rng lo hi) w wr) (fun _ i _ => n - (intOf i).toNat)
  case atStart => exact ⟨0, by omega, rfl, by go_num, Keeps.refl _ _ _, SameShape.refl _, OnlyR.refl _ _⟩
  case round =>
    obtain ⟨k, hk, rfl, rfl, hkr, hsh, hor⟩ := hrel
    by_cases hlt : k < n
    · obtain ⟨cur, hblk, hsz⟩ := hblk0.shape hsh
      have hfz := block_free hblk
      have hcl : wr.cell? ⟨g, k * 2, none⟩ = some cur[k * 2] := by rw [block_cell hblk]; simp
      have hcl2 : wr.cell? ⟨g, k * 2 + 1, none⟩ = some cur[k * 2 + 1] := by rw [block_cell hblk]; simp
      go_wp2
      go_roundw
      case rel => exact ⟨k + 1, by omega, by go_num, by go_num, Keeps.set (Keeps.set hkr hblk (by simp) hg _ _) (block_set hblk _) (by simp) hg _ _, SameShape.set (SameShape.set hsh hblk _ _) (block_set hblk _) _ _, (hor.set ⟨hg, hh⟩ _).set ⟨hg, hh⟩ _⟩
      case measure => simp [intOf]; omega
    · go_wp2
      go_ret
      exact ⟨ret_int (by omega), hkr, hsh, hor⟩

set_option maxHeartbeats 400000 in
theorem markFuncS_w (lo hi g cap : Nat) (fs : List Fn) (k0 : Int) (w : World) (hn : fs.length ≤ 1048576) (hc : ∀ f ∈ fs, f.code.length ≤ 1048576) (h0 : 0 ≤ k0) (h1 : k0 ≤ 10000000) (hg : lo ≤ g) (hh : g < hi) (hblk0 : FnH w lo hi g fs) :
    Calls Tryz.prog 25 #[.slice (some ⟨g, 0, none⟩) fs.length cap, .int .i64 k0] w fun e w' => ∃ r : Int, e = .returned (.int .i64 r) ∧ 0 ≤ r ∧ r ≤ 10000000000000 ∧ Keeps lo [44, 40] w w' ∧ OnlyR (Rng lo hi) w w' := by
  obtain ⟨cur0, hb0, hsz0, hcode0⟩ := hblk0
  go_enter Tryz.func25, Tryz.ntmps25
  go_wp2
  go_loopw [1, 5] (fun q i wr => ∃ (k : Nat) (r : Int) (cur : Array Value), k ≤ fs.length ∧ i = .int .i64 k ∧ q = .int .i64 r ∧ 0 ≤ r ∧ r ≤ k0 + k * 3000000 ∧ wr.heap[g]? = some (.cells cur 40 (0, 0)) ∧ cur.size = fs.length * 3 ∧ (∀ j, j < fs.length → cur[j * 3 + 2]? = cur0[j * 3 + 2]?) ∧ Keeps lo [44, 40] w wr ∧ SameShape w wr ∧ OnlyR (Rng lo hi) w wr) (fun _ i _ => fs.length - (intOf i).toNat)
  case atStart => exact ⟨0, k0, cur0, by omega, rfl, rfl, h0, by omega, hb0, hsz0, fun _ _ => rfl, Keeps.refl _ _ _, SameShape.refl _, OnlyR.refl _ _⟩
  case round =>
    obtain ⟨k, r, cur, hk, rfl, rfl, hr0, hr1, hblk, hsz, hsame, hkr, hsh, hor⟩ := hrel
    by_cases hlt : k < fs.length
    · have hfz := block_free hblk
      have hcl : wr.cell? ⟨g, k * 3, none⟩ = some cur[k * 3] := by rw [block_cell hblk]; simp
      have hcl2 : wr.cell? ⟨g, k * 3 + 1, none⟩ = some cur[k * 3 + 1] := by rw [block_cell hblk]; simp
      obtain ⟨gc, hgc, hgl, hgh, hcb⟩ := hcode0 k hlt
      have hcl3 : wr.cell? ⟨g, k * 3 + 2, none⟩ = some (.slice (some ⟨gc, 0, none⟩) fs[k].code.length fs[k].code.length) := by rw [block_cell hblk, hsame k hlt, hgc]
      have hck := hc fs[k] (List.getElem_mem hlt)
      have hr2 : r ≤ 10000000 + 1048576 * 3000000 := by omega
      go_wp2_with fail
      have hk1 : Keeps lo [44, 40] w ((wr.setCell ⟨g, k * 3, none⟩ (.int .i64 r)).setCell ⟨g, k * 3 + 1, none⟩ (.int .i64 (r + 1))) := Keeps.set (Keeps.set hkr hblk (by simp) hg _ _) (block_set hblk _) (by simp) hg _ _
      have hs1 : SameShape w ((wr.setCell ⟨g, k * 3, none⟩ (.int .i64 r)).setCell ⟨g, k * 3 + 1, none⟩ (.int .i64 (r + 1))) := SameShape.set (SameShape.set hsh hblk _ _) (block_set hblk _) _ _
      have hblk1 := block_set (i := k * 3 + 1) (block_set (i := k * 3) hblk (.int .i64 r)) (.int .i64 (r + 1))
      refine (markInsS_w lo hi gc fs[k].code.length _ (r + 1 + 1) _ hck (by omega) (by omega) hgl hgh (hcb.shape hs1)).mono ?_
      rintro e w2 ⟨rfl, hk2, hs2, ho2⟩
      have ho3 : OnlyR (Rng lo hi) w w2 := ((hor.set ⟨hg, hh⟩ _).set ⟨hg, hh⟩ _).trans ho2
      have hblk2 := hk2.cell hblk1 (by simp)
      have hk3 : Keeps lo [44, 40] w w2 := hk1.trans (hk2.mono (Nat.le_refl _) (by simp))
      have hs3 : SameShape w w2 := hs1.trans hs2
      clear hfz hcl hcl2 hcl3 hblk hkr hsh hk1 hs1 hblk1 hk2 hs2 hor ho2
      go_wp2
      go_roundw
      case rel =>
        refine ⟨k + 1, _, _, by omega, by go_num, rfl, by omega, by omega, hblk2, by simpa using hsz, fun j hj => ?_, hk3, hs3, ho3⟩
        rw [set_else _ (by omega), set_else _ (by omega)]
        exact hsame j hj
      case measure => simp [intOf]; omega
    · go_wp2
      go_ret
      exact ⟨r, rfl, hr0, by omega, hkr, hor⟩

set_option maxHeartbeats 400000 in
theorem markModule_w (lo hi g g2 c1 c2 : Nat) (ts : List ByteArray) (fs : List Fn) (w : World) (hs : Small ts fs) (hg : lo ≤ g) (hg2 : lo ≤ g2) (hh : g < hi) (hh2 : g2 < hi) (ht : TextBlk w g ts.length) (hf : FnH w lo hi g2 fs) :
    Calls Tryz.prog 9 #[.agg #[.slice (some ⟨g, 0, none⟩) ts.length c1, .slice (some ⟨g2, 0, none⟩) fs.length c2], .int .i64 1] w fun e w' => ∃ r : Int, e = .returned (.int .i64 r) ∧ 0 ≤ r ∧ r ≤ 10000000000000 ∧ Keeps lo [9, 44, 40] w w' ∧ OnlyR (Rng lo hi) w w' := by
  have s1 := hs.texts
  go_enter Tryz.func9, Tryz.ntmps9
  go_wp2_with fail
  have hbA : Below w.heap.size w (w.alloc (.cells #[.slice (some ⟨g, 0, none⟩) ts.length c1, .slice (some ⟨g2, 0, none⟩) fs.length c2] 29)) := (Below.refl _ _).alloc (Nat.le_refl _) _
  have hM := block_new w #[.slice (some ⟨g, 0, none⟩) ts.length c1, .slice (some ⟨g2, 0, none⟩) fs.length c2] 29
  refine (markStringS_w lo hi g ts.length _ 1 _ hs.texts (by omega) (by omega) hg hh (ht.mono hbA)).mono ?_
  rintro e w1 ⟨rfl, hk1, hs1, ho1⟩
  have ho2 : OnlyR (Rng lo hi) w w1 := (OnlyR.of hbA).trans ho1
  have hM1 := hk1.cell hM (by simp)
  have x1 := block_cell hM1
  have hf1 : FnH w1 lo hi g2 fs := by
    obtain ⟨c, q1, q2, q3⟩ := hf.mono hbA
    refine ⟨c, hk1.cell q1 (by simp), q2, fun j hj => ?_⟩
    obtain ⟨gc, a, b, b2, d⟩ := q3 j hj
    exact ⟨gc, a, b, b2, d.shape hs1⟩
  have hk2 : Keeps lo [9, 44, 40] w w1 := (Keeps.below hbA).trans (hk1.mono (Nat.le_refl _) (by simp))
  clear hM hbA ho1
  go_wp2_with fail
  refine (markFuncS_w lo hi g2 _ fs (1 + ts.length) _ hs.funcs hs.code (by omega) (by omega) hg2 hh2 hf1).mono ?_
  rintro e w2 ⟨r, rfl, hr, hrm, hk3, ho3⟩
  go_wp2
  go_ret
  exact ⟨r, rfl, hr, hrm, hk2.trans (hk3.mono (Nat.le_refl _) (by simp)), ho2.trans ho3⟩
end Go.Proofs.YtjdoljaailokmaaGreatDoor
