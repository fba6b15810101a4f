/-
  What the laws' functions over bytes (eqByteS, markByteS, heldByteS) and markText return.
  The marking functions of the laws write to blocks of the module that was handed in alone, and return a number from 0 on.
-/
import Derived.Test.YtoabnejocbnflaaGreatZW1
import Derived.Test.YtoabnejocbnflaaGreatZMem3
import Derived.Test.YtoabnejocbnflaaGreatZW2m
namespace Go.Proofs.YtoabnejocbnflaaGreat
open Go.RowKit

/-- The marks of n bytes, from k on. -/
def marks (k : Int) (n : Nat) : List Int := (List.range n).map fun (i : Nat) => (k + (i : Int)) % 256
theorem marks_len (k : Int) (n : Nat) : (marks k n).length = n := by simp [marks]
theorem marks_at (k : Int) (n i : Nat) (h : i < (marks k n).length) : (marks k n)[i] = (k + i) % 256 := by simp [marks]

set_option maxHeartbeats 400000 in
theorem markText_any (k0 : Int) (w : World) (h0 : 0 ≤ k0) (h1 : k0 ≤ 1000000000000000) :
    Calls Tryz.prog 34 #[.int .i64 k0] w fun e w' => ∃ s : ByteArray, e = .returned (.string s) ∧ Below w.heap.size w w' := by
  by_cases hz : k0 ≤ 0
  · go_enter Tryz.func34, Tryz.ntmps34
    go_wp2
    go_ret
    exact ⟨_, rfl, Below.refl _ _⟩
  · go_enter Tryz.func34, Tryz.ntmps34
    go_wp2
    go_loopw [0, 3] (fun q o wr => ∃ (x : Nat) (s : ByteArray), q = .int .i64 x ∧ o = .string s ∧ s.size + x ≤ k0 ∧ Below w.heap.size w wr) (fun q _ _ => (intOf q).toNat)
    case atStart => exact ⟨k0.toNat, ByteArray.empty, by go_num, rfl, by simp; omega, Below.refl _ _⟩
    case round =>
      obtain ⟨x, s, rfl, rfl, hsz, hb⟩ := hrel
      by_cases hx : 0 < x
      · have hx' : (0 : Int) < (x : Int) := by omega
        have hcv := run_convert_bytes_arg (P := Tryz.prog) (wr.alloc (.cells #[.int .u8 (48 + (x : Int) % 10)] 5)) 110 5 Tryz.underlying110 Tryz.underlying5 wr.heap.size 0 1 1 [48 + (x : Int) % 10] rfl
          (fun i hi => by have : i = 0 := by omega
                          subst this
                          rw [cell_new]; rfl) 9 Tryz.underlying9
        have hsn : (strOfNums [48 + (x : Int) % 10]).size ≤ 1 := by simp [strOfNums, ByteArray.size]
        generalize strOfNums [48 + (x : Int) % 10] = t at *
        go_wp2
        go_roundw
        case rel => exact ⟨x / 10, t ++ s, by go_num, rfl, by rw [ByteArray.size_append]; omega, hb.alloc hb.size _⟩
        case measure => simp [intOf]; omega
      · have hx' : (x : Int) ≤ 0 := by omega
        go_wp2
        go_ret
        exact ⟨_, rfl, hb⟩

end Go.Proofs.YtoabnejocbnflaaGreat
namespace Go.Proofs.YtoabnejocbnflaaGreat
open Go.RowKit

set_option maxHeartbeats 400000 in
theorem markStringS_any (lo g n cap : Nat) (k0 : Int) (w : World) (hn : n ≤ 1048576) (h0 : 0 ≤ k0) (h1 : k0 ≤ 1000000) (hg : lo ≤ g) (hblk0 : TextBlk w g n) :
    Calls Tryz.prog 32 #[.slice (some ⟨g, 0, none⟩) n cap, .int .i64 k0] w fun e w' => e = .returned (.int .i64 (k0 + n)) ∧ Keeps lo [9] w w' ∧ SameShape w w' := by
  go_enter Tryz.func32, Tryz.ntmps32
  go_wp2
  go_loopw [1, 5] (fun q i wr => ∃ (k : Nat), k ≤ n ∧ i = .int .i64 k ∧ q = .int .i64 (k0 + k) ∧ Keeps lo [9] w wr ∧ SameShape w wr) (fun _ i _ => n - (intOf i).toNat)
  case atStart => exact ⟨0, by omega, rfl, by go_num, Keeps.refl _ _ _, SameShape.refl _⟩
  case round =>
    obtain ⟨k, hk, rfl, rfl, hkr, hsh⟩ := hrel
    by_cases hlt : k < n
    · go_wp2_with fail
      refine (markText_any (k0 + k) _ (by omega) (by omega)).mono ?_
      rintro e w1 ⟨s, rfl, hb⟩
      have hk1 : Keeps lo [9] w w1 := hkr.trans (Keeps.below hb)
      have hs1 : SameShape w w1 := hsh.trans (SameShape.below hb)
      obtain ⟨cur, hblk, hsz⟩ := hblk0.shape hs1
      have hfz := block_free hblk k
      have hcl : w1.cell? ⟨g, k, none⟩ = some cur[k] := by rw [block_cell hblk k]; simp
      go_wp2
      go_roundw
      case rel => exact ⟨k + 1, by omega, by go_num, by go_num, Keeps.set hk1 hblk (by simp) hg _ _, SameShape.set hs1 hblk _ _⟩
      case measure => simp [intOf]; omega
    · go_wp2
      go_ret
      exact ⟨ret_int (by omega), hkr, hsh⟩

set_option maxHeartbeats 400000 in
theorem markInsS_any (lo g n cap : Nat) (k0 : Int) (w : World) (hn : n ≤ 1048576) (h0 : 0 ≤ k0) (h1 : k0 ≤ 10000000000000) (hg : lo ≤ g) (hblk0 : CodeBlk w g n) :
    Calls Tryz.prog 57 #[.slice (some ⟨g, 0, none⟩) n cap, .int .i64 k0] w fun e w' => e = .returned (.int .i64 (k0 + 2 * n)) ∧ Keeps lo [135] w w' ∧ SameShape w w' := by
  go_enter Tryz.func57, Tryz.ntmps57
  go_wp2
  go_loopw [1, 5] (fun q i wr => ∃ (k : Nat), k ≤ n ∧ i = .int .i64 k ∧ q = .int .i64 (k0 + 2 * k) ∧ Keeps lo [135] w wr ∧ SameShape w wr) (fun _ i _ => n - (intOf i).toNat)
  case atStart => exact ⟨0, by omega, rfl, by go_num, Keeps.refl _ _ _, SameShape.refl _⟩
  case round =>
    obtain ⟨k, hk, rfl, rfl, hkr, hsh⟩ := hrel
    by_cases hlt : k < n
    · obtain ⟨cur, hblk, hsz⟩ := hblk0.shape hsh
      have hfz := block_free hblk
      have hcl : wr.cell? ⟨g, k * 2, none⟩ = some cur[k * 2] := by rw [block_cell hblk]; simp
      have hcl2 : wr.cell? ⟨g, k * 2 + 1, none⟩ = some cur[k * 2 + 1] := by rw [block_cell hblk]; simp
      go_wp2
      go_roundw
      case rel => exact ⟨k + 1, by omega, by go_num, by go_num, Keeps.set (Keeps.set hkr hblk (by simp) hg _ _) (block_set hblk _) (by simp) hg _ _, SameShape.set (SameShape.set hsh hblk _ _) (block_set hblk _) _ _⟩
      case measure => simp [intOf]; omega
    · go_wp2
      go_ret
      exact ⟨ret_int (by omega), hkr, hsh⟩

set_option maxHeartbeats 400000 in
theorem markFuncS_any (lo g cap : Nat) (fs : List Fn) (k0 : Int) (w : World) (hn : fs.length ≤ 1048576) (hc : ∀ f ∈ fs, f.code.length ≤ 1048576) (h0 : 0 ≤ k0) (h1 : k0 ≤ 10000000) (hg : lo ≤ g) (hblk0 : FnsBlk w lo g fs) :
    Calls Tryz.prog 33 #[.slice (some ⟨g, 0, none⟩) fs.length cap, .int .i64 k0] w fun e w' => ∃ r : Int, e = .returned (.int .i64 r) ∧ 0 ≤ r ∧ r ≤ 10000000000000 ∧ Keeps lo [135, 84] w w' := by
  obtain ⟨cur0, hb0, hsz0, hcode0⟩ := hblk0
  go_enter Tryz.func33, Tryz.ntmps33
  go_wp2
  go_loopw [1, 5] (fun q i wr => ∃ (k : Nat) (r : Int) (cur : Array Value), k ≤ fs.length ∧ i = .int .i64 k ∧ q = .int .i64 r ∧ 0 ≤ r ∧ r ≤ k0 + k * 3000000 ∧ wr.heap[g]? = some (.cells cur 84 (0, 0)) ∧ cur.size = fs.length * 3 ∧ (∀ j, j < fs.length → cur[j * 3 + 2]? = cur0[j * 3 + 2]?) ∧ Keeps lo [135, 84] w wr ∧ SameShape w wr) (fun _ i _ => fs.length - (intOf i).toNat)
  case atStart => exact ⟨0, k0, cur0, by omega, rfl, rfl, h0, by omega, hb0, hsz0, fun _ _ => rfl, Keeps.refl _ _ _, SameShape.refl _⟩
  case round =>
    obtain ⟨k, r, cur, hk, rfl, rfl, hr0, hr1, hblk, hsz, hsame, hkr, hsh⟩ := hrel
    by_cases hlt : k < fs.length
    · have hfz := block_free hblk
      have hcl : wr.cell? ⟨g, k * 3, none⟩ = some cur[k * 3] := by rw [block_cell hblk]; simp
      have hcl2 : wr.cell? ⟨g, k * 3 + 1, none⟩ = some cur[k * 3 + 1] := by rw [block_cell hblk]; simp
      obtain ⟨gc, hgc, hgl, hcb⟩ := hcode0 k hlt
      have hcl3 : wr.cell? ⟨g, k * 3 + 2, none⟩ = some (.slice (some ⟨gc, 0, none⟩) fs[k].code.length fs[k].code.length) := by rw [block_cell hblk, hsame k hlt, hgc]
      have hck := hc fs[k] (List.getElem_mem hlt)
      have hr2 : r ≤ 10000000 + 1048576 * 3000000 := by omega
      go_wp2_with fail
      have hk1 : Keeps lo [135, 84] w ((wr.setCell ⟨g, k * 3, none⟩ (.int .i64 r)).setCell ⟨g, k * 3 + 1, none⟩ (.int .i64 (r + 1))) := Keeps.set (Keeps.set hkr hblk (by simp) hg _ _) (block_set hblk _) (by simp) hg _ _
      have hs1 : SameShape w ((wr.setCell ⟨g, k * 3, none⟩ (.int .i64 r)).setCell ⟨g, k * 3 + 1, none⟩ (.int .i64 (r + 1))) := SameShape.set (SameShape.set hsh hblk _ _) (block_set hblk _) _ _
      have hblk1 := block_set (i := k * 3 + 1) (block_set (i := k * 3) hblk (.int .i64 r)) (.int .i64 (r + 1))
      refine (markInsS_any lo gc fs[k].code.length _ (r + 1 + 1) _ hck (by omega) (by omega) hgl (hcb.shape hs1)).mono ?_
      rintro e w2 ⟨rfl, hk2, hs2⟩
      have hblk2 := hk2.cell hblk1 (by simp)
      have hk3 : Keeps lo [135, 84] w w2 := hk1.trans (hk2.mono (Nat.le_refl _) (by simp))
      have hs3 : SameShape w w2 := hs1.trans hs2
      clear hfz hcl hcl2 hcl3 hblk hkr hsh hk1 hs1 hblk1 hk2 hs2
      go_wp2
      go_roundw
      case rel =>
        refine ⟨k + 1, _, _, by omega, by go_num, rfl, by omega, by omega, hblk2, by simpa using hsz, fun j hj => ?_, hk3, hs3⟩
        rw [set_else _ (by omega), set_else _ (by omega)]
        exact hsame j hj
      case measure => simp [intOf]; omega
    · go_wp2
      go_ret
      exact ⟨r, rfl, hr0, by omega, hkr⟩

set_option maxHeartbeats 400000 in
theorem markModule_any (lo g g2 c1 c2 : Nat) (ts : List ByteArray) (fs : List Fn) (w : World) (hs : Small ts fs) (hg : lo ≤ g) (hg2 : lo ≤ g2) (ht : TextBlk w g ts.length) (hf : FnsBlk w lo g2 fs) :
    Calls Tryz.prog 13 #[.agg #[.slice (some ⟨g, 0, none⟩) ts.length c1, .slice (some ⟨g2, 0, none⟩) fs.length c2], .int .i64 1] w fun e w' => ∃ r : Int, e = .returned (.int .i64 r) ∧ 0 ≤ r ∧ r ≤ 10000000000000 ∧ Keeps lo [9, 135, 84] w w' := by
  have s1 := hs.texts
  go_enter Tryz.func13, Tryz.ntmps13
  go_wp2_with fail
  have hbA : Below w.heap.size w (w.alloc (.cells #[.slice (some ⟨g, 0, none⟩) ts.length c1, .slice (some ⟨g2, 0, none⟩) fs.length c2] 44)) := (Below.refl _ _).alloc (Nat.le_refl _) _
  have hM := block_new w #[.slice (some ⟨g, 0, none⟩) ts.length c1, .slice (some ⟨g2, 0, none⟩) fs.length c2] 44
  refine (markStringS_any lo g ts.length _ 1 _ hs.texts (by omega) (by omega) hg (ht.mono hbA)).mono ?_
  rintro e w1 ⟨rfl, hk1, hs1⟩
  have hM1 := hk1.cell hM (by simp)
  have x1 := block_cell hM1
  have hf1 : FnsBlk w1 lo g2 fs := by
    obtain ⟨c, q1, q2, q3⟩ := hf.mono hbA
    refine ⟨c, hk1.cell q1 (by simp), q2, fun j hj => ?_⟩
    obtain ⟨gc, a, b, d⟩ := q3 j hj
    exact ⟨gc, a, b, d.shape hs1⟩
  have hk2 : Keeps lo [9, 135, 84] w w1 := (Keeps.below hbA).trans (hk1.mono (Nat.le_refl _) (by simp))
  clear hM hbA
  go_wp2_with fail
  refine (markFuncS_any lo g2 _ fs (1 + ts.length) _ hs.funcs hs.code (by omega) (by omega) hg2 hf1).mono ?_
  rintro e w2 ⟨r, rfl, hr, hrm, hk3⟩
  go_wp2
  go_ret
  exact ⟨r, rfl, hr, hrm, hk2.trans (hk3.mono (Nat.le_refl _) (by simp))⟩
end Go.Proofs.YtoabnejocbnflaaGreat
