/-
  ValueOk of both sides.
-/
import Derived.Test.YtcebgbcgkkfedaaX6
import Derived.Test.YtcebgbcgkkfedaaW7
import Derived.Test.YtcebgbcgkkfedaaW8
namespace Go.Proofs.Ytcebgbcgkkfedaa
open Go.RowKit

set_option maxRecDepth 100000 in
set_option maxHeartbeats 2000000 in
theorem iValueOk_any (k n : Int) (s : ByteArray) (r : Int) (a1 a2 : Option Addr) (ts : List ByteArray) (fs : List Fn) (c1 c2 : Nat) (w : World) (hs : Small ts fs) (hm : StrsAt w 0 a1 ts) (hf : FnsAt w 0 a2 fs) (hsz : s.size ≤ 1048576) :
    Calls Try.prog 14 #[.agg #[.slice a1 ts.length c1, .slice a2 fs.length c2], .agg #[.int .i64 k, .int .i64 n, .string s], .int .i64 r] w fun e w' => e = .returned (.bool (modB ts fs && valB k n s fs.length r)) ∧ Below w.heap.size w w' := by
  obtain ⟨wA, hwA⟩ : ∃ wA, wA = (w.alloc (.cells #[.slice a1 ts.length c1, .slice a2 fs.length c2] 32)).alloc (.cells #[.int .i64 k, .int .i64 n, .string s] 41) := ⟨_, rfl⟩
  have hbA : Below w.heap.size w wA := by rw [hwA]; exact ((Below.refl _ _).alloc (Nat.le_refl _) _).alloc (by simp) _
  have hX : wA.heap[w.heap.size]? = some (.cells #[.slice a1 ts.length c1, .slice a2 fs.length c2] 32 (0, 0)) := by rw [hwA]; exact block_old (block_new _ _ _) _
  have hY : wA.heap[w.heap.size + 1]? = some (.cells #[.int .i64 k, .int .i64 n, .string s] 41 (0, 0)) := by rw [hwA]; exact block_new_at _ _ _ _ (by simp)
  go_enter Try.func14, Try.ntmps14
  go_wp2_with fail
  rw [← hwA]
  clear hwA
  refine (iIn_any k n s r a1 a2 ts.length c1 fs.length c2 wA hsz).mono ?_
  rintro e w1 ⟨rfl, hb1⟩
  have hX1 := block_kept hX hb1
  have hY1 := block_kept hY hb1
  have hB1 := hbA.trans (hb1.mono hbA.size)
  clear hX hY hbA hb1
  cases hq : valB k n s fs.length r with
  | false =>
    have HQ : Hid ((modB ts fs && valB k n s fs.length r) = false) := by show _ = _; rw [hq]; exact Bool.and_false _
    clear hq
    go_wp2
    go_ret
    exact ⟨by rw [HQ.out]; rfl, hB1⟩
  | true =>
    have HQ : Hid ((modB ts fs && valB k n s fs.length r) = modB ts fs) := by show _ = _; rw [hq]; exact Bool.and_true _
    clear hq
    have x1 := block_cell hX1
    have y1 := block_cell hY1
    go_wp2_with fail
    clear x1 y1
    refine (iModuleOk_any _ _ ts fs _ _ w1 hs (hm.mono hB1) (hf.mono hB1)).mono ?_
    rintro e w2 ⟨rfl, hb2⟩
    go_wp2
    go_ret
    exact ⟨by rw [HQ.out]; rfl, hB1.trans (hb2.mono hB1.size)⟩

set_option maxRecDepth 100000 in
set_option maxHeartbeats 2000000 in
theorem sValueOk_any (k n : Int) (s : ByteArray) (r : Int) (a1 a2 : Option Addr) (ts : List ByteArray) (fs : List Fn) (c1 c2 : Nat) (w : World) (hs : Small ts fs) (hm : StrsAt w 0 a1 ts) (hf : FnsAt w 0 a2 fs) (hsz : s.size ≤ 1048576) :
    Calls Try.prog 12 #[.agg #[.slice a1 ts.length c1, .slice a2 fs.length c2], .agg #[.int .i64 k, .int .i64 n, .string s], .int .i64 r] w fun e w' => e = .returned (.bool (modB ts fs && valB k n s fs.length r)) ∧ Below w.heap.size w w' := by
  obtain ⟨wA, hwA⟩ : ∃ wA, wA = (w.alloc (.cells #[.slice a1 ts.length c1, .slice a2 fs.length c2] 32)).alloc (.cells #[.int .i64 k, .int .i64 n, .string s] 41) := ⟨_, rfl⟩
  have hbA : Below w.heap.size w wA := by rw [hwA]; exact ((Below.refl _ _).alloc (Nat.le_refl _) _).alloc (by simp) _
  have hX : wA.heap[w.heap.size]? = some (.cells #[.slice a1 ts.length c1, .slice a2 fs.length c2] 32 (0, 0)) := by rw [hwA]; exact block_old (block_new _ _ _) _
  have hY : wA.heap[w.heap.size + 1]? = some (.cells #[.int .i64 k, .int .i64 n, .string s] 41 (0, 0)) := by rw [hwA]; exact block_new_at _ _ _ _ (by simp)
  go_enter Try.func12, Try.ntmps12
  go_wp2_with fail
  rw [← hwA]
  clear hwA
  refine (sModuleOk_any _ _ ts fs _ _ wA hs (hm.mono hbA) (hf.mono hbA)).mono ?_
  rintro e w1 ⟨rfl, hb1⟩
  have hX1 := block_kept hX hb1
  have hY1 := block_kept hY hb1
  have hB1 := hbA.trans (hb1.mono hbA.size)
  clear hX hY hbA hb1
  cases hq : modB ts fs with
  | false =>
    have HQ : Hid ((modB ts fs && valB k n s fs.length r) = false) := by show _ = _; rw [hq]; rfl
    clear hq
    go_wp2
    go_ret
    exact ⟨by rw [HQ.out]; rfl, hB1⟩
  | true =>
    have HQ : Hid ((modB ts fs && valB k n s fs.length r) = valB k n s fs.length r) := by show _ = _; rw [hq]; rfl
    clear hq
    have x1 := block_cell hX1
    have y1 := block_cell hY1
    go_wp2_with fail
    clear x1 y1
    refine (sOk_any k n s r a1 a2 ts.length c1 fs.length c2 w1 hs.funcs hsz).mono ?_
    rintro e w2 ⟨rfl, hb2⟩
    go_wp2
    go_ret
    exact ⟨by rw [HQ.out]; rfl, hB1.trans (hb2.mono hB1.size)⟩
end Go.Proofs.Ytcebgbcgkkfedaa
