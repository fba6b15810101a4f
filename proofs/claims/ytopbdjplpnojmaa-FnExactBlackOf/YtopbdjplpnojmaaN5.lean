/-
  What the marking functions write into a list of values, and that what was marked is found again.
  Marks in a state of one frame, and that they are found again.
-/
import Derived.Test.YtopbdjplpnojmaaMK5
import Derived.Test.YtopbdjplpnojmaaMV
import Derived.Lib.ItoaMem
import Derived.Deep.RegionHeld3
namespace Go.Proofs.Ytopbdjplpnojmaa
open Go.RowKit

def decText (n : Nat) : ByteArray := ⟨(Lib.decDigits n).toArray⟩
/-- The text of a mark. -/
def mText (k : Nat) : ByteArray := ⟨#[109]⟩ ++ decText k

theorem bytes_append (a b : List UInt8) : (⟨(a ++ b).toArray⟩ : ByteArray) = ⟨a.toArray⟩ ++ ⟨b.toArray⟩ := by
  apply ByteArray.ext
  simp
theorem strOfNums_dig (n : Nat) : strOfNums [48 + (n : Int) % 10] = ⟨#[UInt8.ofNat (48 + n % 10)]⟩ := by
  have : (48 + (n : Int) % 10).toNat = 48 + n % 10 := by omega
  unfold strOfNums
  simp only [List.map_cons, List.map_nil]
  rw [this]
theorem dec_small {n : Nat} (h : n < 10) : decText n = ⟨#[UInt8.ofNat (48 + n % 10)]⟩ := by
  unfold decText
  rw [Lib.decDigits, dif_pos h, Nat.mod_eq_of_lt h]
theorem dec_big {n : Nat} (h : ¬ n < 10) : decText n = decText (n / 10) ++ ⟨#[UInt8.ofNat (48 + n % 10)]⟩ := by
  unfold decText
  rw [Lib.decDigits, dif_neg h, bytes_append]

set_option maxHeartbeats 800000 in
theorem markText_is (k0 : Nat) (w : World) (h0 : 0 < k0) (h1 : k0 ≤ 1000000000000000) :
    Calls Try.prog 69 #[.int .i64 k0] w fun e w' => e = .returned (.string (mText k0)) ∧ Below w.heap.size w w' := by
  have h0' : (0 : Int) < (k0 : Int) := by omega
  go_enter Try.func69, Try.ntmps69
  go_wp2
  go_loopw [0, 3] (fun q o wr => ∃ (x : Nat) (s : ByteArray), q = .int .i64 x ∧ o = .string s ∧ s.size + x ≤ k0 ∧ Hid ((x = 0 → s = decText k0) ∧ (0 < x → decText x ++ s = decText k0)) ∧ Below w.heap.size w wr) (fun q _ _ => (intOf q).toNat)
  case atStart => exact ⟨k0, ByteArray.empty, rfl, rfl, by simp, ⟨fun h => by omega, fun _ => by simp⟩, Below.refl _ _⟩
  case round =>
    obtain ⟨x, s, rfl, rfl, hsz, HD, hb⟩ := hrel
    by_cases hx : 0 < x
    · have hx' : (0 : Int) < (x : Int) := by omega
      have hcv := run_convert_bytes_arg (P := Try.prog) (wr.alloc (.cells #[.int .u8 (48 + (x : Int) % 10)] 5)) 159 5 Try.underlying159 Try.underlying5 wr.heap.size 0 1 1 [48 + (x : Int) % 10] rfl
        (fun i hi => by have : i = 0 := by omega
                        subst this
                        rw [cell_new]; rfl) 9 Try.underlying9
      rw [strOfNums_dig] at hcv
      have hsn : (⟨#[UInt8.ofNat (48 + x % 10)]⟩ : ByteArray).size ≤ 1 := Nat.le_refl _
      have HD2 : Hid ((x / 10 = 0 → (⟨#[UInt8.ofNat (48 + x % 10)]⟩ : ByteArray) ++ s = decText k0) ∧ (0 < x / 10 → decText (x / 10) ++ ((⟨#[UInt8.ofNat (48 + x % 10)]⟩ : ByteArray) ++ s) = decText k0)) := by
        constructor
        · intro h
          rw [← dec_small (by omega)]
          exact HD.out.2 hx
        · intro h
          have := HD.out.2 hx
          rw [dec_big (by omega)] at this
          rw [← ByteArray.append_assoc]
          exact this
      generalize (⟨#[UInt8.ofNat (48 + x % 10)]⟩ : ByteArray) = t at *
      clear HD
      go_wp2
      go_roundw
      case rel => exact ⟨x / 10, t ++ s, by go_num, rfl, by rw [ByteArray.size_append]; omega, HD2, hb.alloc hb.size _⟩
      case measure => simp [intOf]; omega
    · have hx' : (x : Int) ≤ 0 := by omega
      have hx0 : x = 0 := by omega
      have hs : Hid (s = decText k0) := HD.out.1 hx0
      clear HD hx0
      go_wp2
      go_ret
      exact ⟨by unfold mText; rw [← hs.out]; rfl, hb⟩

/-- Of what was there only block g was written. -/
structure Just (g : Nat) (w w' : World) : Prop where
  below : ∀ B, B ≤ g → B ≤ w.heap.size → Below B w w'
  size : w.heap.size ≤ w'.heap.size
  block : ∀ k, k < w.heap.size → k ≠ g → w'.heap[k]? = w.heap[k]?
theorem Just.refl (g : Nat) (w : World) : Just g w w := ⟨fun _ _ _ => Below.refl _ _, Nat.le_refl _, fun _ _ _ => rfl⟩
theorem Just.trans {g : Nat} {a b c : World} (h : Just g a b) (k : Just g b c) : Just g a c :=
  ⟨fun B h1 h2 => (h.below B h1 h2).trans (k.below B h1 (Nat.le_trans h2 h.size)), Nat.le_trans h.size k.size, fun i hi hg => by rw [k.block i (by have := h.size; omega) hg]; exact h.block i hi hg⟩
theorem Just.of {g : Nat} {a b : World} (h : Below a.heap.size a b) : Just g a b := ⟨fun _ _ h2 => h.mono h2, h.size, fun k hk _ => h.block k hk⟩
theorem Just.set {g i : Nat} {a b : World} (h : Just g a b) (v : Value) : Just g a (b.setCell ⟨g, i, none⟩ v) :=
  ⟨fun B h1 h2 => (h.below B h1 h2).setCell h1 _, by have := h.size; simpa using this, fun k hk hg => by rw [Below.heap_setCell _ _ _ _ hg]; exact h.block k hk hg⟩
theorem Just.kept {g k : Nat} {a b : World} {o : Obj} (h : Just g a b) (ho : a.heap[k]? = some o) (hk : k ≠ g) : b.heap[k]? = some o := by rw [h.block k (lt_block ho) hk]; exact ho

/-- The marks in a block of values. -/
def MarkV (w : World) (g n m k0 : Nat) : Prop := ∃ cur : Array Value, w.heap[g]? = some (Obj.cells cur 39 (0, 0)) ∧ cur.size = n * 3 ∧ ∀ j, j < m → cur[j * 3]? = some (.int .i64 ((k0 + 3 * j : Nat) : Int)) ∧ cur[j * 3 + 1]? = some (.int .i64 ((k0 + 3 * j + 1 : Nat) : Int)) ∧ cur[j * 3 + 2]? = some (.string (mText (k0 + 3 * j + 2)))
theorem MarkV.mono {w w' : World} {g n m k0 : Nat} (h : MarkV w g n m k0) (hb : Below w.heap.size w w') : MarkV w' g n m k0 := by
  obtain ⟨c, h1, h2⟩ := h
  exact ⟨c, block_kept h1 hb, h2⟩

set_option maxRecDepth 100000 in
set_option maxHeartbeats 2000000 in
theorem markValueS_is (g n cap k0 : Nat) (w : World) (hn : n ≤ 1048576) (h1 : k0 ≤ 100000000000000) (hblk0 : ValsBlk w g n) :
    Calls Try.prog 68 #[.slice (some ⟨g, 0, none⟩) n cap, .int .i64 (k0 : Int)] w fun e w' => e = .returned (.int .i64 ((k0 + 3 * n : Nat) : Int)) ∧ Just g w w' ∧ MarkV w' g n n k0 := by
  go_enter Try.func68, Try.ntmps68
  go_wp2
  go_loopw [1, 5] (fun q i wr => ∃ (k : Nat), k ≤ n ∧ i = .int .i64 k ∧ q = .int .i64 ((k0 + 3 * k : Nat) : Int) ∧ Just g w wr ∧ MarkV wr g n k k0) (fun _ i _ => n - (intOf i).toNat)
  case atStart =>
    obtain ⟨c, k1, k2⟩ := hblk0
    exact ⟨0, by omega, rfl, rfl, Just.refl _ _, ⟨c, k1, k2, fun _ h => absurd h (Nat.not_lt_zero _)⟩⟩
  case round =>
    obtain ⟨k, hk, rfl, rfl, hj, cur, hC, hcs, hd⟩ := hrel
    have HC : Hid (cur.size = n * 3) := hcs
    have HD : Hid (∀ j, j < k → cur[j * 3]? = some (.int .i64 ((k0 + 3 * j : Nat) : Int)) ∧ cur[j * 3 + 1]? = some (.int .i64 ((k0 + 3 * j + 1 : Nat) : Int)) ∧ cur[j * 3 + 2]? = some (.string (mText (k0 + 3 * j + 2)))) := hd
    clear hd
    by_cases hlt : k < n
    · have hfz := block_free hC
      obtain ⟨y1, hcl⟩ : ∃ v, wr.cell? ⟨g, k * 3, none⟩ = some v := ⟨cur[k * 3]'(by rw [HC.out]; omega), by rw [block_cell hC]; exact Array.getElem?_eq_getElem _⟩
      obtain ⟨y2, hcl2⟩ : ∃ v, wr.cell? ⟨g, k * 3 + 1, none⟩ = some v := ⟨cur[k * 3 + 1]'(by rw [HC.out]; omega), by rw [block_cell hC]; exact Array.getElem?_eq_getElem _⟩
      clear hcs
      obtain ⟨wx, hwx⟩ : ∃ wx, wx = (wr.setCell ⟨g, k * 3, none⟩ (.int .i64 ((k0 + 3 * k : Nat) : Int))).setCell ⟨g, k * 3 + 1, none⟩ (.int .i64 ((k0 + 3 * k + 1 : Nat) : Int)) := ⟨_, rfl⟩
      have hCx : wx.heap[g]? = some (.cells ((cur.setIfInBounds (k * 3) (.int .i64 ((k0 + 3 * k : Nat) : Int))).setIfInBounds (k * 3 + 1) (.int .i64 ((k0 + 3 * k + 1 : Nat) : Int))) 39 (0, 0)) := by rw [hwx]; exact block_set (block_set hC _) _
      have hjx : Just g w wx := by rw [hwx]; exact (hj.set _).set _
      have e1 : ((k0 + 3 * k : Nat) : Int) + 1 = ((k0 + 3 * k + 1 : Nat) : Int) := by omega
      have e2 : ((k0 + 3 * k + 1 : Nat) : Int) + 1 = ((k0 + 3 * k + 2 : Nat) : Int) := by omega
      obtain ⟨A0, hA0⟩ : ∃ A0 : Int, A0 = ((k0 + 3 * k : Nat) : Int) := ⟨_, rfl⟩
      have hA1 : Hid (A0 = ((k0 + 3 * k : Nat) : Int)) := hA0
      have hAlo : 0 ≤ A0 := by omega
      have hAhi : A0 ≤ 200000000000000 := by omega
      rw [← hA0] at hwx ⊢
      rw [show ((k0 + 3 * k + 1 : Nat) : Int) = A0 + 1 by omega] at hwx
      clear hA0 e1 e2
      go_wp2_with fail
      rw [← hwx]
      have hmt := markText_is (k0 + 3 * k + 2) wx (by omega) (by omega)
      rw [show ((k0 + 3 * k + 2 : Nat) : Int) = A0 + 1 + 1 by have := hA1.out; omega] at hmt
      refine hmt.mono ?_
      rintro e w2 ⟨rfl, hb2⟩
      have hC2 := block_kept hCx hb2
      have hj2 := hjx.trans (Just.of hb2)
      have hfz2 := block_free hC2
      obtain ⟨y3, hcl3⟩ : ∃ v, w2.cell? ⟨g, k * 3 + 2, none⟩ = some v := ⟨_, by rw [block_cell hC2]; exact Array.getElem?_eq_getElem (by have := HC.out; simp; omega)⟩
      clear hmt hwx hC hCx hjx hb2 hfz hcl hcl2 hj
      go_wp2
      go_roundw
      case rel =>
        have hcs := HC.out
        have hA := hA1.out
        refine ⟨k + 1, by omega, by go_num, by rw [show ((k0 + 3 * (k + 1) : Nat) : Int) = A0 + 1 + 1 + 1 by omega], hj2.set _, _, block_set hC2 _, by simpa using hcs, ?_⟩
        intro j hj
        by_cases e : j = k
        · subst e
          refine ⟨?_, ?_, ?_⟩
          · rw [set_else _ (by omega), set_else _ (by omega)]; exact set_self _ (by omega)
          · rw [set_else _ (by omega)]; exact set_self _ (by simp; omega)
          · exact set_self _ (by simp; omega)
        · obtain ⟨d1, d2, d3⟩ := HD.out j (by omega)
          refine ⟨?_, ?_, ?_⟩
          · rw [set_else _ (by omega), set_else _ (by omega), set_else _ (by omega)]; exact d1
          · rw [set_else _ (by omega), set_else _ (by omega), set_else _ (by omega)]; exact d2
          · rw [set_else _ (by omega), set_else _ (by omega), set_else _ (by omega)]; exact d3
      case measure => simp [intOf]; omega
    · go_wp2
      go_ret
      have hkn : k = n := by omega
      subst hkn
      exact ⟨rfl, hj, cur, hC, hcs, HD.out⟩

end Go.Proofs.Ytopbdjplpnojmaa
namespace Go.Proofs.Ytopbdjplpnojmaa
open Go.RowKit

/-- Of what was there only two blocks were written. -/
structure Pair (G g : Nat) (w w' : World) : Prop where
  below : ∀ B, B ≤ G → B ≤ g → B ≤ w.heap.size → Below B w w'
  size : w.heap.size ≤ w'.heap.size
  block : ∀ k, k < w.heap.size → k ≠ G → k ≠ g → w'.heap[k]? = w.heap[k]?
theorem Pair.refl (G g : Nat) (w : World) : Pair G g w w := ⟨fun _ _ _ _ => Below.refl _ _, Nat.le_refl _, fun _ _ _ _ => rfl⟩
theorem Pair.trans {G g : Nat} {a b c : World} (h : Pair G g a b) (k : Pair G g b c) : Pair G g a c :=
  ⟨fun B h1 h2 h3 => (h.below B h1 h2 h3).trans (k.below B h1 h2 (Nat.le_trans h3 h.size)), Nat.le_trans h.size k.size, fun i hi hG hg => by rw [k.block i (by have := h.size; omega) hG hg]; exact h.block i hi hG hg⟩
theorem Pair.of {G g : Nat} {a b : World} (h : Below a.heap.size a b) : Pair G g a b := ⟨fun _ _ _ h3 => h.mono h3, h.size, fun k hk _ _ => h.block k hk⟩
theorem Pair.just {G g : Nat} {a b : World} (h : Just g a b) : Pair G g a b := ⟨fun B _ h2 h3 => h.below B h2 h3, h.size, fun k hk _ hg => h.block k hk hg⟩
theorem Pair.set {G g i : Nat} {a b : World} (h : Pair G g a b) (v : Value) : Pair G g a (b.setCell ⟨G, i, none⟩ v) :=
  ⟨fun B h1 h2 h3 => (h.below B h1 h2 h3).setCell h1 _, by have := h.size; simpa using this, fun k hk hG hg => by rw [Below.heap_setCell _ _ _ _ hG]; exact h.block k hk hG hg⟩
theorem Pair.kept {G g k : Nat} {a b : World} {o : Obj} (h : Pair G g a b) (ho : a.heap[k]? = some o) (hG : k ≠ G) (hg : k ≠ g) : b.heap[k]? = some o := by rw [h.block k (lt_block ho) hG hg]; exact ho

end Go.Proofs.Ytopbdjplpnojmaa
