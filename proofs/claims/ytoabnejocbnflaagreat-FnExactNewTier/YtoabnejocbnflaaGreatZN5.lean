/-
  What the marking functions write into a list of values, and that what was marked is found again.
  Marks in a state of one frame, and that they are found again.
-/
import Derived.Test.YtoabnejocbnflaaGreatZS5
import Derived.Test.YtoabnejocbnflaaGreatZM3
import Derived.Lib.ItoaMem
import Derived.Deep.RegionHeld3
namespace Go.Proofs.YtoabnejocbnflaaGreat
open Go.RowKit

def decText (n : Nat) : ByteArray := ⟨(Lib.decDigits n).toArray⟩
/-- The text of a mark. -/
def mText (k : Nat) : ByteArray := ⟨#[109]⟩ ++ decText k

theorem bytes_append (a b : List UInt8) : (⟨(a ++ b).toArray⟩ : ByteArray) = ⟨a.toArray⟩ ++ ⟨b.toArray⟩ := by
  apply ByteArray.ext
  simp
theorem strOfNums_dig (n : Nat) : strOfNums [48 + (n : Int) % 10] = ⟨#[UInt8.ofNat (48 + n % 10)]⟩ := by
  have : (48 + (n : Int) % 10).toNat = 48 + n % 10 := by omega
  unfold strOfNums
  simp only [List.map_cons, List.map_nil]
  rw [this]
theorem dec_small {n : Nat} (h : n < 10) : decText n = ⟨#[UInt8.ofNat (48 + n % 10)]⟩ := by
  unfold decText
  rw [Lib.decDigits, dif_pos h, Nat.mod_eq_of_lt h]
theorem dec_big {n : Nat} (h : ¬ n < 10) : decText n = decText (n / 10) ++ ⟨#[UInt8.ofNat (48 + n % 10)]⟩ := by
  unfold decText
  rw [Lib.decDigits, dif_neg h, bytes_append]

set_option maxHeartbeats 800000 in
theorem markText_is (k0 : Nat) (w : World) (h0 : 0 < k0) (h1 : k0 ≤ 1000000000000000) :
    Calls Tryz.prog 34 #[.int .i64 k0] w fun e w' => e = .returned (.string (mText k0)) ∧ Below w.heap.size w w' := by
  have h0' : (0 : Int) < (k0 : Int) := by omega
  go_enter Tryz.func34, Tryz.ntmps34
  go_wp2
  go_loopw [0, 3] (fun q o wr => ∃ (x : Nat) (s : ByteArray), q = .int .i64 x ∧ o = .string s ∧ s.size + x ≤ k0 ∧ Hid ((x = 0 → s = decText k0) ∧ (0 < x → decText x ++ s = decText k0)) ∧ Below w.heap.size w wr) (fun q _ _ => (intOf q).toNat)
  case atStart => exact ⟨k0, ByteArray.empty, rfl, rfl, by simp, ⟨fun h => by omega, fun _ => by simp⟩, Below.refl _ _⟩
  case round =>
    obtain ⟨x, s, rfl, rfl, hsz, HD, hb⟩ := hrel
    by_cases hx : 0 < x
    · have hx' : (0 : Int) < (x : Int) := by omega
      have hcv := run_convert_bytes_arg (P := Tryz.prog) (wr.alloc (.cells #[.int .u8 (48 + (x : Int) % 10)] 5)) 110 5 Tryz.underlying110 Tryz.underlying5 wr.heap.size 0 1 1 [48 + (x : Int) % 10] rfl
        (fun i hi => by have : i = 0 := by omega
                        subst this
                        rw [cell_new]; rfl) 9 Tryz.underlying9
      rw [strOfNums_dig] at hcv
      have hsn : (⟨#[UInt8.ofNat (48 + x % 10)]⟩ : ByteArray).size ≤ 1 := Nat.le_refl _
      have HD2 : Hid ((x / 10 = 0 → (⟨#[UInt8.ofNat (48 + x % 10)]⟩ : ByteArray) ++ s = decText k0) ∧ (0 < x / 10 → decText (x / 10) ++ ((⟨#[UInt8.ofNat (48 + x % 10)]⟩ : ByteArray) ++ s) = decText k0)) := by
        constructor
        · intro h
          rw [← dec_small (by omega)]
          exact HD.out.2 hx
        · intro h
          have := HD.out.2 hx
          rw [dec_big (by omega)] at this
          rw [← ByteArray.append_assoc]
          exact this
      generalize (⟨#[UInt8.ofNat (48 + x % 10)]⟩ : ByteArray) = t at *
      clear HD
      go_wp2
      go_roundw
      case rel => exact ⟨x / 10, t ++ s, by go_num, rfl, by rw [ByteArray.size_append]; omega, HD2, hb.alloc hb.size _⟩
      case measure => simp [intOf]; omega
    · have hx' : (x : Int) ≤ 0 := by omega
      have hx0 : x = 0 := by omega
      have hs : Hid (s = decText k0) := HD.out.1 hx0
      clear HD hx0
      go_wp2
      go_ret
      exact ⟨by unfold mText; rw [← hs.out]; rfl, hb⟩

/-- Of what was there only block g was written. -/
structure Just (g : Nat) (w w' : World) : Prop where
  below : ∀ B, B ≤ g → B ≤ w.heap.size → Below B w w'
  size : w.heap.size ≤ w'.heap.size
  block : ∀ k, k < w.heap.size → k ≠ g → w'.heap[k]? = w.heap[k]?
theorem Just.refl (g : Nat) (w : World) : Just g w w := ⟨fun _ _ _ => Below.refl _ _, Nat.le_refl _, fun _ _ _ => rfl⟩
theorem Just.trans {g : Nat} {a b c : World} (h : Just g a b) (k : Just g b c) : Just g a c :=
  ⟨fun B h1 h2 => (h.below B h1 h2).trans (k.below B h1 (Nat.le_trans h2 h.size)), Nat.le_trans h.size k.size, fun i hi hg => by rw [k.block i (by have := h.size; omega) hg]; exact h.block i hi hg⟩
theorem Just.of {g : Nat} {a b : World} (h : Below a.heap.size a b) : Just g a b := ⟨fun _ _ h2 => h.mono h2, h.size, fun k hk _ => h.block k hk⟩
theorem Just.set {g i : Nat} {a b : World} (h : Just g a b) (v : Value) : Just g a (b.setCell ⟨g, i, none⟩ v) :=
  ⟨fun B h1 h2 => (h.below B h1 h2).setCell h1 _, by have := h.size; simpa using this, fun k hk hg => by rw [Below.heap_setCell _ _ _ _ hg]; exact h.block k hk hg⟩
theorem Just.kept {g k : Nat} {a b : World} {o : Obj} (h : Just g a b) (ho : a.heap[k]? = some o) (hk : k ≠ g) : b.heap[k]? = some o := by rw [h.block k (lt_block ho) hk]; exact ho

/-- The marks in a block of values. -/
def MarkV (w : World) (g n m k0 : Nat) : Prop := ∃ cur : Array Value, w.heap[g]? = some (Obj.cells cur 32 (0, 0)) ∧ cur.size = n * 3 ∧ ∀ j, j < m → cur[j * 3]? = some (.int .i64 ((k0 + 3 * j : Nat) : Int)) ∧ cur[j * 3 + 1]? = some (.int .i64 ((k0 + 3 * j + 1 : Nat) : Int)) ∧ cur[j * 3 + 2]? = some (.string (mText (k0 + 3 * j + 2)))
theorem MarkV.mono {w w' : World} {g n m k0 : Nat} (h : MarkV w g n m k0) (hb : Below w.heap.size w w') : MarkV w' g n m k0 := by
  obtain ⟨c, h1, h2⟩ := h
  exact ⟨c, block_kept h1 hb, h2⟩

set_option maxRecDepth 100000 in
set_option maxHeartbeats 2000000 in
theorem markValueS_is (g n cap k0 : Nat) (w : World) (hn : n ≤ 1048576) (h1 : k0 ≤ 100000000000000) (hblk0 : ValsBlk w g n) :
    Calls Tryz.prog 14 #[.slice (some ⟨g, 0, none⟩) n cap, .int .i64 (k0 : Int)] w fun e w' => e = .returned (.int .i64 ((k0 + 3 * n : Nat) : Int)) ∧ Just g w w' ∧ MarkV w' g n n k0 := by
  go_enter Tryz.func14, Tryz.ntmps14
  go_wp2
  go_loopw [1, 5] (fun q i wr => ∃ (k : Nat), k ≤ n ∧ i = .int .i64 k ∧ q = .int .i64 ((k0 + 3 * k : Nat) : Int) ∧ Just g w wr ∧ MarkV wr g n k k0) (fun _ i _ => n - (intOf i).toNat)
  case atStart =>
    obtain ⟨c, k1, k2⟩ := hblk0
    exact ⟨0, by omega, rfl, rfl, Just.refl _ _, ⟨c, k1, k2, fun _ h => absurd h (Nat.not_lt_zero _)⟩⟩
  case round =>
    obtain ⟨k, hk, rfl, rfl, hj, cur, hC, hcs, hd⟩ := hrel
    have HC : Hid (cur.size = n * 3) := hcs
    have HD : Hid (∀ j, j < k → cur[j * 3]? = some (.int .i64 ((k0 + 3 * j : Nat) : Int)) ∧ cur[j * 3 + 1]? = some (.int .i64 ((k0 + 3 * j + 1 : Nat) : Int)) ∧ cur[j * 3 + 2]? = some (.string (mText (k0 + 3 * j + 2)))) := hd
    clear hd
    by_cases hlt : k < n
    · have hfz := block_free hC
      obtain ⟨y1, hcl⟩ : ∃ v, wr.cell? ⟨g, k * 3, none⟩ = some v := ⟨cur[k * 3]'(by rw [HC.out]; omega), by rw [block_cell hC]; exact Array.getElem?_eq_getElem _⟩
      obtain ⟨y2, hcl2⟩ : ∃ v, wr.cell? ⟨g, k * 3 + 1, none⟩ = some v := ⟨cur[k * 3 + 1]'(by rw [HC.out]; omega), by rw [block_cell hC]; exact Array.getElem?_eq_getElem _⟩
      clear hcs
      obtain ⟨wx, hwx⟩ : ∃ wx, wx = (wr.setCell ⟨g, k * 3, none⟩ (.int .i64 ((k0 + 3 * k : Nat) : Int))).setCell ⟨g, k * 3 + 1, none⟩ (.int .i64 ((k0 + 3 * k + 1 : Nat) : Int)) := ⟨_, rfl⟩
      have hCx : wx.heap[g]? = some (.cells ((cur.setIfInBounds (k * 3) (.int .i64 ((k0 + 3 * k : Nat) : Int))).setIfInBounds (k * 3 + 1) (.int .i64 ((k0 + 3 * k + 1 : Nat) : Int))) 32 (0, 0)) := by rw [hwx]; exact block_set (block_set hC _) _
      have hjx : Just g w wx := by rw [hwx]; exact (hj.set _).set _
      have e1 : ((k0 + 3 * k : Nat) : Int) + 1 = ((k0 + 3 * k + 1 : Nat) : Int) := by omega
      have e2 : ((k0 + 3 * k + 1 : Nat) : Int) + 1 = ((k0 + 3 * k + 2 : Nat) : Int) := by omega
      obtain ⟨A0, hA0⟩ : ∃ A0 : Int, A0 = ((k0 + 3 * k : Nat) : Int) := ⟨_, rfl⟩
      have hA1 : Hid (A0 = ((k0 + 3 * k : Nat) : Int)) := hA0
      have hAlo : 0 ≤ A0 := by omega
      have hAhi : A0 ≤ 200000000000000 := by omega
      rw [← hA0] at hwx ⊢
      rw [show ((k0 + 3 * k + 1 : Nat) : Int) = A0 + 1 by omega] at hwx
      clear hA0 e1 e2
      go_wp2_with fail
      rw [← hwx]
      have hmt := markText_is (k0 + 3 * k + 2) wx (by omega) (by omega)
      rw [show ((k0 + 3 * k + 2 : Nat) : Int) = A0 + 1 + 1 by have := hA1.out; omega] at hmt
      refine hmt.mono ?_
      rintro e w2 ⟨rfl, hb2⟩
      have hC2 := block_kept hCx hb2
      have hj2 := hjx.trans (Just.of hb2)
      have hfz2 := block_free hC2
      obtain ⟨y3, hcl3⟩ : ∃ v, w2.cell? ⟨g, k * 3 + 2, none⟩ = some v := ⟨_, by rw [block_cell hC2]; exact Array.getElem?_eq_getElem (by have := HC.out; simp; omega)⟩
      clear hmt hwx hC hCx hjx hb2 hfz hcl hcl2 hj
      go_wp2
      go_roundw
      case rel =>
        have hcs := HC.out
        have hA := hA1.out
        refine ⟨k + 1, by omega, by go_num, by rw [show ((k0 + 3 * (k + 1) : Nat) : Int) = A0 + 1 + 1 + 1 by omega], hj2.set _, _, block_set hC2 _, by simpa using hcs, ?_⟩
        intro j hj
        by_cases e : j = k
        · subst e
          refine ⟨?_, ?_, ?_⟩
          · rw [set_else _ (by omega), set_else _ (by omega)]; exact set_self _ (by omega)
          · rw [set_else _ (by omega)]; exact set_self _ (by simp; omega)
          · exact set_self _ (by simp; omega)
        · obtain ⟨d1, d2, d3⟩ := HD.out j (by omega)
          refine ⟨?_, ?_, ?_⟩
          · rw [set_else _ (by omega), set_else _ (by omega), set_else _ (by omega)]; exact d1
          · rw [set_else _ (by omega), set_else _ (by omega), set_else _ (by omega)]; exact d2
          · rw [set_else _ (by omega), set_else _ (by omega), set_else _ (by omega)]; exact d3
      case measure => simp [intOf]; omega
    · go_wp2
      go_ret
      have hkn : k = n := by omega
      subst hkn
      exact ⟨rfl, hj, cur, hC, hcs, HD.out⟩

set_option maxRecDepth 100000 in
set_option maxHeartbeats 2000000 in
theorem heldValueS_is (g n cap k0 : Nat) (w : World) (hn : n ≤ 1048576) (h0 : 0 < k0) (h1 : k0 ≤ 1000000000) (hk : MarkV w g n n k0) :
    Calls Tryz.prog 86 #[.slice (some ⟨g, 0, none⟩) n cap, .int .i64 (k0 : Int)] w fun e w' => e = .returned (.int .i64 ((k0 + 3 * n : Nat) : Int)) ∧ Below w.heap.size w w' := by
  go_enter Tryz.func86, Tryz.ntmps86
  go_wp2
  go_loopw [1, 5] (fun q i wr => ∃ (k : Nat), k ≤ n ∧ i = .int .i64 k ∧ q = .int .i64 ((k0 + 3 * k : Nat) : Int) ∧ Below w.heap.size w wr) (fun _ i _ => n - (intOf i).toNat)
  case atStart => exact ⟨0, by omega, rfl, rfl, Below.refl _ _⟩
  case round =>
    obtain ⟨k, hkn, rfl, rfl, hb⟩ := hrel
    by_cases hlt : k < n
    · obtain ⟨cur, hC, -, hd⟩ := hk
      obtain ⟨d1, d2, d3⟩ := hd k hlt
      have c1 := cell_later hb (show w.cell? ⟨g, k * 3, none⟩ = _ by rw [block_cell hC]; exact d1)
      have c2 := cell_later hb (show w.cell? ⟨g, k * 3 + 1, none⟩ = _ by rw [block_cell hC]; exact d2)
      have c3 := cell_later hb (show w.cell? ⟨g, k * 3 + 2, none⟩ = _ by rw [block_cell hC]; exact d3)
      clear hd d1 d2 d3
      obtain ⟨A0, hA0⟩ : ∃ A0 : Int, A0 = ((k0 + 3 * k : Nat) : Int) := ⟨_, rfl⟩
      have hA1 : Hid (A0 = ((k0 + 3 * k : Nat) : Int)) := hA0
      have hAlo : 0 ≤ A0 := by omega
      have hAhi : A0 ≤ 2000000000 := by omega
      rw [← hA0] at c1 ⊢
      rw [show ((k0 + 3 * k + 1 : Nat) : Int) = A0 + 1 by omega] at c2
      have hmt := fun W => markText_is (k0 + 3 * k + 2) W (by omega) (by omega)
      rw [show ((k0 + 3 * k + 2 : Nat) : Int) = A0 + 1 + 1 by omega] at hmt
      have HMT : Hid (∀ W, Calls Tryz.prog 34 #[.int .i64 (A0 + 1 + 1)] W fun e w' => e = .returned (.string (mText (k0 + 3 * k + 2))) ∧ Below W.heap.size W w') := hmt
      obtain ⟨T, hT⟩ : ∃ T, T = mText (k0 + 3 * k + 2) := ⟨_, rfl⟩
      rw [← hT] at c3 HMT
      clear hA0 hmt hT
      have HSv : Hid (∀ w', Below wr.heap.size wr w' → w'.cell? ⟨g, k * 3 + 2, none⟩ = some (.string T)) := fun w' hb' => cell_later hb' c3
      have q : Below wr.heap.size wr wr.drew := (Below.refl _ _).drew
      go_wp2
      go_region_held3 (fun w' => w'.cell? ⟨g, k * 3 + 2, none⟩ = some (.string T))
        (first | exact c3 | exact HSv.out _ q)
        (first
          | (go_at_call 34; refine (HMT.out _).mono ?_; rintro e w5 ⟨rfl, kd⟩; have q := q.trans (kd.mono q.size)))
      have hB := hb.trans (q.mono hb.size)
      go_wp2
      go_roundw
      case rel => exact ⟨k + 1, by omega, by go_num, by rw [show ((k0 + 3 * (k + 1) : Nat) : Int) = A0 + 1 + 1 + 1 by have := hA1.out; omega], hB⟩
      case measure => simp [intOf]; omega
    · have hkn2 : k = n := by omega
      subst hkn2
      go_wp2
      go_ret
      exact ⟨rfl, hb⟩

set_option maxHeartbeats 400000 in
theorem markFrameS_nil (k : Int) (w : World) : Calls Tryz.prog 58 #[.slice none 0 0, .int .i64 k] w fun e w' => e = .returned (.int .i64 k) ∧ w' = w := by
  go_enter Tryz.func58, Tryz.ntmps58
  go_wp2
  go_loopw [1, 5] (fun q i wr => q = .int .i64 k ∧ i = .int .i64 0 ∧ wr = w) (fun _ _ _ => 0)
  case atStart => exact ⟨rfl, rfl, rfl⟩
  case round =>
    obtain ⟨rfl, rfl, rfl⟩ := hrel
    go_wp2
    go_ret
    exact ⟨rfl, rfl⟩

set_option maxHeartbeats 400000 in
theorem markRecS_nil (k : Int) (w : World) : Calls Tryz.prog 59 #[.slice none 0 0, .int .i64 k] w fun e w' => e = .returned (.int .i64 k) ∧ w' = w := by
  go_enter Tryz.func59, Tryz.ntmps59
  go_wp2
  go_loopw [1, 5] (fun q i wr => q = .int .i64 k ∧ i = .int .i64 0 ∧ wr = w) (fun _ _ _ => 0)
  case atStart => exact ⟨rfl, rfl, rfl⟩
  case round =>
    obtain ⟨rfl, rfl, rfl⟩ := hrel
    go_wp2
    go_ret
    exact ⟨rfl, rfl⟩

set_option maxHeartbeats 400000 in
theorem markStringS_nil (k : Int) (w : World) : Calls Tryz.prog 32 #[.slice none 0 0, .int .i64 k] w fun e w' => e = .returned (.int .i64 k) ∧ w' = w := by
  go_enter Tryz.func32, Tryz.ntmps32
  go_wp2
  go_loopw [1, 5] (fun q i wr => q = .int .i64 k ∧ i = .int .i64 0 ∧ wr = w) (fun _ _ _ => 0)
  case atStart => exact ⟨rfl, rfl, rfl⟩
  case round =>
    obtain ⟨rfl, rfl, rfl⟩ := hrel
    go_wp2
    go_ret
    exact ⟨rfl, rfl⟩

set_option maxHeartbeats 400000 in
theorem heldFrameS_nil (k : Int) (w : World) : Calls Tryz.prog 62 #[.slice none 0 0, .int .i64 k] w fun e w' => e = .returned (.int .i64 k) ∧ w' = w := by
  go_enter Tryz.func62, Tryz.ntmps62
  go_wp2
  go_loopw [1, 5] (fun q i wr => q = .int .i64 k ∧ i = .int .i64 0 ∧ wr = w) (fun _ _ _ => 0)
  case atStart => exact ⟨rfl, rfl, rfl⟩
  case round =>
    obtain ⟨rfl, rfl, rfl⟩ := hrel
    go_wp2
    go_ret
    exact ⟨rfl, rfl⟩

set_option maxHeartbeats 400000 in
theorem heldRecS_nil (k : Int) (w : World) : Calls Tryz.prog 63 #[.slice none 0 0, .int .i64 k] w fun e w' => e = .returned (.int .i64 k) ∧ w' = w := by
  go_enter Tryz.func63, Tryz.ntmps63
  go_wp2
  go_loopw [1, 5] (fun q i wr => q = .int .i64 k ∧ i = .int .i64 0 ∧ wr = w) (fun _ _ _ => 0)
  case atStart => exact ⟨rfl, rfl, rfl⟩
  case round =>
    obtain ⟨rfl, rfl, rfl⟩ := hrel
    go_wp2
    go_ret
    exact ⟨rfl, rfl⟩

set_option maxHeartbeats 400000 in
theorem heldStringS_nil (k : Int) (w : World) : Calls Tryz.prog 64 #[.slice none 0 0, .int .i64 k] w fun e w' => e = .returned (.int .i64 k) ∧ w' = w := by
  go_enter Tryz.func64, Tryz.ntmps64
  go_wp2
  go_loopw [1, 5] (fun q i wr => q = .int .i64 k ∧ i = .int .i64 0 ∧ wr = w) (fun _ _ _ => 0)
  case atStart => exact ⟨rfl, rfl, rfl⟩
  case round =>
    obtain ⟨rfl, rfl, rfl⟩ := hrel
    go_wp2
    go_ret
    exact ⟨rfl, rfl⟩

set_option maxHeartbeats 400000 in
theorem markValueS_nil (k : Int) (w : World) : Calls Tryz.prog 14 #[.slice none 0 0, .int .i64 k] w fun e w' => e = .returned (.int .i64 k) ∧ w' = w := by
  go_enter Tryz.func14, Tryz.ntmps14
  go_wp2
  go_loopw [1, 5] (fun q i wr => q = .int .i64 k ∧ i = .int .i64 0 ∧ wr = w) (fun _ _ _ => 0)
  case atStart => exact ⟨rfl, rfl, rfl⟩
  case round =>
    obtain ⟨rfl, rfl, rfl⟩ := hrel
    go_wp2
    go_ret
    exact ⟨rfl, rfl⟩

set_option maxHeartbeats 400000 in
theorem heldValueS_nil (k : Int) (w : World) : Calls Tryz.prog 86 #[.slice none 0 0, .int .i64 k] w fun e w' => e = .returned (.int .i64 k) ∧ w' = w := by
  go_enter Tryz.func86, Tryz.ntmps86
  go_wp2
  go_loopw [1, 5] (fun q i wr => q = .int .i64 k ∧ i = .int .i64 0 ∧ wr = w) (fun _ _ _ => 0)
  case atStart => exact ⟨rfl, rfl, rfl⟩
  case round =>
    obtain ⟨rfl, rfl, rfl⟩ := hrel
    go_wp2
    go_ret
    exact ⟨rfl, rfl⟩

end Go.Proofs.YtoabnejocbnflaaGreat
namespace Go.Proofs.YtoabnejocbnflaaGreat
open Go.RowKit

/-- Of what was there only two blocks were written. -/
structure Pair (G g : Nat) (w w' : World) : Prop where
  below : ∀ B, B ≤ G → B ≤ g → B ≤ w.heap.size → Below B w w'
  size : w.heap.size ≤ w'.heap.size
  block : ∀ k, k < w.heap.size → k ≠ G → k ≠ g → w'.heap[k]? = w.heap[k]?
theorem Pair.refl (G g : Nat) (w : World) : Pair G g w w := ⟨fun _ _ _ _ => Below.refl _ _, Nat.le_refl _, fun _ _ _ _ => rfl⟩
theorem Pair.trans {G g : Nat} {a b c : World} (h : Pair G g a b) (k : Pair G g b c) : Pair G g a c :=
  ⟨fun B h1 h2 h3 => (h.below B h1 h2 h3).trans (k.below B h1 h2 (Nat.le_trans h3 h.size)), Nat.le_trans h.size k.size, fun i hi hG hg => by rw [k.block i (by have := h.size; omega) hG hg]; exact h.block i hi hG hg⟩
theorem Pair.of {G g : Nat} {a b : World} (h : Below a.heap.size a b) : Pair G g a b := ⟨fun _ _ _ h3 => h.mono h3, h.size, fun k hk _ _ => h.block k hk⟩
theorem Pair.just {G g : Nat} {a b : World} (h : Just g a b) : Pair G g a b := ⟨fun B _ h2 h3 => h.below B h2 h3, h.size, fun k hk _ hg => h.block k hk hg⟩
theorem Pair.set {G g i : Nat} {a b : World} (h : Pair G g a b) (v : Value) : Pair G g a (b.setCell ⟨G, i, none⟩ v) :=
  ⟨fun B h1 h2 h3 => (h.below B h1 h2 h3).setCell h1 _, by have := h.size; simpa using this, fun k hk hG hg => by rw [Below.heap_setCell _ _ _ _ hG]; exact h.block k hk hG hg⟩
theorem Pair.kept {G g k : Nat} {a b : World} {o : Obj} (h : Pair G g a b) (ho : a.heap[k]? = some o) (hG : k ≠ G) (hg : k ≠ g) : b.heap[k]? = some o := by rw [h.block k (lt_block ho) hG hg]; exact ho

/-- A frame that was marked. -/
def Marked (w : World) (G g L : Nat) : Prop := w.heap[G]? = some (.cells #[.int .i64 1, .int .i64 2, .slice (some ⟨g, 0, none⟩) L L, .slice none 0 0] 87 (0, 0)) ∧ MarkV w g L L 3
theorem Marked.mono {w w' : World} {G g L : Nat} (h : Marked w G g L) (hb : Below w.heap.size w w') : Marked w' G g L := ⟨block_kept h.1 hb, h.2.mono hb⟩

set_option maxRecDepth 100000 in
set_option maxHeartbeats 2000000 in
theorem markFrameS_one (G g L cap : Nat) (w : World) (hL : L ≤ 12) (hG : w.heap[G]? = some (.cells #[.int .i64 0, .int .i64 0, .slice (some ⟨g, 0, none⟩) L L, .slice none 0 0] 87 (0, 0))) (hg : ValsBlk w g L) :
    Calls Tryz.prog 58 #[.slice (some ⟨G, 0, none⟩) 1 cap, .int .i64 1] w fun e w' => e = .returned (.int .i64 ((3 + 3 * L : Nat) : Int)) ∧ Pair G g w w' ∧ Marked w' G g L := by
  have hne : g ≠ G := by
    obtain ⟨c, h1, -⟩ := hg
    intro e; rw [e, hG] at h1; simp at h1
  go_enter Tryz.func58, Tryz.ntmps58
  go_wp2
  go_loopw [1, 5] (fun q i wr => (q = .int .i64 1 ∧ i = .int .i64 0 ∧ wr = w) ∨ (q = .int .i64 ((3 + 3 * L : Nat) : Int) ∧ i = .int .i64 1 ∧ Pair G g w wr ∧ Marked wr G g L)) (fun _ i _ => 1 - (intOf i).toNat)
  case atStart => exact .inl ⟨rfl, rfl, rfl⟩
  case round =>
    rcases hrel with ⟨rfl, rfl, rfl⟩ | ⟨rfl, rfl, hp, hmk⟩
    · obtain ⟨wx, hwx⟩ : ∃ wx, wx = (wr.setCell ⟨G, 0, none⟩ (.int .i64 1)).setCell ⟨G, 1, none⟩ (.int .i64 2) := ⟨_, rfl⟩
      have hGx : wx.heap[G]? = some (.cells #[.int .i64 1, .int .i64 2, .slice (some ⟨g, 0, none⟩) L L, .slice none 0 0] 87 (0, 0)) := by rw [hwx]; simpa using block_set (i := 1) (block_set (i := 0) hG (.int .i64 1)) (.int .i64 2)
      have hpx : Pair G g wr wx := by rw [hwx]; exact ((Pair.refl _ _ _).set _).set _
      have hgx : ValsBlk wx g L := by
        obtain ⟨c, h1, h2⟩ := hg
        exact ⟨c, by rw [hwx, Below.heap_setCell _ _ _ _ hne, Below.heap_setCell _ _ _ _ hne]; exact h1, h2⟩
      have f1 := block_cell hG
      have f2 := block_free hG
      go_wp2_with fail
      rw [← hwx]
      clear f1 f2 hwx
      refine (markValueS_is g L L 3 wx (by omega) (by omega) hgx).mono ?_
      rintro e w2 ⟨rfl, hj, hmv⟩
      have hG2 := hj.kept hGx (fun e => hne e.symm)
      have hp2 := hpx.trans (Pair.just hj)
      have x2 := block_cell hG2
      go_wp2_with (go_at_call 14; refine (markValueS_nil _ _).mono ?_; rintro e w3 ⟨rfl, hw⟩; rw [hw]; clear hw w3)
      go_roundw
      case rel => exact .inr ⟨rfl, rfl, hp2, hG2, hmv⟩
      case measure => simp [intOf]
    · go_wp2
      go_ret
      exact ⟨rfl, hp, hmk⟩

set_option maxRecDepth 100000 in
set_option maxHeartbeats 2000000 in
theorem heldFrameS_one (G g L cap : Nat) (w : World) (hL : L ≤ 12) (hmk : Marked w G g L) :
    Calls Tryz.prog 62 #[.slice (some ⟨G, 0, none⟩) 1 cap, .int .i64 1] w fun e w' => e = .returned (.int .i64 ((3 + 3 * L : Nat) : Int)) ∧ Below w.heap.size w w' := by
  go_enter Tryz.func62, Tryz.ntmps62
  go_wp2
  go_loopw [1, 5] (fun q i wr => (q = .int .i64 1 ∧ i = .int .i64 0 ∧ wr = w) ∨ (q = .int .i64 ((3 + 3 * L : Nat) : Int) ∧ i = .int .i64 1 ∧ Below w.heap.size w wr)) (fun _ i _ => 1 - (intOf i).toNat)
  case atStart => exact .inl ⟨rfl, rfl, rfl⟩
  case round =>
    rcases hrel with ⟨rfl, rfl, rfl⟩ | ⟨rfl, rfl, hb⟩
    · have f1 := block_cell hmk.1
      go_wp2_with fail
      refine (heldValueS_is g L L 3 _ (by omega) (by omega) (by omega) hmk.2).mono ?_
      rintro e w2 ⟨rfl, hb2⟩
      have x2 := block_cell (block_kept hmk.1 hb2)
      obtain ⟨A0, hA0⟩ : ∃ A0 : Int, A0 = ((3 + 3 * L : Nat) : Int) := ⟨_, rfl⟩
      have hAlo : 0 ≤ A0 := by omega
      have HA : Hid (A0 = ((3 + 3 * L : Nat) : Int)) := hA0
      rw [← hA0]
      clear hA0 f1
      go_wp2_with (go_at_call 86; refine (heldValueS_nil _ _).mono ?_; rintro e w3 ⟨rfl, hw⟩; rw [hw]; clear hw w3)
      go_roundw
      case rel => exact .inr ⟨by rw [HA.out], rfl, hb2⟩
      case measure => simp [intOf]
    · go_wp2
      go_ret
      exact ⟨rfl, hb⟩

set_option maxRecDepth 100000 in
set_option maxHeartbeats 2000000 in
theorem markVm_one (G g L : Nat) (w : World) (hL : L ≤ 12) (hG : w.heap[G]? = some (.cells #[.int .i64 0, .int .i64 0, .slice (some ⟨g, 0, none⟩) L L, .slice none 0 0] 87 (0, 0))) (hg : ValsBlk w g L) :
    Calls Tryz.prog 35 #[.agg #[.slice (some ⟨G, 0, none⟩) 1 1, .slice none 0 0, .int .i64 0, .slice none 0 0, .int .i64 0, .int .i64 0, .int .i64 0, .int .i64 0, .string ⟨#[]⟩, .int .i64 0], .int .i64 1] w fun e w' => e = .returned (.int .i64 ((3 + 3 * L : Nat) : Int)) ∧ Pair G g w w' ∧ Marked w' G g L := by
  have hbA : Below w.heap.size w (w.alloc (.cells #[.slice (some ⟨G, 0, none⟩) 1 1, .slice none 0 0, .int .i64 0, .slice none 0 0, .int .i64 0, .int .i64 0, .int .i64 0, .int .i64 0, .string ⟨#[]⟩, .int .i64 0] 34)) := (Below.refl _ _).alloc (Nat.le_refl _) _
  have hB0 := block_new w #[.slice (some ⟨G, 0, none⟩) 1 1, .slice none 0 0, .int .i64 0, .slice none 0 0, .int .i64 0, .int .i64 0, .int .i64 0, .int .i64 0, .string ⟨#[]⟩, .int .i64 0] 34
  have hGl := lt_block hG
  have hgl : g < w.heap.size := by obtain ⟨c, h1, -⟩ := hg; exact lt_block h1
  go_enter Tryz.func35, Tryz.ntmps35
  go_wp2_with fail
  refine (markFrameS_one G g L _ _ hL (block_kept hG hbA) (hg.mono hbA)).mono ?_
  rintro e w1 ⟨rfl, hp, hmk⟩
  have b1 := block_cell (hp.kept hB0 (by omega) (by omega))
  go_wp2_with (first
    | (go_at_call 59; refine (markRecS_nil _ _).mono ?_; rintro e w3 ⟨rfl, hw⟩; rw [hw]; clear hw w3)
    | (go_at_call 32; refine (markStringS_nil _ _).mono ?_; rintro e w3 ⟨rfl, hw⟩; rw [hw]; clear hw w3))
  go_ret
  exact ⟨rfl, (Pair.of hbA).trans hp, hmk⟩

set_option maxRecDepth 100000 in
set_option maxHeartbeats 2000000 in
theorem markVm_zero (w : World) :
    Calls Tryz.prog 35 #[.agg #[.slice none 0 0, .slice none 0 0, .int .i64 0, .slice none 0 0, .int .i64 0, .int .i64 0, .int .i64 0, .int .i64 0, .string ⟨#[]⟩, .int .i64 0], .int .i64 1] w fun e w' => e = .returned (.int .i64 1) ∧ Below w.heap.size w w' := by
  have hbA : Below w.heap.size w (w.alloc (.cells #[.slice none 0 0, .slice none 0 0, .int .i64 0, .slice none 0 0, .int .i64 0, .int .i64 0, .int .i64 0, .int .i64 0, .string ⟨#[]⟩, .int .i64 0] 34)) := (Below.refl _ _).alloc (Nat.le_refl _) _
  go_enter Tryz.func35, Tryz.ntmps35
  go_wp2_with (first
    | (go_at_call 58; refine (markFrameS_nil _ _).mono ?_; rintro e w3 ⟨rfl, hw⟩; rw [hw]; clear hw w3)
    | (go_at_call 59; refine (markRecS_nil _ _).mono ?_; rintro e w3 ⟨rfl, hw⟩; rw [hw]; clear hw w3)
    | (go_at_call 32; refine (markStringS_nil _ _).mono ?_; rintro e w3 ⟨rfl, hw⟩; rw [hw]; clear hw w3))
  go_ret
  exact ⟨rfl, hbA⟩

set_option maxRecDepth 100000 in
set_option maxHeartbeats 2000000 in
theorem heldVm_zero (w : World) :
    Calls Tryz.prog 39 #[.agg #[.slice none 0 0, .slice none 0 0, .int .i64 0, .slice none 0 0, .int .i64 0, .int .i64 0, .int .i64 0, .int .i64 0, .string ⟨#[]⟩, .int .i64 0], .int .i64 1] w fun e w' => e = .returned (.int .i64 1) ∧ Below w.heap.size w w' := by
  have hbA : Below w.heap.size w (w.alloc (.cells #[.slice none 0 0, .slice none 0 0, .int .i64 0, .slice none 0 0, .int .i64 0, .int .i64 0, .int .i64 0, .int .i64 0, .string ⟨#[]⟩, .int .i64 0] 34)) := (Below.refl _ _).alloc (Nat.le_refl _) _
  go_enter Tryz.func39, Tryz.ntmps39
  go_wp2_with (first
    | (go_at_call 62; refine (heldFrameS_nil _ _).mono ?_; rintro e w3 ⟨rfl, hw⟩; rw [hw]; clear hw w3)
    | (go_at_call 63; refine (heldRecS_nil _ _).mono ?_; rintro e w3 ⟨rfl, hw⟩; rw [hw]; clear hw w3)
    | (go_at_call 64; refine (heldStringS_nil _ _).mono ?_; rintro e w3 ⟨rfl, hw⟩; rw [hw]; clear hw w3))
  go_ret
  exact ⟨rfl, hbA⟩

set_option maxRecDepth 100000 in
set_option maxHeartbeats 2000000 in
theorem heldVm_one (G g L : Nat) (w : World) (hL : L ≤ 12) (hmk : Marked w G g L) :
    Calls Tryz.prog 39 #[.agg #[.slice (some ⟨G, 0, none⟩) 1 1, .slice none 0 0, .int .i64 0, .slice none 0 0, .int .i64 0, .int .i64 0, .int .i64 0, .int .i64 0, .string ⟨#[]⟩, .int .i64 0], .int .i64 1] w fun e w' => e = .returned (.int .i64 ((3 + 3 * L : Nat) : Int)) ∧ Below w.heap.size w w' := by
  have hbA : Below w.heap.size w (w.alloc (.cells #[.slice (some ⟨G, 0, none⟩) 1 1, .slice none 0 0, .int .i64 0, .slice none 0 0, .int .i64 0, .int .i64 0, .int .i64 0, .int .i64 0, .string ⟨#[]⟩, .int .i64 0] 34)) := (Below.refl _ _).alloc (Nat.le_refl _) _
  have hB0 := block_new w #[.slice (some ⟨G, 0, none⟩) 1 1, .slice none 0 0, .int .i64 0, .slice none 0 0, .int .i64 0, .int .i64 0, .int .i64 0, .int .i64 0, .string ⟨#[]⟩, .int .i64 0] 34
  go_enter Tryz.func39, Tryz.ntmps39
  go_wp2_with fail
  refine (heldFrameS_one G g L _ _ hL (hmk.mono hbA)).mono ?_
  rintro e w1 ⟨rfl, hb⟩
  have b1 := block_cell (block_kept hB0 hb)
  have hB := hbA.trans (hb.mono hbA.size)
  obtain ⟨A0, hA0⟩ : ∃ A0 : Int, A0 = ((3 + 3 * L : Nat) : Int) := ⟨_, rfl⟩
  have hAlo : 0 ≤ A0 := by omega
  have HA : Hid (A0 = ((3 + 3 * L : Nat) : Int)) := hA0
  rw [← hA0]
  clear hA0
  go_wp2_with (first
    | (go_at_call 63; refine (heldRecS_nil _ _).mono ?_; rintro e w3 ⟨rfl, hw⟩; rw [hw]; clear hw w3)
    | (go_at_call 64; refine (heldStringS_nil _ _).mono ?_; rintro e w3 ⟨rfl, hw⟩; rw [hw]; clear hw w3))
  go_ret
  exact ⟨ret_int (by have := HA.out; omega), hB⟩
end Go.Proofs.YtoabnejocbnflaaGreat
