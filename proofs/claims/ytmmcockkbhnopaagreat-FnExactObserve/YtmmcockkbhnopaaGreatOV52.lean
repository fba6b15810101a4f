/-
  What the marking functions write into a list of values, and that what was marked is found again.
  Marks in a state of one frame, and that they are found again.
  Marks in a copy of a state: what they may write.
  Marks in a copy of a state: records, texts, and the state.
  Marks in a copy of a state: the state.
  Marks of a module: only blocks of its own are written.
  A state in blocks between two places.
  From the form in which an argument is read to the predicates on lists of values, of records, of frames, and on states.
-/
import Derived.Test.YtmmcockkbhnopaaGreatOV29
import Derived.Test.YtmmcockkbhnopaaGreatOV37
import Derived.Test.YtmmcockkbhnopaaGreatOV32
import Derived.Lib.ItoaMem
import Derived.Deep.RegionHeld3
import Derived.Test.YtmmcockkbhnopaaGreatOV38
import Derived.Test.YtmmcockkbhnopaaGreatOV9
import Derived.Test.YtmmcockkbhnopaaGreatOV30
import Derived.Lib.SmallJoins
namespace Go.Proofs.YtmmcockkbhnopaaGreat
open Go.RowKit

def decText (n : Nat) : ByteArray := ⟨(Lib.decDigits n).toArray⟩
/-- The text of a mark. -/
def mText (k : Nat) : ByteArray := ⟨#[109]⟩ ++ decText k

theorem bytes_append (a b : List UInt8) : (⟨(a ++ b).toArray⟩ : ByteArray) = ⟨a.toArray⟩ ++ ⟨b.toArray⟩ := by
  apply ByteArray.ext
  simp
theorem strOfNums_dig (n : Nat) : strOfNums [48 + (n : Int) % 10] = ⟨#[UInt8.ofNat (48 + n % 10)]⟩ := by
  have : (48 + (n : Int) % 10).toNat = 48 + n % 10 := by omega
  unfold strOfNums
  simp only [List.map_cons, List.map_nil]
  rw [this]
theorem dec_small {n : Nat} (h : n < 10) : decText n = ⟨#[UInt8.ofNat (48 + n % 10)]⟩ := by
  unfold decText
  rw [Lib.decDigits, dif_pos h, Nat.mod_eq_of_lt h]
theorem dec_big {n : Nat} (h : ¬ n < 10) : decText n = decText (n / 10) ++ ⟨#[UInt8.ofNat (48 + n % 10)]⟩ := by
  unfold decText
  rw [Lib.decDigits, dif_neg h, bytes_append]

set_option maxHeartbeats 800000 in
theorem markText_is (k0 : Nat) (w : World) (h0 : 0 < k0) (h1 : k0 ≤ 1000000000000000) :
    Calls Tryz.prog 83 #[.int .i64 k0] w fun e w' => e = .returned (.string (mText k0)) ∧ Below w.heap.size w w' := by
  have h0' : (0 : Int) < (k0 : Int) := by omega
  go_enter Tryz.func83, Tryz.ntmps83
  go_wp2
  go_loopw [0, 3] (fun q o wr => ∃ (x : Nat) (s : ByteArray), q = .int .i64 x ∧ o = .string s ∧ s.size + x ≤ k0 ∧ Hid ((x = 0 → s = decText k0) ∧ (0 < x → decText x ++ s = decText k0)) ∧ Below w.heap.size w wr) (fun q _ _ => (intOf q).toNat)
  case atStart => exact ⟨k0, ByteArray.empty, rfl, rfl, by simp, ⟨fun h => by omega, fun _ => by simp⟩, Below.refl _ _⟩
  case round =>
    obtain ⟨x, s, rfl, rfl, hsz, HD, hb⟩ := hrel
    by_cases hx : 0 < x
    · have hx' : (0 : Int) < (x : Int) := by omega
      have hcv := run_convert_bytes_arg (P := Tryz.prog) (wr.alloc (.cells #[.int .u8 (48 + (x : Int) % 10)] 5)) 177 5 Tryz.underlying177 Tryz.underlying5 wr.heap.size 0 1 1 [48 + (x : Int) % 10] rfl
        (fun i hi => by have : i = 0 := by omega
                        subst this
                        rw [cell_new]; rfl) 9 Tryz.underlying9
      rw [strOfNums_dig] at hcv
      have hsn : (⟨#[UInt8.ofNat (48 + x % 10)]⟩ : ByteArray).size ≤ 1 := Nat.le_refl _
      have HD2 : Hid ((x / 10 = 0 → (⟨#[UInt8.ofNat (48 + x % 10)]⟩ : ByteArray) ++ s = decText k0) ∧ (0 < x / 10 → decText (x / 10) ++ ((⟨#[UInt8.ofNat (48 + x % 10)]⟩ : ByteArray) ++ s) = decText k0)) := by
        constructor
        · intro h
          rw [← dec_small (by omega)]
          exact HD.out.2 hx
        · intro h
          have := HD.out.2 hx
          rw [dec_big (by omega)] at this
          rw [← ByteArray.append_assoc]
          exact this
      generalize (⟨#[UInt8.ofNat (48 + x % 10)]⟩ : ByteArray) = t at *
      clear HD
      go_wp2
      go_roundw
      case rel => exact ⟨x / 10, t ++ s, by go_num, rfl, by rw [ByteArray.size_append]; omega, HD2, hb.alloc hb.size _⟩
      case measure => simp [intOf]; omega
    · have hx' : (x : Int) ≤ 0 := by omega
      have hx0 : x = 0 := by omega
      have hs : Hid (s = decText k0) := HD.out.1 hx0
      clear HD hx0
      go_wp2
      go_ret
      exact ⟨by unfold mText; rw [← hs.out]; rfl, hb⟩

/-- Of what was there only block g was written. -/
structure Just (g : Nat) (w w' : World) : Prop where
  below : ∀ B, B ≤ g → B ≤ w.heap.size → Below B w w'
  size : w.heap.size ≤ w'.heap.size
  block : ∀ k, k < w.heap.size → k ≠ g → w'.heap[k]? = w.heap[k]?
theorem Just.refl (g : Nat) (w : World) : Just g w w := ⟨fun _ _ _ => Below.refl _ _, Nat.le_refl _, fun _ _ _ => rfl⟩
theorem Just.trans {g : Nat} {a b c : World} (h : Just g a b) (k : Just g b c) : Just g a c :=
  ⟨fun B h1 h2 => (h.below B h1 h2).trans (k.below B h1 (Nat.le_trans h2 h.size)), Nat.le_trans h.size k.size, fun i hi hg => by rw [k.block i (by have := h.size; omega) hg]; exact h.block i hi hg⟩
theorem Just.of {g : Nat} {a b : World} (h : Below a.heap.size a b) : Just g a b := ⟨fun _ _ h2 => h.mono h2, h.size, fun k hk _ => h.block k hk⟩
theorem Just.set {g i : Nat} {a b : World} (h : Just g a b) (v : Value) : Just g a (b.setCell ⟨g, i, none⟩ v) :=
  ⟨fun B h1 h2 => (h.below B h1 h2).setCell h1 _, by have := h.size; simpa using this, fun k hk hg => by rw [Below.heap_setCell _ _ _ _ hg]; exact h.block k hk hg⟩
theorem Just.kept {g k : Nat} {a b : World} {o : Obj} (h : Just g a b) (ho : a.heap[k]? = some o) (hk : k ≠ g) : b.heap[k]? = some o := by rw [h.block k (lt_block ho) hk]; exact ho

/-- The marks in a block of values. -/
def MarkV (w : World) (g n m k0 : Nat) : Prop := ∃ cur : Array Value, w.heap[g]? = some (Obj.cells cur 45 (0, 0)) ∧ cur.size = n * 3 ∧ ∀ j, j < m → cur[j * 3]? = some (.int .i64 ((k0 + 3 * j : Nat) : Int)) ∧ cur[j * 3 + 1]? = some (.int .i64 ((k0 + 3 * j + 1 : Nat) : Int)) ∧ cur[j * 3 + 2]? = some (.string (mText (k0 + 3 * j + 2)))
theorem MarkV.mono {w w' : World} {g n m k0 : Nat} (h : MarkV w g n m k0) (hb : Below w.heap.size w w') : MarkV w' g n m k0 := by
  obtain ⟨c, h1, h2⟩ := h
  exact ⟨c, block_kept h1 hb, h2⟩

set_option maxRecDepth 100000 in
set_option maxHeartbeats 2000000 in
theorem markValueS_is (g n cap k0 : Nat) (w : World) (hn : n ≤ 1048576) (h1 : k0 ≤ 100000000000000) (hblk0 : ValsBlk w g n) :
    Calls Tryz.prog 85 #[.slice (some ⟨g, 0, none⟩) n cap, .int .i64 (k0 : Int)] w fun e w' => e = .returned (.int .i64 ((k0 + 3 * n : Nat) : Int)) ∧ Just g w w' ∧ MarkV w' g n n k0 := by
  go_enter Tryz.func85, Tryz.ntmps85
  go_wp2
  go_loopw [1, 5] (fun q i wr => ∃ (k : Nat), k ≤ n ∧ i = .int .i64 k ∧ q = .int .i64 ((k0 + 3 * k : Nat) : Int) ∧ Just g w wr ∧ MarkV wr g n k k0) (fun _ i _ => n - (intOf i).toNat)
  case atStart =>
    obtain ⟨c, k1, k2⟩ := hblk0
    exact ⟨0, by omega, rfl, rfl, Just.refl _ _, ⟨c, k1, k2, fun _ h => absurd h (Nat.not_lt_zero _)⟩⟩
  case round =>
    obtain ⟨k, hk, rfl, rfl, hj, cur, hC, hcs, hd⟩ := hrel
    have HC : Hid (cur.size = n * 3) := hcs
    have HD : Hid (∀ j, j < k → cur[j * 3]? = some (.int .i64 ((k0 + 3 * j : Nat) : Int)) ∧ cur[j * 3 + 1]? = some (.int .i64 ((k0 + 3 * j + 1 : Nat) : Int)) ∧ cur[j * 3 + 2]? = some (.string (mText (k0 + 3 * j + 2)))) := hd
    clear hd
    by_cases hlt : k < n
    · have hfz := block_free hC
      obtain ⟨y1, hcl⟩ : ∃ v, wr.cell? ⟨g, k * 3, none⟩ = some v := ⟨cur[k * 3]'(by rw [HC.out]; omega), by rw [block_cell hC]; exact Array.getElem?_eq_getElem _⟩
      obtain ⟨y2, hcl2⟩ : ∃ v, wr.cell? ⟨g, k * 3 + 1, none⟩ = some v := ⟨cur[k * 3 + 1]'(by rw [HC.out]; omega), by rw [block_cell hC]; exact Array.getElem?_eq_getElem _⟩
      clear hcs
      obtain ⟨wx, hwx⟩ : ∃ wx, wx = (wr.setCell ⟨g, k * 3, none⟩ (.int .i64 ((k0 + 3 * k : Nat) : Int))).setCell ⟨g, k * 3 + 1, none⟩ (.int .i64 ((k0 + 3 * k + 1 : Nat) : Int)) := ⟨_, rfl⟩
      have hCx : wx.heap[g]? = some (.cells ((cur.setIfInBounds (k * 3) (.int .i64 ((k0 + 3 * k : Nat) : Int))).setIfInBounds (k * 3 + 1) (.int .i64 ((k0 + 3 * k + 1 : Nat) : Int))) 45 (0, 0)) := by rw [hwx]; exact block_set (block_set hC _) _
      have hjx : Just g w wx := by rw [hwx]; exact (hj.set _).set _
      have e1 : ((k0 + 3 * k : Nat) : Int) + 1 = ((k0 + 3 * k + 1 : Nat) : Int) := by omega
      have e2 : ((k0 + 3 * k + 1 : Nat) : Int) + 1 = ((k0 + 3 * k + 2 : Nat) : Int) := by omega
      obtain ⟨A0, hA0⟩ : ∃ A0 : Int, A0 = ((k0 + 3 * k : Nat) : Int) := ⟨_, rfl⟩
      have hA1 : Hid (A0 = ((k0 + 3 * k : Nat) : Int)) := hA0
      have hAlo : 0 ≤ A0 := by omega
      have hAhi : A0 ≤ 200000000000000 := by omega
      rw [← hA0] at hwx ⊢
      rw [show ((k0 + 3 * k + 1 : Nat) : Int) = A0 + 1 by omega] at hwx
      clear hA0 e1 e2
      go_wp2_with fail
      rw [← hwx]
      have hmt := markText_is (k0 + 3 * k + 2) wx (by omega) (by omega)
      rw [show ((k0 + 3 * k + 2 : Nat) : Int) = A0 + 1 + 1 by have := hA1.out; omega] at hmt
      refine hmt.mono ?_
      rintro e w2 ⟨rfl, hb2⟩
      have hC2 := block_kept hCx hb2
      have hj2 := hjx.trans (Just.of hb2)
      have hfz2 := block_free hC2
      obtain ⟨y3, hcl3⟩ : ∃ v, w2.cell? ⟨g, k * 3 + 2, none⟩ = some v := ⟨_, by rw [block_cell hC2]; exact Array.getElem?_eq_getElem (by have := HC.out; simp; omega)⟩
      clear hmt hwx hC hCx hjx hb2 hfz hcl hcl2 hj
      go_wp2
      go_roundw
      case rel =>
        have hcs := HC.out
        have hA := hA1.out
        refine ⟨k + 1, by omega, by go_num, by rw [show ((k0 + 3 * (k + 1) : Nat) : Int) = A0 + 1 + 1 + 1 by omega], hj2.set _, _, block_set hC2 _, by simpa using hcs, ?_⟩
        intro j hj
        by_cases e : j = k
        · subst e
          refine ⟨?_, ?_, ?_⟩
          · rw [set_else _ (by omega), set_else _ (by omega)]; exact set_self _ (by omega)
          · rw [set_else _ (by omega)]; exact set_self _ (by simp; omega)
          · exact set_self _ (by simp; omega)
        · obtain ⟨d1, d2, d3⟩ := HD.out j (by omega)
          refine ⟨?_, ?_, ?_⟩
          · rw [set_else _ (by omega), set_else _ (by omega), set_else _ (by omega)]; exact d1
          · rw [set_else _ (by omega), set_else _ (by omega), set_else _ (by omega)]; exact d2
          · rw [set_else _ (by omega), set_else _ (by omega), set_else _ (by omega)]; exact d3
      case measure => simp [intOf]; omega
    · go_wp2
      go_ret
      have hkn : k = n := by omega
      subst hkn
      exact ⟨rfl, hj, cur, hC, hcs, HD.out⟩

end Go.Proofs.YtmmcockkbhnopaaGreat
namespace Go.Proofs.YtmmcockkbhnopaaGreat
open Go.RowKit

/-- Of what was there only two blocks were written. -/
structure Pair (G g : Nat) (w w' : World) : Prop where
  below : ∀ B, B ≤ G → B ≤ g → B ≤ w.heap.size → Below B w w'
  size : w.heap.size ≤ w'.heap.size
  block : ∀ k, k < w.heap.size → k ≠ G → k ≠ g → w'.heap[k]? = w.heap[k]?
theorem Pair.refl (G g : Nat) (w : World) : Pair G g w w := ⟨fun _ _ _ _ => Below.refl _ _, Nat.le_refl _, fun _ _ _ _ => rfl⟩
theorem Pair.trans {G g : Nat} {a b c : World} (h : Pair G g a b) (k : Pair G g b c) : Pair G g a c :=
  ⟨fun B h1 h2 h3 => (h.below B h1 h2 h3).trans (k.below B h1 h2 (Nat.le_trans h3 h.size)), Nat.le_trans h.size k.size, fun i hi hG hg => by rw [k.block i (by have := h.size; omega) hG hg]; exact h.block i hi hG hg⟩
theorem Pair.of {G g : Nat} {a b : World} (h : Below a.heap.size a b) : Pair G g a b := ⟨fun _ _ _ h3 => h.mono h3, h.size, fun k hk _ _ => h.block k hk⟩
theorem Pair.just {G g : Nat} {a b : World} (h : Just g a b) : Pair G g a b := ⟨fun B _ h2 h3 => h.below B h2 h3, h.size, fun k hk _ hg => h.block k hk hg⟩
theorem Pair.set {G g i : Nat} {a b : World} (h : Pair G g a b) (v : Value) : Pair G g a (b.setCell ⟨G, i, none⟩ v) :=
  ⟨fun B h1 h2 h3 => (h.below B h1 h2 h3).setCell h1 _, by have := h.size; simpa using this, fun k hk hG hg => by rw [Below.heap_setCell _ _ _ _ hG]; exact h.block k hk hG hg⟩
theorem Pair.kept {G g k : Nat} {a b : World} {o : Obj} (h : Pair G g a b) (ho : a.heap[k]? = some o) (hG : k ≠ G) (hg : k ≠ g) : b.heap[k]? = some o := by rw [h.block k (lt_block ho) hG hg]; exact ho

end Go.Proofs.YtmmcockkbhnopaaGreat

namespace Go.Proofs.YtmmcockkbhnopaaGreat
open Go.RowKit

theorem hid {p : Prop} (h : p) : Hid p := h

/-- Nothing but blocks of S was written. -/
structure Only (S : Nat → Prop) (w w' : World) : Prop where
  below : ∀ B, (∀ k, S k → B ≤ k) → B ≤ w.heap.size → Below B w w'
  size : w.heap.size ≤ w'.heap.size
  block : ∀ k, k < w.heap.size → ¬ S k → w'.heap[k]? = w.heap[k]?
theorem Only.refl (S : Nat → Prop) (w : World) : Only S w w := ⟨fun _ _ _ => Below.refl _ _, Nat.le_refl _, fun _ _ _ => rfl⟩
theorem Only.trans {S : Nat → Prop} {a b c : World} (h : Only S a b) (k : Only S b c) : Only S a c :=
  ⟨fun B hB h2 => (h.below B hB h2).trans (k.below B hB (Nat.le_trans h2 h.size)), Nat.le_trans h.size k.size, fun i hi hS => (k.block i (Nat.lt_of_lt_of_le hi h.size) hS).trans (h.block i hi hS)⟩
theorem Only.just {S : Nat → Prop} {g : Nat} {a b : World} (h : Just g a b) (hS : S g) : Only S a b := ⟨fun B hB h2 => h.below B (hB g hS) h2, h.size, fun _ hk hs => h.block _ hk (fun e => hs (e ▸ hS))⟩
theorem Only.of {S : Nat → Prop} {a b : World} (h : Below a.heap.size a b) : Only S a b := ⟨fun _ _ h2 => h.mono h2, h.size, fun k hk _ => h.block k hk⟩
theorem Only.set {S : Nat → Prop} {g i : Nat} {a b : World} (h : Only S a b) (hS : S g) (v : Value) : Only S a (b.setCell ⟨g, i, none⟩ v) :=
  ⟨fun B hB h2 => (h.below B hB h2).setCell (hB g hS) _, by simpa using h.size, fun k hk hs => by rw [Below.heap_setCell _ _ _ _ (fun e => hs (by rw [show k = g from e]; exact hS))]; exact h.block k hk hs⟩
theorem Only.kept {S : Nat → Prop} {k : Nat} {a b : World} {o : Obj} (h : Only S a b) (ho : a.heap[k]? = some o) (hk : ¬ S k) : b.heap[k]? = some o := by rw [h.block k (lt_block ho) hk]; exact ho
theorem Only.wide {S S' : Nat → Prop} {a b : World} (h : Only S a b) (hS : ∀ k, S k → S' k) : Only S' a b := ⟨fun B hB h2 => h.below B (fun k hk => hB k (hS k hk)) h2, h.size, fun k hk hs => h.block k hk (fun e => hs (hS k e))⟩

/-- Between lo and hi. -/
def Rng (lo hi b : Nat) : Prop := lo ≤ b ∧ b < hi

theorem ValsBlk.shape {w w' : World} {g n : Nat} (h : ValsBlk w g n) (hs : SameShape w w') : ValsBlk w' g n := by
  obtain ⟨c, h1, h2⟩ := h
  obtain ⟨c', h3, h4⟩ := hs g c 45 h1
  exact ⟨c', h3, h4.trans h2⟩
theorem just_keeps {w w' : World} {g n k0 lo hi : Nat} (hb : ValsBlk w g n) (hj : Just g w w') (hm : MarkV w' g n n k0) (hl : lo ≤ g) (hh : g < hi) : Keeps lo [45] w w' ∧ SameShape w w' ∧ Only (Rng lo hi) w w' := by
  obtain ⟨c, h1, h2⟩ := hb
  obtain ⟨c', h3, h4, -⟩ := hm
  have h0 := hj.below 0 (Nat.zero_le _) (Nat.zero_le _)
  refine ⟨⟨h0.os, h0.tape, h0.output, hj.size, fun k o hk ho => ?_⟩, fun b x t hbx => ?_, Only.just hj ⟨hl, hh⟩⟩
  · by_cases e : k = g
    · subst e
      rw [h1] at hk
      cases hk
      rcases ho with ho | ho
      · omega
      · exact absurd (by simp [ofTypes]) ho
    · exact hj.kept hk e
  · by_cases e : b = g
    · subst e
      rw [h1] at hbx
      cases hbx
      exact ⟨c', h3, by omega⟩
    · exact ⟨x, hj.kept hbx e, rfl⟩

set_option maxHeartbeats 400000 in
theorem markValueS_w (lo hi g n cap k0 : Nat) (w : World) (hn : n ≤ 1048576) (h1 : k0 ≤ 100000000000000) (hl : lo ≤ g) (hh : g < hi) (hb : ValsBlk w g n) :
    Calls Tryz.prog 85 #[.slice (some ⟨g, 0, none⟩) n cap, .int .i64 (k0 : Int)] w fun e w' => e = .returned (.int .i64 ((k0 + 3 * n : Nat) : Int)) ∧ Keeps lo [45] w w' ∧ SameShape w w' ∧ Only (Rng lo hi) w w' :=
  (markValueS_is g n cap k0 w hn h1 hb).mono fun _ _ ⟨he, hj, hm⟩ => ⟨he, just_keeps hb hj hm hl hh⟩

/-- The slices of frames in a block, and the blocks of their values. -/
def FSh (w : World) (lo hi F : Nat) (fr : List Fr) : Prop := ∃ cur : Array Value, w.heap[F]? = some (.cells cur 110 (0, 0)) ∧ cur.size = fr.length * 4 ∧
  ∀ j (hj : j < fr.length), ∃ g g2, cur[j * 4 + 2]? = some (.slice (some ⟨g, 0, none⟩) fr[j].locals.length fr[j].locals.length) ∧ cur[j * 4 + 3]? = some (.slice (some ⟨g2, 0, none⟩) fr[j].stack.length fr[j].stack.length) ∧ Rng lo hi g ∧ Rng lo hi g2 ∧ ValsBlk w g fr[j].locals.length ∧ ValsBlk w g2 fr[j].stack.length
theorem FB.sh {w : World} {lo : Nat} {a : Option Addr} {fr : List Fr} (h : FB w lo a fr) : ∃ F, a = some ⟨F, 0, none⟩ ∧ lo ≤ F ∧ F < w.heap.size ∧ FSh w lo w.heap.size F fr := by
  obtain ⟨F, cur, h1, h2, h3, h4, h5⟩ := h
  refine ⟨F, h1, h2, lt_block h3, cur, h3, h4, fun j hj => ?_⟩
  obtain ⟨-, -, g, g2, d3, d4, ⟨-, x, e, e2, e3⟩, ⟨-, y, f, f2, f3⟩⟩ := h5 j hj
  cases e
  cases f
  exact ⟨g, g2, d3, d4, ⟨e2, by obtain ⟨c, hc, -⟩ := e3; exact lt_block hc⟩, ⟨f2, by obtain ⟨c, hc, -⟩ := f3; exact lt_block hc⟩, e3, f3⟩
theorem FSh.keep {w w' : World} {lo hi F : Nat} {fr : List Fr} (h : FSh w lo hi F fr) (hk : Keeps lo [45] w w') (hs : SameShape w w') : FSh w' lo hi F fr := by
  obtain ⟨cur, h1, h2, h3⟩ := h
  refine ⟨cur, hk.cell h1 (by decide), h2, fun j hj => ?_⟩
  obtain ⟨g, g2, d1, d2, d3, d4, d5, d6⟩ := h3 j hj
  exact ⟨g, g2, d1, d2, d3, d4, d5.shape hs, d6.shape hs⟩
theorem FSh.set {w : World} {lo hi F i : Nat} {fr : List Fr} {v : Value} (h : FSh w lo hi F fr) (h42 : i % 4 < 2) : FSh (w.setCell ⟨F, i, none⟩ v) lo hi F fr := by
  obtain ⟨cur, h1, h2, h3⟩ := h
  refine ⟨cur.setIfInBounds i v, block_set h1 v, by simpa using h2, fun j hj => ?_⟩
  obtain ⟨g, g2, d1, d2, d3, d4, ⟨c5, d5, e5⟩, ⟨c6, d6, e6⟩⟩ := h3 j hj
  refine ⟨g, g2, by rw [set_else _ (by omega)]; exact d1, by rw [set_else _ (by omega)]; exact d2, d3, d4, ⟨c5, ?_, e5⟩, ⟨c6, ?_, e6⟩⟩
  · rw [Below.heap_setCell _ _ _ _ (fun e => by rw [show g = F from e, h1] at d5; cases d5)]; exact d5
  · rw [Below.heap_setCell _ _ _ _ (fun e => by rw [show g2 = F from e, h1] at d6; cases d6)]; exact d6

set_option maxRecDepth 100000 in
set_option maxHeartbeats 2000000 in
theorem markFrameS_w (lo hi F cap k0 : Nat) (fr : List Fr) (w : World) (hn : fr.length ≤ 1048576) (hc : ∀ f ∈ fr, f.locals.length ≤ 1048576 ∧ f.stack.length ≤ 1048576) (h1 : k0 ≤ 11000000000000) (hl : lo ≤ F) (hh : F < hi) (hF : FSh w lo hi F fr) :
    Calls Tryz.prog 49 #[.slice (some ⟨F, 0, none⟩) fr.length cap, .int .i64 (k0 : Int)] w fun e w' => ∃ k1 : Nat, e = .returned (.int .i64 (k1 : Int)) ∧ k0 ≤ k1 ∧ k1 ≤ k0 + fr.length * 8000000 ∧ Keeps lo [110, 45] w w' ∧ SameShape w w' ∧ Only (Rng lo hi) w w' := by
  go_enter Tryz.func49, Tryz.ntmps49
  go_wp2
  go_loopw [1, 5] (fun q i wr => ∃ (k : Nat) (m : Nat), k ≤ fr.length ∧ i = .int .i64 k ∧ q = .int .i64 (m : Int) ∧ Hid (k0 ≤ m ∧ m ≤ k0 + k * 8000000) ∧ Hid (Keeps lo [110, 45] w wr) ∧ Hid (SameShape w wr) ∧ Hid (Only (Rng lo hi) w wr) ∧ Hid (FSh wr lo hi F fr)) (fun _ i _ => fr.length - (intOf i).toNat)
  case atStart => exact ⟨0, k0, by omega, rfl, rfl, ⟨by omega, by omega⟩, Keeps.refl _ _ _, SameShape.refl _, Only.refl _ _, hF⟩
  case round =>
    obtain ⟨k, m, hk, rfl, rfl, HM, HK, HS, HO, HF⟩ := hrel
    by_cases hlt : k < fr.length
    · have hmz : m ≤ 20000000000000 := by have := HM.out; omega
      obtain ⟨cur, hC, hcs, hcd⟩ := HF.out
      have hfz := block_free hC
      obtain ⟨y1, hy1⟩ : ∃ v, wr.cell? ⟨F, k * 4, none⟩ = some v := ⟨cur[k * 4]'(by omega), by rw [block_cell hC]; exact Array.getElem?_eq_getElem _⟩
      obtain ⟨y2, hy2⟩ : ∃ v, wr.cell? ⟨F, k * 4 + 1, none⟩ = some v := ⟨cur[k * 4 + 1]'(by omega), by rw [block_cell hC]; exact Array.getElem?_eq_getElem _⟩
      obtain ⟨g, g2, d1, d2, dl, dl2, db, db2⟩ := hcd k hlt
      obtain ⟨wx, hwx⟩ : ∃ wx, wx = (wr.setCell ⟨F, k * 4, none⟩ (.int .i64 (m : Int))).setCell ⟨F, k * 4 + 1, none⟩ (.int .i64 ((m : Int) + 1)) := ⟨_, rfl⟩
      have hFx : FSh wx lo hi F fr := by rw [hwx]; exact (HF.out.set (by omega)).set (by omega)
      have hKx : Keeps lo [110, 45] w wx := by
        rw [hwx]
        exact (HK.out.set hC (by simp) hl _ _).set (block_set hC _) (by simp) hl _ _
      have hSx : SameShape w wx := by
        rw [hwx]
        exact (HS.out.set hC _ _).set (block_set hC _) _ _
      have hOx : Only (Rng lo hi) w wx := by
        rw [hwx]
        exact (HO.out.set ⟨hl, hh⟩ _).set ⟨hl, hh⟩ _
      have HOX := hid hOx
      have z2 : wr.cell? ⟨F, k * 4 + 2, none⟩ = some (.slice (some ⟨g, 0, none⟩) fr[k].locals.length fr[k].locals.length) := by rw [block_cell hC]; exact d1
      have z3 : wr.cell? ⟨F, k * 4 + 3, none⟩ = some (.slice (some ⟨g2, 0, none⟩) fr[k].stack.length fr[k].stack.length) := by rw [block_cell hC]; exact d2
      have hcl := (hc _ (List.getElem_mem hlt)).1
      have hcs2 := (hc _ (List.getElem_mem hlt)).2
      have hgF : ∀ b, ValsBlk wr b fr[k].locals.length → b ≠ F := fun b hb e => by obtain ⟨c, hcb, -⟩ := hb; rw [e, hC] at hcb; cases hcb
      obtain ⟨gx, hgx⟩ : ∃ c, c = hFx := ⟨_, rfl⟩
      clear gx hgx
      have dbx : ValsBlk wx g fr[k].locals.length := by
        obtain ⟨c, hcb, hcz⟩ := db
        refine ⟨c, ?_, hcz⟩
        rw [hwx, Below.heap_setCell _ _ _ _ (hgF g ⟨c, hcb, hcz⟩), Below.heap_setCell _ _ _ _ (hgF g ⟨c, hcb, hcz⟩)]
        exact hcb
      have hmk := markValueS_w lo hi g fr[k].locals.length fr[k].locals.length (m + 2) wx hcl (by omega) dl.1 dl.2 dbx
      have HKX := hid hKx
      have HSX := hid hSx
      have HFX := hid hFx
      have e1 : ((m + 2 : Nat) : Int) = (m : Int) + 1 + 1 := by omega
      rw [e1] at hmk
      clear hC hcs hcd db db2 dbx hKx hSx hFx HF HK HS hgF e1 d1 d2
      go_wp2_with fail
      rw [← hwx]
      clear hwx y1 hy1 y2 hy2 hfz z2 z3
      refine hmk.mono ?_
      rintro e w2 ⟨rfl, hk2, hs2, ho2⟩
      have HO2 := hid (HOX.out.trans ho2)
      have hF2 := HFX.out.keep hk2 hs2
      obtain ⟨cur2, hC2, hcs22, hcd2⟩ := hF2
      obtain ⟨h, h2, q1, q2, ql, ql2, qb, qb2⟩ := hcd2 k hlt
      have z3 : w2.cell? ⟨F, k * 4 + 3, none⟩ = some (.slice (some ⟨h2, 0, none⟩) fr[k].stack.length fr[k].stack.length) := by rw [block_cell hC2]; exact q2
      have hmk2 := markValueS_w lo hi h2 fr[k].stack.length fr[k].stack.length (m + 2 + 3 * fr[k].locals.length) w2 hcs2 (by omega) ql2.1 ql2.2 qb2
      have HF2 : Hid (FSh w2 lo hi F fr) := ⟨cur2, hC2, hcs22, hcd2⟩
      have HK2 := hid (HKX.out.trans (hk2.mono (Nat.le_refl _) (by simp)))
      have HS2 := hid (HSX.out.trans hs2)
      clear hmk hk2 hs2 ho2 hOx HO HOX hC2 hcs22 hcd2 qb qb2 q1 q2 HKX HSX HFX
      obtain ⟨A0, hA0⟩ : ∃ A0 : Nat, A0 = m + 2 + 3 * fr[k].locals.length := ⟨_, rfl⟩
      have HA0 := hid hA0
      rw [← hA0] at hmk2 ⊢
      have hA0z : A0 ≤ 50000000000000 := by omega
      clear hA0
      go_wp2_with fail
      clear z3
      refine hmk2.mono ?_
      rintro e w3 ⟨rfl, hk3, hs3, ho3⟩
      have HO3 := hid (HO2.out.trans ho3)
      have HF3 := hid (HF2.out.keep hk3 hs3)
      have HK3 := hid (HK2.out.trans (hk3.mono (Nat.le_refl _) (by simp)))
      have HS3 := hid (HS2.out.trans hs3)
      clear hmk2 hk3 hs3 ho3
      go_wp2
      go_roundw
      case rel => exact ⟨k + 1, A0 + 3 * fr[k].stack.length, by omega, by go_num, rfl, by have h1 := HM.out; have h2 := HA0.out; show _ ∧ _; omega, HK3, HS3, HO3, HF3⟩
      case measure => simp [intOf]; omega
    · have hkn : k = fr.length := by omega
      subst hkn
      go_wp2
      go_ret
      exact ⟨m, rfl, HM.out.1, HM.out.2, HK.out, HS.out, HO.out⟩
end Go.Proofs.YtmmcockkbhnopaaGreat

namespace Go.Proofs.YtmmcockkbhnopaaGreat
open Go.RowKit

/-- The slices of records in a block, and the blocks of their fields. -/
def RSh (w : World) (lo hi R : Nat) (rs : List (List Vl)) : Prop := ∃ cur : Array Value, w.heap[R]? = some (.cells cur 105 (0, 0)) ∧ cur.size = rs.length ∧
  ∀ j (hj : j < rs.length), ∃ g, cur[j]? = some (.slice (some ⟨g, 0, none⟩) rs[j].length rs[j].length) ∧ Rng lo hi g ∧ ValsBlk w g rs[j].length
theorem RB.sh {w : World} {lo : Nat} {a : Option Addr} {rs : List (List Vl)} (h : RB w lo a rs) : ∃ R, a = some ⟨R, 0, none⟩ ∧ lo ≤ R ∧ RSh w lo w.heap.size R rs := by
  obtain ⟨R, cur, h1, h2, h3, h4, h5⟩ := h
  refine ⟨R, h1, h2, cur, h3, by omega, fun j hj => ?_⟩
  obtain ⟨g, d3, ⟨-, x, e, e2, e3⟩⟩ := h5 j hj
  cases e
  exact ⟨g, d3, ⟨e2, by obtain ⟨c, hc, -⟩ := e3; exact lt_block hc⟩, e3⟩
theorem RSh.keep {w w' : World} {lo hi R : Nat} {rs : List (List Vl)} (h : RSh w lo hi R rs) {ts : List Nat} (hk : Keeps lo ts w w') (ht : 105 ∉ ts) (hs : SameShape w w') : RSh w' lo hi R rs := by
  obtain ⟨cur, h1, h2, h3⟩ := h
  refine ⟨cur, hk.cell h1 ht, h2, fun j hj => ?_⟩
  obtain ⟨g, d1, d3, d5⟩ := h3 j hj
  exact ⟨g, d1, d3, d5.shape hs⟩

set_option maxRecDepth 100000 in
set_option maxHeartbeats 2000000 in
theorem markRecS_w (lo hi R cap k0 : Nat) (rs : List (List Vl)) (w : World) (hn : rs.length ≤ 1048576) (hc : ∀ r ∈ rs, r.length ≤ 1048576) (h1 : k0 ≤ 20000000000000) (hR : RSh w lo hi R rs) :
    Calls Tryz.prog 50 #[.slice (some ⟨R, 0, none⟩) rs.length cap, .int .i64 (k0 : Int)] w fun e w' => ∃ k1 : Nat, e = .returned (.int .i64 (k1 : Int)) ∧ k0 ≤ k1 ∧ k1 ≤ k0 + rs.length * 4000000 ∧ Keeps lo [45] w w' ∧ SameShape w w' ∧ Only (Rng lo hi) w w' := by
  go_enter Tryz.func50, Tryz.ntmps50
  go_wp2
  go_loopw [1, 5] (fun q i wr => ∃ (k : Nat) (m : Nat), k ≤ rs.length ∧ i = .int .i64 k ∧ q = .int .i64 (m : Int) ∧ Hid (k0 ≤ m ∧ m ≤ k0 + k * 4000000) ∧ Hid (Keeps lo [45] w wr) ∧ Hid (SameShape w wr) ∧ Hid (Only (Rng lo hi) w wr) ∧ Hid (RSh wr lo hi R rs)) (fun _ i _ => rs.length - (intOf i).toNat)
  case atStart => exact ⟨0, k0, by omega, rfl, rfl, ⟨by omega, by omega⟩, Keeps.refl _ _ _, SameShape.refl _, Only.refl _ _, hR⟩
  case round =>
    obtain ⟨k, m, hk, rfl, rfl, HM, HK, HS, HO, HF⟩ := hrel
    by_cases hlt : k < rs.length
    · have hmz : m ≤ 40000000000000 := by have := HM.out; omega
      obtain ⟨cur, hC, hcs, hcd⟩ := HF.out
      obtain ⟨g, d1, dl, db⟩ := hcd k hlt
      have z2 : wr.cell? ⟨R, k, none⟩ = some (.slice (some ⟨g, 0, none⟩) rs[k].length rs[k].length) := by rw [block_cell hC]; exact d1
      have hcl := hc _ (List.getElem_mem hlt)
      have hmk := markValueS_w lo hi g rs[k].length rs[k].length m wr hcl (by omega) dl.1 dl.2 db
      clear hC hcs hcd db d1
      go_wp2_with fail
      refine hmk.mono ?_
      rintro e w2 ⟨rfl, hk2, hs2, ho2⟩
      have HO2 := hid (HO.out.trans ho2)
      have HF2 := hid (HF.out.keep hk2 (by decide) hs2)
      have HK2 := hid (HK.out.trans hk2)
      have HS2 := hid (HS.out.trans hs2)
      clear hmk hk2 hs2 ho2 z2
      go_wp2
      go_roundw
      case rel => exact ⟨k + 1, m + 3 * rs[k].length, by omega, by go_num, rfl, by have h1 := HM.out; show _ ∧ _; omega, HK2, HS2, HO2, HF2⟩
      case measure => simp [intOf]; omega
    · have hkn : k = rs.length := by omega
      subst hkn
      go_wp2
      go_ret
      exact ⟨m, rfl, HM.out.1, HM.out.2, HK.out, HS.out, HO.out⟩
end Go.Proofs.YtmmcockkbhnopaaGreat

namespace Go.Proofs.YtmmcockkbhnopaaGreat
open Go.RowKit

set_option maxHeartbeats 400000 in
theorem markStringS_w (lo hi g n cap : Nat) (k0 : Int) (w : World) (hn : n ≤ 1048576) (h0 : 0 ≤ k0) (h1 : k0 ≤ 100000000000000) (hg : lo ≤ g) (hh : g < hi) (hblk0 : TextBlk w g n) :
    Calls Tryz.prog 47 #[.slice (some ⟨g, 0, none⟩) n cap, .int .i64 k0] w fun e w' => e = .returned (.int .i64 (k0 + n)) ∧ Keeps lo [9] w w' ∧ SameShape w w' ∧ Only (Rng lo hi) w w' := by
  go_enter Tryz.func47, Tryz.ntmps47
  go_wp2
  go_loopw [1, 5] (fun q i wr => ∃ (k : Nat), k ≤ n ∧ i = .int .i64 k ∧ q = .int .i64 (k0 + k) ∧ Keeps lo [9] w wr ∧ SameShape w wr ∧ Only (Rng lo hi) w wr) (fun _ i _ => n - (intOf i).toNat)
  case atStart => exact ⟨0, by omega, rfl, by go_num, Keeps.refl _ _ _, SameShape.refl _, Only.refl _ _⟩
  case round =>
    obtain ⟨k, hk, rfl, rfl, hkr, hsh, hor⟩ := hrel
    by_cases hlt : k < n
    · go_wp2_with fail
      refine (markText_any (k0 + k) _ (by omega) (by omega)).mono ?_
      rintro e w1 ⟨s, rfl, hb⟩
      have hk1 : Keeps lo [9] w w1 := hkr.trans (Keeps.below hb)
      have ho1 : Only (Rng lo hi) w w1 := hor.trans (Only.of hb)
      have hs1 : SameShape w w1 := hsh.trans (SameShape.below hb)
      obtain ⟨cur, hblk, hsz⟩ := hblk0.shape hs1
      have hfz := block_free hblk k
      have hcl : w1.cell? ⟨g, k, none⟩ = some cur[k] := by rw [block_cell hblk k]; simp
      go_wp2
      go_roundw
      case rel => exact ⟨k + 1, by omega, by go_num, by go_num, Keeps.set hk1 hblk (by simp) hg _ _, SameShape.set hs1 hblk _ _, ho1.set ⟨hg, hh⟩ _⟩
      case measure => simp [intOf]; omega
    · go_wp2
      go_ret
      exact ⟨ret_int (by omega), hkr, hsh, hor⟩

set_option maxRecDepth 100000 in
set_option maxHeartbeats 2000000 in
theorem markVm_w (lo hi F R g fc hcp oc : Nat) (d : VmD) (k0 : Nat) (w : World) (hx : VmSmall d) (h1 : k0 ≤ 11000000000000) (hl : lo ≤ F) (hl3 : lo ≤ g) (hh : F < hi) (hh3 : g < hi) (hF : FSh w lo hi F d.frames) (hR : RSh w lo hi R d.heap) (hO : TextBlk w g d.out.length) :
    Calls Tryz.prog 18 #[.agg (vmCells (some ⟨F, 0, none⟩) (some ⟨R, 0, none⟩) (some ⟨g, 0, none⟩) fc hcp oc d), .int .i64 (k0 : Int)] w fun e w' => ∃ k1 : Nat, e = .returned (.int .i64 (k1 : Int)) ∧ k0 ≤ k1 ∧ k1 ≤ 40000000000000 ∧ Keeps lo [110, 45, 9] w w' ∧ SameShape w w' ∧ Only (Rng lo hi) w w' := by
  conv => arg 3; unfold vmCells
  obtain ⟨wA, hwA⟩ : ∃ wA, wA = w.alloc (.cells #[.slice (some ⟨F, 0, none⟩) d.frames.length fc, .slice (some ⟨R, 0, none⟩) d.heap.length hcp, .int .i64 d.made, .slice (some ⟨g, 0, none⟩) d.out.length oc, .int .i64 d.status, .int .i64 d.trap, .int .i64 d.value.k, .int .i64 d.value.n, .string d.value.s, .int .i64 d.steps] 47) := ⟨_, rfl⟩
  have hbA : Below w.heap.size w wA := by rw [hwA]; exact (Below.refl _ _).alloc (Nat.le_refl _) _
  have hI : wA.heap[w.heap.size]? = some (.cells #[.slice (some ⟨F, 0, none⟩) d.frames.length fc, .slice (some ⟨R, 0, none⟩) d.heap.length hcp, .int .i64 d.made, .slice (some ⟨g, 0, none⟩) d.out.length oc, .int .i64 d.status, .int .i64 d.trap, .int .i64 d.value.k, .int .i64 d.value.n, .string d.value.s, .int .i64 d.steps] 47 (0, 0)) := by rw [hwA]; exact block_new _ _ _
  have hkA : Keeps lo [] w wA := Keeps.below hbA
  have hsA : SameShape w wA := SameShape.below hbA
  have hFA : FSh wA lo hi F d.frames := hF.keep (hkA.mono (Nat.le_refl _) (by simp)) hsA
  have hRA : RSh wA lo hi R d.heap := hR.keep hkA (by simp) hsA
  have hOA : TextBlk wA g d.out.length := hO.mono hbA
  go_enter Tryz.func18, Tryz.ntmps18
  have i1 := block_cell hI
  have hm1 := markFrameS_w lo hi F fc k0 d.frames wA hx.frames (fun f hf => ⟨(hx.locals f hf).1, (hx.stack f hf).1⟩) (by omega) hl hh hFA
  go_wp2_with fail
  rw [← hwA]
  refine hm1.mono ?_
  rintro e w1 ⟨k1, rfl, ha1, hb1, hk1, hs1, ho1⟩
  have hO1x : Only (Rng lo hi) w w1 := (Only.of hbA).trans ho1
  have hI1 := hk1.cell hI (by decide)
  have hR1 := hRA.keep hk1 (by decide) hs1
  have hO1 := hOA.shape hs1
  have hK1 : Keeps lo [110, 45, 9] w w1 := (hkA.mono (Nat.le_refl _) (by simp)).trans (hk1.mono (Nat.le_refl _) (by simp))
  have hS1 := hsA.trans hs1
  have hfz := hx.frames
  have hk1z : k1 ≤ 20000000000000 := by omega
  clear hm1 hwA hbA hI hkA hsA hFA hRA hOA hk1 hs1 i1 hb1
  have i1 := block_cell hI1
  have hm2 := markRecS_w lo hi R hcp k1 d.heap w1 hx.heap (fun r hr => (hx.fields r hr).1) (by omega) hR1
  go_wp2_with fail
  refine hm2.mono ?_
  rintro e w2 ⟨k2, rfl, ha2, hb2, hk2, hs2, ho2⟩
  have hO2x := hO1x.trans ho2
  have hI2 := hk2.cell hI1 (by decide)
  have hO2 := hO1.shape hs2
  have hK2 : Keeps lo [110, 45, 9] w w2 := hK1.trans (hk2.mono (Nat.le_refl _) (by simp))
  have hS2 := hS1.trans hs2
  have hhz := hx.heap
  have hk2z : k2 ≤ 30000000000000 := by omega
  clear hm2 hI1 hR1 hO1 hK1 hS1 hk2 hs2 i1 hb2
  have i1 := block_cell hI2
  have hoz := hx.out
  have hm3 := markStringS_w lo hi g d.out.length oc (k2 : Int) w2 hx.out (by omega) (by omega) hl3 hh3 hO2
  go_wp2_with fail
  refine hm3.mono ?_
  rintro e w3 ⟨rfl, hk3, hs3, ho3⟩
  have hO3x := hO2x.trans ho3
  have hK3 : Keeps lo [110, 45, 9] w w3 := hK2.trans (hk3.mono (Nat.le_refl _) (by simp))
  have hS3 := hS2.trans hs3
  clear hm3 hI2 hO2 hK2 hS2 hk3 hs3 i1
  go_wp2
  go_ret
  exact ⟨k2 + d.out.length, by simp, by omega, by omega, hK3, hS3, hO3x⟩
end Go.Proofs.YtmmcockkbhnopaaGreat

namespace Go.Proofs.YtmmcockkbhnopaaGreat
open Go.RowKit

/-- A row of functions, its rows of instructions between two places. -/
def FnH (w : World) (lo hi g : Nat) (fs : List Fn) : Prop := ∃ cur : Array Value, w.heap[g]? = some (Obj.cells cur 116 (0, 0)) ∧ cur.size = fs.length * 3 ∧ ∀ j (h : j < fs.length), ∃ gc, cur[j * 3 + 2]? = some (.slice (some ⟨gc, 0, none⟩) fs[j].code.length fs[j].code.length) ∧ lo ≤ gc ∧ gc < hi ∧ CodeBlk w gc fs[j].code.length
theorem FnH.mono {w w' : World} {lo hi g : Nat} {fs : List Fn} (h : FnH w lo hi g fs) (hb : Below w.heap.size w w') : FnH w' lo hi g fs := by
  obtain ⟨c, h1, h2, h3⟩ := h
  refine ⟨c, block_kept h1 hb, h2, fun j hj => ?_⟩
  obtain ⟨gc, q1, q2, q3, q4⟩ := h3 j hj
  exact ⟨gc, q1, q2, q3, q4.mono hb⟩
theorem FnsBlk.h {w : World} {lo g : Nat} {fs : List Fn} (h : FnsBlk w lo g fs) : FnH w lo w.heap.size g fs := by
  obtain ⟨c, h1, h2, h3⟩ := h
  refine ⟨c, h1, h2, fun j hj => ?_⟩
  obtain ⟨gc, q1, q2, q3⟩ := h3 j hj
  obtain ⟨c2, r1, r2⟩ := q3
  exact ⟨gc, q1, q2, lt_block r1, c2, r1, r2⟩

set_option maxHeartbeats 400000 in
theorem markInsS_w (lo hi g n cap : Nat) (k0 : Int) (w : World) (hn : n ≤ 1048576) (h0 : 0 ≤ k0) (h1 : k0 ≤ 10000000000000) (hg : lo ≤ g) (hh : g < hi) (hblk0 : CodeBlk w g n) :
    Calls Tryz.prog 84 #[.slice (some ⟨g, 0, none⟩) n cap, .int .i64 k0] w fun e w' => e = .returned (.int .i64 (k0 + 2 * n)) ∧ Keeps lo [152] w w' ∧ SameShape w w' ∧ Only (Rng lo hi) w w' := by
  go_enter Tryz.func84, Tryz.ntmps84
  go_wp2
  go_loopw [1, 5] (fun q i wr => ∃ (k : Nat), k ≤ n ∧ i = .int .i64 k ∧ q = .int .i64 (k0 + 2 * k) ∧ Keeps lo [152] w wr ∧ SameShape w wr ∧ Only (Rng lo hi) w wr) (fun _ i _ => n - (intOf i).toNat)
  case atStart => exact ⟨0, by omega, rfl, by go_num, Keeps.refl _ _ _, SameShape.refl _, Only.refl _ _⟩
  case round =>
    obtain ⟨k, hk, rfl, rfl, hkr, hsh, hor⟩ := hrel
    by_cases hlt : k < n
    · obtain ⟨cur, hblk, hsz⟩ := hblk0.shape hsh
      have hfz := block_free hblk
      have hcl : wr.cell? ⟨g, k * 2, none⟩ = some cur[k * 2] := by rw [block_cell hblk]; simp
      have hcl2 : wr.cell? ⟨g, k * 2 + 1, none⟩ = some cur[k * 2 + 1] := by rw [block_cell hblk]; simp
      go_wp2
      go_roundw
      case rel => exact ⟨k + 1, by omega, by go_num, by go_num, Keeps.set (Keeps.set hkr hblk (by simp) hg _ _) (block_set hblk _) (by simp) hg _ _, SameShape.set (SameShape.set hsh hblk _ _) (block_set hblk _) _ _, (hor.set ⟨hg, hh⟩ _).set ⟨hg, hh⟩ _⟩
      case measure => simp [intOf]; omega
    · go_wp2
      go_ret
      exact ⟨ret_int (by omega), hkr, hsh, hor⟩

set_option maxHeartbeats 400000 in
theorem markFuncS_w (lo hi g cap : Nat) (fs : List Fn) (k0 : Int) (w : World) (hn : fs.length ≤ 1048576) (hc : ∀ f ∈ fs, f.code.length ≤ 1048576) (h0 : 0 ≤ k0) (h1 : k0 ≤ 10000000) (hg : lo ≤ g) (hh : g < hi) (hblk0 : FnH w lo hi g fs) :
    Calls Tryz.prog 48 #[.slice (some ⟨g, 0, none⟩) fs.length cap, .int .i64 k0] w fun e w' => ∃ r : Int, e = .returned (.int .i64 r) ∧ 0 ≤ r ∧ r ≤ 10000000000000 ∧ Keeps lo [152, 116] w w' ∧ Only (Rng lo hi) w w' := by
  obtain ⟨cur0, hb0, hsz0, hcode0⟩ := hblk0
  go_enter Tryz.func48, Tryz.ntmps48
  go_wp2
  go_loopw [1, 5] (fun q i wr => ∃ (k : Nat) (r : Int) (cur : Array Value), k ≤ fs.length ∧ i = .int .i64 k ∧ q = .int .i64 r ∧ 0 ≤ r ∧ r ≤ k0 + k * 3000000 ∧ wr.heap[g]? = some (.cells cur 116 (0, 0)) ∧ cur.size = fs.length * 3 ∧ (∀ j, j < fs.length → cur[j * 3 + 2]? = cur0[j * 3 + 2]?) ∧ Keeps lo [152, 116] w wr ∧ SameShape w wr ∧ Only (Rng lo hi) w wr) (fun _ i _ => fs.length - (intOf i).toNat)
  case atStart => exact ⟨0, k0, cur0, by omega, rfl, rfl, h0, by omega, hb0, hsz0, fun _ _ => rfl, Keeps.refl _ _ _, SameShape.refl _, Only.refl _ _⟩
  case round =>
    obtain ⟨k, r, cur, hk, rfl, rfl, hr0, hr1, hblk, hsz, hsame, hkr, hsh, hor⟩ := hrel
    by_cases hlt : k < fs.length
    · have hfz := block_free hblk
      have hcl : wr.cell? ⟨g, k * 3, none⟩ = some cur[k * 3] := by rw [block_cell hblk]; simp
      have hcl2 : wr.cell? ⟨g, k * 3 + 1, none⟩ = some cur[k * 3 + 1] := by rw [block_cell hblk]; simp
      obtain ⟨gc, hgc, hgl, hgh, hcb⟩ := hcode0 k hlt
      have hcl3 : wr.cell? ⟨g, k * 3 + 2, none⟩ = some (.slice (some ⟨gc, 0, none⟩) fs[k].code.length fs[k].code.length) := by rw [block_cell hblk, hsame k hlt, hgc]
      have hck := hc fs[k] (List.getElem_mem hlt)
      have hr2 : r ≤ 10000000 + 1048576 * 3000000 := by omega
      go_wp2_with fail
      have hk1 : Keeps lo [152, 116] w ((wr.setCell ⟨g, k * 3, none⟩ (.int .i64 r)).setCell ⟨g, k * 3 + 1, none⟩ (.int .i64 (r + 1))) := Keeps.set (Keeps.set hkr hblk (by simp) hg _ _) (block_set hblk _) (by simp) hg _ _
      have hs1 : SameShape w ((wr.setCell ⟨g, k * 3, none⟩ (.int .i64 r)).setCell ⟨g, k * 3 + 1, none⟩ (.int .i64 (r + 1))) := SameShape.set (SameShape.set hsh hblk _ _) (block_set hblk _) _ _
      have hblk1 := block_set (i := k * 3 + 1) (block_set (i := k * 3) hblk (.int .i64 r)) (.int .i64 (r + 1))
      refine (markInsS_w lo hi gc fs[k].code.length _ (r + 1 + 1) _ hck (by omega) (by omega) hgl hgh (hcb.shape hs1)).mono ?_
      rintro e w2 ⟨rfl, hk2, hs2, ho2⟩
      have ho3 : Only (Rng lo hi) w w2 := ((hor.set ⟨hg, hh⟩ _).set ⟨hg, hh⟩ _).trans ho2
      have hblk2 := hk2.cell hblk1 (by simp)
      have hk3 : Keeps lo [152, 116] w w2 := hk1.trans (hk2.mono (Nat.le_refl _) (by simp))
      have hs3 : SameShape w w2 := hs1.trans hs2
      clear hfz hcl hcl2 hcl3 hblk hkr hsh hk1 hs1 hblk1 hk2 hs2 hor ho2
      go_wp2
      go_roundw
      case rel =>
        refine ⟨k + 1, _, _, by omega, by go_num, rfl, by omega, by omega, hblk2, by simpa using hsz, fun j hj => ?_, hk3, hs3, ho3⟩
        rw [set_else _ (by omega), set_else _ (by omega)]
        exact hsame j hj
      case measure => simp [intOf]; omega
    · go_wp2
      go_ret
      exact ⟨r, rfl, hr0, by omega, hkr, hor⟩

set_option maxHeartbeats 400000 in
theorem markModule_w (lo hi g g2 c1 c2 : Nat) (ts : List ByteArray) (fs : List Fn) (w : World) (hs : Small ts fs) (hg : lo ≤ g) (hg2 : lo ≤ g2) (hh : g < hi) (hh2 : g2 < hi) (ht : TextBlk w g ts.length) (hf : FnH w lo hi g2 fs) :
    Calls Tryz.prog 16 #[.agg #[.slice (some ⟨g, 0, none⟩) ts.length c1, .slice (some ⟨g2, 0, none⟩) fs.length c2], .int .i64 1] w fun e w' => ∃ r : Int, e = .returned (.int .i64 r) ∧ 0 ≤ r ∧ r ≤ 10000000000000 ∧ Keeps lo [9, 152, 116] w w' ∧ Only (Rng lo hi) w w' := by
  have s1 := hs.texts
  go_enter Tryz.func16, Tryz.ntmps16
  go_wp2_with fail
  have hbA : Below w.heap.size w (w.alloc (.cells #[.slice (some ⟨g, 0, none⟩) ts.length c1, .slice (some ⟨g2, 0, none⟩) fs.length c2] 40)) := (Below.refl _ _).alloc (Nat.le_refl _) _
  have hM := block_new w #[.slice (some ⟨g, 0, none⟩) ts.length c1, .slice (some ⟨g2, 0, none⟩) fs.length c2] 40
  refine (markStringS_w lo hi g ts.length _ 1 _ hs.texts (by omega) (by omega) hg hh (ht.mono hbA)).mono ?_
  rintro e w1 ⟨rfl, hk1, hs1, ho1⟩
  have ho2 : Only (Rng lo hi) w w1 := (Only.of hbA).trans ho1
  have hM1 := hk1.cell hM (by simp)
  have x1 := block_cell hM1
  have hf1 : FnH w1 lo hi g2 fs := by
    obtain ⟨c, q1, q2, q3⟩ := hf.mono hbA
    refine ⟨c, hk1.cell q1 (by simp), q2, fun j hj => ?_⟩
    obtain ⟨gc, a, b, b2, d⟩ := q3 j hj
    exact ⟨gc, a, b, b2, d.shape hs1⟩
  have hk2 : Keeps lo [9, 152, 116] w w1 := (Keeps.below hbA).trans (hk1.mono (Nat.le_refl _) (by simp))
  clear hM hbA ho1
  go_wp2_with fail
  refine (markFuncS_w lo hi g2 _ fs (1 + ts.length) _ hs.funcs hs.code (by omega) (by omega) hg2 hh2 hf1).mono ?_
  rintro e w2 ⟨r, rfl, hr, hrm, hk3, ho3⟩
  go_wp2
  go_ret
  exact ⟨r, rfl, hr, hrm, hk2.trans (hk3.mono (Nat.le_refl _) (by simp)), ho2.trans ho3⟩
end Go.Proofs.YtmmcockkbhnopaaGreat

namespace Go.Proofs.YtmmcockkbhnopaaGreat
open Go.RowKit

/-- Every block from lo on is as it was. -/
def Kept (lo : Nat) (w w' : World) : Prop := ∀ k o, lo ≤ k → w.heap[k]? = some o → w'.heap[k]? = some o
theorem Kept.of {lo : Nat} {w w' : World} (h : Below w.heap.size w w') : Kept lo w w' := fun _ _ _ ho => by rw [h.block _ (lt_block ho)]; exact ho
theorem Kept.only {lo l hi : Nat} {w w' : World} (h : Only (Rng l hi) w w') (hl : hi ≤ lo) : Kept lo w w' := fun _ _ hk ho => h.kept ho (fun e => by have := e.2; omega)
theorem ValsBlk.kept {w w' : World} {lo g n : Nat} (h : ValsBlk w g n) (hk : Kept lo w w') (hg : lo ≤ g) : ValsBlk w' g n := by
  obtain ⟨c, h1, h2⟩ := h
  exact ⟨c, hk _ _ hg h1, h2⟩
/-- A state in blocks between two places. -/
structure XS (w : World) (lo hi F R g : Nat) (d : VmD) : Prop where
  f : FSh w lo hi F d.frames
  r : RSh w lo hi R d.heap
  o : TextBlk w g d.out.length
  lf : lo ≤ F
  lr : lo ≤ R
  lg : lo ≤ g
  hf : F < hi
  hg : g < hi
theorem VmB.xs {w : World} {lo g g2 g3 : Nat} {d : VmD} (h : VmB w lo (some ⟨g, 0, none⟩) (some ⟨g2, 0, none⟩) (some ⟨g3, 0, none⟩) d) : XS w lo w.heap.size g g2 g3 d := by
  obtain ⟨F, e1, lf, hf, sf⟩ := h.frs.sh
  obtain ⟨R, e2, lr, sr⟩ := h.recs.sh
  obtain ⟨-, O, e3, lo3, so⟩ := h.out
  cases e1
  cases e2
  cases e3
  exact ⟨sf, sr, so, lf, lr, lo3, hf, by obtain ⟨c, hc, -⟩ := so; exact lt_block hc⟩
theorem XS.kept {w w' : World} {lo hi F R g : Nat} {d : VmD} (h : XS w lo hi F R g d) (hk : Kept lo w w') : XS w' lo hi F R g d := by
  obtain ⟨⟨c1, a1, a2, a3⟩, ⟨c2, b1, b2, b3⟩, ⟨c3, d1, d2⟩, lf, lr, lg, hf, hg⟩ := h
  refine ⟨⟨c1, hk _ _ lf a1, a2, fun j hj => ?_⟩, ⟨c2, hk _ _ lr b1, b2, fun j hj => ?_⟩, ⟨c3, hk _ _ lg d1, d2⟩, lf, lr, lg, hf, hg⟩
  · obtain ⟨x, y, q1, q2, q3, q4, q5, q6⟩ := a3 j hj
    exact ⟨x, y, q1, q2, q3, q4, q5.kept hk q3.1, q6.kept hk q4.1⟩
  · obtain ⟨x, q1, q2, q3⟩ := b3 j hj
    exact ⟨x, q1, q2, q3.kept hk q2.1⟩

theorem XS.mono {w w' : World} {lo hi F R g : Nat} {d : VmD} (h : XS w lo hi F R g d) (hb : Below w.heap.size w w') : XS w' lo hi F R g d := h.kept (Kept.of hb)
theorem Kept.up {lo lo' : Nat} {w w' : World} (h : Kept lo w w') (hl : lo ≤ lo') : Kept lo' w w' := fun k o hk ho => h k o (Nat.le_trans hl hk) ho

end Go.Proofs.YtmmcockkbhnopaaGreat

namespace Go.Proofs.YtmmcockkbhnopaaGreat
open Go.RowKit Go.Deep Go.ChangeShapes Go.WideShapes Go.Joins

section
variable {H : Type} {enc : TypeId × Value → H} {P : Program} {w : World} {base : Nat} {spare : Nat → Bool} {held : Bool}

/-- A list of values that came in. -/
theorem read_vals {t e : TypeId} {f0 f1 f2 : Field} (ht : P.underlying t = some (.slice e)) (he : P.underlying e = some (.struct #[f0, f1, f2]))
    (ce : P.cellsOf e = 3) (o0 : f0.offset = 0) (o1 : f1.offset = 1) (o2 : f2.offset = 2) (c0 : P.cellsOf f0.type = 1) (c1 : P.cellsOf f1.type = 1) (c2 : P.cellsOf f2.type = 1)
    (k0 : P.underlying f0.type = some (.int .i64)) (k1 : P.underlying f1.type = some (.int .i64)) (k2 : P.underlying f2.type = some .string)
    {fuel : Nat} {v : Value} {y : DataW H × List MemPlace} (h : DataW.trod enc P w base spare held fuel t [v] = some y) :
    ∃ a cap vs, v = .slice a vs.length cap ∧ ValsMax vs ∧ ValsAt w 0 a vs := by
  rcases open_slice ht h with ⟨hcs, -⟩ | ⟨a, len, cap, m, n, D, Pl, hcs, -, hl, hm, hmm, -, hx⟩
  · simp at hcs
    exact ⟨none, 0, [], by simpa using hcs, ⟨by simp, by simp⟩, fun i hi => by simp at hi⟩
  · simp at hcs
    have hlm : len ≤ m := by rw [hmm]; split <;> omega
    have inh : Inhabited Vl := ⟨⟨0, 0, ⟨#[]⟩⟩⟩
    have hplain : ∀ i, i < m → ∃ b off, a = ⟨b, off, none⟩ := fun i hi => by
      obtain ⟨cs', h1, -⟩ := hx 0 (by omega)
      rw [ce] at h1
      obtain ⟨_, hlen, hcell⟩ := World.cells?_some h1
      have e0 := hcell 0 (by omega)
      rw [add_add] at e0
      match cs', hlen with
      | [v0, v1, v2], _ => exact plain_of (by simpa using e0)
    obtain ⟨q, hq⟩ := choose_lt (α := Vl) (n := m) (p := fun i z => z.s.size ≤ maxLen ∧ ∃ b off, a = ⟨b, off, none⟩ ∧ w.cell? ⟨b, off + i * 3, none⟩ = some (.int .i64 z.k) ∧
        w.cell? ⟨b, off + i * 3 + 1, none⟩ = some (.int .i64 z.n) ∧ w.cell? ⟨b, off + i * 3 + 2, none⟩ = some (.string z.s)) (fun i hi => by
      obtain ⟨cs', h1, h2⟩ := hx i hi
      rw [ce] at h1
      obtain ⟨_, hlen, hcell⟩ := World.cells?_some h1
      obtain ⟨y0, y1, y2, n', -, -, t0, t1, t2⟩ := trod_struct3 he h2
      match cs', hlen with
      | [v0, v1, v2], _ =>
        simp [o0, o1, o2, c0, c1, c2] at t0 t1 t2
        have e0 := hcell 0 (by omega)
        have e1 := hcell 1 (by omega)
        have e2 := hcell 2 (by omega)
        rw [add_add] at e0 e1 e2
        simp at e0 e1 e2
        obtain ⟨z0, x0, -, -⟩ := DataW.trod_int k0 t0
        obtain ⟨z1, x1, -, -⟩ := DataW.trod_int k1 t1
        obtain ⟨z2, x2, -, hz2⟩ := DataW.trod_string k2 t2
        simp at x0 x1 x2
        rw [x0] at e0
        rw [x1] at e1
        rw [x2] at e2
        obtain ⟨b, off, rfl⟩ := hplain i hi
        rw [Go.WideShapes.add_plain] at e0
        rw [Go.WideShapes.add_plain, ← Nat.add_assoc] at e1 e2
        exact ⟨⟨z0, z1, z2⟩, hz2, b, off, rfl, e0, e1, e2⟩)
    refine ⟨some a, cap, (List.range len).map q, by simpa using hcs, ⟨by simp; omega, ?_⟩, ?_⟩
    · intro f hf
      obtain ⟨i, hi, rfl⟩ := List.mem_map.1 hf
      exact (hq i (by have := List.mem_range.1 hi; omega)).1
    · intro i hi
      have hi' : i < len := by simpa using hi
      obtain ⟨-, b, off, rfl, r0, r1, r2⟩ := hq i (by omega)
      exact ⟨b, off, rfl, Nat.zero_le _, by simpa using r0, by simpa using r1, by simpa using r2⟩

/-- A list of records that came in. -/
theorem read_recs {t e tv : TypeId} {f0 : Field} (ht : P.underlying t = some (.slice e)) (he : P.underlying e = some (.struct #[f0])) (ce : P.cellsOf e = 1) (o0 : f0.offset = 0) (c0 : P.cellsOf f0.type = 1) (k0 : f0.type = tv)
    (HV : ∀ (fuel : Nat) (v : Value) (y : DataW H × List MemPlace), DataW.trod enc P w base spare held fuel tv [v] = some y → ∃ a cap vs, v = .slice a vs.length cap ∧ ValsMax vs ∧ ValsAt w 0 a vs)
    {fuel : Nat} {v : Value} {y : DataW H × List MemPlace} (h : DataW.trod enc P w base spare held fuel t [v] = some y) :
    ∃ a cap rs, v = .slice a rs.length cap ∧ rs.length ≤ maxLen ∧ (∀ r ∈ rs, ValsMax r) ∧ RecsAt w 0 a rs := by
  rcases open_slice ht h with ⟨hcs, -⟩ | ⟨a, len, cap, m, n, D, Pl, hcs, -, hl, hm, hmm, -, hx⟩
  · simp at hcs
    exact ⟨none, 0, [], by simpa using hcs, by simp, by simp, fun i hi => by simp at hi⟩
  · simp at hcs
    have hlm : len ≤ m := by rw [hmm]; split <;> omega
    have hplain : ∀ i, i < m → ∃ b off, a = ⟨b, off, none⟩ := fun i hi => by
      obtain ⟨cs', h1, -⟩ := hx 0 (by omega)
      rw [ce] at h1
      obtain ⟨_, hlen, hcell⟩ := World.cells?_some h1
      have e0 := hcell 0 (by omega)
      rw [add_add] at e0
      match cs', hlen with
      | [v0], _ => exact plain_of (by simpa using e0)
    obtain ⟨q, hq⟩ := choose_lt (α := List Vl) (n := m) (p := fun i z => ValsMax z ∧ ∃ b off ca cc, a = ⟨b, off, none⟩ ∧ w.cell? ⟨b, off + i, none⟩ = some (.slice ca z.length cc) ∧ ValsAt w 0 ca z) (fun i hi => by
      obtain ⟨cs', h1, h2⟩ := hx i hi
      rw [ce] at h1
      obtain ⟨_, hlen, hcell⟩ := World.cells?_some h1
      obtain ⟨y0, n', -, -, t0⟩ := trod_struct1 he h2
      match cs', hlen with
      | [v0], _ =>
        simp [o0, c0] at t0
        have e0 := hcell 0 (by omega)
        rw [add_add] at e0
        simp at e0
        rw [k0] at t0
        obtain ⟨ca, cc, xs, x0, hxs, hvs⟩ := HV _ _ _ t0
        rw [x0] at e0
        obtain ⟨b, off, rfl⟩ := hplain i hi
        rw [Go.WideShapes.add_plain] at e0
        exact ⟨xs, hxs, b, off, ca, cc, rfl, e0, hvs⟩)
    refine ⟨some a, cap, (List.range len).map q, by simpa using hcs, by simp; omega, ?_, ?_⟩
    · intro f hf
      obtain ⟨i, hi, rfl⟩ := List.mem_map.1 hf
      exact (hq i (by have := List.mem_range.1 hi; omega)).1
    · intro i hi
      have hi' : i < len := by simpa using hi
      obtain ⟨-, b, off, ca, cc, rfl, r0, r1⟩ := hq i (by omega)
      exact ⟨b, off, ca, cc, rfl, Nat.zero_le _, by simpa using r0, by simpa using r1⟩

/-- A list of frames that came in. -/
theorem read_frs {t e tv : TypeId} {f0 f1 f2 f3 : Field} (ht : P.underlying t = some (.slice e)) (he : P.underlying e = some (.struct #[f0, f1, f2, f3])) (ce : P.cellsOf e = 4) (o0 : f0.offset = 0) (o1 : f1.offset = 1) (o2 : f2.offset = 2) (o3 : f3.offset = 3)
    (c0 : P.cellsOf f0.type = 1) (c1 : P.cellsOf f1.type = 1) (c2 : P.cellsOf f2.type = 1) (c3 : P.cellsOf f3.type = 1) (k0 : P.underlying f0.type = some (.int .i64)) (k1 : P.underlying f1.type = some (.int .i64)) (k2 : f2.type = tv) (k3 : f3.type = tv)
    (HV : ∀ (fuel : Nat) (v : Value) (y : DataW H × List MemPlace), DataW.trod enc P w base spare held fuel tv [v] = some y → ∃ a cap vs, v = .slice a vs.length cap ∧ ValsMax vs ∧ ValsAt w 0 a vs)
    {fuel : Nat} {v : Value} {y : DataW H × List MemPlace} (h : DataW.trod enc P w base spare held fuel t [v] = some y) :
    ∃ a cap fr, v = .slice a fr.length cap ∧ fr.length ≤ maxLen ∧ (∀ f ∈ fr, ValsMax f.locals) ∧ (∀ f ∈ fr, ValsMax f.stack) ∧ FrsAt w 0 a fr := by
  rcases open_slice ht h with ⟨hcs, -⟩ | ⟨a, len, cap, m, n, D, Pl, hcs, -, hl, hm, hmm, -, hx⟩
  · simp at hcs
    exact ⟨none, 0, [], by simpa using hcs, by simp, by simp, by simp, fun i hi => by simp at hi⟩
  · simp at hcs
    have hlm : len ≤ m := by rw [hmm]; split <;> omega
    have inh : Inhabited Fr := ⟨⟨0, 0, [], []⟩⟩
    have hplain : ∀ i, i < m → ∃ b off, a = ⟨b, off, none⟩ := fun i hi => by
      obtain ⟨cs', h1, -⟩ := hx 0 (by omega)
      rw [ce] at h1
      obtain ⟨_, hlen, hcell⟩ := World.cells?_some h1
      have e0 := hcell 0 (by omega)
      rw [add_add] at e0
      match cs', hlen with
      | [v0, v1, v2, v3], _ => exact plain_of (by simpa using e0)
    obtain ⟨q, hq⟩ := choose_lt (α := Fr) (n := m) (p := fun i z => (ValsMax z.locals ∧ ValsMax z.stack) ∧ ∃ b off la lc sa sc, a = ⟨b, off, none⟩ ∧ w.cell? ⟨b, off + i * 4, none⟩ = some (.int .i64 z.fn) ∧
        w.cell? ⟨b, off + i * 4 + 1, none⟩ = some (.int .i64 z.pc) ∧ w.cell? ⟨b, off + i * 4 + 2, none⟩ = some (.slice la z.locals.length lc) ∧ w.cell? ⟨b, off + i * 4 + 3, none⟩ = some (.slice sa z.stack.length sc) ∧ ValsAt w 0 la z.locals ∧ ValsAt w 0 sa z.stack) (fun i hi => by
      obtain ⟨cs', h1, h2⟩ := hx i hi
      rw [ce] at h1
      obtain ⟨_, hlen, hcell⟩ := World.cells?_some h1
      obtain ⟨y0, y1, y2, y3, n', -, -, t0, t1, t2, t3⟩ := trod_struct4 he h2
      match cs', hlen with
      | [v0, v1, v2, v3], _ =>
        simp [o0, o1, o2, o3, c0, c1, c2, c3] at t0 t1 t2 t3
        have e0 := hcell 0 (by omega)
        have e1 := hcell 1 (by omega)
        have e2 := hcell 2 (by omega)
        have e3 := hcell 3 (by omega)
        rw [add_add] at e0 e1 e2 e3
        simp at e0 e1 e2 e3
        obtain ⟨z0, x0, -, -⟩ := DataW.trod_int k0 t0
        obtain ⟨z1, x1, -, -⟩ := DataW.trod_int k1 t1
        rw [k2] at t2
        rw [k3] at t3
        obtain ⟨la, lc, ls, x2, hls, hla⟩ := HV _ _ _ t2
        obtain ⟨sa, sc, ss, x3, hss, hsa⟩ := HV _ _ _ t3
        simp at x0 x1
        rw [x0] at e0
        rw [x1] at e1
        rw [x2] at e2
        rw [x3] at e3
        obtain ⟨b, off, rfl⟩ := hplain i hi
        rw [Go.WideShapes.add_plain] at e0
        rw [Go.WideShapes.add_plain, ← Nat.add_assoc] at e1 e2 e3
        exact ⟨⟨z0, z1, ls, ss⟩, ⟨hls, hss⟩, b, off, la, lc, sa, sc, rfl, e0, e1, e2, e3, hla, hsa⟩)
    refine ⟨some a, cap, (List.range len).map q, by simpa using hcs, by simp; omega, ?_, ?_, ?_⟩
    · intro f hf
      obtain ⟨i, hi, rfl⟩ := List.mem_map.1 hf
      exact (hq i (by have := List.mem_range.1 hi; omega)).1.1
    · intro f hf
      obtain ⟨i, hi, rfl⟩ := List.mem_map.1 hf
      exact (hq i (by have := List.mem_range.1 hi; omega)).1.2
    · intro i hi
      have hi' : i < len := by simpa using hi
      obtain ⟨-, b, off, la, lc, sa, sc, rfl, r0, r1, r2, r3, r4, r5⟩ := hq i (by omega)
      exact ⟨b, off, la, lc, sa, sc, rfl, Nat.zero_le _, by simpa using r0, by simpa using r1, by simpa using r2, by simpa using r3, by simpa using r4, by simpa using r5⟩
end

theorem array10 {α : Type} {cs : Array α} (h : cs.size = 10) : ∃ c0 c1 c2 c3 c4 c5 c6 c7 c8 c9, cs = #[c0, c1, c2, c3, c4, c5, c6, c7, c8, c9] := by
  obtain ⟨l⟩ := cs
  match l, h with
  | [c0, c1, c2, c3, c4, c5, c6, c7, c8, c9], _ => exact ⟨c0, c1, c2, c3, c4, c5, c6, c7, c8, c9, rfl⟩

theorem cells3 : Tryz.prog.cellsOf 3 = 1 := by kernel_rfl
theorem cells9 : Tryz.prog.cellsOf 9 = 1 := by kernel_rfl
theorem cells22 : Tryz.prog.cellsOf 22 = 1 := by kernel_rfl
theorem cells94 : Tryz.prog.cellsOf 94 = 1 := by kernel_rfl
theorem cells27 : Tryz.prog.cellsOf 27 = 1 := by kernel_rfl
theorem cells28 : Tryz.prog.cellsOf 28 = 1 := by kernel_rfl
theorem cells30 : Tryz.prog.cellsOf 30 = 3 := by kernel_rfl
theorem cells32 : Tryz.prog.cellsOf 32 = 10 := by kernel_rfl

set_option maxRecDepth 100000 in
theorem read_values {H : Type} {enc : TypeId × Value → H} {w : World} {base : Nat} {sp : Nat → Bool} {held : Bool} (fuel : Nat) (v : Value) (y : DataW H × List MemPlace) (h : DataW.trod enc Tryz.prog w base sp held fuel 94 [v] = some y) :
    ∃ a cap vs, v = .slice a vs.length cap ∧ ValsMax vs ∧ ValsAt w 0 a vs :=
  read_vals Tryz.underlying94 Tryz.underlying30 cells30 rfl rfl rfl cells3 cells3 cells9 Tryz.underlying3 Tryz.underlying3 Tryz.underlying9 h

set_option maxRecDepth 100000 in
set_option maxHeartbeats 1000000 in
theorem open_vm {H : Type} {enc : TypeId × Value → H} {w : World} {base : Nat} {sp : Nat → Bool} {held : Bool} {r : Reach} {b0 : Nat} {v : Value} {d : DataW H} {p : List MemPlace}
    (hv : Value.okWide Tryz.prog w r b0 32 v) (h : DataW.Trod enc Tryz.prog w base sp held 32 v d p) :
    ∃ fa ha oa fc hcp oc, ∃ D : VmD, v = .agg (vmCells fa ha oa fc hcp oc D) ∧ VmMax D ∧ VmAt w 0 fa ha oa D := by
  obtain ⟨cs, rfl, hsz⟩ := okWide_struct Tryz.underlying32 hv
  obtain ⟨c0, c1, c2, c3, c4, c5, c6, c7, c8, c9, rfl⟩ := array10 (hsz.trans cells32)
  obtain ⟨fuel, hf⟩ := h
  obtain ⟨xs, n, -, -, -, hlen, hf⟩ := DataW.trod_struct Tryz.underlying32 hf
  have hlen8 : xs.length = 8 := hlen
  have get : ∀ i (hi : i < 8), xs[i]? = some (xs[i]'(by omega)) := fun i hi => List.getElem?_eq_getElem (by omega)
  have t0 : DataW.trod enc Tryz.prog w base sp held n 27 [c0] = some (xs[0]'(by omega)) := by rw [← get 0 (by omega)]; simpa [Value.cells, cells27] using hf 0 _ rfl
  have t1 : DataW.trod enc Tryz.prog w base sp held n 28 [c1] = some (xs[1]'(by omega)) := by rw [← get 1 (by omega)]; simpa [Value.cells, cells28] using hf 1 _ rfl
  have t2 : DataW.trod enc Tryz.prog w base sp held n 3 [c2] = some (xs[2]'(by omega)) := by rw [← get 2 (by omega)]; simpa [Value.cells, cells3] using hf 2 _ rfl
  have t3 : DataW.trod enc Tryz.prog w base sp held n 22 [c3] = some (xs[3]'(by omega)) := by rw [← get 3 (by omega)]; simpa [Value.cells, cells22] using hf 3 _ rfl
  have t4 : DataW.trod enc Tryz.prog w base sp held n 3 [c4] = some (xs[4]'(by omega)) := by rw [← get 4 (by omega)]; simpa [Value.cells, cells3] using hf 4 _ rfl
  have t5 : DataW.trod enc Tryz.prog w base sp held n 3 [c5] = some (xs[5]'(by omega)) := by rw [← get 5 (by omega)]; simpa [Value.cells, cells3] using hf 5 _ rfl
  have t6 : DataW.trod enc Tryz.prog w base sp held n 30 [c6, c7, c8] = some (xs[6]'(by omega)) := by rw [← get 6 (by omega)]; simpa [Value.cells, cells30] using hf 6 _ rfl
  have t7 : DataW.trod enc Tryz.prog w base sp held n 3 [c9] = some (xs[7]'(by omega)) := by rw [← get 7 (by omega)]; simpa [Value.cells, cells3] using hf 7 _ rfl
  obtain ⟨fa, fc, fr, rfl, f1, f2, f3, f4⟩ := read_frs (tv := 94) Tryz.underlying27 Tryz.underlying96 (by kernel_rfl) rfl rfl rfl rfl cells3 cells3 cells94 cells94 Tryz.underlying3 Tryz.underlying3 rfl rfl read_values t0
  obtain ⟨ha, hcp, rs, rfl, r1, r2, r3⟩ := read_recs (tv := 94) Tryz.underlying28 Tryz.underlying99 (by kernel_rfl) rfl cells94 rfl read_values t1
  obtain ⟨oa, oc, ss, rfl, s1, s2, s3⟩ := read_strs Tryz.underlying22 Tryz.underlying9 cells9 t3
  obtain ⟨z2, x2, -⟩ := DataW.trod_int Tryz.underlying3 t2
  obtain ⟨z4, x4, -⟩ := DataW.trod_int Tryz.underlying3 t4
  obtain ⟨z5, x5, -⟩ := DataW.trod_int Tryz.underlying3 t5
  obtain ⟨z9, x9, -⟩ := DataW.trod_int Tryz.underlying3 t7
  obtain ⟨y0, y1, y2, n', -, -, u0, u1, u2⟩ := trod_struct3 Tryz.underlying30 t6
  simp [cells3, cells9] at u0 u1 u2
  obtain ⟨z6, x6, -⟩ := DataW.trod_int Tryz.underlying3 u0
  obtain ⟨z7, x7, -⟩ := DataW.trod_int Tryz.underlying3 u1
  obtain ⟨z8, x8, -, hz8⟩ := DataW.trod_string Tryz.underlying9 u2
  simp only [List.cons.injEq, and_true] at x2 x4 x5 x9 x6 x7 x8
  subst x2 x4 x5 x9 x6 x7 x8
  exact ⟨fa, ha, oa, fc, hcp, oc, ⟨fr, rs, z2, ss, z4, z5, ⟨z6, z7, z8⟩, z9⟩, rfl, ⟨f1, f2, f3, r1, r2, s1, s2, hz8⟩, ⟨f4, r3, s3⟩⟩
end Go.Proofs.YtmmcockkbhnopaaGreat
