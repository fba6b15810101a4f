/-
  What the marking functions of the laws write, cell by cell, and that what was marked is found again.
-/
import Derived.Test.YtjdoljaailokmaaGreatDoorZFQ15
import Derived.Lib.ItoaMem
namespace Go.Proofs.YtjdoljaailokmaaGreatDoor
open Go.RowKit

theorem strOfNums_dig (n : Nat) : strOfNums [48 + (n : Int) % 10] = ⟨#[UInt8.ofNat (48 + n % 10)]⟩ := by
  have : (48 + (n : Int) % 10).toNat = 48 + n % 10 := by omega
  unfold strOfNums
  simp only [List.map_cons, List.map_nil]
  rw [this]
theorem bytes_append (a b : List UInt8) : (⟨(a ++ b).toArray⟩ : ByteArray) = ⟨a.toArray⟩ ++ ⟨b.toArray⟩ := by
  apply ByteArray.ext
  simp

def decText (n : Nat) : ByteArray := ⟨(Lib.decDigits n).toArray⟩
/-- The text of a mark. -/
def mText (k : Nat) : ByteArray := ⟨#[109]⟩ ++ decText k
def mTexts (k n : Nat) : List ByteArray := (List.range n).map fun i => mText (k + i)
def mCode (k n : Nat) : List (Int × Int) := (List.range n).map fun i => (((k + 2 * i : Nat) : Int), ((k + 2 * i + 1 : Nat) : Int))

theorem dec_small {n : Nat} (h : n < 10) : decText n = ⟨#[UInt8.ofNat (48 + n % 10)]⟩ := by
  unfold decText
  rw [Lib.decDigits, dif_pos h, Nat.mod_eq_of_lt h]
theorem dec_big {n : Nat} (h : ¬ n < 10) : decText n = decText (n / 10) ++ ⟨#[UInt8.ofNat (48 + n % 10)]⟩ := by
  unfold decText
  rw [Lib.decDigits, dif_neg h, bytes_append]

set_option maxHeartbeats 800000 in
theorem markText_is (k0 : Nat) (w : World) (h0 : 0 < k0) (h1 : k0 ≤ 1000000000000000) :
    Calls Tryz.prog 48 #[.int .i64 k0] w fun e w' => e = .returned (.string (mText k0)) ∧ Below w.heap.size w w' := by
  have h0' : (0 : Int) < (k0 : Int) := by omega
  go_enter Tryz.func48, Tryz.ntmps48
  go_wp2
  go_loopw [0, 3] (fun q o wr => ∃ (x : Nat) (s : ByteArray), q = .int .i64 x ∧ o = .string s ∧ s.size + x ≤ k0 ∧ Hid ((x = 0 → s = decText k0) ∧ (0 < x → decText x ++ s = decText k0)) ∧ Below w.heap.size w wr) (fun q _ _ => (intOf q).toNat)
  case atStart => exact ⟨k0, ByteArray.empty, rfl, rfl, by simp, ⟨fun h => by omega, fun _ => by simp⟩, Below.refl _ _⟩
  case round =>
    obtain ⟨x, s, rfl, rfl, hsz, HD, hb⟩ := hrel
    by_cases hx : 0 < x
    · have hx' : (0 : Int) < (x : Int) := by omega
      have hcv := run_convert_bytes_arg (P := Tryz.prog) (wr.alloc (.cells #[.int .u8 (48 + (x : Int) % 10)] 5)) 114 5 Tryz.underlying114 Tryz.underlying5 wr.heap.size 0 1 1 [48 + (x : Int) % 10] rfl
        (fun i hi => by have : i = 0 := by omega
                        subst this
                        rw [cell_new]; rfl) 9 Tryz.underlying9
      rw [strOfNums_dig] at hcv
      have hsn : (⟨#[UInt8.ofNat (48 + x % 10)]⟩ : ByteArray).size ≤ 1 := Nat.le_refl _
      have HD2 : Hid ((x / 10 = 0 → (⟨#[UInt8.ofNat (48 + x % 10)]⟩ : ByteArray) ++ s = decText k0) ∧ (0 < x / 10 → decText (x / 10) ++ ((⟨#[UInt8.ofNat (48 + x % 10)]⟩ : ByteArray) ++ s) = decText k0)) := by
        constructor
        · intro h
          rw [← dec_small (by omega)]
          exact HD.out.2 hx
        · intro h
          have := HD.out.2 hx
          rw [dec_big (by omega)] at this
          rw [← ByteArray.append_assoc]
          exact this
      generalize (⟨#[UInt8.ofNat (48 + x % 10)]⟩ : ByteArray) = t at *
      clear HD
      go_wp2
      go_roundw
      case rel => exact ⟨x / 10, t ++ s, by go_num, rfl, by rw [ByteArray.size_append]; omega, HD2, hb.alloc hb.size _⟩
      case measure => simp [intOf]; omega
    · have hx' : (x : Int) ≤ 0 := by omega
      have hx0 : x = 0 := by omega
      have hs : Hid (s = decText k0) := HD.out.1 hx0
      clear HD hx0
      go_wp2
      go_ret
      exact ⟨by unfold mText; rw [← hs.out]; rfl, hb⟩


set_option maxHeartbeats 800000 in
theorem markStrs_is (base : Nat) (a : Option Addr) (c : Nat) (ts : List ByteArray) (k0 : Nat) (w : World) (hn : ts.length ≤ 1048576) (h0 : 0 < k0) (h1 : k0 ≤ 1000000) (hown : w.ownsRow base 9 1 (.slice a ts.length c) ts.length (ts.map .string)) :
    Calls Tryz.prog 24 #[.slice a ts.length c, .int .i64 k0] w fun e w' => e = .returned (.int .i64 ((k0 + ts.length : Nat) : Int)) ∧ w'.ownsRow base 9 1 (.slice a ts.length c) ts.length ((mTexts k0 ts.length).map .string) ∧ Keeps base [9] w w' := by
  go_enter Tryz.func24, Tryz.ntmps24
  go_wp2
  go_loopw [1, 5] (fun q i wr => ∃ (k : Nat) (ys : List ByteArray), k ≤ ts.length ∧ i = .int .i64 k ∧ q = .int .i64 ((k0 + k : Nat) : Int) ∧ ys.length = ts.length ∧ Hid (∀ j, j < k → ys[j]? = some (mText (k0 + j))) ∧ wr.ownsRow base 9 1 (.slice a ts.length c) ts.length (ys.map .string) ∧ Keeps base [9] w wr) (fun _ i _ => ts.length - (intOf i).toNat)
  case atStart => exact ⟨0, ts, by omega, rfl, by go_num, rfl, fun j h => by omega, hown, Keeps.refl _ _ _⟩
  case round =>
    obtain ⟨k, ys, hk, rfl, rfl, hyl, HY, hownr, hkr⟩ := hrel
    by_cases hlt : k < ts.length
    · obtain ⟨g, rfl, hbg, -⟩ := own_put hownr k (by omega)
      go_wp2_with fail
      refine (markText_is (k0 + k) _ (by omega) (by omega)).mono ?_
      rintro e w1 ⟨rfl, hb1⟩
      have own1 : w1.ownsRow base 9 1 (.slice (some ⟨g, 0, none⟩) ts.length c) ts.length (ys.map .string) := own_keeps (B := 0) (ts := []) hownr (Keeps.below hb1) (by simp)
      obtain ⟨g', hgg, -, hf1, hc1, ⟨u, hu⟩, hput, honly⟩ := own_put own1 k (by omega)
      cases hgg
      rw [hu] at hc1
      obtain ⟨cur, hcur⟩ := own_blk own1 rfl
      have hk1 : Keeps base [9] w w1 := hkr.trans (Keeps.below hb1)
      have hk2 := hk1.trans ((honly (.string (mText (k0 + k)))).keeps hcur (by simp) hbg)
      have own2 := hput (.string (mText (k0 + k)))
      have HY2 : Hid (∀ j, j < k + 1 → (ys.set k (mText (k0 + k)))[j]? = some (mText (k0 + j))) := fun j hj => by
        by_cases e : j = k
        · subst e; simp [hyl, hlt]
        · rw [List.getElem?_set_ne (by omega)]; exact HY.out j (by omega)
      rw [← List.map_set] at own2
      generalize mText (k0 + k) = s at *
      clear own1 hput honly hownr HY
      go_wp2
      go_roundw
      case rel => exact ⟨k + 1, ys.set k s, by omega, by go_num, by go_num, by simpa using hyl, HY2, own2, hk2⟩
      case measure => simp [intOf]; omega
    · have hke : k = ts.length := by omega
      have hy : ys = mTexts k0 ts.length := by
        apply List.ext_getElem?
        intro j
        by_cases hj : j < ts.length
        · rw [HY.out j (by omega)]; simp [mTexts, hj]
        · rw [List.getElem?_eq_none (by omega), List.getElem?_eq_none (by simp [mTexts]; omega)]
      rw [hy] at hownr
      clear HY hy
      subst hke
      go_wp2
      go_ret
      exact ⟨rfl, hownr, hkr⟩
set_option maxHeartbeats 800000 in
theorem heldStrs_is (a : Option Addr) (c n k0 : Nat) (w : World) (hn : n ≤ 1048576) (h0 : 0 < k0) (h1 : k0 ≤ 1000000) (hs : StrsAt w 0 a (mTexts k0 n)) :
    Calls Tryz.prog 26 #[.slice a n c, .int .i64 k0] w fun e w' => e = .returned (.int .i64 ((k0 + n : Nat) : Int)) ∧ Below w.heap.size w w' := by
  go_enter Tryz.func26, Tryz.ntmps26
  go_wp2
  go_loopw [1, 5] (fun q i wr => ∃ (k : Nat), k ≤ n ∧ i = .int .i64 k ∧ q = .int .i64 ((k0 + k : Nat) : Int) ∧ Below w.heap.size w wr) (fun _ i _ => n - (intOf i).toNat)
  case atStart => exact ⟨0, by omega, rfl, by go_num, Below.refl _ _⟩
  case round =>
    obtain ⟨k, hk, rfl, rfl, hb⟩ := hrel
    by_cases hlt : k < n
    · obtain ⟨b, off, rfl, -, hc⟩ := hs k (by simp [mTexts]; omega)
      have hc2 : w.cell? ⟨b, off + k, none⟩ = some (.string (mText (k0 + k))) := by simpa [mTexts] using hc
      have hcr := cell_later hb hc2
      clear hc hc2
      go_wp2_with fail
      go_region_with (go_at_call 48; refine (markText_is (k0 + k) _ (by omega) (by omega)).mono ?_; rintro e w1 ⟨rfl, hb1⟩; have hc1 := cell_later hb1 (show wr.drew.cell? ⟨b, off + k, none⟩ = some (.string (mText (k0 + k))) from hcr); have hbw := hb.trans ((Below.refl wr.heap.size wr).drew.trans hb1 |>.mono hb.size))
      all_goals generalize mText (k0 + k) = s at *
      all_goals
        go_wp2
        go_roundw
        case rel => exact ⟨k + 1, by omega, by go_num, by go_num, hbw⟩
        case measure => simp [intOf]; omega
    · have hke : k = n := by omega
      subst hke
      go_wp2
      go_ret
      exact ⟨rfl, hb⟩

theorem codeVals_set (xs : List (Int × Int)) (i : Nat) (o a : Int) (h : i < xs.length) : ((codeVals xs).set (i * 2) (.int .i64 o)).set (i * 2 + 1) (.int .i64 a) = codeVals (xs.set i (o, a)) := by
  induction xs generalizing i with
  | nil => simp at h
  | cons x xs ih =>
    have e : ∀ y ys, codeVals (y :: ys) = .int .i64 y.1 :: .int .i64 y.2 :: codeVals ys := fun y ys => by simp [codeVals]
    cases i with
    | zero => simp [e]
    | succ i =>
      rw [e, show (i + 1) * 2 = i * 2 + 1 + 1 by omega]
      simp only [List.set_cons_succ]
      rw [ih i (by simpa using h), e]

set_option maxHeartbeats 800000 in
theorem markIns_is (base : Nat) (a : Option Addr) (c : Nat) (xs : List (Int × Int)) (k0 : Nat) (w : World) (hn : xs.length ≤ 1048576) (h1 : k0 ≤ 10000000000000) (hown : w.ownsRow base 44 2 (.slice a xs.length c) xs.length (codeVals xs)) :
    Calls Tryz.prog 49 #[.slice a xs.length c, .int .i64 k0] w fun e w' => e = .returned (.int .i64 ((k0 + 2 * xs.length : Nat) : Int)) ∧ w'.ownsRow base 44 2 (.slice a xs.length c) xs.length (codeVals (mCode k0 xs.length)) ∧ w.grownBy w' (Value.slice a xs.length c).ownBlock := by
  go_enter Tryz.func49, Tryz.ntmps49
  go_wp2
  go_loopw [1, 5] (fun q i wr => ∃ (k : Nat) (ys : List (Int × Int)), k ≤ xs.length ∧ i = .int .i64 k ∧ q = .int .i64 ((k0 + 2 * k : Nat) : Int) ∧ ys.length = xs.length ∧ Hid (∀ j, j < k → ys[j]? = some (((k0 + 2 * j : Nat) : Int), ((k0 + 2 * j + 1 : Nat) : Int))) ∧ wr.ownsRow base 44 2 (.slice a xs.length c) xs.length (codeVals ys) ∧ w.grownBy wr (Value.slice a xs.length c).ownBlock) (fun _ i _ => xs.length - (intOf i).toNat)
  case atStart => exact ⟨0, xs, by omega, rfl, by go_num, rfl, fun j h => by omega, hown, ⟨rfl, rfl, rfl, Nat.le_refl _, fun _ _ _ => rfl⟩⟩
  case round =>
    obtain ⟨k, ys, hk, rfl, rfl, hyl, HY, hownr, hgr⟩ := hrel
    by_cases hlt : k < xs.length
    · obtain ⟨g, rfl, hbg, hf1, hc1, ⟨u, hu⟩, hput, honly⟩ := own_put hownr (k * 2) (by omega)
      have own1 := hput (.int .i64 ((k0 + 2 * k : Nat) : Int))
      obtain ⟨g', hgg, -, hf2, hc2, ⟨u2, hu2⟩, hput2, honly2⟩ := own_put own1 (k * 2 + 1) (by omega)
      cases hgg
      have own2 := hput2 (.int .i64 ((k0 + 2 * k + 1 : Nat) : Int))
      rw [codeVals_set ys k _ _ (by omega)] at own2
      have ho : Only g wr ((wr.setCell ⟨g, k * 2, none⟩ (.int .i64 ((k0 + 2 * k : Nat) : Int))).setCell ⟨g, k * 2 + 1, none⟩ (.int .i64 ((k0 + 2 * k + 1 : Nat) : Int))) := (honly _).trans (honly2 _)
      have hg2 : Only g w _ := Only.trans (show Only g w wr from hgr) ho
      have HY2 : Hid (∀ j, j < k + 1 → (ys.set k (((k0 + 2 * k : Nat) : Int), ((k0 + 2 * k + 1 : Nat) : Int)))[j]? = some (((k0 + 2 * j : Nat) : Int), ((k0 + 2 * j + 1 : Nat) : Int))) := fun j hj => by
        by_cases e : j = k
        · subst e; simp [hyl, hlt]
        · rw [List.getElem?_set_ne (by omega)]; exact HY.out j (by omega)
      rw [hu] at hc1
      rw [hu2] at hc2
      have hf2' : wr.frozen? ⟨g, k * 2 + 1, none⟩ = false := by
        obtain ⟨cur, hcur⟩ := own_blk hownr rfl
        exact block_free hcur _
      have hc2' : ∃ u3, wr.cell? ⟨g, k * 2 + 1, none⟩ = some u3 := by
        obtain ⟨_, hgg, -, -, h, ⟨u3, hu3⟩, -⟩ := own_put hownr (k * 2 + 1) (by omega)
        cases hgg
        exact ⟨u3, h.trans hu3⟩
      obtain ⟨u3, hc2'⟩ := hc2'
      clear hput hput2 honly honly2 own1 HY hf2 hc2 hownr
      go_wp2
      go_roundw
      case rel => exact ⟨k + 1, _, by omega, by go_num, by go_num, by simpa using hyl, HY2, by simpa using own2, by show Only g w _; simpa using hg2⟩
      case measure => simp [intOf]; omega
    · have hke : k = xs.length := by omega
      have hy : ys = mCode k0 xs.length := by
        apply List.ext_getElem?
        intro j
        by_cases hj : j < xs.length
        · rw [HY.out j (by omega)]; simp [mCode, hj]
        · rw [List.getElem?_eq_none (by omega), List.getElem?_eq_none (by simp [mCode]; omega)]
      rw [hy] at hownr
      clear HY hy
      subst hke
      go_wp2
      go_ret
      exact ⟨rfl, hownr, hgr⟩
set_option maxHeartbeats 800000 in
theorem heldIns_is (a : Option Addr) (c n k0 : Nat) (w : World) (hn : n ≤ 1048576) (h1 : k0 ≤ 10000000000000) (hs : CodeAt w 0 a (mCode k0 n)) :
    Calls Tryz.prog 50 #[.slice a n c, .int .i64 k0] w fun e w' => e = .returned (.int .i64 ((k0 + 2 * n : Nat) : Int)) ∧ Below w.heap.size w w' := by
  go_enter Tryz.func50, Tryz.ntmps50
  go_wp2
  go_loopw [1, 5] (fun q i wr => ∃ (k : Nat), k ≤ n ∧ i = .int .i64 k ∧ q = .int .i64 ((k0 + 2 * k : Nat) : Int) ∧ Below w.heap.size w wr) (fun _ i _ => n - (intOf i).toNat)
  case atStart => exact ⟨0, by omega, rfl, by go_num, Below.refl _ _⟩
  case round =>
    obtain ⟨k, hk, rfl, rfl, hb⟩ := hrel
    by_cases hlt : k < n
    · obtain ⟨b, off, rfl, -, hc, hc'⟩ := hs k (by simp [mCode]; omega)
      have hc2 : w.cell? ⟨b, off + k * 2, none⟩ = some (.int .i64 ((k0 + 2 * k : Nat) : Int)) := by simpa [mCode] using hc
      have hd2 : w.cell? ⟨b, off + k * 2 + 1, none⟩ = some (.int .i64 ((k0 + 2 * k + 1 : Nat) : Int)) := by simpa [mCode] using hc'
      have hcr := cell_later hb hc2
      have hdr := cell_later hb hd2
      clear hc hc2 hc' hd2
      go_wp2
      exact ⟨⟨k + 1, by omega, by go_num, by go_num, hb⟩, by simp [intOf]; omega⟩
    · have hke : k = n := by omega
      subst hke
      go_wp2
      go_ret
      exact ⟨rfl, hb⟩
end Go.Proofs.YtjdoljaailokmaaGreatDoor
