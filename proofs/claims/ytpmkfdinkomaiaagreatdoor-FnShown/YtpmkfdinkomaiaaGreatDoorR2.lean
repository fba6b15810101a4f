/-
  What the document's l02Int gives: the number that a text is, or 0 and false.
-/
import Derived.Test.YtpmkfdinkomaiaaGreatDoorGQ9
namespace Go.Proofs.YtpmkfdinkomaiaaGreatDoor
open Go.RowKit

def digVal (l : List UInt8) : Int := l.foldl (fun n c => 10 * n + (c.toNat : Int) - 48) 0
def BadInt (neg : Bool) (t : ByteArray) : Prop := t.size < 1 ∨ 10 < t.size ∨ (∃ h : 1 < t.size, t[0] = 48) ∨ (neg = true ∧ t = ⟨#[48]⟩) ∨ ∃ (k : Nat) (h : k < t.size), t[k].toNat < 48 ∨ 57 < t[k].toNat
def IntRead (neg : Bool) (t : ByteArray) (n : Int) (b : Bool) : Prop :=
  (b = false ∧ n = 0 ∧ BadInt neg t) ∨ (b = true ∧ n = (if neg then - digVal t.data.toList else digVal t.data.toList) ∧ t.size ≤ 10 ∧ ∀ (k : Nat) (h : k < t.size), 48 ≤ t[k].toNat ∧ t[k].toNat ≤ 57)

def IntPost (neg : Bool) (t : ByteArray) (w : World) (e : Ending) (w' : World) : Prop := ∃ n b, e = .returned (.tuple #[.int .i64 n, .bool b]) ∧ IntRead neg t n b ∧ w' = w
theorem take_text_succ {t : ByteArray} {k : Nat} (h : k < t.size) : t.data.toList.take (k + 1) = t.data.toList.take k ++ [t[k]] := by
  have h' : k < t.data.toList.length := by rw [Array.length_toList]; exact h
  exact List.take_succ_eq_append_getElem h'
theorem digVal_snoc (l : List UInt8) (c : UInt8) : digVal (l ++ [c]) = 10 * digVal l + (c.toNat : Int) - 48 := by simp [digVal]
/-- The bytes read so far, and the number that they are. -/
def DigSt (t : ByteArray) (k : Nat) (n : Int) : Prop := k ≤ t.size ∧ n = digVal (t.data.toList.take k) ∧ 0 ≤ n ∧ n < 10 ^ k ∧ ∀ j (h : j < t.size), j < k → 48 ≤ t[j].toNat ∧ t[j].toNat ≤ 57
theorem DigSt.step {t : ByteArray} {k : Nat} {n : Int} (h : DigSt t k n) (hk : k < t.size) (h1 : 48 ≤ t[k].toNat) (h2 : t[k].toNat ≤ 57) : DigSt t (k + 1) (10 * n + (t[k].toNat : Int) - 48) := by
  obtain ⟨a, b, c, d, e⟩ := h
  refine ⟨hk, by rw [take_text_succ hk, digVal_snoc, ← b], by omega, by rw [Int.pow_succ]; omega, fun j hj hjk => ?_⟩
  by_cases ej : j = k
  · subst ej; exact ⟨h1, h2⟩
  · exact e j hj (by omega)
theorem pow10_le {k : Nat} (h : k ≤ 10) : (10 : Int) ^ k ≤ 10000000000 := by
  have := Nat.pow_le_pow_right (n := 10) (by omega) h
  have h2 : ((10 ^ k : Nat) : Int) ≤ ((10 ^ 10 : Nat) : Int) := by exact_mod_cast this
  simpa using h2

theorem DigSt.start (t : ByteArray) : DigSt t 0 0 := ⟨Nat.zero_le _, rfl, Int.le_refl _, by decide, fun _ _ h => by omega⟩
theorem DigSt.done {t : ByteArray} {n : Int} (h : DigSt t t.size n) (neg : Bool) (h10 : t.size ≤ 10) : IntRead neg t (if neg then -n else n) true := by
  obtain ⟨-, b, -, -, e⟩ := h
  refine Or.inr ⟨rfl, ?_, h10, fun k hk => e k hk hk⟩
  have e2 : t.data.toList.take t.size = t.data.toList := List.take_of_length_le (by rw [Array.length_toList]; exact Nat.le_refl _)
  rw [b, e2]

theorem one_text_ne {t : ByteArray} (h : 1 < t.size) : (t.toList == [48]) = false := by
  rw [ByteArray.toList_eq, beq_eq_false_iff_ne]
  intro e
  have : t.data.toList.length = 1 := by rw [e]; rfl
  rw [Array.length_toList] at this
  have h' : 1 < t.data.size := h
  omega
theorem zero_text_ne {t : ByteArray} (h : t ≠ ⟨#[48]⟩) : (t.toList == [48]) = false := by
  rw [ByteArray.toList_eq, beq_eq_false_iff_ne]
  intro e
  exact h (ByteArray.ext (by rw [← Array.toList_inj]; exact e))

set_option maxRecDepth 100000 in
set_option maxHeartbeats 4000000 in
theorem sInt_neg (s : ByteArray) (w : World) (hs : s.size ≤ 1048576) (h0 : 0 < s.size) (hm : s[0] = 45) :
    Calls Tryz.prog 33 #[.string s] w (IntPost true (s.extract 1 s.size) w) := by
  have h0' : (0 : Int) < s.size := by omega
  generalize ht : s.extract 1 s.size = t
  have hts : t.size ≤ 1048576 := by rw [← ht]; simp; omega
  have hm' : ((s[0].toNat : Int) == 45) = true := by rw [hm]; rfl
  clear hm
  by_cases c1 : t.size < 1
  · go_enter Tryz.func33, Tryz.ntmps33
    go_wp2
    go_ret2
    exact ⟨0, false, rfl, Or.inl ⟨rfl, rfl, Or.inl c1⟩, rfl⟩
  by_cases c2 : 10 < t.size
  · go_enter Tryz.func33, Tryz.ntmps33
    go_wp2
    go_ret2
    exact ⟨0, false, rfl, Or.inl ⟨rfl, rfl, Or.inr (Or.inl c2)⟩, rfl⟩
  by_cases c3 : 1 < t.size
  · by_cases c4 : t[0] = 48
    · have c4' : ((t[0].toNat : Int) == 48) = true := by rw [c4]; rfl
      have HB : Hid (BadInt true t) := Or.inr (Or.inr (Or.inl ⟨c3, c4⟩))
      clear c4
      go_enter Tryz.func33, Tryz.ntmps33
      go_wp2
      go_ret2
      exact ⟨0, false, rfl, Or.inl ⟨rfl, rfl, HB.out⟩, rfl⟩
    · have c4' : ((t[0].toNat : Int) == 48) = false := by
        simp only [beq_eq_false_iff_ne, ne_eq]
        intro e
        exact c4 (UInt8.toNat_inj.1 (by simp; omega))
      clear c4
      have hne : (t.toList == [48]) = false := one_text_ne c3
      go_enter Tryz.func33, Tryz.ntmps33
      go_wp2
      go_loop [5, 6] (fun nv i => ∃ (k : Nat) (n : Int), nv = .int .i64 n ∧ i = .int .i64 k ∧ Hid (DigSt t k n)) (fun _ i => t.size - (intOf i).toNat)
      case atStart => exact ⟨0, 0, rfl, rfl, DigSt.start t⟩
      case round =>
        obtain ⟨k, n, rfl, rfl, HD⟩ := hrel
        have hk : k ≤ t.size := HD.out.1
        have hn0 : 0 ≤ n := HD.out.2.2.1
        have hn1 : n < 10000000000 := Int.lt_of_lt_of_le HD.out.2.2.2.1 (pow10_le (by omega))
        by_cases hlt : k < t.size
        · by_cases b1 : (t[k].toNat : Int) < 48
          · have HB : Hid (BadInt true t) := Or.inr (Or.inr (Or.inr (Or.inr ⟨k, hlt, Or.inl (by omega)⟩)))
            go_wp2
            go_ret2
            exact ⟨0, false, rfl, Or.inl ⟨rfl, rfl, HB.out⟩, rfl⟩
          by_cases b2 : 57 < (t[k].toNat : Int)
          · have HB : Hid (BadInt true t) := Or.inr (Or.inr (Or.inr (Or.inr ⟨k, hlt, Or.inr (by omega)⟩)))
            go_wp2
            go_ret2
            exact ⟨0, false, rfl, Or.inl ⟨rfl, rfl, HB.out⟩, rfl⟩
          · have HD' : Hid (DigSt t (k + 1) (10 * n + (t[k].toNat : Int) - 48)) := HD.out.step hlt (by omega) (by omega)
            go_wp2
            go_round
            case rel => exact ⟨k + 1, _, rfl, by go_num, HD'⟩
            case measure => simp [intOf]; omega
        · obtain rfl : k = t.size := by omega
          have HR : Hid (IntRead true t (- n) true) := HD.out.done true (by omega)
          go_wp2
          go_ret2
          exact ⟨_, true, rfl, HR.out, rfl⟩
  · by_cases c5 : t = ⟨#[48]⟩
    · have hne : (t.toList == [48]) = true := by rw [c5, ByteArray.toList_eq]; rfl
      have HB : Hid (BadInt true t) := Or.inr (Or.inr (Or.inr (Or.inl ⟨rfl, c5⟩)))
      clear c5
      go_enter Tryz.func33, Tryz.ntmps33
      go_wp2
      go_ret2
      exact ⟨0, false, rfl, Or.inl ⟨rfl, rfl, HB.out⟩, rfl⟩
    · have hne : (t.toList == [48]) = false := zero_text_ne c5
      clear c5
      go_enter Tryz.func33, Tryz.ntmps33
      go_wp2
      go_loop [5, 6] (fun nv i => ∃ (k : Nat) (n : Int), nv = .int .i64 n ∧ i = .int .i64 k ∧ Hid (DigSt t k n)) (fun _ i => t.size - (intOf i).toNat)
      case atStart => exact ⟨0, 0, rfl, rfl, DigSt.start t⟩
      case round =>
        obtain ⟨k, n, rfl, rfl, HD⟩ := hrel
        have hk : k ≤ t.size := HD.out.1
        have hn0 : 0 ≤ n := HD.out.2.2.1
        have hn1 : n < 10000000000 := Int.lt_of_lt_of_le HD.out.2.2.2.1 (pow10_le (by omega))
        by_cases hlt : k < t.size
        · by_cases b1 : (t[k].toNat : Int) < 48
          · have HB : Hid (BadInt true t) := Or.inr (Or.inr (Or.inr (Or.inr ⟨k, hlt, Or.inl (by omega)⟩)))
            go_wp2
            go_ret2
            exact ⟨0, false, rfl, Or.inl ⟨rfl, rfl, HB.out⟩, rfl⟩
          by_cases b2 : 57 < (t[k].toNat : Int)
          · have HB : Hid (BadInt true t) := Or.inr (Or.inr (Or.inr (Or.inr ⟨k, hlt, Or.inr (by omega)⟩)))
            go_wp2
            go_ret2
            exact ⟨0, false, rfl, Or.inl ⟨rfl, rfl, HB.out⟩, rfl⟩
          · have HD' : Hid (DigSt t (k + 1) (10 * n + (t[k].toNat : Int) - 48)) := HD.out.step hlt (by omega) (by omega)
            go_wp2
            go_round
            case rel => exact ⟨k + 1, _, rfl, by go_num, HD'⟩
            case measure => simp [intOf]; omega
        · obtain rfl : k = t.size := by omega
          have HR : Hid (IntRead true t (- n) true) := HD.out.done true (by omega)
          go_wp2
          go_ret2
          exact ⟨_, true, rfl, HR.out, rfl⟩

set_option maxRecDepth 100000 in
set_option maxHeartbeats 4000000 in
theorem sInt_pos0 (t : ByteArray) (w : World) (h0 : t.size = 0) :
    Calls Tryz.prog 33 #[.string t] w (IntPost false t w) := by
  go_enter Tryz.func33, Tryz.ntmps33
  go_wp2
  go_ret2
  exact ⟨0, false, rfl, Or.inl ⟨rfl, rfl, Or.inl (by omega)⟩, rfl⟩

set_option maxRecDepth 100000 in
set_option maxHeartbeats 4000000 in
theorem sInt_pos (t : ByteArray) (w : World) (hs : t.size ≤ 1048576) (h0 : 0 < t.size) (hm : t[0] ≠ 45) :
    Calls Tryz.prog 33 #[.string t] w (IntPost false t w) := by
  have h0' : (0 : Int) < t.size := by omega
  have hm' : ((t[0].toNat : Int) == 45) = false := by
    simp only [beq_eq_false_iff_ne, ne_eq]
    intro e
    exact hm (UInt8.toNat_inj.1 (by simp; omega))
  clear hm
  by_cases c2 : 10 < t.size
  · go_enter Tryz.func33, Tryz.ntmps33
    go_wp2
    go_ret2
    exact ⟨0, false, rfl, Or.inl ⟨rfl, rfl, Or.inr (Or.inl c2)⟩, rfl⟩
  by_cases c3 : 1 < t.size
  · by_cases c4 : t[0] = 48
    · have c4' : ((t[0].toNat : Int) == 48) = true := by rw [c4]; rfl
      have HB : Hid (BadInt false t) := Or.inr (Or.inr (Or.inl ⟨c3, c4⟩))
      clear c4
      go_enter Tryz.func33, Tryz.ntmps33
      go_wp2
      go_ret2
      exact ⟨0, false, rfl, Or.inl ⟨rfl, rfl, HB.out⟩, rfl⟩
    · have c4' : ((t[0].toNat : Int) == 48) = false := by
        simp only [beq_eq_false_iff_ne, ne_eq]
        intro e
        exact c4 (UInt8.toNat_inj.1 (by simp; omega))
      clear c4
      have hne : (t.toList == [48]) = false := one_text_ne c3
      go_enter Tryz.func33, Tryz.ntmps33
      go_wp2
      go_loop [5, 6] (fun nv i => ∃ (k : Nat) (n : Int), nv = .int .i64 n ∧ i = .int .i64 k ∧ Hid (DigSt t k n)) (fun _ i => t.size - (intOf i).toNat)
      case atStart => exact ⟨0, 0, rfl, rfl, DigSt.start t⟩
      case round =>
        obtain ⟨k, n, rfl, rfl, HD⟩ := hrel
        have hk : k ≤ t.size := HD.out.1
        have hn0 : 0 ≤ n := HD.out.2.2.1
        have hn1 : n < 10000000000 := Int.lt_of_lt_of_le HD.out.2.2.2.1 (pow10_le (by omega))
        by_cases hlt : k < t.size
        · by_cases b1 : (t[k].toNat : Int) < 48
          · have HB : Hid (BadInt false t) := Or.inr (Or.inr (Or.inr (Or.inr ⟨k, hlt, Or.inl (by omega)⟩)))
            go_wp2
            go_ret2
            exact ⟨0, false, rfl, Or.inl ⟨rfl, rfl, HB.out⟩, rfl⟩
          by_cases b2 : 57 < (t[k].toNat : Int)
          · have HB : Hid (BadInt false t) := Or.inr (Or.inr (Or.inr (Or.inr ⟨k, hlt, Or.inr (by omega)⟩)))
            go_wp2
            go_ret2
            exact ⟨0, false, rfl, Or.inl ⟨rfl, rfl, HB.out⟩, rfl⟩
          · have HD' : Hid (DigSt t (k + 1) (10 * n + (t[k].toNat : Int) - 48)) := HD.out.step hlt (by omega) (by omega)
            go_wp2
            go_round
            case rel => exact ⟨k + 1, _, rfl, by go_num, HD'⟩
            case measure => simp [intOf]; omega
        · obtain rfl : k = t.size := by omega
          have HR : Hid (IntRead false t ( n) true) := HD.out.done false (by omega)
          go_wp2
          go_ret2
          exact ⟨_, true, rfl, HR.out, rfl⟩
  · go_enter Tryz.func33, Tryz.ntmps33
    go_wp2
    go_loop [5, 6] (fun nv i => ∃ (k : Nat) (n : Int), nv = .int .i64 n ∧ i = .int .i64 k ∧ Hid (DigSt t k n)) (fun _ i => t.size - (intOf i).toNat)
    case atStart => exact ⟨0, 0, rfl, rfl, DigSt.start t⟩
    case round =>
      obtain ⟨k, n, rfl, rfl, HD⟩ := hrel
      have hk : k ≤ t.size := HD.out.1
      have hn0 : 0 ≤ n := HD.out.2.2.1
      have hn1 : n < 10000000000 := Int.lt_of_lt_of_le HD.out.2.2.2.1 (pow10_le (by omega))
      by_cases hlt : k < t.size
      · by_cases b1 : (t[k].toNat : Int) < 48
        · have HB : Hid (BadInt false t) := Or.inr (Or.inr (Or.inr (Or.inr ⟨k, hlt, Or.inl (by omega)⟩)))
          go_wp2
          go_ret2
          exact ⟨0, false, rfl, Or.inl ⟨rfl, rfl, HB.out⟩, rfl⟩
        by_cases b2 : 57 < (t[k].toNat : Int)
        · have HB : Hid (BadInt false t) := Or.inr (Or.inr (Or.inr (Or.inr ⟨k, hlt, Or.inr (by omega)⟩)))
          go_wp2
          go_ret2
          exact ⟨0, false, rfl, Or.inl ⟨rfl, rfl, HB.out⟩, rfl⟩
        · have HD' : Hid (DigSt t (k + 1) (10 * n + (t[k].toNat : Int) - 48)) := HD.out.step hlt (by omega) (by omega)
          go_wp2
          go_round
          case rel => exact ⟨k + 1, _, rfl, by go_num, HD'⟩
          case measure => simp [intOf]; omega
      · obtain rfl : k = t.size := by omega
        have HR : Hid (IntRead false t ( n) true) := HD.out.done false (by omega)
        go_wp2
        go_ret2
        exact ⟨_, true, rfl, HR.out, rfl⟩
end Go.Proofs.YtpmkfdinkomaiaaGreatDoor
