/-
  What the program's byte reader answers: numbers and texts off the bytes, its place moved on, nothing else written.
-/
import Derived.Test.YtbffmhcahdblnaaDoorW1
import Derived.Test.YtbffmhcahdblnaaDoorMem3
import Derived.Test.YtbffmhcahdblnaaDoorLPlain2
namespace Go.Proofs.YtbffmhcahdblnaaDoor
open Go.RowKit

set_option maxHeartbeats 400000 in
theorem foldBack_any (u : Nat) (w : World) (h : u < 34359738368) : Calls Tryd.prog 53 #[.int .i64 u] w fun e w' => e = .returned (.int .i64 (unzig u)) ∧ w' = w := by
  by_cases hu : u % 2 = 1
  · have h1 : ((u : Int) % 2 == 1) = true := by simp; omega
    go_enter Tryd.func53, Tryd.ntmps53
    go_wp2
    go_ret
    exact ⟨ret_int (by unfold unzig; rw [if_pos hu]; omega), rfl⟩
  · have h1 : ((u : Int) % 2 == 1) = false := by simp; omega
    go_enter Tryd.func53, Tryd.ntmps53
    go_wp2
    go_ret
    exact ⟨ret_int (by unfold unzig; rw [if_neg hu]; omega), rfl⟩

/-- The reader, at place p. -/
def RdAt (w : World) (R : Nat) (ab : Option Addr) (n cap p : Nat) : Prop := w.heap[R]? = some (Obj.cells #[.slice ab n cap, .int .i64 p] 53 (0, 0))
/-- Block R alone may have been written. -/
def Only (R : Nat) (w w' : World) : Prop := w.grownBy w' (some R)
theorem Only.refl (R : Nat) (w : World) : Only R w w := ⟨rfl, rfl, rfl, Nat.le_refl _, fun _ _ _ => rfl⟩
theorem Only.trans {R : Nat} {a b c : World} (h : Only R a b) (k : Only R b c) : Only R a c :=
  ⟨k.os.trans h.os, k.tape.trans h.tape, k.output.trans h.output, Nat.le_trans h.size k.size, fun i hi hr => (k.block i (Nat.lt_of_lt_of_le hi h.size) hr).trans (h.block i hi hr)⟩
theorem Only.draws {R : Nat} {a w : World} (h : Only R a w) (n : Nat) : Only R a (w.drewN n) := ⟨h.os, h.tape, h.output, h.size, h.block⟩
theorem Only.set {R : Nat} {a w : World} (h : Only R a w) (i : Nat) (v : Value) : Only R a (w.setCell ⟨R, i, none⟩ v) :=
  ⟨h.os, h.tape, h.output, by simpa using h.size, fun k hk hr => by rw [Below.heap_setCell _ _ _ _ (by intro e; exact hr (by simp [e]))]; exact h.block k hk hr⟩
theorem Only.below {R B : Nat} {w w' : World} (h : Only R w w') (hB : B ≤ R) (hz : B ≤ w.heap.size) : Below B w w' :=
  ⟨h.os, h.tape, h.output, h.size, fun k hk => h.block k (by omega) (by intro e; simp at e; omega)⟩

theorem rd_none {f i u : Nat} {l : List Int} (hi : 0 < i) : rdNum true (f + 1) i u (0 :: l) = none := by rw [rdNum, if_pos ⟨rfl, rfl, hi⟩]
theorem rd_last {f i u : Nat} {x : Int} {l : List Int} (h : 0 < x ∨ i = 0) (hx : x < 128) : rdNum true (f + 1) i u (x :: l) = some (u + (x % 128).toNat * 128 ^ i, l) := by
  rw [rdNum, if_neg (by omega), if_pos hx]
theorem rd_more {f i u : Nat} {x : Int} {l : List Int} (hx : 128 ≤ x) : rdNum true (f + 1) i u (x :: l) = rdNum true f (i + 1) (u + (x % 128).toNat * 128 ^ i) l := by
  rw [rdNum, if_neg (by omega), if_neg (by omega)]
theorem pNum_some {l r : List Int} {u : Nat} (h : rdNum true 5 0 0 l = some (u, r)) : pNum l = some (unzig u, r) := by unfold pNum; rw [h]; rfl
theorem pNum_none {l : List Int} (h : rdNum true 5 0 0 l = none) : pNum l = none := by unfold pNum; rw [h]; rfl
theorem RdAt.move {w : World} {R n cap q : Nat} {ab : Option Addr} (h : RdAt w R ab n cap q) (m : Nat) : RdAt ((w.drewN m).setCell ⟨R, 1, none⟩ (.int .i64 ((q : Int) + 1))) R ab n cap (q + 1) := by
  have := block_set (w := w.drewN m) (i := 1) h (.int .i64 ((q : Int) + 1))
  simpa [RdAt] using this
theorem RdAt.kept {w w' : World} {R n cap q : Nat} {ab : Option Addr} (h : RdAt w R ab n cap q) (hb : Below w.heap.size w w') : RdAt w' R ab n cap q := block_kept h hb

set_option maxHeartbeats 4000000 in
theorem rNumber_any (R : Nat) (ab : Option Addr) (bs : List Int) (cap p : Nat) (w wz : World) (hR : RdAt w R ab bs.length cap p) (hp : p ≤ bs.length) (hn : bs.length ≤ 1048576) (hby : Byte bs)
    (hb : BytesAt wz 0 ab bs) (hbz : Below wz.heap.size wz w) (hRz : wz.heap.size ≤ R) (hzw : wz.heap.size ≤ w.heap.size) :
    Calls Tryd.prog 32 #[.pointer (some ⟨R, 0, none⟩)] w fun e w' =>
      (∃ (n : Int) (q : Nat), q ≤ bs.length ∧ pNum (bs.drop p) = some (n, bs.drop q) ∧ e = .returned (.tuple #[.int .i64 n, .nilIface]) ∧ RdAt w' R ab bs.length cap q ∧ Only R w w') ∨
      (pNum (bs.drop p) = none ∧ ∃ s, e = .returned (.tuple #[.int .i64 0, .iface 62 (.agg #[.string s])]) ∧ Only R w w') := by
  go_enter Tryd.func32, Tryd.ntmps32
  go_wp2
  go_loopw [4, 5] (fun uv i wr => ∃ (k q u : Nat), k ≤ 5 ∧ i = .int .i64 k ∧ uv = .int .i64 u ∧ u < 128 ^ k ∧ q ≤ bs.length ∧ Hid (rdNum true 5 0 0 (bs.drop p) = rdNum true (5 - k) k u (bs.drop q)) ∧ RdAt wr R ab bs.length cap q ∧ Only R w wr) (fun _ i _ => 5 - (intOf i).toNat)
  case atStart => exact ⟨0, p, 0, by omega, rfl, rfl, by simp, hp, rfl, hR, Only.refl _ _⟩
  case round =>
    obtain ⟨k, q, u, hk, rfl, rfl, hu, hq, HP, hRr, hor⟩ := hrel
    have hbr : Below wz.heap.size wz wr := hbz.trans (hor.below hRz hzw)
    have rc := block_cell hRr
    have rf := block_free hRr
    by_cases hqn : q < bs.length
    · obtain ⟨b, off, rfl, -, e1⟩ := hb q hqn
      have e1' := cell_later hbr e1
      have hx := hby bs[q] (List.getElem_mem hqn)
      have hdrop : bs.drop q = bs[q] :: bs.drop (q + 1) := List.drop_eq_getElem_cons hqn
      rw [hdrop] at HP
      clear e1 hdrop
      generalize bs[q] = x at *
      have hq' : (q : Int) < (bs.length : Int) := by omega
      rcases (show k = 0 ∨ k = 1 ∨ k = 2 ∨ k = 3 ∨ k = 4 ∨ k = 5 by omega) with rfl | rfl | rfl | rfl | rfl | rfl
      · rcases (show x = 0 ∨ (0 < x ∧ x < 128) ∨ 128 ≤ x by omega) with hx0 | ⟨hx0, hx1⟩ | hx1
        · subst hx0
          go_wp2
          go_quiet (fail)
          go_wp2
          go_quiet (fail)
          go_wp2_with fail
          rw [show ((u : Int)) = ((u + ((0 : Int) % 128).toNat * 128 ^ 0 : Nat) : Int) by simp]
          refine (foldBack_any _ _ (by simp at hu ⊢; omega)).mono ?_
          rintro e w1 ⟨rfl, rfl⟩
          go_wp2
          go_ret2
          exact Or.inl ⟨_, q + 1, by omega, pNum_some (HP.out.trans (rd_last (f := 4) (x := (0 : Int)) (Or.inr rfl) (by omega))), rfl, hRr.move _, (hor.draws _).set _ _⟩
        · have hxb : (x == 0) = false := by simp; omega
          go_wp2
          go_quiet (fail)
          go_wp2
          go_quiet (fail)
          go_wp2_with fail
          rw [show ((u : Int) + x % 128) = ((u + (x % 128).toNat * 128 ^ 0 : Nat) : Int) by simp; omega]
          refine (foldBack_any _ _ (by simp at hu ⊢; omega)).mono ?_
          rintro e w1 ⟨rfl, rfl⟩
          go_wp2
          go_ret2
          exact Or.inl ⟨_, q + 1, by omega, pNum_some (HP.out.trans (rd_last (f := 4) (x := x) (Or.inl hx0) (by omega))), by simp, hRr.move _, (hor.draws _).set _ _⟩
        · have hxb : (x == 0) = false := by simp; omega
          go_wp2
          go_quiet (fail)
          go_wp2
          go_quiet (fail)
          go_wp2
          go_roundw
          case rel => exact ⟨1, q + 1, u + (x % 128).toNat * 128 ^ 0, by omega, rfl, by congr 1; simp; omega, by simp at hu ⊢; omega, by omega, HP.out.trans (rd_more (f := 4) hx1), hRr.move _, (hor.draws _).set _ _⟩
          case measure => simp [intOf]
      · rcases (show x = 0 ∨ (0 < x ∧ x < 128) ∨ 128 ≤ x by omega) with hx0 | ⟨hx0, hx1⟩ | hx1
        · subst hx0
          go_wp2
          go_quiet (fail)
          go_wp2
          go_quiet (fail)
          go_wp2
          go_ret2
          exact Or.inr ⟨pNum_none (HP.out.trans (rd_none (f := 3) (by omega))), _, rfl, (hor.draws _).set _ _⟩
        · have hxb : (x == 0) = false := by simp; omega
          go_wp2
          go_quiet (fail)
          go_wp2
          go_quiet (fail)
          go_wp2_with fail
          rw [show ((u : Int) + x % 128 * 128) = ((u + (x % 128).toNat * 128 ^ 1 : Nat) : Int) by simp; omega]
          refine (foldBack_any _ _ (by simp at hu ⊢; omega)).mono ?_
          rintro e w1 ⟨rfl, rfl⟩
          go_wp2
          go_ret2
          exact Or.inl ⟨_, q + 1, by omega, pNum_some (HP.out.trans (rd_last (f := 3) (x := x) (Or.inl hx0) (by omega))), rfl, hRr.move _, (hor.draws _).set _ _⟩
        · have hxb : (x == 0) = false := by simp; omega
          go_wp2
          go_quiet (fail)
          go_wp2
          go_quiet (fail)
          go_wp2
          go_roundw
          case rel => exact ⟨2, q + 1, u + (x % 128).toNat * 128 ^ 1, by omega, rfl, by congr 1; simp; omega, by simp at hu ⊢; omega, by omega, HP.out.trans (rd_more (f := 3) hx1), hRr.move _, (hor.draws _).set _ _⟩
          case measure => simp [intOf]
      · rcases (show x = 0 ∨ (0 < x ∧ x < 128) ∨ 128 ≤ x by omega) with hx0 | ⟨hx0, hx1⟩ | hx1
        · subst hx0
          go_wp2
          go_quiet (fail)
          go_wp2
          go_quiet (fail)
          go_wp2
          go_ret2
          exact Or.inr ⟨pNum_none (HP.out.trans (rd_none (f := 2) (by omega))), _, rfl, (hor.draws _).set _ _⟩
        · have hxb : (x == 0) = false := by simp; omega
          go_wp2
          go_quiet (fail)
          go_wp2
          go_quiet (fail)
          go_wp2_with fail
          rw [show ((u : Int) + x % 128 * 16384) = ((u + (x % 128).toNat * 128 ^ 2 : Nat) : Int) by simp; omega]
          refine (foldBack_any _ _ (by simp at hu ⊢; omega)).mono ?_
          rintro e w1 ⟨rfl, rfl⟩
          go_wp2
          go_ret2
          exact Or.inl ⟨_, q + 1, by omega, pNum_some (HP.out.trans (rd_last (f := 2) (x := x) (Or.inl hx0) (by omega))), rfl, hRr.move _, (hor.draws _).set _ _⟩
        · have hxb : (x == 0) = false := by simp; omega
          go_wp2
          go_quiet (fail)
          go_wp2
          go_quiet (fail)
          go_wp2
          go_roundw
          case rel => exact ⟨3, q + 1, u + (x % 128).toNat * 128 ^ 2, by omega, rfl, by congr 1; simp; omega, by simp at hu ⊢; omega, by omega, HP.out.trans (rd_more (f := 2) hx1), hRr.move _, (hor.draws _).set _ _⟩
          case measure => simp [intOf]
      · rcases (show x = 0 ∨ (0 < x ∧ x < 128) ∨ 128 ≤ x by omega) with hx0 | ⟨hx0, hx1⟩ | hx1
        · subst hx0
          go_wp2
          go_quiet (fail)
          go_wp2
          go_quiet (fail)
          go_wp2
          go_ret2
          exact Or.inr ⟨pNum_none (HP.out.trans (rd_none (f := 1) (by omega))), _, rfl, (hor.draws _).set _ _⟩
        · have hxb : (x == 0) = false := by simp; omega
          go_wp2
          go_quiet (fail)
          go_wp2
          go_quiet (fail)
          go_wp2_with fail
          rw [show ((u : Int) + x % 128 * 2097152) = ((u + (x % 128).toNat * 128 ^ 3 : Nat) : Int) by simp; omega]
          refine (foldBack_any _ _ (by simp at hu ⊢; omega)).mono ?_
          rintro e w1 ⟨rfl, rfl⟩
          go_wp2
          go_ret2
          exact Or.inl ⟨_, q + 1, by omega, pNum_some (HP.out.trans (rd_last (f := 1) (x := x) (Or.inl hx0) (by omega))), rfl, hRr.move _, (hor.draws _).set _ _⟩
        · have hxb : (x == 0) = false := by simp; omega
          go_wp2
          go_quiet (fail)
          go_wp2
          go_quiet (fail)
          go_wp2
          go_roundw
          case rel => exact ⟨4, q + 1, u + (x % 128).toNat * 128 ^ 3, by omega, rfl, by congr 1; simp; omega, by simp at hu ⊢; omega, by omega, HP.out.trans (rd_more (f := 1) hx1), hRr.move _, (hor.draws _).set _ _⟩
          case measure => simp [intOf]
      · rcases (show x = 0 ∨ (0 < x ∧ x < 128) ∨ 128 ≤ x by omega) with hx0 | ⟨hx0, hx1⟩ | hx1
        · subst hx0
          go_wp2
          go_quiet (fail)
          go_wp2
          go_quiet (fail)
          go_wp2
          go_ret2
          exact Or.inr ⟨pNum_none (HP.out.trans (rd_none (f := 0) (by omega))), _, rfl, (hor.draws _).set _ _⟩
        · have hxb : (x == 0) = false := by simp; omega
          go_wp2
          go_quiet (fail)
          go_wp2
          go_quiet (fail)
          go_wp2_with fail
          rw [show ((u : Int) + x % 128 * 268435456) = ((u + (x % 128).toNat * 128 ^ 4 : Nat) : Int) by simp; omega]
          refine (foldBack_any _ _ (by simp at hu ⊢; omega)).mono ?_
          rintro e w1 ⟨rfl, rfl⟩
          go_wp2
          go_ret2
          exact Or.inl ⟨_, q + 1, by omega, pNum_some (HP.out.trans (rd_last (f := 0) (x := x) (Or.inl hx0) (by omega))), rfl, hRr.move _, (hor.draws _).set _ _⟩
        · have hxb : (x == 0) = false := by simp; omega
          go_wp2
          go_quiet (fail)
          go_wp2
          go_quiet (fail)
          go_wp2
          go_roundw
          case rel => exact ⟨5, q + 1, u + (x % 128).toNat * 128 ^ 4, by omega, rfl, by congr 1; simp; omega, by simp at hu ⊢; omega, by omega, HP.out.trans (rd_more (f := 0) hx1), hRr.move _, (hor.draws _).set _ _⟩
          case measure => simp [intOf]
      · go_wp2
        go_ret2
        exact Or.inr ⟨pNum_none HP.out, _, rfl, hor⟩
    · have hq0 : bs.drop q = [] := List.drop_of_length_le (by omega)
      rw [hq0] at HP
      have hq' : (bs.length : Int) ≤ (q : Int) := by omega
      by_cases hk5 : k < 5
      · have hk5' : (k : Int) < 5 := by omega
        obtain ⟨f, hf⟩ : ∃ f, 5 - k = f + 1 := ⟨4 - k, by omega⟩
        rw [hf] at HP
        have HE : Hid (pNum (bs.drop p) = none) := pNum_none (HP.out.trans rfl)
        clear hf hq0
        go_wp2
        go_quiet (fail)
        go_wp2
        go_ret2
        exact Or.inr ⟨HE.out, _, rfl, hor.draws _⟩
      · have hk5' : (5 : Int) ≤ (k : Int) := by omega
        obtain rfl : k = 5 := by omega
        go_wp2
        go_ret2
        exact Or.inr ⟨pNum_none HP.out, _, rfl, hor⟩

set_option maxHeartbeats 400000 in
theorem rEnd_any (R : Nat) (ab : Option Addr) (n cap p : Nat) (w : World) (hR : RdAt w R ab n cap p) :
    Calls Tryd.prog 34 #[.pointer (some ⟨R, 0, none⟩)] w fun e w' => ((n ≤ p ∧ e = .returned .nilIface) ∨ (p < n ∧ ∃ s, e = .returned (.iface 62 (.agg #[.string s])))) ∧ Only R w w' := by
  have rc := block_cell hR
  by_cases h : p < n
  · have h' : (p : Int) < (n : Int) := by omega
    go_enter Tryd.func34, Tryd.ntmps34
    go_wp2
    go_quiet (fail)
    go_wp2
    go_ret
    exact ⟨Or.inr ⟨h, _, rfl⟩, (Only.refl _ _).draws _⟩
  · have h' : (n : Int) ≤ (p : Int) := by omega
    go_enter Tryd.func34, Tryd.ntmps34
    go_wp2
    go_quiet (fail)
    go_wp2
    go_ret
    exact ⟨Or.inl ⟨by omega, rfl⟩, (Only.refl _ _).draws _⟩
end Go.Proofs.YtbffmhcahdblnaaDoor
