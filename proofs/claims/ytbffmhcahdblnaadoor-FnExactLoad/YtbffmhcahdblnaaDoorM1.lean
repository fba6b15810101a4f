/-
  What the document's reader of numbers answers: numbers off the bytes, its place moved on, its mark that something was wrong.
-/
import Derived.Test.YtbffmhcahdblnaaDoorL7
namespace Go.Proofs.YtbffmhcahdblnaaDoor
open Go.RowKit

/-- The document's reader, at place p. -/
def TkAt (w : World) (R : Nat) (ab : Option Addr) (n cap p : Nat) (bd : Bool) : Prop := w.heap[R]? = some (Obj.cells #[.slice ab n cap, .int .i64 p, .bool bd] 69 (0, 0))
theorem TkAt.move {w : World} {R n cap q : Nat} {ab : Option Addr} {bd : Bool} (h : TkAt w R ab n cap q bd) (m : Nat) : TkAt ((w.drewN m).setCell ⟨R, 1, none⟩ (.int .i64 ((q : Int) + 1))) R ab n cap (q + 1) bd := by
  have := block_set (w := w.drewN m) (i := 1) h (.int .i64 ((q : Int) + 1))
  simpa [TkAt] using this
theorem TkAt.go {w : World} {R n cap q : Nat} {ab : Option Addr} {bd : Bool} (h : TkAt w R ab n cap q bd) (k : Int) (q' : Nat) (e : k = (q' : Int)) : TkAt (w.setCell ⟨R, 1, none⟩ (.int .i64 k)) R ab n cap q' bd := by
  subst e
  have := block_set (i := 1) h (.int .i64 (q' : Int))
  simpa [TkAt] using this
theorem TkAt.bad {w : World} {R n cap q : Nat} {ab : Option Addr} {bd : Bool} (h : TkAt w R ab n cap q bd) : TkAt (w.setCell ⟨R, 2, none⟩ (.bool true)) R ab n cap q true := by
  have := block_set (i := 2) h (.bool true)
  simpa [TkAt] using this
theorem TkAt.draws {w : World} {R n cap q : Nat} {ab : Option Addr} {bd : Bool} (h : TkAt w R ab n cap q bd) (m : Nat) : TkAt (w.drewN m) R ab n cap q bd := h
theorem TkAt.lt {w : World} {R n cap q : Nat} {ab : Option Addr} {bd : Bool} (h : TkAt w R ab n cap q bd) : R < w.heap.size := by
  unfold TkAt at h
  rw [Array.getElem?_eq_some_iff] at h
  exact h.1

theorem rdNum_weak : ∀ (f i u : Nat) (l : List Int) (z : Nat × List Int), rdNum true f i u l = some z → rdNum false f i u l = some z := by
  intro f
  induction f with
  | zero => intro i u l z h; simp [rdNum] at h
  | succ f ih =>
    intro i u l z h
    cases l with
    | nil => simp [rdNum] at h
    | cons x l =>
      rw [rdNum] at h ⊢
      by_cases h1 : true = true ∧ x = 0 ∧ 0 < i
      · rw [if_pos h1] at h; cases h
      · rw [if_neg h1] at h
        rw [if_neg (by simp)]
        by_cases h2 : x < 128
        · rw [if_pos h2] at h ⊢; exact h
        · rw [if_neg h2] at h ⊢; exact ih _ _ _ _ h
theorem wk_last {f i u : Nat} {x : Int} {l : List Int} (hx : x < 128) : rdNum false (f + 1) i u (x :: l) = some (u + (x % 128).toNat * 128 ^ i, l) := by
  rw [rdNum, if_neg (by simp), if_pos hx]
theorem wk_more {f i u : Nat} {x : Int} {l : List Int} (hx : 128 ≤ x) : rdNum false (f + 1) i u (x :: l) = rdNum false f (i + 1) (u + (x % 128).toNat * 128 ^ i) l := by
  rw [rdNum, if_neg (by simp), if_neg (by omega)]
theorem pNum_weak {l r r' : List Int} {u : Nat} {n : Int} (h : rdNum false 5 0 0 l = some (u, r)) (hp : pNum l = some (n, r')) : unzig u = n ∧ r = r' := by
  unfold pNum at hp
  rw [Option.map_eq_some_iff] at hp
  obtain ⟨z, h1, h2⟩ := hp
  rw [rdNum_weak _ _ _ _ _ h1] at h
  cases h
  simp only [Prod.mk.injEq] at h2
  exact h2
theorem pNum_weak_none {l r' : List Int} {n : Int} (h : rdNum false 5 0 0 l = none) (hp : pNum l = some (n, r')) : False := by
  unfold pNum at hp
  rw [Option.map_eq_some_iff] at hp
  obtain ⟨z, h1, h2⟩ := hp
  rw [rdNum_weak _ _ _ _ _ h1] at h
  cases h

theorem unzig_fits {u : Nat} (h : u < 34359738368) : -34359738368 ≤ unzig u ∧ unzig u ≤ 34359738368 := by
  unfold unzig
  split <;> omega

theorem odd_half {u : Nat} (h : u % 2 = 1) (hu : u < 34359738368) : wrap64 (-((u : Int) + 1).tdiv 2) = unzig u := by
  have e : (-((u : Int) + 1).tdiv 2) = -((u / 2 : Nat) : Int) - 1 := by
    rw [show ((u : Int) + 1) = (((u / 2 : Nat) : Int) + 1) * 2 by omega, Int.mul_tdiv_cancel _ (by omega)]
    omega
  rw [e, show wrap64 (-((u / 2 : Nat) : Int) - 1) = -((u / 2 : Nat) : Int) - 1 by unfold wrap64; omega]
  unfold unzig
  rw [if_pos h]

set_option maxHeartbeats 4000000 in
theorem sNumber_any (R : Nat) (ab : Option Addr) (bs : List Int) (cap p : Nat) (bd : Bool) (w wz : World) (hR : TkAt w R ab bs.length cap p bd) (hp : p ≤ bs.length) (hn : bs.length ≤ 1048576) (hby : Byte bs)
    (hb : BytesAt wz 0 ab bs) (hbz : Below wz.heap.size wz w) (hRz : wz.heap.size ≤ R) (hzw : wz.heap.size ≤ w.heap.size) :
    Calls Tryd.prog 39 #[.pointer (some ⟨R, 0, none⟩)] w fun e w' =>
      ∃ (n : Int) (q : Nat) (bd' : Bool), -34359738368 ≤ n ∧ n ≤ 34359738368 ∧ q ≤ bs.length ∧ e = .returned (.int .i64 n) ∧ TkAt w' R ab bs.length cap q bd' ∧ Only R w w' ∧ (∀ v r, pNum (bs.drop p) = some (v, r) → n = v ∧ bs.drop q = r ∧ bd' = bd) := by
  go_enter Tryd.func39, Tryd.ntmps39
  go_wp2
  go_loopw [3, 4, 5] (fun uv fv i wr => ∃ (k q u : Nat), k ≤ 5 ∧ i = .int .i64 k ∧ uv = .int .i64 u ∧ fv = .int .i64 ((128 ^ k : Nat) : Int) ∧ u < 128 ^ k ∧ q ≤ bs.length ∧ Hid (rdNum false 5 0 0 (bs.drop p) = rdNum false (5 - k) k u (bs.drop q)) ∧ TkAt wr R ab bs.length cap q bd ∧ Only R w wr) (fun _ _ i _ => 5 - (intOf i).toNat)
  case atStart => exact ⟨0, p, 0, by omega, rfl, rfl, rfl, by simp, hp, rfl, hR, Only.refl _ _⟩
  case round =>
    obtain ⟨k, q, u, hk, rfl, rfl, rfl, hu, hq, HP, hRr, hor⟩ := hrel
    have hbr : Below wz.heap.size wz wr := hbz.trans (hor.below hRz hzw)
    have rc := block_cell hRr
    have rf := block_free hRr
    by_cases hqn : q < bs.length
    · obtain ⟨b, off, rfl, -, e1⟩ := hb q hqn
      have e1' := cell_later hbr e1
      have hx := hby bs[q] (List.getElem_mem hqn)
      have hdrop : bs.drop q = bs[q] :: bs.drop (q + 1) := List.drop_eq_getElem_cons hqn
      rw [hdrop] at HP
      clear e1 hdrop
      generalize bs[q] = x at *
      have hq' : (q : Int) < (bs.length : Int) := by omega
      rcases (show k = 0 ∨ k = 1 ∨ k = 2 ∨ k = 3 ∨ k = 4 ∨ k = 5 by omega) with rfl | rfl | rfl | rfl | rfl | rfl
      · rcases (show x < 128 ∨ 128 ≤ x by omega) with hx1 | hx1
        · have hU : Hid (rdNum false 5 0 0 (bs.drop p) = some (u + (x % 128).toNat * 128 ^ 0, bs.drop (q + 1))) := HP.out.trans (wk_last (f := 4) hx1)
          have hub : u + (x % 128).toNat * 128 ^ 0 < 34359738368 := by simp at hu ⊢; omega
          have hue : (u : Int) + x % 128 = ((u + (x % 128).toNat * 128 ^ 0 : Nat) : Int) := by simp; omega
          generalize u + (x % 128).toNat * 128 ^ 0 = U at hU hub hue
          rcases (show U % 2 = 1 ∨ U % 2 = 0 by omega) with h2 | h2
          · have hb2 : ((U : Int) % 2 == 1) = true := by simp; omega
            go_wp2
            go_quiet (fail)
            go_wp2
            go_quiet (fail)
            go_wp2
            go_ret
            refine ⟨unzig U, q + 1, bd, (unzig_fits hub).1, (unzig_fits hub).2, by omega, ret_int (odd_half h2 hub), hRr.move _, (hor.draws _).set _ _, fun v r h => ⟨(pNum_weak hU.out h).1, (pNum_weak hU.out h).2, rfl⟩⟩
          · have hb2 : ((U : Int) % 2 == 1) = false := by simp; omega
            go_wp2
            go_quiet (fail)
            go_wp2
            go_quiet (fail)
            go_wp2
            go_ret
            refine ⟨unzig U, q + 1, bd, (unzig_fits hub).1, (unzig_fits hub).2, by omega, ret_int (by unfold unzig; rw [if_neg (by omega)]; omega), hRr.move _, (hor.draws _).set _ _, fun v r h => ⟨(pNum_weak hU.out h).1, (pNum_weak hU.out h).2, rfl⟩⟩
        · go_wp2
          go_quiet (fail)
          go_wp2
          go_quiet (fail)
          go_wp2
          go_roundw
          case rel => exact ⟨1, q + 1, u + (x % 128).toNat * 128 ^ 0, by omega, rfl, by congr 1; simp; omega, by simp, by simp at hu ⊢; omega, by omega, HP.out.trans (wk_more (f := 4) hx1), hRr.move _, (hor.draws _).set _ _⟩
          case measure => simp [intOf]
      · rcases (show x < 128 ∨ 128 ≤ x by omega) with hx1 | hx1
        · have hU : Hid (rdNum false 5 0 0 (bs.drop p) = some (u + (x % 128).toNat * 128 ^ 1, bs.drop (q + 1))) := HP.out.trans (wk_last (f := 3) hx1)
          have hub : u + (x % 128).toNat * 128 ^ 1 < 34359738368 := by simp at hu ⊢; omega
          have hue : (u : Int) + x % 128 * 128 = ((u + (x % 128).toNat * 128 ^ 1 : Nat) : Int) := by simp; omega
          generalize u + (x % 128).toNat * 128 ^ 1 = U at hU hub hue
          rcases (show U % 2 = 1 ∨ U % 2 = 0 by omega) with h2 | h2
          · have hb2 : ((U : Int) % 2 == 1) = true := by simp; omega
            go_wp2
            go_quiet (fail)
            go_wp2
            go_quiet (fail)
            go_wp2
            go_ret
            refine ⟨unzig U, q + 1, bd, (unzig_fits hub).1, (unzig_fits hub).2, by omega, ret_int (odd_half h2 hub), hRr.move _, (hor.draws _).set _ _, fun v r h => ⟨(pNum_weak hU.out h).1, (pNum_weak hU.out h).2, rfl⟩⟩
          · have hb2 : ((U : Int) % 2 == 1) = false := by simp; omega
            go_wp2
            go_quiet (fail)
            go_wp2
            go_quiet (fail)
            go_wp2
            go_ret
            refine ⟨unzig U, q + 1, bd, (unzig_fits hub).1, (unzig_fits hub).2, by omega, ret_int (by unfold unzig; rw [if_neg (by omega)]; omega), hRr.move _, (hor.draws _).set _ _, fun v r h => ⟨(pNum_weak hU.out h).1, (pNum_weak hU.out h).2, rfl⟩⟩
        · go_wp2
          go_quiet (fail)
          go_wp2
          go_quiet (fail)
          go_wp2
          go_roundw
          case rel => exact ⟨2, q + 1, u + (x % 128).toNat * 128 ^ 1, by omega, rfl, by congr 1; simp; omega, by simp, by simp at hu ⊢; omega, by omega, HP.out.trans (wk_more (f := 3) hx1), hRr.move _, (hor.draws _).set _ _⟩
          case measure => simp [intOf]
      · rcases (show x < 128 ∨ 128 ≤ x by omega) with hx1 | hx1
        · have hU : Hid (rdNum false 5 0 0 (bs.drop p) = some (u + (x % 128).toNat * 128 ^ 2, bs.drop (q + 1))) := HP.out.trans (wk_last (f := 2) hx1)
          have hub : u + (x % 128).toNat * 128 ^ 2 < 34359738368 := by simp at hu ⊢; omega
          have hue : (u : Int) + x % 128 * 16384 = ((u + (x % 128).toNat * 128 ^ 2 : Nat) : Int) := by simp; omega
          generalize u + (x % 128).toNat * 128 ^ 2 = U at hU hub hue
          rcases (show U % 2 = 1 ∨ U % 2 = 0 by omega) with h2 | h2
          · have hb2 : ((U : Int) % 2 == 1) = true := by simp; omega
            go_wp2
            go_quiet (fail)
            go_wp2
            go_quiet (fail)
            go_wp2
            go_ret
            refine ⟨unzig U, q + 1, bd, (unzig_fits hub).1, (unzig_fits hub).2, by omega, ret_int (odd_half h2 hub), hRr.move _, (hor.draws _).set _ _, fun v r h => ⟨(pNum_weak hU.out h).1, (pNum_weak hU.out h).2, rfl⟩⟩
          · have hb2 : ((U : Int) % 2 == 1) = false := by simp; omega
            go_wp2
            go_quiet (fail)
            go_wp2
            go_quiet (fail)
            go_wp2
            go_ret
            refine ⟨unzig U, q + 1, bd, (unzig_fits hub).1, (unzig_fits hub).2, by omega, ret_int (by unfold unzig; rw [if_neg (by omega)]; omega), hRr.move _, (hor.draws _).set _ _, fun v r h => ⟨(pNum_weak hU.out h).1, (pNum_weak hU.out h).2, rfl⟩⟩
        · go_wp2
          go_quiet (fail)
          go_wp2
          go_quiet (fail)
          go_wp2
          go_roundw
          case rel => exact ⟨3, q + 1, u + (x % 128).toNat * 128 ^ 2, by omega, rfl, by congr 1; simp; omega, by simp, by simp at hu ⊢; omega, by omega, HP.out.trans (wk_more (f := 2) hx1), hRr.move _, (hor.draws _).set _ _⟩
          case measure => simp [intOf]
      · rcases (show x < 128 ∨ 128 ≤ x by omega) with hx1 | hx1
        · have hU : Hid (rdNum false 5 0 0 (bs.drop p) = some (u + (x % 128).toNat * 128 ^ 3, bs.drop (q + 1))) := HP.out.trans (wk_last (f := 1) hx1)
          have hub : u + (x % 128).toNat * 128 ^ 3 < 34359738368 := by simp at hu ⊢; omega
          have hue : (u : Int) + x % 128 * 2097152 = ((u + (x % 128).toNat * 128 ^ 3 : Nat) : Int) := by simp; omega
          generalize u + (x % 128).toNat * 128 ^ 3 = U at hU hub hue
          rcases (show U % 2 = 1 ∨ U % 2 = 0 by omega) with h2 | h2
          · have hb2 : ((U : Int) % 2 == 1) = true := by simp; omega
            go_wp2
            go_quiet (fail)
            go_wp2
            go_quiet (fail)
            go_wp2
            go_ret
            refine ⟨unzig U, q + 1, bd, (unzig_fits hub).1, (unzig_fits hub).2, by omega, ret_int (odd_half h2 hub), hRr.move _, (hor.draws _).set _ _, fun v r h => ⟨(pNum_weak hU.out h).1, (pNum_weak hU.out h).2, rfl⟩⟩
          · have hb2 : ((U : Int) % 2 == 1) = false := by simp; omega
            go_wp2
            go_quiet (fail)
            go_wp2
            go_quiet (fail)
            go_wp2
            go_ret
            refine ⟨unzig U, q + 1, bd, (unzig_fits hub).1, (unzig_fits hub).2, by omega, ret_int (by unfold unzig; rw [if_neg (by omega)]; omega), hRr.move _, (hor.draws _).set _ _, fun v r h => ⟨(pNum_weak hU.out h).1, (pNum_weak hU.out h).2, rfl⟩⟩
        · go_wp2
          go_quiet (fail)
          go_wp2
          go_quiet (fail)
          go_wp2
          go_roundw
          case rel => exact ⟨4, q + 1, u + (x % 128).toNat * 128 ^ 3, by omega, rfl, by congr 1; simp; omega, by simp, by simp at hu ⊢; omega, by omega, HP.out.trans (wk_more (f := 1) hx1), hRr.move _, (hor.draws _).set _ _⟩
          case measure => simp [intOf]
      · rcases (show x < 128 ∨ 128 ≤ x by omega) with hx1 | hx1
        · have hU : Hid (rdNum false 5 0 0 (bs.drop p) = some (u + (x % 128).toNat * 128 ^ 4, bs.drop (q + 1))) := HP.out.trans (wk_last (f := 0) hx1)
          have hub : u + (x % 128).toNat * 128 ^ 4 < 34359738368 := by simp at hu ⊢; omega
          have hue : (u : Int) + x % 128 * 268435456 = ((u + (x % 128).toNat * 128 ^ 4 : Nat) : Int) := by simp; omega
          generalize u + (x % 128).toNat * 128 ^ 4 = U at hU hub hue
          rcases (show U % 2 = 1 ∨ U % 2 = 0 by omega) with h2 | h2
          · have hb2 : ((U : Int) % 2 == 1) = true := by simp; omega
            go_wp2
            go_quiet (fail)
            go_wp2
            go_quiet (fail)
            go_wp2
            go_ret
            refine ⟨unzig U, q + 1, bd, (unzig_fits hub).1, (unzig_fits hub).2, by omega, ret_int (odd_half h2 hub), hRr.move _, (hor.draws _).set _ _, fun v r h => ⟨(pNum_weak hU.out h).1, (pNum_weak hU.out h).2, rfl⟩⟩
          · have hb2 : ((U : Int) % 2 == 1) = false := by simp; omega
            go_wp2
            go_quiet (fail)
            go_wp2
            go_quiet (fail)
            go_wp2
            go_ret
            refine ⟨unzig U, q + 1, bd, (unzig_fits hub).1, (unzig_fits hub).2, by omega, ret_int (by unfold unzig; rw [if_neg (by omega)]; omega), hRr.move _, (hor.draws _).set _ _, fun v r h => ⟨(pNum_weak hU.out h).1, (pNum_weak hU.out h).2, rfl⟩⟩
        · go_wp2
          go_quiet (fail)
          go_wp2
          go_quiet (fail)
          go_wp2
          go_roundw
          case rel => exact ⟨5, q + 1, u + (x % 128).toNat * 128 ^ 4, by omega, rfl, by congr 1; simp; omega, by simp, by simp at hu ⊢; omega, by omega, HP.out.trans (wk_more (f := 0) hx1), hRr.move _, (hor.draws _).set _ _⟩
          case measure => simp [intOf]
      · go_wp2
        go_ret
        exact ⟨0, q, true, by omega, by omega, hq, rfl, hRr.bad, hor.set _ _, fun v r h => (pNum_weak_none (HP.out.trans rfl) h).elim⟩
    · have hq0 : bs.drop q = [] := List.drop_of_length_le (by omega)
      rw [hq0] at HP
      have hq' : (bs.length : Int) ≤ (q : Int) := by omega
      by_cases hk5 : k < 5
      · have hk5' : (k : Int) < 5 := by omega
        obtain ⟨f, hf⟩ : ∃ f, 5 - k = f + 1 := ⟨4 - k, by omega⟩
        rw [hf] at HP
        have HE : Hid (rdNum false 5 0 0 (bs.drop p) = none) := HP.out.trans rfl
        clear hf hq0
        go_wp2
        go_quiet (fail)
        go_wp2
        go_ret
        exact ⟨0, q, true, by omega, by omega, hq, rfl, (hRr.draws _).bad, (hor.draws _).set _ _, fun v r h => (pNum_weak_none HE.out h).elim⟩
      · have hk5' : (5 : Int) ≤ (k : Int) := by omega
        obtain rfl : k = 5 := by omega
        go_wp2
        go_ret
        exact ⟨0, q, true, by omega, by omega, hq, rfl, hRr.bad, hor.set _ _, fun v r h => (pNum_weak_none (HP.out.trans rfl) h).elim⟩
end Go.Proofs.YtbffmhcahdblnaaDoor
