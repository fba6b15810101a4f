/-
  What the document's counts and its comparison of bytes answer.
-/
import Derived.Test.YtbffmhcahdblnaaDoorM1
namespace Go.Proofs.YtbffmhcahdblnaaDoor
open Go.RowKit

theorem pCount_num_of {most : Int} {l r : List Int} {v : Nat} (h : pCount most l = some (v, r)) : pNum l = some ((v : Int), r) ∧ (v : Int) ≤ most := by
  unfold pCount at h
  split at h
  · cases h
  · rename_i n r' hn
    split at h
    · rename_i hc
      simp only [Option.some.injEq, Prod.mk.injEq] at h
      obtain ⟨rfl, rfl⟩ := h
      rw [hn]
      have : ((n.toNat : Nat) : Int) = n := by omega
      rw [this]
      exact ⟨rfl, hc.2⟩
    · cases h

set_option maxHeartbeats 800000 in
theorem sCount_any (R : Nat) (ab : Option Addr) (bs : List Int) (cap p : Nat) (bd : Bool) (most : Nat) (w wz : World) (I : In wz R ab bs cap) (hR : TkAt w R ab bs.length cap p bd) (hp : p ≤ bs.length) (hbz : Below wz.heap.size wz w) :
    Calls Tryd.prog 38 #[.pointer (some ⟨R, 0, none⟩), .int .i64 most] w fun e w' =>
      ∃ (n q : Nat) (bd' : Bool), n ≤ most ∧ q ≤ bs.length ∧ e = .returned (.int .i64 n) ∧ TkAt w' R ab bs.length cap q bd' ∧ Only R w w' ∧ (∀ v r, pCount most (bs.drop p) = some (v, r) → n = v ∧ bs.drop q = r ∧ bd' = bd) := by
  go_enter Tryd.func38, Tryd.ntmps38
  go_wp2_with fail
  refine (sNumber_any R ab bs cap p bd _ wz hR hp I.small I.byte I.cells hbz I.old hbz.size).mono ?_
  rintro e w1 ⟨n, q, bd', hn0, hn1, hq, rfl, hR1, ho1, hx⟩
  have HX : Hid (∀ v r, pNum (bs.drop p) = some (v, r) → n = v ∧ bs.drop q = r ∧ bd' = bd) := hx
  clear hx
  go_wp2_with fail
  refine (between_any _ _ _ _).mono ?_
  rintro e w2 ⟨rfl, rfl⟩
  have rc := block_cell hR1
  have rf := block_free hR1
  by_cases hc : 0 ≤ n ∧ n ≤ (most : Int)
  · obtain ⟨m, rfl⟩ := Int.eq_ofNat_of_zero_le hc.1
    have hd : (decide ((0 : Int) ≤ (m : Int)) && decide ((m : Int) ≤ (most : Int))) = true := by simp; omega
    rw [hd]
    go_wp2
    go_ret
    refine ⟨m, q, bd', by omega, hq, rfl, hR1, ho1, fun v r h => ?_⟩
    obtain ⟨h1, h2, h3⟩ := HX.out _ _ (pCount_num_of h).1
    exact ⟨by omega, h2, h3⟩
  · have hd : (decide ((0 : Int) ≤ n) && decide (n ≤ (most : Int))) = false := by simp; omega
    rw [hd]
    go_wp2
    go_ret
    refine ⟨0, q, true, by omega, hq, rfl, hR1.bad, ho1.set _ _, fun v r h => ?_⟩
    obtain ⟨h1, -, -⟩ := HX.out _ _ (pCount_num_of h).1
    have := (pCount_num_of h).2
    omega

set_option maxHeartbeats 800000 in
theorem sSame_any (a a2 : Option Addr) (bs cs : List Int) (cap cap2 : Nat) (w : World) (hn : bs.length ≤ 1048576) (hm : BytesAt w 0 a bs) (hm2 : BytesAt w 0 a2 cs) :
    Calls Tryd.prog 40 #[.slice a bs.length cap, .slice a2 cs.length cap2] w fun e w' => e = .returned (.bool (decide (bs = cs))) ∧ Below w.heap.size w w' := by
  by_cases hl : bs.length = cs.length
  · go_enter Tryd.func40, Tryd.ntmps40
    rw [hl]
    go_wp2
    go_loopw [5] (fun i wr => ∃ (k : Nat), k ≤ cs.length ∧ i = .int .i64 k ∧ Hid (bs.take k = cs.take k) ∧ Below w.heap.size w wr) (fun i _ => cs.length - (intOf i).toNat)
    case atStart => exact ⟨0, by omega, rfl, rfl, Below.refl _ _⟩
    case round =>
      obtain ⟨k, hk, rfl, HT, hb⟩ := hrel
      by_cases hlt : k < cs.length
      · have hlt' : k < bs.length := by omega
        obtain ⟨b, off, rfl, -, c1⟩ := hm k hlt'
        obtain ⟨b2, off2, rfl, -, c2⟩ := hm2 k hlt
        have c1' := cell_later hb c1
        have c2' := cell_later hb c2
        clear c1 c2
        by_cases he : bs[k] = cs[k]
        · have hT2 : Hid (bs.take (k + 1) = cs.take (k + 1)) := by
            show _ = _
            rw [List.take_succ_eq_append_getElem hlt', List.take_succ_eq_append_getElem hlt, HT.out, he]
          rw [← he] at c2'
          generalize bs[k] = x at c1' c2'
          clear he
          go_wp2
          go_quiet (fail)
          go_wp2
          go_roundw
          case rel => exact ⟨k + 1, by omega, by go_num, hT2, below_draws hb _⟩
          case measure => simp [intOf]; omega
        · have hne : Hid (bs ≠ cs) := fun h => he (by simp [h])
          generalize bs[k] = x at *
          generalize cs[k] = y at *
          have hbe : (x == y) = false := by simpa using he
          go_wp2
          go_quiet (fail)
          go_wp2
          go_ret
          exact ⟨by rw [decide_eq_false hne.out]; rfl, below_draws hb _⟩
      · obtain rfl : k = cs.length := by omega
        have hee : bs = cs := by
          have := HT.out
          rwa [List.take_of_length_le (by omega), List.take_of_length_le (by omega)] at this
        clear HT
        go_wp2
        go_ret
        exact ⟨by rw [decide_eq_true hee]; rfl, hb⟩
  · have hne : bs ≠ cs := fun h => hl (by rw [h])
    have hl' : ((bs.length : Int) == (cs.length : Int)) = false := by simp; omega
    go_enter Tryd.func40, Tryd.ntmps40
    go_wp2
    go_ret
    exact ⟨by rw [decide_eq_false hne]; rfl, Below.refl _ _⟩
end Go.Proofs.YtbffmhcahdblnaaDoor
