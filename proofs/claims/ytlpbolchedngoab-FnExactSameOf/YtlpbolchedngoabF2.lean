/-
  Values: the law on SameOf, walked.
-/
import Derived.Test.YtlpbolchedngoabF1
import Derived.Test.YtlpbolchedngoabE1s
import Derived.Deep.RegionHeld3
import Derived.Deep.CutRange
namespace Go.Proofs.Ytlpbolchedngoab
open Go.RowKit

set_option maxRecDepth 100000 in
set_option maxHeartbeats 4000000 in
theorem lawSame (k n k' n' : Int) (s s' : ByteArray) (w : World) (hs : s.size ≤ maxLen) (hs' : s'.size ≤ maxLen) :
    Calls Try.prog 3 #[.agg #[.int .i64 k, .int .i64 n, .string s], .agg #[.int .i64 k', .int .i64 n', .string s']] w fun e w' => e = .returned (.bool true) ∧ Below w.heap.size w w' := by
  have hB2 : Below w.heap.size w ((w.alloc (.cells #[.int .i64 k, .int .i64 n, .string s] 23)).alloc (.cells #[.int .i64 k', .int .i64 n', .string s'] 23)) := ((Below.refl _ _).alloc (Nat.le_refl _) _).alloc (by simp) _
  by_cases c1 : (1048576 : Int) < (s.size : Int)
  · go_enter Try.func3, Try.ntmps3
    go_wp2_with fail
    refine (szVal_any _ _ _ _ _ (by omega) (by omega) hs).mono ?_
    rintro e w1 ⟨rfl, hb⟩
    rw [if_pos (by omega)]
    go_wp2
    go_ret
    exact ⟨rfl, hB2.trans (hb.mono hB2.size)⟩
  by_cases c2 : (1048576 : Int) - (s.size : Int) < (s'.size : Int)
  · go_enter Try.func3, Try.ntmps3
    go_wp2_with fail
    refine (szVal_any _ _ _ _ _ (by omega) (by omega) hs).mono ?_
    rintro e w1 ⟨rfl, hb⟩
    rw [if_neg (by omega)]
    have hB3 := hB2.trans (hb.mono hB2.size)
    have hy := block_kept (block_new_at _ #[.int .i64 k', .int .i64 n', .string s'] 23 (w.heap.size + 1) (by simp)) hb
    have hc := block_cell hy
    go_wp2_with fail
    refine (szVal_any _ _ _ _ _ (by omega) (by omega) hs').mono ?_
    rintro e w2 ⟨rfl, hb2⟩
    rw [if_pos (by omega)]
    go_wp2
    go_ret
    exact ⟨rfl, hB3.trans (hb2.mono hB3.size)⟩
  go_enter Try.func3, Try.ntmps3
  go_wp2_with fail
  refine (szVal_any _ _ _ _ _ (by omega) (by omega) hs).mono ?_
  rintro e w1 ⟨rfl, hb⟩
  rw [if_neg (by omega)]
  have hB3 := hB2.trans (hb.mono hB2.size)
  have hx1 := block_kept (block_kept (block_new_at w #[.int .i64 k, .int .i64 n, .string s] 23 w.heap.size rfl) ((Below.refl _ _).alloc (Nat.le_refl _) (.cells #[.int .i64 k', .int .i64 n', .string s'] 23))) hb
  have hy1 := block_kept (block_new_at _ #[.int .i64 k', .int .i64 n', .string s'] 23 (w.heap.size + 1) (by simp)) hb
  have hc1 := block_cell hy1
  have l0 : (0 : Int) ≤ 1048576 - (s.size : Int) := by omega
  clear hb hB2
  go_wp2_with fail
  refine (szVal_any _ _ _ _ _ (by omega) (by omega) hs').mono ?_
  rintro e w2 ⟨rfl, hb2⟩
  rw [if_neg (by omega)]
  have hx := block_kept hx1 hb2
  have hy := block_kept hy1 hb2
  have hB4 := hB3.trans (hb2.mono hB3.size)
  have l1 : ¬ (1048576 - (s.size : Int) - (s'.size : Int)) < 0 := by omega
  have hlt := lt_block hy
  have hS : ∀ w', Below (w.heap.size + 2) w2 w' → w'.cell? ⟨w.heap.size, 0, none⟩ = some (.int .i64 k) ∧ w'.cell? ⟨w.heap.size, 1, none⟩ = some (.int .i64 n) ∧ w'.cell? ⟨w.heap.size, 2, none⟩ = some (.string s) ∧ w'.cell? ⟨w.heap.size + 1, 0, none⟩ = some (.int .i64 k') ∧ w'.cell? ⟨w.heap.size + 1, 1, none⟩ = some (.int .i64 n') ∧ w'.cell? ⟨w.heap.size + 1, 2, none⟩ = some (.string s') := fun w' hb =>
    ⟨by rw [hb.cell (by simp), block_cell hx]; rfl, by rw [hb.cell (by simp), block_cell hx]; rfl, by rw [hb.cell (by simp), block_cell hx]; rfl, by rw [hb.cell (by simp), block_cell hy]; rfl, by rw [hb.cell (by simp), block_cell hy]; rfl, by rw [hb.cell (by simp), block_cell hy]; rfl⟩
  have q : Below w2.heap.size w2 w2.drew := (Below.refl _ _).drew
  have HB : Hid (Below w.heap.size w w2) := hB4
  have HZ : Hid (w.heap.size + 2 ≤ w2.heap.size) := by have : w.heap.size + 1 < w2.heap.size := hlt; exact this
  have HS : Hid (∀ w', Below (w.heap.size + 2) w2 w' → w'.cell? ⟨w.heap.size, 0, none⟩ = some (.int .i64 k) ∧ w'.cell? ⟨w.heap.size, 1, none⟩ = some (.int .i64 n) ∧ w'.cell? ⟨w.heap.size, 2, none⟩ = some (.string s) ∧ w'.cell? ⟨w.heap.size + 1, 0, none⟩ = some (.int .i64 k') ∧ w'.cell? ⟨w.heap.size + 1, 1, none⟩ = some (.int .i64 n') ∧ w'.cell? ⟨w.heap.size + 1, 2, none⟩ = some (.string s')) := hS
  obtain ⟨j0, j1, j2, j3, j4, j5⟩ := hS w2 (Below.refl _ _)
  clear hB3 hB4 hS hx hy hx1 hy1 hc1 hb2 hlt c1 c2 hs hs' l0
  go_wp2
  clear l1
  go_cut [6] from 18 to 22 (fun s6 wx => ∃ g, s6 = .pointer (some ⟨g, 0, none⟩) ∧ wx.heap[g]? = some (.cells #[.int .i64 (2), .int .i64 (tr (sameB k n k' n' s s')), .string (⟨#[]⟩)] 25 (0, 0)) ∧ Below w2.heap.size w2 wx)
  case first =>
    go_region_held3 (fun w' => w'.cell? ⟨w.heap.size, 0, none⟩ = some (.int .i64 k) ∧ w'.cell? ⟨w.heap.size, 1, none⟩ = some (.int .i64 n) ∧ w'.cell? ⟨w.heap.size, 2, none⟩ = some (.string s) ∧ w'.cell? ⟨w.heap.size + 1, 0, none⟩ = some (.int .i64 k') ∧ w'.cell? ⟨w.heap.size + 1, 1, none⟩ = some (.int .i64 n') ∧ w'.cell? ⟨w.heap.size + 1, 2, none⟩ = some (.string s'))
      (first
        | exact ⟨j0, j1, j2, j3, j4, j5⟩
        | exact HS.out _ (q.mono HZ.out)
        | exact HS.out _ ((q.mono HZ.out).alloc (Nat.le_trans HZ.out q.size) _)
        | exact HS.out _ ((((q.mono HZ.out).setCell (Nat.le_trans HZ.out hg) _).setCell (Nat.le_trans HZ.out hg) _).setCell (Nat.le_trans HZ.out hg) _)
        | exact HS.out _ (((((q.mono HZ.out).alloc (Nat.le_trans HZ.out q.size) _).setCell (Nat.le_trans HZ.out q.size) _).setCell (Nat.le_trans HZ.out q.size) _).setCell (Nat.le_trans HZ.out q.size) _))
      (first
        | (go_at_call 7; refine (toValue_any _ _ _ _).mono ?_; rintro e wa ⟨rfl, kd⟩; (first | (have hk := block_kept hk kd; have hc := block_cell hk; have hf := block_free hk) | (have hk := block_kept (block_new_drew _ _ _) kd; have hg := Nat.le_refl w2.heap.size; have hc := block_cell hk; have hf := block_free hk) | (have hk := block_kept (block_new _ _ _) kd; have hg := q.size; have hc := block_cell hk; have hf := block_free hk) | skip); (first | (have q := q.trans (kd.mono q.size)) | (have q := (q.alloc q.size _).trans (kd.mono (by have := q.size; simp <;> omega)))))
        | (go_at_call 6; refine (sSame_any _ _ _ _ _ _ _).mono ?_; rintro e wb ⟨rfl, kd⟩; (first | (have hk := block_kept hk kd; have hc := block_cell hk; have hf := block_free hk) | (have hk := block_kept (block_new_drew _ _ _) kd; have hg := Nat.le_refl w2.heap.size; have hc := block_cell hk; have hf := block_free hk) | (have hk := block_kept (block_new _ _ _) kd; have hg := q.size; have hc := block_cell hk; have hf := block_free hk) | skip); (first | (have q := q.trans (kd.mono q.size)) | (have q := (q.alloc q.size _).trans (kd.mono (by have := q.size; simp <;> omega))))))
    all_goals
      go_wp2_with fail
      go_meet
      case rel =>
        first
          | exact ⟨_, rfl, stored3 hk, ((q.setCell hg _).setCell hg _).setCell hg _⟩
          | exact ⟨_, rfl, block_new _ _ _, q.alloc q.size _⟩
  case rest =>
    obtain ⟨g, rfl, hG, hq⟩ := hcut
    have hW := HB.out.trans (hq.mono HB.out.size)
    have HZ2 : Hid (w.heap.size + 2 ≤ wc.heap.size) := Nat.le_trans HZ.out hq.size
    have HS2 : Hid (∀ w', Below (w.heap.size + 2) wc w' → w'.cell? ⟨w.heap.size, 0, none⟩ = some (.int .i64 k) ∧ w'.cell? ⟨w.heap.size, 1, none⟩ = some (.int .i64 n) ∧ w'.cell? ⟨w.heap.size, 2, none⟩ = some (.string s) ∧ w'.cell? ⟨w.heap.size + 1, 0, none⟩ = some (.int .i64 k') ∧ w'.cell? ⟨w.heap.size + 1, 1, none⟩ = some (.int .i64 n') ∧ w'.cell? ⟨w.heap.size + 1, 2, none⟩ = some (.string s')) := fun w' hb => HS.out w' ((hq.mono HZ.out).trans hb)
    have HW : Hid (Below w.heap.size w wc) := hW
    have HG : Hid (wc.heap[g]? = some (.cells #[.int .i64 (2), .int .i64 (tr (sameB k n k' n' s s')), .string (⟨#[]⟩)] 25 (0, 0))) := hG
    clear hW hG hq q j0 j1 j2 j3 j4 j5 HZ HB HS
    have q : Below wc.heap.size wc wc.drew := (Below.refl _ _).drew
    obtain ⟨j0, j1, j2, j3, j4, j5⟩ := HS2.out wc (Below.refl _ _)
    obtain ⟨wv, rfl⟩ : ∃ wv, wv = wc := ⟨_, rfl⟩
    have HS := HS2
    have HZ := HZ2
    clear HS2 HZ2
    go_wp2
    go_cut [7] from 23 to 27 (fun s6 wx => ∃ g, s6 = .pointer (some ⟨g, 0, none⟩) ∧ wx.heap[g]? = some (.cells #[.int .i64 (2), .int .i64 (tr (sameB k n k' n' s s')), .string (⟨#[]⟩)] 25 (0, 0)) ∧ Below wv.heap.size wv wx)
    case first =>
      go_region_held3 (fun w' => w'.cell? ⟨w.heap.size, 0, none⟩ = some (.int .i64 k) ∧ w'.cell? ⟨w.heap.size, 1, none⟩ = some (.int .i64 n) ∧ w'.cell? ⟨w.heap.size, 2, none⟩ = some (.string s) ∧ w'.cell? ⟨w.heap.size + 1, 0, none⟩ = some (.int .i64 k') ∧ w'.cell? ⟨w.heap.size + 1, 1, none⟩ = some (.int .i64 n') ∧ w'.cell? ⟨w.heap.size + 1, 2, none⟩ = some (.string s'))
        (first
          | exact ⟨j0, j1, j2, j3, j4, j5⟩
          | exact HS.out _ (q.mono HZ.out)
          | exact HS.out _ ((q.mono HZ.out).alloc (Nat.le_trans HZ.out q.size) _)
          | exact HS.out _ ((((q.mono HZ.out).setCell (Nat.le_trans HZ.out hg) _).setCell (Nat.le_trans HZ.out hg) _).setCell (Nat.le_trans HZ.out hg) _)
          | exact HS.out _ (((((q.mono HZ.out).alloc (Nat.le_trans HZ.out q.size) _).setCell (Nat.le_trans HZ.out q.size) _).setCell (Nat.le_trans HZ.out q.size) _).setCell (Nat.le_trans HZ.out q.size) _))
        (first
          | (go_at_call 7; refine (toValue_any _ _ _ _).mono ?_; rintro e wa ⟨rfl, kd⟩; (first | (have hk := block_kept hk kd; have hc := block_cell hk; have hf := block_free hk) | (have hk := block_kept (block_new_drew _ _ _) kd; have hg := Nat.le_refl wv.heap.size; have hc := block_cell hk; have hf := block_free hk) | (have hk := block_kept (block_new _ _ _) kd; have hg := q.size; have hc := block_cell hk; have hf := block_free hk) | skip); (first | (have q := q.trans (kd.mono q.size)) | (have q := (q.alloc q.size _).trans (kd.mono (by have := q.size; simp <;> omega)))))
          | (go_at_call 8; refine (iSame_any _ _ _ _ _ _ _).mono ?_; rintro e wb ⟨rfl, kd⟩; (first | (have hk := block_kept hk kd; have hc := block_cell hk; have hf := block_free hk) | (have hk := block_kept (block_new_drew _ _ _) kd; have hg := Nat.le_refl wv.heap.size; have hc := block_cell hk; have hf := block_free hk) | (have hk := block_kept (block_new _ _ _) kd; have hg := q.size; have hc := block_cell hk; have hf := block_free hk) | skip); (first | (have q := q.trans (kd.mono q.size)) | (have q := (q.alloc q.size _).trans (kd.mono (by have := q.size; simp <;> omega))))))
      all_goals
        go_wp2_with fail
        go_meet
        case rel =>
          first
            | exact ⟨_, rfl, stored3 hk, ((q.setCell hg _).setCell hg _).setCell hg _⟩
            | exact ⟨_, rfl, block_new _ _ _, q.alloc q.size _⟩
    case rest =>
      obtain ⟨g2, rfl, hG2, hq⟩ := hcut
      have hGc := block_kept HG.out hq
      have hW := HW.out.trans (hq.mono HW.out.size)
      have x1 := block_cell hGc
      have x2 := block_cell hG2
      clear q j0 j1 j2 j3 j4 j5 HS HZ HG
      go_wp2_with fail
      refine (eqValue_same _ _ _ _).mono ?_
      rintro e w5 ⟨rfl, kd⟩
      clear x1 x2
      go_wp2
      go_ret
      exact ⟨rfl, hW.trans (kd.mono hW.size)⟩

end Go.Proofs.Ytlpbolchedngoab
