/-
  Values: the law on sums, products, differences and order, walked, whatever was drawn.
-/
import Derived.Test.YtlpbolchedngoaaDoorP5b
import Derived.Test.YtlpbolchedngoaaDoorP3
import Derived.Deep.CutRange
import Derived.Deep.RegionHeld3
namespace Go.Proofs.YtlpbolchedngoaaDoor
open Go.RowKit

theorem not_empty {s : ByteArray} (h : s ≠ ⟨#[]⟩) : (([] : List UInt8) == s.toList) = false ∧ (s.toList == ([] : List UInt8)) = false := by
  have h' : s.toList ≠ [] := by
    intro e
    apply h
    apply ByteArray.ext
    have : s.data.toList = [] := by simpa [ByteArray.toList_eq] using e
    simpa using this
  constructor
  · rw [beq_eq_false_iff_ne]; exact Ne.symm h'
  · rw [beq_eq_false_iff_ne]; exact h'

set_option maxRecDepth 100000 in
set_option maxHeartbeats 8000000 in
theorem sums_core (xa : Option Addr) (bs : List Int) (xc : Nat) (w : World) (a0 a1 a2 : Addr) (hbig : ¬ (1048576 : Int) < bs.length) (hE : Errs w a0 a1 a2) (hB : BytesAt w 0 xa bs) (hv : ∀ x ∈ bs, 0 ≤ x ∧ x ≤ 255) :
    Calls Tryd.prog 3 #[.slice xa bs.length xc] w fun e w' => e = .returned (.bool true) ∧ Below w.heap.size w w' := by
  have HD := (show Hid (Calls _ _ _ _ _) from drawAdd_any xa bs xc w (by omega) hB hv)
  clear hB hv
  go_enter Tryd.func3, Tryd.ntmps3
  go_wp2_with fail
  refine (big_any _ _ _ _).mono ?_
  rintro e w0 ⟨rfl, rfl⟩
  go_wp2_with fail
  clear hbig
  refine HD.out.mono ?_
  rintro e w1 ⟨k, n, s, k', n', s', rfl, hs, hs', hb1⟩
  clear HD
  obtain ⟨x0, x1, y0, y1, p0, p1, d0, d1, l0, l1, g0, g1, m1, x3, p3, d3, l3, x2, y2, p2, d2, l2, g2, hH⟩ := sums_facts a0 a1 a2 k n k' n' s s' hs hs'
  obtain ⟨hH1, hH2, hH3, hH4, hH5, hH6, hH7, hH8, hH9, hH10, hH11, hH12, hH13, hQ1, hQ2, hQ3, hQ4⟩ := hH
  have H1 : Hid (∀ W : World, Errs W a0 a1 a2 → Calls Tryd.prog 10 #[.agg #[.int .i64 k, .int .i64 n, .string s], .agg #[.int .i64 k', .int .i64 n', .string s']] W fun e w' => e = .returned (.tuple #[.agg #[.int .i64 x0, .int .i64 x1, .string x2], .int .i64 x3]) ∧ Below W.heap.size W w') := hH1
  have H2 : Hid (∀ W : World, Errs W a0 a1 a2 → Calls Tryd.prog 10 #[.agg #[.int .i64 k', .int .i64 n', .string s'], .agg #[.int .i64 k, .int .i64 n, .string s]] W fun e w' => e = .returned (.tuple #[.agg #[.int .i64 y0, .int .i64 y1, .string y2], .int .i64 x3]) ∧ Below W.heap.size W w') := hH2
  have H3 : Hid (∀ W : World, Errs W a0 a1 a2 → Calls Tryd.prog 11 #[.agg #[.int .i64 k, .int .i64 n, .string s], .agg #[.int .i64 k', .int .i64 n', .string s']] W fun e w' => e = .returned (.tuple #[.agg #[.int .i64 p0, .int .i64 p1, .string p2], .int .i64 p3]) ∧ Below W.heap.size W w') := hH3
  have H4 : Hid (∀ W : World, Errs W a0 a1 a2 → Calls Tryd.prog 11 #[.agg #[.int .i64 k', .int .i64 n', .string s'], .agg #[.int .i64 k, .int .i64 n, .string s]] W fun e w' => e = .returned (.tuple #[.agg #[.int .i64 p0, .int .i64 p1, .string p2], .int .i64 p3]) ∧ Below W.heap.size W w') := hH4
  have H5 : Hid (∀ W : World, Errs W a0 a1 a2 → Calls Tryd.prog 12 #[.agg #[.int .i64 x0, .int .i64 x1, .string x2], .agg #[.int .i64 k', .int .i64 n', .string s']] W fun e w' => e = .returned (.tuple #[.agg #[.int .i64 d0, .int .i64 d1, .string d2], .int .i64 d3]) ∧ Below W.heap.size W w') := hH5
  have H6 : Hid (∀ W : World, Calls Tryd.prog 13 #[.agg #[.int .i64 k, .int .i64 n, .string s], .agg #[.int .i64 k', .int .i64 n', .string s']] W fun e w' => e = .returned (.tuple #[.agg #[.int .i64 x0, .int .i64 x1, .string x2], .int .i64 x3]) ∧ Below W.heap.size W w') := hH6
  have H7 : Hid (∀ W : World, Calls Tryd.prog 14 #[.agg #[.int .i64 k, .int .i64 n, .string s], .agg #[.int .i64 k', .int .i64 n', .string s']] W fun e w' => e = .returned (.tuple #[.agg #[.int .i64 p0, .int .i64 p1, .string p2], .int .i64 p3]) ∧ Below W.heap.size W w') := hH7
  have H8 : Hid (∀ W : World, Errs W a0 a1 a2 → Calls Tryd.prog 15 #[.agg #[.int .i64 k, .int .i64 n, .string s], .agg #[.int .i64 k', .int .i64 n', .string s']] W fun e w' => e = .returned (.tuple #[.agg #[.int .i64 l0, .int .i64 l1, .string l2], .int .i64 l3]) ∧ Below W.heap.size W w') := hH8
  have H9 : Hid (∀ W : World, Errs W a0 a1 a2 → Calls Tryd.prog 15 #[.agg #[.int .i64 k', .int .i64 n', .string s'], .agg #[.int .i64 k, .int .i64 n, .string s]] W fun e w' => e = .returned (.tuple #[.agg #[.int .i64 g0, .int .i64 g1, .string g2], .int .i64 l3]) ∧ Below W.heap.size W w') := hH9
  have H10 : Hid (∀ W : World, Calls Tryd.prog 16 #[.agg #[.int .i64 k, .int .i64 n, .string s], .agg #[.int .i64 k', .int .i64 n', .string s']] W fun e w' => e = .returned (.agg #[.int .i64 2, .int .i64 m1, .string ⟨#[]⟩]) ∧ Below W.heap.size W w') := hH10
  have H11 : Hid (∀ W : World, Calls Tryd.prog 17 #[.agg #[.int .i64 k, .int .i64 n, .string s], .agg #[.int .i64 k', .int .i64 n', .string s']] W fun e w' => e = .returned (.agg #[.int .i64 2, .int .i64 m1, .string ⟨#[]⟩]) ∧ Below W.heap.size W w') := hH11
  have H12 : Hid (∀ W : World, Calls Tryd.prog 16 #[.agg #[.int .i64 k', .int .i64 n', .string s'], .agg #[.int .i64 k, .int .i64 n, .string s]] W fun e w' => e = .returned (.agg #[.int .i64 2, .int .i64 m1, .string ⟨#[]⟩]) ∧ Below W.heap.size W w') := hH12
  have H13 : Hid (∀ W : World, Calls Tryd.prog 18 #[.agg #[.int .i64 k, .int .i64 n, .string s], .agg #[.int .i64 k', .int .i64 n', .string s']] W fun e w' => e = .returned (.tuple #[.agg #[.int .i64 l0, .int .i64 l1, .string l2], .int .i64 l3]) ∧ Below W.heap.size W w') := hH13
  have Q1 : Hid (k = 1 → k' = 1 → s = ⟨#[]⟩ → s' = ⟨#[]⟩ → (x0 = y0 ∧ x1 = y1 ∧ x2 = y2) ∧ (x3 = 0 → d3 = 0 ∧ d0 = k ∧ d1 = n ∧ d2 = s)) := hQ1
  have Q2 : Hid (l3 ≠ 0 → l0 = 0 ∧ l1 = 0 ∧ l2 = ⟨#[]⟩ ∧ g0 = 0 ∧ g1 = 0 ∧ g2 = ⟨#[]⟩) := hQ2
  have Q3 : Hid (l3 = 0 → (k = 1 ∧ s = ⟨#[]⟩ ∧ s' = ⟨#[]⟩) ∨ (k = 3 ∧ n = 0 ∧ n' = 0) ∨ (k ≠ 1 ∧ k ≠ 3) → l1 + g1 + m1 = 1) := hQ3
  have Q4 : Hid (0 ≤ l1 ∧ l1 ≤ 1 ∧ 0 ≤ g1 ∧ g1 ≤ 1 ∧ 0 ≤ m1 ∧ m1 ≤ 1) := hQ4
  clear hH1 hH2 hH3 hH4 hH5 hH6 hH7 hH8 hH9 hH10 hH11 hH12 hH13 hQ1 hQ2 hQ3 hQ4 hs hs'
  have al : Below w1.heap.size w1 ((w1.alloc (.cells #[.int .i64 k, .int .i64 n, .string s] 25)).alloc (.cells #[.int .i64 k', .int .i64 n', .string s'] 25)) := ((Below.refl _ _).alloc (Nat.le_refl _) _).alloc (by simp) _
  have ba := hb1.trans (al.mono hb1.size)
  have HE := (show Hid (Errs _ a0 a1 a2) from hE.later ba)
  have HB := (show Hid (Below w0.heap.size w0 _) from ba)
  have Ba : Hid (((w1.alloc (.cells #[.int .i64 k, .int .i64 n, .string s] 25)).alloc (.cells #[.int .i64 k', .int .i64 n', .string s'] 25)).heap[w1.heap.size]? = some (.cells #[.int .i64 k, .int .i64 n, .string s] 25 (0, 0))) := block_kept (block_new w1 _ _) ((Below.refl _ _).alloc (Nat.le_refl _) _)
  have Bb : Hid (((w1.alloc (.cells #[.int .i64 k, .int .i64 n, .string s] 25)).alloc (.cells #[.int .i64 k', .int .i64 n', .string s'] 25)).heap[w1.heap.size + 1]? = some (.cells #[.int .i64 k', .int .i64 n', .string s'] 25 (0, 0))) := block_new_at _ _ _ _ (by simp)
  have ca := block_cell Ba.out
  have cb := block_cell Bb.out
  clear al ba hb1 hE
  go_wp2_with fail
  refine (H1.out _ HE.out).mono ?_
  rintro e w2 ⟨rfl, hb⟩
  have al : Below w2.heap.size w2 (w2.alloc (.cells #[.int .i64 x0, .int .i64 x1, .string x2] 25)) := (Below.refl _ _).alloc (Nat.le_refl _) _
  have ba := hb.trans (al.mono hb.size)
  have HE := (show Hid (Errs _ a0 a1 a2) from HE.out.later ba)
  have HB := (show Hid (Below _ _ _) from HB.out.trans (ba.mono HB.out.size))
  have Ba := (show Hid (_ = _) from block_kept Ba.out ba)
  have Bb := (show Hid (_ = _) from block_kept Bb.out ba)
  have Bx := (show Hid (_ = _) from block_new w2 #[.int .i64 x0, .int .i64 x1, .string x2] 25)
  clear hb al ba ca cb
  have ca := block_cell Ba.out
  have cb := block_cell Bb.out
  go_wp2_with fail
  refine (H2.out _ HE.out).mono ?_
  rintro e w3 ⟨rfl, hb⟩
  have al : Below w3.heap.size w3 (w3.alloc (.cells #[.int .i64 y0, .int .i64 y1, .string y2] 25)) := (Below.refl _ _).alloc (Nat.le_refl _) _
  have ba := hb.trans (al.mono hb.size)
  have HE := (show Hid (Errs _ a0 a1 a2) from HE.out.later ba)
  have HB := (show Hid (Below _ _ _) from HB.out.trans (ba.mono HB.out.size))
  have Ba := (show Hid (_ = _) from block_kept Ba.out ba)
  have Bb := (show Hid (_ = _) from block_kept Bb.out ba)
  have Bx := (show Hid (_ = _) from block_kept Bx.out ba)
  have By := (show Hid (_ = _) from block_new w3 #[.int .i64 y0, .int .i64 y1, .string y2] 25)
  clear hb al ba ca cb
  have ca := block_cell Ba.out
  have cb := block_cell Bb.out
  go_wp2_with fail
  refine (H3.out _ HE.out).mono ?_
  rintro e w4 ⟨rfl, hb⟩
  have al : Below w4.heap.size w4 (w4.alloc (.cells #[.int .i64 p0, .int .i64 p1, .string p2] 25)) := (Below.refl _ _).alloc (Nat.le_refl _) _
  have ba := hb.trans (al.mono hb.size)
  have HE := (show Hid (Errs _ a0 a1 a2) from HE.out.later ba)
  have HB := (show Hid (Below _ _ _) from HB.out.trans (ba.mono HB.out.size))
  have Ba := (show Hid (_ = _) from block_kept Ba.out ba)
  have Bb := (show Hid (_ = _) from block_kept Bb.out ba)
  have Bx := (show Hid (_ = _) from block_kept Bx.out ba)
  have By := (show Hid (_ = _) from block_kept By.out ba)
  have Bp := (show Hid (_ = _) from block_new w4 #[.int .i64 p0, .int .i64 p1, .string p2] 25)
  clear hb al ba ca cb
  have ca := block_cell Ba.out
  have cb := block_cell Bb.out
  go_wp2_with fail
  refine (H4.out _ HE.out).mono ?_
  rintro e w5 ⟨rfl, hb⟩
  have al : Below w5.heap.size w5 (w5.alloc (.cells #[.int .i64 p0, .int .i64 p1, .string p2] 25)) := (Below.refl _ _).alloc (Nat.le_refl _) _
  have ba := hb.trans (al.mono hb.size)
  have HE := (show Hid (Errs _ a0 a1 a2) from HE.out.later ba)
  have HB := (show Hid (Below _ _ _) from HB.out.trans (ba.mono HB.out.size))
  have Ba := (show Hid (_ = _) from block_kept Ba.out ba)
  have Bb := (show Hid (_ = _) from block_kept Bb.out ba)
  have Bx := (show Hid (_ = _) from block_kept Bx.out ba)
  have By := (show Hid (_ = _) from block_kept By.out ba)
  have Bp := (show Hid (_ = _) from block_kept Bp.out ba)
  have Bq := (show Hid (_ = _) from block_new w5 #[.int .i64 p0, .int .i64 p1, .string p2] 25)
  clear hb al ba ca cb
  have cx := block_cell Bx.out
  have cb := block_cell Bb.out
  go_wp2_with fail
  refine (H5.out _ HE.out).mono ?_
  rintro e w6 ⟨rfl, hb⟩
  have al : Below w6.heap.size w6 (w6.alloc (.cells #[.int .i64 d0, .int .i64 d1, .string d2] 25)) := (Below.refl _ _).alloc (Nat.le_refl _) _
  have ba := hb.trans (al.mono hb.size)
  have HE := (show Hid (Errs _ a0 a1 a2) from HE.out.later ba)
  have HB := (show Hid (Below _ _ _) from HB.out.trans (ba.mono HB.out.size))
  have Ba := (show Hid (_ = _) from block_kept Ba.out ba)
  have Bb := (show Hid (_ = _) from block_kept Bb.out ba)
  have Bx := (show Hid (_ = _) from block_kept Bx.out ba)
  have By := (show Hid (_ = _) from block_kept By.out ba)
  have Bp := (show Hid (_ = _) from block_kept Bp.out ba)
  have Bq := (show Hid (_ = _) from block_kept Bq.out ba)
  have Bd := (show Hid (_ = _) from block_new w6 #[.int .i64 d0, .int .i64 d1, .string d2] 25)
  clear hb al ba cx cb
  have ca := block_cell Ba.out
  have cb := block_cell Bb.out
  go_wp2_with fail
  refine (H6.out _).mono ?_
  rintro e w7 ⟨rfl, hb⟩
  have al : Below w7.heap.size w7 (w7.alloc (.cells #[.int .i64 x0, .int .i64 x1, .string x2] 25)) := (Below.refl _ _).alloc (Nat.le_refl _) _
  have ba := hb.trans (al.mono hb.size)
  have HE := (show Hid (Errs _ a0 a1 a2) from HE.out.later ba)
  have HB := (show Hid (Below _ _ _) from HB.out.trans (ba.mono HB.out.size))
  have Ba := (show Hid (_ = _) from block_kept Ba.out ba)
  have Bb := (show Hid (_ = _) from block_kept Bb.out ba)
  have Bx := (show Hid (_ = _) from block_kept Bx.out ba)
  have By := (show Hid (_ = _) from block_kept By.out ba)
  have Bp := (show Hid (_ = _) from block_kept Bp.out ba)
  have Bq := (show Hid (_ = _) from block_kept Bq.out ba)
  have Bd := (show Hid (_ = _) from block_kept Bd.out ba)
  have Bu := (show Hid (_ = _) from block_new w7 #[.int .i64 x0, .int .i64 x1, .string x2] 25)
  clear hb al ba ca cb
  have ca := block_cell Ba.out
  have cb := block_cell Bb.out
  go_wp2_with fail
  refine (H7.out _).mono ?_
  rintro e w8 ⟨rfl, hb⟩
  have al : Below w8.heap.size w8 (w8.alloc (.cells #[.int .i64 p0, .int .i64 p1, .string p2] 25)) := (Below.refl _ _).alloc (Nat.le_refl _) _
  have ba := hb.trans (al.mono hb.size)
  have HE := (show Hid (Errs _ a0 a1 a2) from HE.out.later ba)
  have HB := (show Hid (Below _ _ _) from HB.out.trans (ba.mono HB.out.size))
  have Ba := (show Hid (_ = _) from block_kept Ba.out ba)
  have Bb := (show Hid (_ = _) from block_kept Bb.out ba)
  have Bx := (show Hid (_ = _) from block_kept Bx.out ba)
  have By := (show Hid (_ = _) from block_kept By.out ba)
  have Bp := (show Hid (_ = _) from block_kept Bp.out ba)
  have Bq := (show Hid (_ = _) from block_kept Bq.out ba)
  have Bd := (show Hid (_ = _) from block_kept Bd.out ba)
  have Bu := (show Hid (_ = _) from block_kept Bu.out ba)
  have Bv := (show Hid (_ = _) from block_new w8 #[.int .i64 p0, .int .i64 p1, .string p2] 25)
  clear hb al ba ca cb
  have cx := block_cell Bx.out
  have cu := block_cell Bu.out
  have cp := block_cell Bp.out
  have cv := block_cell Bv.out
  have cq := block_cell Bq.out
  go_upto_region 13 with fail
  clear cx cu cp cv cq
  have ca := block_cell Ba.out
  have cb := block_cell Bb.out
  have cx := block_cell Bx.out
  have cy := block_cell By.out
  have cd := block_cell Bd.out
  go_cut [144] from 109 to 144 (fun s144 wx => s144 = .bool false ∧ wx = w8.alloc (.cells #[.int .i64 p0, .int .i64 p1, .string p2] 25))
  case first =>
    by_cases h1 : k = 1
    · subst h1
      by_cases h2 : k' = 1
      · subst h2
        by_cases h3 : s = ⟨#[]⟩
        · subst h3
          by_cases h4 : s' = ⟨#[]⟩
          · subst h4
            obtain ⟨⟨e0, e1, e2⟩, hd⟩ := Q1.out rfl rfl rfl rfl
            subst e0 e1 e2
            by_cases hx : x3 = 0
            · obtain ⟨f3, f0, f1, f2⟩ := hd hx
              subst f3 f0 f1 f2
              subst hx
              go_wp2_with fail
              go_meet
              case rel => exact ⟨rfl, rfl⟩
            · have hx' : (x3 == 0) = false := by simpa using hx
              clear hx hd
              go_wp2_with fail
              go_meet
              case rel => exact ⟨rfl, rfl⟩
          · have e1 := (not_empty h4).1
            have e2 := (not_empty h4).2
            clear h4
            go_wp2_with fail
            go_meet
            case rel => exact ⟨rfl, rfl⟩
        · have e1 := (not_empty h3).1
          have e2 := (not_empty h3).2
          clear h3
          go_wp2_with fail
          go_meet
          case rel => exact ⟨rfl, rfl⟩
      · have e1 : (k' == 1) = false := by simpa using h2
        clear h2
        go_wp2_with fail
        go_meet
        case rel => exact ⟨rfl, rfl⟩
    · have e1 : (k == 1) = false := by simpa using h1
      clear h1
      go_wp2_with fail
      go_meet
      case rel => exact ⟨rfl, rfl⟩
  case rest =>
    obtain ⟨rfl, rfl⟩ := hcut
    clear cx cy cd
    have HEE := HE
    go_wp2_with fail
    refine (H8.out _ HE.out).mono ?_
    rintro e w9 ⟨rfl, hb⟩
    have al : Below w9.heap.size w9 (w9.alloc (.cells #[.int .i64 l0, .int .i64 l1, .string l2] 25)) := (Below.refl _ _).alloc (Nat.le_refl _) _
    have ba := hb.trans (al.mono hb.size)
    have HE := (show Hid (Errs _ a0 a1 a2) from HE.out.later ba)
    have HB := (show Hid (Below _ _ _) from HB.out.trans (ba.mono HB.out.size))
    have Ba := (show Hid (_ = _) from block_kept Ba.out ba)
    have Bb := (show Hid (_ = _) from block_kept Bb.out ba)
    have Bx := (show Hid (_ = _) from block_kept Bx.out ba)
    have By := (show Hid (_ = _) from block_kept By.out ba)
    have Bp := (show Hid (_ = _) from block_kept Bp.out ba)
    have Bq := (show Hid (_ = _) from block_kept Bq.out ba)
    have Bd := (show Hid (_ = _) from block_kept Bd.out ba)
    have Bu := (show Hid (_ = _) from block_kept Bu.out ba)
    have Bv := (show Hid (_ = _) from block_kept Bv.out ba)
    have Bl := (show Hid (_ = _) from block_new w9 #[.int .i64 l0, .int .i64 l1, .string l2] 25)
    clear hb al ba ca cb
    have ca := block_cell Ba.out
    have cb := block_cell Bb.out
    go_wp2_with fail
    refine (H9.out _ HE.out).mono ?_
    rintro e w10 ⟨rfl, hb⟩
    have al : Below w10.heap.size w10 (w10.alloc (.cells #[.int .i64 g0, .int .i64 g1, .string g2] 25)) := (Below.refl _ _).alloc (Nat.le_refl _) _
    have ba := hb.trans (al.mono hb.size)
    have HE := (show Hid (Errs _ a0 a1 a2) from HE.out.later ba)
    have HB := (show Hid (Below _ _ _) from HB.out.trans (ba.mono HB.out.size))
    have Ba := (show Hid (_ = _) from block_kept Ba.out ba)
    have Bb := (show Hid (_ = _) from block_kept Bb.out ba)
    have Bx := (show Hid (_ = _) from block_kept Bx.out ba)
    have By := (show Hid (_ = _) from block_kept By.out ba)
    have Bp := (show Hid (_ = _) from block_kept Bp.out ba)
    have Bq := (show Hid (_ = _) from block_kept Bq.out ba)
    have Bd := (show Hid (_ = _) from block_kept Bd.out ba)
    have Bu := (show Hid (_ = _) from block_kept Bu.out ba)
    have Bv := (show Hid (_ = _) from block_kept Bv.out ba)
    have Bl := (show Hid (_ = _) from block_kept Bl.out ba)
    have Bg := (show Hid (_ = _) from block_new w10 #[.int .i64 g0, .int .i64 g1, .string g2] 25)
    clear hb al ba ca cb
    have ca := block_cell Ba.out
    have cb := block_cell Bb.out
    go_wp2_with fail
    refine (H10.out _).mono ?_
    rintro e w11 ⟨rfl, hb⟩
    have al : Below w11.heap.size w11 (w11.alloc (.cells #[.int .i64 2, .int .i64 m1, .string ⟨#[]⟩] 25)) := (Below.refl _ _).alloc (Nat.le_refl _) _
    have ba := hb.trans (al.mono hb.size)
    have HE := (show Hid (Errs _ a0 a1 a2) from HE.out.later ba)
    have HB := (show Hid (Below _ _ _) from HB.out.trans (ba.mono HB.out.size))
    have Ba := (show Hid (_ = _) from block_kept Ba.out ba)
    have Bb := (show Hid (_ = _) from block_kept Bb.out ba)
    have Bx := (show Hid (_ = _) from block_kept Bx.out ba)
    have By := (show Hid (_ = _) from block_kept By.out ba)
    have Bp := (show Hid (_ = _) from block_kept Bp.out ba)
    have Bq := (show Hid (_ = _) from block_kept Bq.out ba)
    have Bd := (show Hid (_ = _) from block_kept Bd.out ba)
    have Bu := (show Hid (_ = _) from block_kept Bu.out ba)
    have Bv := (show Hid (_ = _) from block_kept Bv.out ba)
    have Bl := (show Hid (_ = _) from block_kept Bl.out ba)
    have Bg := (show Hid (_ = _) from block_kept Bg.out ba)
    have Bm := (show Hid (_ = _) from block_new w11 #[.int .i64 2, .int .i64 m1, .string ⟨#[]⟩] 25)
    clear hb al ba ca cb
    have ca := block_cell Ba.out
    have cb := block_cell Bb.out
    have cm := block_cell Bm.out
    go_wp2
    have hS : ∀ w', Below (w11.alloc (.cells #[.int .i64 2, .int .i64 m1, .string ⟨#[]⟩] 25)).heap.size (w11.alloc (.cells #[.int .i64 2, .int .i64 m1, .string ⟨#[]⟩] 25)) w' → w'.cell? ⟨w1.heap.size, 0, none⟩ = some (.int .i64 k) ∧ w'.cell? ⟨w1.heap.size, 1, none⟩ = some (.int .i64 n) ∧ w'.cell? ⟨w1.heap.size, 2, none⟩ = some (.string s) ∧ w'.cell? ⟨w1.heap.size + 1, 0, none⟩ = some (.int .i64 k') ∧ w'.cell? ⟨w1.heap.size + 1, 1, none⟩ = some (.int .i64 n') ∧ w'.cell? ⟨w1.heap.size + 1, 2, none⟩ = some (.string s') ∧ w'.cell? ⟨w11.heap.size, 0, none⟩ = some (.int .i64 2) ∧ w'.cell? ⟨w11.heap.size, 1, none⟩ = some (.int .i64 m1) ∧ w'.cell? ⟨w11.heap.size, 2, none⟩ = some (.string ⟨#[]⟩) := fun w' hb =>
      ⟨by rw [block_cell (block_kept Ba.out hb)]; rfl, by rw [block_cell (block_kept Ba.out hb)]; rfl, by rw [block_cell (block_kept Ba.out hb)]; rfl, by rw [block_cell (block_kept Bb.out hb)]; rfl, by rw [block_cell (block_kept Bb.out hb)]; rfl, by rw [block_cell (block_kept Bb.out hb)]; rfl, by rw [block_cell (block_kept Bm.out hb)]; rfl, by rw [block_cell (block_kept Bm.out hb)]; rfl, by rw [block_cell (block_kept Bm.out hb)]; rfl⟩
    clear ca cb cm
    obtain ⟨j0, j1, j2, j3, j4, j5, j6, j7, j8⟩ := hS _ (Below.refl _ _)
    have HS : Hid (∀ w', Below (w11.alloc (.cells #[.int .i64 2, .int .i64 m1, .string ⟨#[]⟩] 25)).heap.size (w11.alloc (.cells #[.int .i64 2, .int .i64 m1, .string ⟨#[]⟩] 25)) w' → w'.cell? ⟨w1.heap.size, 0, none⟩ = some (.int .i64 k) ∧ w'.cell? ⟨w1.heap.size, 1, none⟩ = some (.int .i64 n) ∧ w'.cell? ⟨w1.heap.size, 2, none⟩ = some (.string s) ∧ w'.cell? ⟨w1.heap.size + 1, 0, none⟩ = some (.int .i64 k') ∧ w'.cell? ⟨w1.heap.size + 1, 1, none⟩ = some (.int .i64 n') ∧ w'.cell? ⟨w1.heap.size + 1, 2, none⟩ = some (.string s') ∧ w'.cell? ⟨w11.heap.size, 0, none⟩ = some (.int .i64 2) ∧ w'.cell? ⟨w11.heap.size, 1, none⟩ = some (.int .i64 m1) ∧ w'.cell? ⟨w11.heap.size, 2, none⟩ = some (.string ⟨#[]⟩)) := hS
    have q : Below (w11.alloc (.cells #[.int .i64 2, .int .i64 m1, .string ⟨#[]⟩] 25)).heap.size (w11.alloc (.cells #[.int .i64 2, .int .i64 m1, .string ⟨#[]⟩] 25)) (w11.alloc (.cells #[.int .i64 2, .int .i64 m1, .string ⟨#[]⟩] 25)).drew := (Below.refl _ _).drew
    clear hS
    go_region_held3 (fun w' => w'.cell? ⟨w1.heap.size, 0, none⟩ = some (.int .i64 k) ∧ w'.cell? ⟨w1.heap.size, 1, none⟩ = some (.int .i64 n) ∧ w'.cell? ⟨w1.heap.size, 2, none⟩ = some (.string s) ∧ w'.cell? ⟨w1.heap.size + 1, 0, none⟩ = some (.int .i64 k') ∧ w'.cell? ⟨w1.heap.size + 1, 1, none⟩ = some (.int .i64 n') ∧ w'.cell? ⟨w1.heap.size + 1, 2, none⟩ = some (.string s') ∧ w'.cell? ⟨w11.heap.size, 0, none⟩ = some (.int .i64 2) ∧ w'.cell? ⟨w11.heap.size, 1, none⟩ = some (.int .i64 m1) ∧ w'.cell? ⟨w11.heap.size, 2, none⟩ = some (.string ⟨#[]⟩))
      (first | exact ⟨j0, j1, j2, j3, j4, j5, j6, j7, j8⟩ | exact HS.out _ q)
      (first
        | (go_at_call 17; refine (H11.out _).mono ?_; rintro e wy ⟨rfl, kd⟩; have q := q.trans (kd.mono q.size))
        | (go_at_call 16; refine (H12.out _).mono ?_; rintro e wz ⟨rfl, kd⟩; have q := q.trans (kd.mono q.size)))
    have HBy := (show Hid (Below _ _ _) from HB.out.trans (q.mono HB.out.size))
    have By1 := (show Hid (_ = _) from block_kept Ba.out q)
    have By2 := (show Hid (_ = _) from block_kept Bb.out q)
    have By3 := (show Hid (_ = _) from block_kept Bl.out q)
    have By4 := (show Hid (_ = _) from block_kept Bg.out q)
    have By5 := (show Hid (_ = _) from block_kept Bm.out q)
    clear HS q kd j0 j1 j2 j3 j4 j5 j6 j7 j8
    have ca := block_cell By1.out
    have cb := block_cell By2.out
    by_cases hl : l3 = 0
    · subst hl
      go_wp2_with fail
      refine (H13.out _).mono ?_
      rintro e wl ⟨rfl, hb⟩
      have al : Below wl.heap.size wl (wl.alloc (.cells #[.int .i64 l0, .int .i64 l1, .string l2] 25)) := (Below.refl _ _).alloc (Nat.le_refl _) _
      have ba := hb.trans (al.mono hb.size)
      have HBz := (show Hid (Below _ _ _) from HBy.out.trans (ba.mono HBy.out.size))
      have ka := block_cell (block_kept By1.out ba)
      have kb := block_cell (block_kept By2.out ba)
      have kl := block_cell (block_kept By3.out ba)
      have kg := block_cell (block_kept By4.out ba)
      have km := block_cell (block_kept By5.out ba)
      clear hb al ba ca cb
      by_cases h1 : k = 1
      · subst h1
        by_cases h3 : s = ⟨#[]⟩
        · subst h3
          by_cases h4 : s' = ⟨#[]⟩
          · subst h4
            have hq := Q4.out
            have hsum := Q3.out (by first | rfl | trivial) (by first | exact (Or.inl ⟨rfl, rfl, rfl⟩) | trivial | simp)
            have h01 : 0 ≤ l1 := hq.1
            have h02 : l1 ≤ 1 := hq.2.1
            have h03 : 0 ≤ g1 := hq.2.2.1
            have h04 : g1 ≤ 1 := hq.2.2.2.1
            have h05 : 0 ≤ m1 := hq.2.2.2.2.1
            have h06 : m1 ≤ 1 := hq.2.2.2.2.2
            have hs1 : (l1 + g1 + m1 == 1) = true := by rw [hsum]; rfl
            clear hq hsum
            go_wp2
            go_ret
            exact ⟨rfl, HBz.out⟩
          · have e1 := (not_empty h4).1
            have e2 := (not_empty h4).2
            clear h4
            go_wp2
            go_ret
            exact ⟨rfl, HBz.out⟩
        · have e1 := (not_empty h3).1
          have e2 := (not_empty h3).2
          clear h3
          go_wp2
          go_ret
          exact ⟨rfl, HBz.out⟩
      by_cases h3 : k = 3
      · subst h3
        by_cases h5 : n = 0
        · subst h5
          by_cases h6 : n' = 0
          · subst h6
            have hq := Q4.out
            have hsum := Q3.out (by first | rfl | trivial) (by first | exact (Or.inr (Or.inl ⟨rfl, rfl, rfl⟩)) | trivial | simp)
            have h01 : 0 ≤ l1 := hq.1
            have h02 : l1 ≤ 1 := hq.2.1
            have h03 : 0 ≤ g1 := hq.2.2.1
            have h04 : g1 ≤ 1 := hq.2.2.2.1
            have h05 : 0 ≤ m1 := hq.2.2.2.2.1
            have h06 : m1 ≤ 1 := hq.2.2.2.2.2
            have hs1 : (l1 + g1 + m1 == 1) = true := by rw [hsum]; rfl
            clear hq hsum
            go_wp2
            go_ret
            exact ⟨rfl, HBz.out⟩
          · have e1 : (n' == 0) = false := by simpa using h6
            clear h6
            go_wp2
            go_ret
            exact ⟨rfl, HBz.out⟩
        · have e1 : (n == 0) = false := by simpa using h5
          clear h5
          go_wp2
          go_ret
          exact ⟨rfl, HBz.out⟩
      · have e1 : (k != 1) = true := by simpa using h1
        have e3 : (k != 3) = true := by simpa using h3
        have hq := Q4.out
        have hsum := Q3.out (by first | rfl | trivial) (by first | exact (Or.inr (Or.inr ⟨h1, h3⟩)) | trivial | simp)
        have h01 : 0 ≤ l1 := hq.1
        have h02 : l1 ≤ 1 := hq.2.1
        have h03 : 0 ≤ g1 := hq.2.2.1
        have h04 : g1 ≤ 1 := hq.2.2.2.1
        have h05 : 0 ≤ m1 := hq.2.2.2.2.1
        have h06 : m1 ≤ 1 := hq.2.2.2.2.2
        have hs1 : (l1 + g1 + m1 == 1) = true := by rw [hsum]; rfl
        clear hq hsum
        clear h1 h3
        go_wp2
        go_ret
        exact ⟨rfl, HBz.out⟩
    · obtain ⟨e0, e1, e2, e3, e4, e5⟩ := Q2.out hl
      subst e0 e1 e2 e3 e4 e5
      have hl1 : (l3 != 0) = true := by simpa using hl
      clear hl
      go_wp2_with fail
      refine (H13.out _).mono ?_
      rintro e wl ⟨rfl, hb⟩
      have al : Below wl.heap.size wl (wl.alloc (.cells #[.int .i64 0, .int .i64 0, .string ⟨#[]⟩] 25)) := (Below.refl _ _).alloc (Nat.le_refl _) _
      have ba := hb.trans (al.mono hb.size)
      have HBz := (show Hid (Below _ _ _) from HBy.out.trans (ba.mono HBy.out.size))
      have ka := block_cell (block_kept By1.out ba)
      have kb := block_cell (block_kept By2.out ba)
      have kl := block_cell (block_kept By3.out ba)
      have kg := block_cell (block_kept By4.out ba)
      have km := block_cell (block_kept By5.out ba)
      clear hb al ba ca cb
      go_wp2
      go_ret
      exact ⟨rfl, HBz.out⟩
end Go.Proofs.YtlpbolchedngoaaDoor
