/-
  The document's l16Fold: the first place at which three instructions can be one.
-/
import Derived.Test.YtjdoljaailokmaaGreatDoorZFQ12
import Derived.Test.YtjdoljaailokmaaGreatDoorZFQ13
import Derived.Test.YtjdoljaailokmaaGreatDoorZFQ14
import Derived.Test.YtjdoljaailokmaaGreatDoorZCO
namespace Go.Proofs.YtjdoljaailokmaaGreatDoor
open Go.RowKit

theorem below_dr {B : Nat} {a w : World} (h : Below B a w) (n : Nat) : Below B a (w.drewN n) := h.trans ⟨rfl, rfl, rfl, Nat.le_refl _, fun _ _ => rfl⟩
/-- What is answered of the first place. -/
def PlacePost (code : List (Int × Int)) (d : List Int) (e : Ending) : Prop :=
  (∃ (i : Nat) (v : Int), First code d i v ∧ e = .returned (.int .i64 (i : Int))) ∨ ((∀ i v, ¬ FAt code d i v) ∧ e = .returned (.int .i64 (-1)))
theorem sArith_any {op : Int} (h : op = 11 ∨ op = 12 ∨ op = 13) (a b : Int) (w : World) :
    Calls Tryz.prog 16 #[.int .i64 op, .int .i64 a, .int .i64 b] w fun e w' => e = .returned (.tuple #[.int .i64 (ak (rT a b (wrap64 (arith op a b))) (wrap64 (arith op a b))), .int .i64 (rT a b (wrap64 (arith op a b)))]) ∧ w' = w := by
  rcases h with rfl | rfl | rfl
  · exact sArith_11 a b w
  · exact sArith_12 a b w
  · exact sArith_13 a b w

set_option maxRecDepth 100000 in
set_option maxHeartbeats 8000000 in
theorem sFoldAt_any (a1 a2 : Option Addr) (nt c1 c2 : Nat) (fs : List Fn) (f : Nat) (d : List Int) (w : World) (hf : f < fs.length) (hn : fs.length ≤ 1048576) (hm : FnsAt w 0 a2 fs) (F : Fine fs fs[f].code) (L : Lab fs fs[f].code d) :
    Calls Tryz.prog 15 #[.agg #[.slice a1 nt c1, .slice a2 fs.length c2], .int .i64 f] w fun e w' => PlacePost fs[f].code d e ∧ Below w.heap.size w w' := by
  have hone := F.one
  have hmost := F.most
  have HM : Hid (FnsAt w 0 a2 fs) := hm
  obtain ⟨b, off, ca, cc, rfl, -, d1, d2, d3, d4⟩ := hm f hf
  have hbA : Below w.heap.size w (w.alloc (.cells #[.slice a1 nt c1, .slice (some ⟨b, off, none⟩) fs.length c2] 29)) := (Below.refl _ _).alloc (Nat.le_refl _) _
  have hB := block_new w #[.slice a1 nt c1, .slice (some ⟨b, off, none⟩) fs.length c2] 29
  have d3' := cell_later hbA d3
  clear d1 d2 d3
  go_enter Tryz.func15, Tryz.ntmps15
  go_wp2_with fail
  refine (sDepths_any a1 _ nt c1 c2 fs f _ hf hn (HM.out.mono hbA) F).mono ?_
  rintro e w1 ⟨g, cap, d', rfl, hg, hD, hH, hb⟩
  obtain rfl := L.done F hD
  have hb1 : Below w.heap.size w w1 := hbA.trans (hb.mono hbA.size)
  have m0 := block_cell (block_kept hB hb)
  have d4' := d4.mono hb1
  have HL := hid L
  have hdl := L.len
  have hlow := L.low
  clear d4 hB hbA hb d3' hD L
  go_wp2_with fail
  refine (sLeaders_any a1 _ nt c1 c2 fs f _ hf hn (HM.out.mono hb1) F (fun e he => by rw [HL.out.done F he]; exact (lab_gj F HL.out).1)).mono ?_
  rintro e w2 ⟨lv, dz, rfl, hD, hds, hb2⟩
  obtain rfl := HL.out.done F hD
  have HLD : Hid (∀ j : Nat, j < fs[f].code.length → (decide ((j : Int) ∈ lstI (LP fs[f].code dz fs[f].code.length) fs[f].code.length) = true ↔ Ldr fs[f].code dz j)) := fun j hj => by
    rw [decide_eq_true_iff, ← lp_ldr hlow j]
    unfold lstI
    rw [List.mem_map]
    constructor
    · rintro ⟨y, hy, e⟩
      obtain rfl : y = j := by omega
      exact (mem_lst.1 hy).2
    · exact fun h => ⟨j, mem_lst.2 ⟨hj, h⟩, rfl⟩
  have hll := lstI_len (LP fs[f].code dz fs[f].code.length) fs[f].code.length
  have hbw : Below w.heap.size w w2 := hb1.trans (hb2.mono hb1.size)
  have hdc := d4'.mono hb2
  have hH2 := hH.mono hb2
  clear hb1 hb2 d4' hH hD m0 HM F
  obtain ⟨code, hcode⟩ : ∃ code, code = fs[f].code := ⟨_, rfl⟩
  obtain ⟨ls, hls⟩ : ∃ ls, ls = lstI (LP fs[f].code dz fs[f].code.length) fs[f].code.length := ⟨_, rfl⟩
  rw [← hls] at hds HLD hll
  rw [← hcode] at hdc hone hmost HL hdl HLD hll ⊢
  obtain ⟨lva, lvc, rfl, -⟩ := hds.form
  have hds' := hid hds
  have HCO := hid hcode
  clear hls hcode hds
  go_wp2
  go_loopw [8] (fun i wr => ∃ (k : Nat), k ≤ code.length ∧ i = .int .i64 k ∧ Hid (∀ j, j < k → ∀ u, ¬ FAt code dz j u) ∧ Below w2.heap.size w2 wr) (fun i _ => code.length - (intOf i).toNat)
  case atStart => exact ⟨0, by omega, rfl, fun j h => absurd h (Nat.not_lt_zero _), Below.refl _ _⟩
  case round =>
    obtain ⟨k, hk, rfl, HN, hbr⟩ := hrel
    by_cases hlt : k + 2 < code.length
    · obtain ⟨cb, co, rfl, -, e1, e2⟩ := (hdc.mono hbr) k (by omega)
      obtain ⟨cb', co', hq, -, e3, e4⟩ := (hdc.mono hbr) (k + 1) (by omega)
      cases hq
      obtain ⟨cb', co', hq, -, e5, e6⟩ := (hdc.mono hbr) (k + 2) hlt
      cases hq
      have e0 := (hH2.mono hbr).cell (j := k) (by omega)
      have q1 := getD_at (code := code) (k := k) (by omega)
      have q2 := getD_at (code := code) (k := k + 1) (by omega)
      have q3 := getD_at (code := code) (k := k + 2) hlt
      have qd : dz.getD k (-1) = dz[k] := by rw [List.getD_eq_getElem?_getD, List.getElem?_eq_getElem (by omega)]; rfl
      have HNX : Hid ((∀ u, ¬ FAt code dz k u) → ∀ j, j < k + 1 → ∀ u, ¬ FAt code dz j u) := fun h j hj u => by
        by_cases e : j = k
        · subst e; exact h u
        · exact HN.out j (by omega) u
      have l1 := HLD.out (k + 1) (by omega)
      have l2 := HLD.out (k + 2) hlt
      obtain ⟨o1, ho1⟩ : ∃ o1, o1 = code[k].1 := ⟨_, rfl⟩
      obtain ⟨x1, hx1⟩ : ∃ x1, x1 = code[k].2 := ⟨_, rfl⟩
      obtain ⟨o2, ho2⟩ : ∃ o2, o2 = code[k + 1].1 := ⟨_, rfl⟩
      obtain ⟨x2, hx2⟩ : ∃ x2, x2 = code[k + 1].2 := ⟨_, rfl⟩
      obtain ⟨o3, ho3⟩ : ∃ o3, o3 = code[k + 2].1 := ⟨_, rfl⟩
      obtain ⟨dk, hdk⟩ : ∃ dk, dk = dz[k] := ⟨_, rfl⟩
      obtain ⟨b1, hb1⟩ : ∃ b1, b1 = decide ((k : Int) + 1 ∈ ls) := ⟨_, rfl⟩
      obtain ⟨b2, hb2⟩ : ∃ b2, b2 = decide ((k : Int) + 2 ∈ ls) := ⟨_, rfl⟩
      rw [show ((k + 1 : Nat) : Int) = (k : Int) + 1 by omega, ← hb1] at l1
      rw [show ((k + 2 : Nat) : Int) = (k : Int) + 2 by omega, ← hb2] at l2
      rw [← ho1] at e1
      rw [← hx1] at e2
      rw [← ho2] at e3
      rw [← hx2] at e4
      rw [← ho3] at e5
      rw [← hdk] at e0
      have HQ : Hid ((code.getD k (0, 0)).1 = o1 ∧ (code.getD k (0, 0)).2 = x1 ∧ (code.getD (k + 1) (0, 0)).1 = o2 ∧ (code.getD (k + 1) (0, 0)).2 = x2 ∧ (code.getD (k + 2) (0, 0)).1 = o3 ∧ dz.getD k (-1) = dk) := by
        refine ⟨?_, ?_, ?_, ?_, ?_, ?_⟩
        · rw [q1, ho1]
        · rw [q1, hx1]
        · rw [q2, ho2]
        · rw [q2, hx2]
        · rw [q3, ho3]
        · rw [qd, hdk]
      have HL1 := hid l1
      have HL2 := hid l2
      have HB1 := hid hb1
      have HB2 := hid hb2
      have HH1 : Hid (∀ W, Below w2.heap.size w2 W → Calls Tryz.prog 32 #[.slice lva ls.length lvc, .int .i64 ((k : Int) + 1)] W fun e w' => e = .returned (.bool b1) ∧ w' = W) := fun W hW => by
        rw [HB1.out]; exact has14_any _ ls _ _ W (hds'.out.mono hW) (by omega)
      have HH2 : Hid (∀ W, Below w2.heap.size w2 W → Calls Tryz.prog 32 #[.slice lva ls.length lvc, .int .i64 ((k : Int) + 2)] W fun e w' => e = .returned (.bool b2) ∧ w' = W) := fun W hW => by
        rw [HB2.out]; exact has14_any _ ls _ _ W (hds'.out.mono hW) (by omega)
      have HNO := HN
      clear l1 l2 ho1 hx1 ho2 hx2 ho3 hdk hb1 hb2 q1 q2 q3 qd e6 HN hll
      by_cases hz : dk < 0
      · have HN2 : Hid (∀ j, j < k + 1 → ∀ u, ¬ FAt code dz j u) := HNX.out (fun u h => by have := h.h0; rw [HQ.out.2.2.2.2.2] at this; omega)
        go_wp2
        go_roundw
        case rel => exact ⟨k + 1, by omega, by go_num, HN2.out, hbr⟩
        case measure => simp [intOf]; omega
      by_cases c1 : o1 = 1
      case neg =>
        have HN2 : Hid (∀ j, j < k + 1 → ∀ u, ¬ FAt code dz j u) := HNX.out (fun u h => by have := h.o1; rw [HQ.out.1] at this; exact c1 this)
        have n1 : (o1 != 1) = true := by simpa using c1
        go_wp2
        go_roundw
        case rel => exact ⟨k + 1, by omega, by go_num, HN2.out, hbr⟩
        case measure => simp [intOf]; omega
      by_cases c2 : o2 = 1
      case neg =>
        have HN2 : Hid (∀ j, j < k + 1 → ∀ u, ¬ FAt code dz j u) := HNX.out (fun u h => by have := h.o2; rw [HQ.out.2.2.1] at this; exact c2 this)
        have n1 : (o1 != 1) = false := by rw [c1]; rfl
        have n2 : (o2 != 1) = true := by simpa using c2
        go_wp2
        go_roundw
        case rel => exact ⟨k + 1, by omega, by go_num, HN2.out, hbr⟩
        case measure => simp [intOf]; omega
      have n1 : (o1 != 1) = false := by rw [c1]; rfl
      have n2 : (o2 != 1) = false := by rw [c2]; rfl
      by_cases c3 : o3 = 11 ∨ o3 = 12 ∨ o3 = 13
      case neg =>
        have HN2 : Hid (∀ j, j < k + 1 → ∀ u, ¬ FAt code dz j u) := HNX.out (fun u h => by have := h.o3; rw [HQ.out.2.2.2.2.1] at this; exact c3 this)
        have n3 : (o3 != 11) = true := by simpa using fun e => c3 (.inl e)
        have n4 : (o3 != 12) = true := by simpa using fun e => c3 (.inr (.inl e))
        have n5 : (o3 != 13) = true := by simpa using fun e => c3 (.inr (.inr e))
        go_wp2
        go_roundw
        case rel => exact ⟨k + 1, by omega, by go_num, HN2.out, hbr⟩
        case measure => simp [intOf]; omega
      rcases c3 with rfl | rfl | rfl
      · go_wp2_with fail
        refine (HH1.out _ hbr).mono ?_
        rintro e wz ⟨rfl, hwz⟩
        rw [hwz]
        clear hwz wz
        cases b1 with
        | true =>
          have HN2 : Hid (∀ j, j < k + 1 → ∀ u, ¬ FAt code dz j u) := HNX.out (fun u h => h.l1 (HL1.out.1 rfl))
          go_wp2
          go_roundw
          case rel => exact ⟨k + 1, by omega, by go_num, HN2.out, hbr⟩
          case measure => simp [intOf]; omega
        | false =>
          have NL1 : Hid (¬ Ldr code dz (k + 1)) := fun h => by have := HL1.out.2 h; cases this
          go_wp2_with fail
          refine (HH2.out _ hbr).mono ?_
          rintro e wz ⟨rfl, hwz⟩
          rw [hwz]
          clear hwz wz
          cases b2 with
          | true =>
            have HN2 : Hid (∀ j, j < k + 1 → ∀ u, ¬ FAt code dz j u) := HNX.out (fun u h => h.l2 (HL2.out.1 rfl))
            go_wp2
            go_roundw
            case rel => exact ⟨k + 1, by omega, by go_num, HN2.out, hbr⟩
            case measure => simp [intOf]; omega
          | false =>
            have NL2 : Hid (¬ Ldr code dz (k + 2)) := fun h => by have := HL2.out.2 h; cases this
            obtain ⟨v, hv⟩ : ∃ v, v = wrap64 (arith 11 x1 x2) := ⟨_, rfl⟩
            obtain ⟨T, hT⟩ : ∃ T, T = rT x1 x2 v := ⟨_, rfl⟩
            have HA : Hid (∀ W, Calls Tryz.prog 16 #[.int .i64 11, .int .i64 x1, .int .i64 x2] W fun e w' => e = .returned (.tuple #[.int .i64 (ak T v), .int .i64 T]) ∧ w' = W) := fun W => by
              have := sArith_any (op := 11) (by decide) x1 x2 W
              rw [← hv, ← hT] at this
              exact this
            have HV : Hid (v = wrap64 (arith 11 x1 x2) ∧ T = rT x1 x2 v) := ⟨hv, hT⟩
            clear hv hT
            by_cases hT0 : T = 0
            · have hT1 : (T == 0) = true := by simpa using hT0
              have HFA : Hid (FAt code dz k v) := by
                obtain ⟨r1, r2, r3, r4, r5, r6⟩ := HQ.out
                exact ⟨hlt, by rw [r6]; omega, by rw [r1, c1], by rw [r3, c2], by rw [r5]; decide, NL1.out, NL2.out, by rw [r5, r2, r4]; exact HV.out.1, by rw [r2, r4, ← HV.out.2]; exact hT0⟩
              have HFI : Hid (First code dz k v) := ⟨HFA.out, fun j hj u => HNO.out j hj u⟩
              clear HFA hT0
              go_wp2
              go_quiet ((go_at_call 16; exact Calls.quiet_of_same (HA.out _)))
              go_wp2
              go_ret
              exact ⟨.inl ⟨k, v, by rw [← HCO.out]; exact HFI.out, rfl⟩, below_dr (hbw.trans (hbr.mono hbw.size)) _⟩
            · have hT1 : (T == 0) = false := beq_eq_false_iff_ne.2 hT0
              have HN2 : Hid (∀ j, j < k + 1 → ∀ u, ¬ FAt code dz j u) := HNX.out (fun u h => hT0 (by
                obtain ⟨r1, r2, r3, r4, r5, r6⟩ := HQ.out
                have e1 := h.val
                have e2 := h.ok
                rw [r5, r2, r4, ← HV.out.1] at e1
                rw [r2, r4, e1, ← HV.out.2] at e2
                exact e2))
              clear hT0
              go_wp2
              go_quiet ((go_at_call 16; exact Calls.quiet_of_same (HA.out _)))
              go_wp2
              go_roundw
              case rel => exact ⟨k + 1, by omega, by go_num, HN2.out, below_dr hbr _⟩
              case measure => simp [intOf]; omega
      · go_wp2_with fail
        refine (HH1.out _ hbr).mono ?_
        rintro e wz ⟨rfl, hwz⟩
        rw [hwz]
        clear hwz wz
        cases b1 with
        | true =>
          have HN2 : Hid (∀ j, j < k + 1 → ∀ u, ¬ FAt code dz j u) := HNX.out (fun u h => h.l1 (HL1.out.1 rfl))
          go_wp2
          go_roundw
          case rel => exact ⟨k + 1, by omega, by go_num, HN2.out, hbr⟩
          case measure => simp [intOf]; omega
        | false =>
          have NL1 : Hid (¬ Ldr code dz (k + 1)) := fun h => by have := HL1.out.2 h; cases this
          go_wp2_with fail
          refine (HH2.out _ hbr).mono ?_
          rintro e wz ⟨rfl, hwz⟩
          rw [hwz]
          clear hwz wz
          cases b2 with
          | true =>
            have HN2 : Hid (∀ j, j < k + 1 → ∀ u, ¬ FAt code dz j u) := HNX.out (fun u h => h.l2 (HL2.out.1 rfl))
            go_wp2
            go_roundw
            case rel => exact ⟨k + 1, by omega, by go_num, HN2.out, hbr⟩
            case measure => simp [intOf]; omega
          | false =>
            have NL2 : Hid (¬ Ldr code dz (k + 2)) := fun h => by have := HL2.out.2 h; cases this
            obtain ⟨v, hv⟩ : ∃ v, v = wrap64 (arith 12 x1 x2) := ⟨_, rfl⟩
            obtain ⟨T, hT⟩ : ∃ T, T = rT x1 x2 v := ⟨_, rfl⟩
            have HA : Hid (∀ W, Calls Tryz.prog 16 #[.int .i64 12, .int .i64 x1, .int .i64 x2] W fun e w' => e = .returned (.tuple #[.int .i64 (ak T v), .int .i64 T]) ∧ w' = W) := fun W => by
              have := sArith_any (op := 12) (by decide) x1 x2 W
              rw [← hv, ← hT] at this
              exact this
            have HV : Hid (v = wrap64 (arith 12 x1 x2) ∧ T = rT x1 x2 v) := ⟨hv, hT⟩
            clear hv hT
            by_cases hT0 : T = 0
            · have hT1 : (T == 0) = true := by simpa using hT0
              have HFA : Hid (FAt code dz k v) := by
                obtain ⟨r1, r2, r3, r4, r5, r6⟩ := HQ.out
                exact ⟨hlt, by rw [r6]; omega, by rw [r1, c1], by rw [r3, c2], by rw [r5]; decide, NL1.out, NL2.out, by rw [r5, r2, r4]; exact HV.out.1, by rw [r2, r4, ← HV.out.2]; exact hT0⟩
              have HFI : Hid (First code dz k v) := ⟨HFA.out, fun j hj u => HNO.out j hj u⟩
              clear HFA hT0
              go_wp2
              go_quiet ((go_at_call 16; exact Calls.quiet_of_same (HA.out _)))
              go_wp2
              go_ret
              exact ⟨.inl ⟨k, v, by rw [← HCO.out]; exact HFI.out, rfl⟩, below_dr (hbw.trans (hbr.mono hbw.size)) _⟩
            · have hT1 : (T == 0) = false := beq_eq_false_iff_ne.2 hT0
              have HN2 : Hid (∀ j, j < k + 1 → ∀ u, ¬ FAt code dz j u) := HNX.out (fun u h => hT0 (by
                obtain ⟨r1, r2, r3, r4, r5, r6⟩ := HQ.out
                have e1 := h.val
                have e2 := h.ok
                rw [r5, r2, r4, ← HV.out.1] at e1
                rw [r2, r4, e1, ← HV.out.2] at e2
                exact e2))
              clear hT0
              go_wp2
              go_quiet ((go_at_call 16; exact Calls.quiet_of_same (HA.out _)))
              go_wp2
              go_roundw
              case rel => exact ⟨k + 1, by omega, by go_num, HN2.out, below_dr hbr _⟩
              case measure => simp [intOf]; omega
      · go_wp2_with fail
        refine (HH1.out _ hbr).mono ?_
        rintro e wz ⟨rfl, hwz⟩
        rw [hwz]
        clear hwz wz
        cases b1 with
        | true =>
          have HN2 : Hid (∀ j, j < k + 1 → ∀ u, ¬ FAt code dz j u) := HNX.out (fun u h => h.l1 (HL1.out.1 rfl))
          go_wp2
          go_roundw
          case rel => exact ⟨k + 1, by omega, by go_num, HN2.out, hbr⟩
          case measure => simp [intOf]; omega
        | false =>
          have NL1 : Hid (¬ Ldr code dz (k + 1)) := fun h => by have := HL1.out.2 h; cases this
          go_wp2_with fail
          refine (HH2.out _ hbr).mono ?_
          rintro e wz ⟨rfl, hwz⟩
          rw [hwz]
          clear hwz wz
          cases b2 with
          | true =>
            have HN2 : Hid (∀ j, j < k + 1 → ∀ u, ¬ FAt code dz j u) := HNX.out (fun u h => h.l2 (HL2.out.1 rfl))
            go_wp2
            go_roundw
            case rel => exact ⟨k + 1, by omega, by go_num, HN2.out, hbr⟩
            case measure => simp [intOf]; omega
          | false =>
            have NL2 : Hid (¬ Ldr code dz (k + 2)) := fun h => by have := HL2.out.2 h; cases this
            obtain ⟨v, hv⟩ : ∃ v, v = wrap64 (arith 13 x1 x2) := ⟨_, rfl⟩
            obtain ⟨T, hT⟩ : ∃ T, T = rT x1 x2 v := ⟨_, rfl⟩
            have HA : Hid (∀ W, Calls Tryz.prog 16 #[.int .i64 13, .int .i64 x1, .int .i64 x2] W fun e w' => e = .returned (.tuple #[.int .i64 (ak T v), .int .i64 T]) ∧ w' = W) := fun W => by
              have := sArith_any (op := 13) (by decide) x1 x2 W
              rw [← hv, ← hT] at this
              exact this
            have HV : Hid (v = wrap64 (arith 13 x1 x2) ∧ T = rT x1 x2 v) := ⟨hv, hT⟩
            clear hv hT
            by_cases hT0 : T = 0
            · have hT1 : (T == 0) = true := by simpa using hT0
              have HFA : Hid (FAt code dz k v) := by
                obtain ⟨r1, r2, r3, r4, r5, r6⟩ := HQ.out
                exact ⟨hlt, by rw [r6]; omega, by rw [r1, c1], by rw [r3, c2], by rw [r5]; decide, NL1.out, NL2.out, by rw [r5, r2, r4]; exact HV.out.1, by rw [r2, r4, ← HV.out.2]; exact hT0⟩
              have HFI : Hid (First code dz k v) := ⟨HFA.out, fun j hj u => HNO.out j hj u⟩
              clear HFA hT0
              go_wp2
              go_quiet ((go_at_call 16; exact Calls.quiet_of_same (HA.out _)))
              go_wp2
              go_ret
              exact ⟨.inl ⟨k, v, by rw [← HCO.out]; exact HFI.out, rfl⟩, below_dr (hbw.trans (hbr.mono hbw.size)) _⟩
            · have hT1 : (T == 0) = false := beq_eq_false_iff_ne.2 hT0
              have HN2 : Hid (∀ j, j < k + 1 → ∀ u, ¬ FAt code dz j u) := HNX.out (fun u h => hT0 (by
                obtain ⟨r1, r2, r3, r4, r5, r6⟩ := HQ.out
                have e1 := h.val
                have e2 := h.ok
                rw [r5, r2, r4, ← HV.out.1] at e1
                rw [r2, r4, e1, ← HV.out.2] at e2
                exact e2))
              clear hT0
              go_wp2
              go_quiet ((go_at_call 16; exact Calls.quiet_of_same (HA.out _)))
              go_wp2
              go_roundw
              case rel => exact ⟨k + 1, by omega, by go_num, HN2.out, below_dr hbr _⟩
              case measure => simp [intOf]; omega
    · have HE : Hid (∀ i v, ¬ FAt code dz i v) := fun i v h => HN.out i (by have := h.hi; omega) v h
      clear HN
      go_wp2
      go_ret
      exact ⟨.inr ⟨by rw [← HCO.out]; exact HE.out, rfl⟩, hbw.trans (hbr.mono hbw.size)⟩
end Go.Proofs.YtjdoljaailokmaaGreatDoor
