/-
  What the document's model takes out of a function's code.
-/
import Derived.Test.YtjdoljaailokmaaGreatDoorZCT1
import Derived.Test.YtjdoljaailokmaaGreatDoorZCM
import Derived.Test.YtjdoljaailokmaaGreatDoorZFQ5
namespace Go.Proofs.YtjdoljaailokmaaGreatDoor
open Go.RowKit

theorem hid {p : Prop} (h : p) : Hid p := h
/-- A row of marks. -/
def BoolsAt (w : World) (a : Option Addr) (n : Nat) (g : Nat → Bool) : Prop := ∀ i, i < n → ∃ b off, a = some ⟨b, off, none⟩ ∧ w.cell? ⟨b, off + i, none⟩ = some (.bool (g i))
theorem BoolsAt.mono {w w' : World} {a : Option Addr} {n : Nat} {g : Nat → Bool} (h : BoolsAt w a n g) (hb : Below w.heap.size w w') : BoolsAt w' a n g := by
  intro i hi
  obtain ⟨b, off, h1, h2⟩ := h i hi
  exact ⟨b, off, h1, cell_later hb h2⟩
def newsV (g : Nat → Bool) (k : Nat) : List Value := (List.range k).map fun j => .int .i64 (news g j : Int)
theorem newsV_snoc (g : Nat → Bool) (k : Nat) : newsV g (k + 1) = newsV g k ++ [.int .i64 (news g k : Int)] := by simp [newsV, List.range_succ]
theorem newsV_at {g : Nat → Bool} {k j : Nat} (h : j < k) : (newsV g k)[j]? = some (.int .i64 (news g j : Int)) := by simp [newsV, h]
theorem codeVals_snoc (xs : List (Int × Int)) (x : Int × Int) : codeVals (xs ++ [x]) = codeVals xs ++ [.int .i64 x.1, .int .i64 x.2] := by simp [codeVals]
theorem codeVals_put (xs : List (Int × Int)) : ∀ (i : Nat) (a : Int) (h : i < xs.length), (codeVals xs).set (i * 2 + 1) (.int .i64 a) = codeVals (xs.set i (xs[i].1, a)) := by
  induction xs with
  | nil => intro i a h; simp at h
  | cons x xs ih =>
    intro i a h
    have e : ∀ y ys, codeVals (y :: ys) = .int .i64 y.1 :: .int .i64 y.2 :: codeVals ys := fun y ys => by simp [codeVals]
    cases i with
    | zero => simp [e]
    | succ i =>
      rw [e, show (i + 1) * 2 + 1 = i * 2 + 1 + 1 + 1 by omega]
      simp only [List.set_cons_succ, List.getElem_cons_succ]
      rw [ih i a (by simpa using h), e]
/-- A cell of a row of instructions. -/
theorem own_ins {w : World} {base c : Nat} {a : Option Addr} {xs : List (Int × Int)} (h : w.ownsRow base 44 2 (.slice a xs.length c) xs.length (codeVals xs)) {i : Nat} (hi : i < xs.length) :
    ∃ g, a = some ⟨g, 0, none⟩ ∧ base ≤ g ∧ w.cell? ⟨g, i * 2, none⟩ = some (.int .i64 xs[i].1) ∧ w.cell? ⟨g, i * 2 + 1, none⟩ = some (.int .i64 xs[i].2) ∧ w.frozen? ⟨g, i * 2 + 1, none⟩ = false ∧
      (∀ v : Int, (w.setCell ⟨g, i * 2 + 1, none⟩ (.int .i64 v)).ownsRow base 44 2 (.slice a xs.length c) xs.length (codeVals (xs.set i (xs[i].1, v)))) ∧ ∀ v, Only g w (w.setCell ⟨g, i * 2 + 1, none⟩ v) := by
  have hv := codeVals_at xs i hi
  obtain ⟨g, hg, hb, -, hc, -⟩ := own_put h (i * 2) (by omega)
  obtain ⟨g', hg', -, hf, hc2, -, hput, honly⟩ := own_put h (i * 2 + 1) (by omega)
  obtain rfl : g = g' := by rw [hg] at hg'; cases hg'; rfl
  exact ⟨g, hg, hb, hc.trans hv.1, hc2.trans hv.2, hf, fun v => by rw [← codeVals_put xs i v hi]; exact hput _, honly⟩

set_option maxRecDepth 100000 in
set_option maxHeartbeats 4000000 in
theorem sOut_any (ca ga : Option Addr) (cc gc : Nat) (code : List (Int × Int)) (g : Nat → Bool) (w : World) (hcode : CodeAt w 0 ca code) (hg : BoolsAt w ga code.length g) (h120 : code.length ≤ 120)
    (hJ : ∀ i, i < code.length → g i = false → Jop (code.getD i (0, 0)).1 → 0 ≤ (code.getD i (0, 0)).2 ∧ (code.getD i (0, 0)).2 < code.length) :
    Calls Tryz.prog 17 #[.slice ca code.length cc, .slice ga code.length gc] w fun e w' => ∃ a' c', e = .returned (.slice a' (takeOut g code).length c') ∧ w'.ownsRow w.heap.size 44 2 (.slice a' (takeOut g code).length c') (takeOut g code).length (codeVals (takeOut g code)) ∧ Below w.heap.size w w' := by
  obtain ⟨i0, hi, hz0, hz1, hz2⟩ := info_parts info3
  obtain ⟨j0, hj, hy0, hy1, hy2⟩ := info_parts info44
  have hE3 : ((w.alloc (.cells #[] 3)).alloc (.cells #[] 44)).ownsRow w.heap.size 3 1 (.slice (some ⟨w.heap.size, 0, none⟩) 0 0) 0 [] := by
    have := World.ownsRow.alloc (World.ownsRow_made (base := w.heap.size) (e := 3) (size := 1) w #[] 0 (Nat.le_refl _) (by unfold maxLen; omega) rfl) (.cells #[] 44)
    simpa using this
  have hE54 : ((w.alloc (.cells #[] 3)).alloc (.cells #[] 44)).ownsRow w.heap.size 44 2 (.slice (some ⟨w.heap.size + 1, 0, none⟩) 0 0) 0 [] := by
    have := World.ownsRow_made (base := w.heap.size) (e := 44) (size := 2) (w.alloc (.cells #[] 3)) #[] 0 (by simp) (by unfold maxLen; omega) rfl
    rw [World.size_alloc] at this
    simpa using this
  have hbE : Below w.heap.size w ((w.alloc (.cells #[] 3)).alloc (.cells #[] 44)) := ((Below.refl _ _).alloc (Nat.le_refl _) _).alloc (by simp) _
  have HJ := hid hJ
  clear hJ
  go_enter Tryz.func17, Tryz.ntmps17
  go_wp2
  go_loopw [5, 6, 7] (fun v5 v6 i wr => ∃ (k : Nat) (a5 a6 : Option Addr) (c5 c6 : Nat), k ≤ code.length ∧ i = .int .i64 k ∧ v5 = .slice a5 k c5 ∧ v6 = .slice a6 (news g k) c6 ∧ wr.ownsRow w.heap.size 3 1 (.slice a5 k c5) k (newsV g k) ∧ wr.ownsRow w.heap.size 44 2 (.slice a6 (news g k) c6) (news g k) (codeVals (keptL g (0, 0) code k)) ∧ Below w.heap.size w wr) (fun _ _ i _ => code.length - (intOf i).toNat)
  case atStart => exact ⟨0, some ⟨w.heap.size, 0, none⟩, some ⟨w.heap.size + 1, 0, none⟩, 0, 0, by omega, rfl, rfl, rfl, hE3, hE54, hbE⟩
  case round =>
    obtain ⟨k, a5, a6, c5, c6, hk, rfl, rfl, rfl, hown5, hown6, hb⟩ := hrel
    clear hE3 hE54 hbE
    have hnl := news_le g k
    by_cases hlt : k < code.length
    · have hszr := hb.size
      have HN : Hid (newsV g (k + 1) = newsV g k ++ [.int .i64 (news g k : Int)]) := newsV_snoc g k
      go_upto_region 7 with (first | (at_builtin; refine wpList_append_lies _ rfl _ _ 62 rfl w.heap.size 3 i0 (.int .i64 0) 1 8 Tryz.underlying62 hi hz0 hz1 hz2 rfl (by decide) _ _ _ rfl (World.ownsRow.alloc hown5 _) ⟨wr.heap.size, 0, none⟩ 1 1 [.int .i64 (news g k : Int)] rfl rfl (cell_one_new _ _ _) (by intro u hu; simp at hu; subst hu; rfl) (by decide) (by unfold maxLen; omega) (by omega) (by simp; omega) _ rfl ?_; intro g1 cap w1 hown1 hgrow1 hat1 hlt1))
      have hk1 := Keeps.grown (ts := [3]) (World.ownsRow.alloc hown5 _) hgrow1 (by simp)
      have hb1 : Below w.heap.size w w1 := (hb.alloc hb.size _).trans (hk1.toBelow (by simp; omega))
      have hown6' : w1.ownsRow w.heap.size 44 2 (.slice a6 (news g k) c6) (news g k) (codeVals (keptL g (0, 0) code k)) := own_keeps (own_keeps (B := 0) (ts := []) hown6 (Keeps.below ((Below.refl _ _).alloc (Nat.le_refl _) _)) (by simp)) hk1 (by simp)
      have hown5' : w1.ownsRow w.heap.size 3 1 (.slice (some ⟨g1, 0, none⟩) (k + 1) cap) (k + 1) (newsV g (k + 1)) := by rw [HN.out]; simpa using hown1
      obtain ⟨bg, og, rfl, hgc⟩ := (hg.mono hb1) k hlt
      obtain ⟨bc, oc, rfl, -, hc1, hc2⟩ := (hcode.mono hb1) k hlt
      have hszr1 := hb1.size
      have hcd := getD_code hlt
      clear hown1 hgrow1 hat1 hlt1 hk1 hown5 hown6 hb HN
      cases hgk : g k with
      | true =>
        rw [hgk] at hgc
        have H1 : Hid (news g (k + 1) = news g k ∧ keptL g (0, 0) code (k + 1) = keptL g (0, 0) code k) := ⟨news_no hgk, keptL_no hgk⟩
        go_wp2_with fail
        go_roundw
        case rel => exact ⟨k + 1, _, a6, _, c6, by omega, by go_num, by go_num, by rw [H1.out.1], hown5', by rw [H1.out.1, H1.out.2]; exact hown6', hb1⟩
        case measure => simp [intOf]; omega
      | false =>
        rw [hgk] at hgc
        have H1 : Hid (news g (k + 1) = news g k + 1 ∧ keptL g (0, 0) code (k + 1) = keptL g (0, 0) code k ++ [code[k]]) := ⟨news_yes hgk, by rw [keptL_yes hgk, hcd]⟩
        have hszr2 := hb1.size
        obtain ⟨x1, hx1⟩ : ∃ x, x = code[k].1 := ⟨_, rfl⟩
        obtain ⟨x2, hx2⟩ : ∃ x, x = code[k].2 := ⟨_, rfl⟩
        have HX : Hid (code[k] = (x1, x2)) := by show _ = _; rw [hx1, hx2]
        rw [← hx1] at hc1
        rw [← hx2] at hc2
        clear hx1 hx2 hcd
        go_wp2_with (first | (at_builtin; refine wpList_append_lies _ rfl _ _ 38 rfl w.heap.size 44 j0 (.agg #[.int .i64 0, .int .i64 0]) 2 16 Tryz.underlying38 hj hy0 hy1 hy2 rfl (by decide) _ _ _ rfl (World.ownsRow.alloc hown6' _) ⟨w1.heap.size, 0, none⟩ 1 1 [.int .i64 x1, .int .i64 x2] rfl rfl (World.news_of_block (cs := #[.int .i64 x1, .int .i64 x2]) (t := 44) (fr := (0, 0)) (heap_alloc_new w1 _)) (by simp [Value.oneCell']) (by decide) (by unfold maxLen; omega) (by omega) (by simp; omega) _ rfl ?_; intro g2 cap2 w2 hown2 hgrow2 hat2 hlt2))
        have hk2 := Keeps.grown (ts := [44]) (World.ownsRow.alloc hown6' _) hgrow2 (by simp)
        have hb2 : Below w.heap.size w w2 := (hb1.alloc hb1.size _).trans (hk2.toBelow (by simp; omega))
        have hown5'' : w2.ownsRow w.heap.size 3 1 (.slice (some ⟨g1, 0, none⟩) (k + 1) cap) (k + 1) (newsV g (k + 1)) := own_keeps (own_keeps (B := 0) (ts := []) hown5' (Keeps.below ((Below.refl _ _).alloc (Nat.le_refl _) _)) (by simp)) hk2 (by simp)
        go_roundw
        case rel => exact ⟨k + 1, _, _, _, _, by omega, by go_num, by go_num, by rw [H1.out.1], hown5'', by rw [H1.out.1, H1.out.2, codeVals_snoc, HX.out]; simpa using hown2, hb2⟩
        case measure => simp [intOf]; omega
    · have hkn : k = code.length := by omega
      subst hkn
      have hkl := keptL_len g ((0, 0) : Int × Int) code code.length
      obtain ⟨L, hL⟩ : ∃ L, L = keptL g (0, 0) code code.length := ⟨_, rfl⟩
      have HL := hid hL
      rw [← hL] at hown6 hkl
      rw [← hkl] at hown6 hnl ⊢
      have HKL := hid hkl
      clear hL hkl hlt
      go_wp2
      go_loopw [8] (fun i wx => ∃ (t : Nat) (ys : List (Int × Int)), t ≤ L.length ∧ i = .int .i64 t ∧ ys.length = L.length ∧ Hid (∀ j, j < L.length → ys[j]? = if j < t then some (fixB g (L.getD j (0, 0))) else some (L.getD j (0, 0))) ∧ wx.ownsRow w.heap.size 44 2 (.slice a6 ys.length c6) ys.length (codeVals ys) ∧ wx.ownsRow w.heap.size 3 1 (.slice a5 code.length c5) code.length (newsV g code.length) ∧ Below w.heap.size w wx) (fun i _ => L.length - (intOf i).toNat)
      case atStart => exact ⟨0, L, by omega, rfl, rfl, fun j hj => by rw [if_neg (by omega), List.getElem?_eq_getElem hj, getD_code hj], hown6, hown5, hb⟩
      case round =>
        obtain ⟨t, ys, ht, rfl, hyl, HY, hownY, hownN, hbx⟩ := hrel
        clear hown5 hown6 hb
        by_cases hlt : t < L.length
        · have hty : t < ys.length := by omega
          have hyt : ys[t] = L.getD t (0, 0) := by
            have := HY.out t hlt
            rw [if_neg (by omega), List.getElem?_eq_getElem hty] at this
            simpa using this
          obtain ⟨i, hi1, hi2, hi3⟩ := news_onto (show t < news g code.length by have := HKL.out; omega)
          have hLt : L.getD t (0, 0) = code.getD i (0, 0) := by
            have := keptL_at (z := ((0, 0) : Int × Int)) (l := code) hi1 hi2
            rw [← HL.out, hi3] at this
            rw [List.getD_eq_getElem?_getD, this]; rfl
          obtain ⟨gy, rfl, hgb, d1, d2, d3, hput, honly⟩ := own_ins hownY hty
          rw [hyt, hLt] at d1 d2
          have hput' := hput
          rw [hyt, hLt] at hput'
          have HYS : Hid (∀ z : Int × Int, z = fixB g (code.getD i (0, 0)) → ∀ j, j < L.length → (ys.set t z)[j]? = if j < t + 1 then some (fixB g (L.getD j (0, 0))) else some (L.getD j (0, 0))) := fun z hz j hj' => by
            by_cases e : j = t
            · subst e
              rw [if_pos (by omega), hLt, ← hz]
              simp [hty]
            · rw [List.getElem?_set_ne (fun x => e x.symm), HY.out j hj']
              by_cases e2 : j < t
              · rw [if_pos e2, if_pos (by omega)]
              · rw [if_neg e2, if_neg (by omega)]
          have HYN : Hid (fixB g (code.getD i (0, 0)) = code.getD i (0, 0) → ys = ys.set t (fixB g (code.getD i (0, 0)))) := fun h => by
            rw [h, ← hLt, ← hyt]
            simp
          have hJi := HJ.out i hi1 hi2
          have hyl2 : ys.length ≤ 120 := by omega
          clear hput hyt hLt HY
          have HOP : Hid (fixB g (code.getD i (0, 0)) = if Jop (code.getD i (0, 0)).1 then ((code.getD i (0, 0)).1, (news g (code.getD i (0, 0)).2.toNat : Int)) else code.getD i (0, 0)) := rfl
          generalize code.getD i (0, 0) = x at d1 d2 hput' hJi HOP HYS HYN
          obtain ⟨op, a⟩ := x
          simp only at d1 d2 hput' hJi HOP HYS HYN
          by_cases hop : Jop op
          · obtain ⟨ha0, ha1⟩ := hJi hop
            obtain ⟨p, rfl⟩ : ∃ p : Nat, a = (p : Int) := ⟨a.toNat, by omega⟩
            have hp : p < code.length := by omega
            have HOP2 : Hid (fixB g (op, (p : Int)) = (op, (news g p : Int))) := by
              show _ = _
              rw [HOP.out, if_pos hop, Int.toNat_natCast]
            obtain ⟨gn, hgn, hgnb, e1⟩ := own_cell hownN p (by omega)
            rw [newsV_at hp] at e1
            have hpn := hput' (news g p)
            have hon := honly (.int .i64 (news g p : Int))
            have hown3 := own_other hownN hon (fun g3 h3 => by
              intro e
              obtain ⟨c1, hc1⟩ := own_blk hownN h3
              obtain ⟨c2, hc2⟩ := own_blk hownY rfl
              cases e
              rw [hc1] at hc2
              cases hc2)
            have hb3 : Below w.heap.size w _ := hbx.setCell (p := ⟨gy, t * 2 + 1, none⟩) hgb (.int .i64 (news g p : Int))
            subst hgn
            have hop' : op = 17 ∨ op = 18 ∨ op = 19 := hop
            clear hput' honly hon hJi HOP hownY hownN ha0 ha1 HYN
            rcases hop' with rfl | rfl | rfl
            all_goals
              go_wp2_with fail
              go_roundw
              case rel => exact ⟨t + 1, ys.set t (_, (news g p : Int)), by omega, by go_num, by simpa using hyl, HYS.out _ HOP2.out.symm, by simpa using hpn, hown3, hb3⟩
              case measure => simp [intOf]; omega
          · have hn1 : (op == 17) = false := beq_eq_false_iff_ne.2 (fun e => hop (.inl e))
            have hn2 : (op == 18) = false := beq_eq_false_iff_ne.2 (fun e => hop (.inr (.inl e)))
            have hn3 : (op == 19) = false := beq_eq_false_iff_ne.2 (fun e => hop (.inr (.inr e)))
            have HOP2 : Hid (fixB g (op, a) = (op, a)) := by
              show _ = _
              rw [HOP.out, if_neg hop]
            have HY3 : Hid (∀ j, j < L.length → ys[j]? = if j < t + 1 then some (fixB g (L.getD j (0, 0))) else some (L.getD j (0, 0))) := fun j hj' => by
              have := HYS.out _ rfl j hj'
              rwa [← HYN.out HOP2.out] at this
            clear hput' honly hJi HOP HYN HYS hop
            go_wp2_with fail
            go_roundw
            case rel => exact ⟨t + 1, ys, by omega, by go_num, hyl, HY3, hownY, hownN, hbx⟩
            case measure => simp [intOf]; omega
        · have hte : t = L.length := by omega
          have hy : ys = takeOut g code := by
            unfold takeOut
            rw [← HL.out]
            apply List.ext_getElem?
            intro j
            by_cases hj' : j < L.length
            · rw [HY.out j hj', if_pos (by omega), List.getElem?_map, List.getElem?_eq_getElem hj', getD_code hj']; rfl
            · rw [List.getElem?_eq_none (by omega), List.getElem?_eq_none (by simp; omega)]
          have hyl3 : L.length = (takeOut g code).length := by rw [← hy, hyl]
          rw [hy] at hownY
          rw [hyl3]
          clear HY hy
          go_wp2
          go_ret
          exact ⟨_, _, rfl, hownY, hbx⟩
end Go.Proofs.YtjdoljaailokmaaGreatDoor
