/-
  What impl takes out of a function's code: withoutIns.
-/
import Derived.Test.YtffeejkghmpkkaaRCJ
namespace Go.Proofs.Ytffeejkghmpkkaa
open Go.RowKit

set_option maxRecDepth 100000 in
set_option maxHeartbeats 8000000 in
theorem withoutIns_any (b off cc : Nat) (code : List (Int × Int)) (g : Nat → Bool) (ga : Option Addr) (gc : Nat) (w : World) (hcode : CodeAt w 0 (some ⟨b, off, none⟩) code) (h1 : 1 ≤ code.length) (h120 : code.length ≤ 120) (hcc : code.length ≤ cc) (g0 : g 0 = false) (hm : IntsAt w 0 ga (goneL g code.length))
    (hJ : ∀ i, i < code.length → g i = false → Jop (code.getD i (0, 0)).1 → 0 ≤ (code.getD i (0, 0)).2 ∧ (code.getD i (0, 0)).2 < code.length) :
    Calls Try.prog 44 #[.slice (some ⟨b, off, none⟩) code.length cc, .slice ga (goneL g code.length).length gc] w fun e w' => ∃ G, e = .returned (.slice (some ⟨G, 0, none⟩) (takeOut g code).length (takeOut g code).length) ∧ w'.ownsRow w.heap.size 54 2 (.slice (some ⟨G, 0, none⟩) (takeOut g code).length (takeOut g code).length) (takeOut g code).length (codeVals (takeOut g code)) ∧ Below w.heap.size w w' := by
  have HJ := hid hJ
  have HM := hid hm
  have hnl := news_le g code.length
  clear hJ
  go_enter Try.func44, Try.ntmps44
  go_wp2_with fail
  refine (without_any b off cc code g ga gc _ hcode h1 h120 hcc g0 hm).mono ?_
  rintro e w1 ⟨G, rfl, hown, hb⟩
  have hkl := keptL_len g ((0, 0) : Int × Int) code code.length
  obtain ⟨L, hL⟩ : ∃ L, L = keptL g (0, 0) code code.length := ⟨_, rfl⟩
  have HL := hid hL
  rw [← hL] at hown hkl
  obtain ⟨N, hN⟩ : ∃ N, N = L.length := ⟨_, rfl⟩
  rw [← hkl, ← hN] at hown hnl ⊢
  have HKL := hid (hN.trans hkl)
  have HNL := hid hN
  have hN120 : N ≤ 120 := by omega
  obtain ⟨T, hT⟩ : ∃ T, T = (goneL g code.length).length := ⟨_, rfl⟩
  rw [← hT]
  have HT := hid hT
  clear hL hkl hN hT hcode hm
  go_wp2
  go_loopw [13] (fun i wx => ∃ (t : Nat) (ys : List (Int × Int)), t ≤ N ∧ i = .int .i64 t ∧ ys.length = N ∧ Hid (∀ j, j < N → ys[j]? = if j < t then some (fixB g (L.getD j (0, 0))) else some (L.getD j (0, 0))) ∧ wx.ownsRow w.heap.size 54 2 (.slice (some ⟨G, 0, none⟩) ys.length N) ys.length (codeVals ys) ∧ Below w.heap.size w wx) (fun i _ => N - (intOf i).toNat)
  case atStart => exact ⟨0, L, by omega, rfl, HNL.out.symm, fun j hj => by rw [if_neg (by omega), List.getElem?_eq_getElem (by rw [← HNL.out]; exact hj), getD_code (by rw [← HNL.out]; exact hj)], by rw [← HNL.out]; exact hown, hb⟩
  case round =>
    obtain ⟨t, ys, ht, rfl, hyl, HY, hownY, hbx⟩ := hrel
    clear hown hb
    by_cases hlt : t < N
    · have hty : t < ys.length := by omega
      have hyt : ys[t] = L.getD t (0, 0) := by
        have := HY.out t hlt
        rw [if_neg (by omega), List.getElem?_eq_getElem hty] at this
        simpa using this
      obtain ⟨i, hi1, hi2, hi3⟩ := news_onto (show t < news g code.length by have := HKL.out; omega)
      have hLt : L.getD t (0, 0) = code.getD i (0, 0) := by
        have := keptL_at (z := ((0, 0) : Int × Int)) (l := code) hi1 hi2
        rw [← HL.out, hi3] at this
        rw [List.getD_eq_getElem?_getD, this]; rfl
      obtain ⟨gy, hgy, hgb, d1, d2, d3, hput, honly⟩ := own_ins hownY hty
      obtain rfl : G = gy := by cases hgy; rfl
      rw [hyt, hLt] at d1 d2
      have hput' := hput
      rw [hyt, hLt] at hput'
      have HYS : Hid (∀ z : Int × Int, z = fixB g (code.getD i (0, 0)) → ∀ j, j < N → (ys.set t z)[j]? = if j < t + 1 then some (fixB g (L.getD j (0, 0))) else some (L.getD j (0, 0))) := fun z hz j hj' => by
        by_cases e : j = t
        · subst e
          rw [if_pos (by omega), hLt, ← hz]
          simp [hty]
        · rw [List.getElem?_set_ne (fun x => e x.symm), HY.out j hj']
          by_cases e2 : j < t
          · rw [if_pos e2, if_pos (by omega)]
          · rw [if_neg e2, if_neg (by omega)]
      have HYN : Hid (fixB g (code.getD i (0, 0)) = code.getD i (0, 0) → ys = ys.set t (fixB g (code.getD i (0, 0)))) := fun h => by
        rw [h, ← hLt, ← hyt]
        simp
      have hJi := HJ.out i hi1 hi2
      have HYT : Hid (ys[t] = code.getD i (0, 0)) := by show _ = _; rw [hyt, hLt]
      clear hput hyt hLt HY hgy honly
      have HOP : Hid (fixB g (code.getD i (0, 0)) = if Jop (code.getD i (0, 0)).1 then ((code.getD i (0, 0)).1, (news g (code.getD i (0, 0)).2.toNat : Int)) else code.getD i (0, 0)) := rfl
      generalize code.getD i (0, 0) = x at d1 d2 hput' hJi HOP HYS HYN HYT
      obtain ⟨op, a⟩ := x
      simp only at d1 d2 hput' hJi HOP HYS HYN
      by_cases hop : Jop op
      · obtain ⟨ha0, ha1⟩ := hJi hop
        obtain ⟨p, rfl⟩ : ∃ p : Nat, a = (p : Int) := ⟨a.toNat, by omega⟩
        have hp : p < code.length := by omega
        have HOP2 : Hid (fixB g (op, (p : Int)) = (op, (news g p : Int))) := by
          show _ = _
          rw [HOP.out, if_pos hop, Int.toNat_natCast]
        have hd : decide (op = 17 ∨ op = 18 ∨ op = 19) = true := decide_eq_true hop
        have HNUM : Hid (∀ W, Below w.heap.size w W → Calls Try.prog 62 #[.int .i64 p, .slice ga T gc] W fun e w' => e = .returned (.int .i64 (news g p : Int)) ∧ Below W.heap.size W w') := fun W hW => by
          have := numWithout_any p code.length g ga gc W (by omega) h120 (HM.out.mono hW)
          rwa [← HT.out] at this
        have hfr := hid d3
        have hoY := hid hownY
        have hpn := hid (hput' (news g p))
        clear hput' hJi HOP HYN ha0 ha1 hop
        go_wp2_with fail
        refine (jumpOp_any op _).mono ?_
        rintro e w2 ⟨rfl, hw2⟩
        subst hw2
        rw [hd]
        go_wp2_with fail
        refine (HNUM.out _ (by repeat (first | exact hbx | apply Below.drew))).mono ?_
        rintro e w3 ⟨rfl, hb3⟩
        have hown3 := own_keeps (B := 0) (ts := []) hoY.out (Keeps.below hb3) (by simp)
        obtain ⟨gy, hgy, hgb3, k1, k2, k3, hput3, -⟩ := own_ins hown3 hty
        obtain rfl : G = gy := by cases hgy; rfl
        rw [HYT.out] at k1 k2 hput3
        have hpn3 := hput3 (news g p)
        have hb4 : Below w.heap.size w _ := (hbx.trans (hb3.mono hbx.size)).setCell (p := ⟨G, t * 2 + 1, none⟩) hgb3 (.int .i64 (news g p : Int))
        clear hput3 hown3 hoY hfr hpn hownY d1 d2 d3 hgy
        go_wp2_with fail
        go_roundw
        case rel => exact ⟨t + 1, ys.set t (op, (news g p : Int)), by omega, by go_num, by simpa using hyl, HYS.out _ HOP2.out.symm, by simpa using hpn3, hb4⟩
        case measure => simp [intOf]; omega
      · have hd : decide (op = 17 ∨ op = 18 ∨ op = 19) = false := decide_eq_false hop
        have HOP2 : Hid (fixB g (op, a) = (op, a)) := by
          show _ = _
          rw [HOP.out, if_neg hop]
        have HY3 : Hid (∀ j, j < N → ys[j]? = if j < t + 1 then some (fixB g (L.getD j (0, 0))) else some (L.getD j (0, 0))) := fun j hj' => by
          have := HYS.out _ rfl j hj'
          rwa [← HYN.out HOP2.out] at this
        clear hput' hJi HOP HYN HYS hop HYT
        go_wp2_with fail
        refine (jumpOp_any op _).mono ?_
        rintro e w2 ⟨rfl, hw2⟩
        subst hw2
        rw [hd]
        go_wp2_with fail
        go_roundw
        case rel => exact ⟨t + 1, ys, by omega, by go_num, hyl, HY3, hownY, hbx⟩
        case measure => simp [intOf]; omega
    · have hte : t = N := by omega
      have hy : ys = takeOut g code := by
        unfold takeOut
        rw [← HL.out]
        apply List.ext_getElem?
        intro j
        by_cases hj' : j < N
        · rw [HY.out j hj', if_pos (by omega), List.getElem?_map, List.getElem?_eq_getElem (by rw [← HNL.out]; exact hj'), getD_code (by rw [← HNL.out]; exact hj')]; rfl
        · rw [List.getElem?_eq_none (by omega), List.getElem?_eq_none (by simp; have := HNL.out; omega)]
      have hyl3 : N = (takeOut g code).length := by rw [← hy, hyl]
      have HO : Hid (wr.ownsRow w.heap.size 54 2 (.slice (some ⟨G, 0, none⟩) (takeOut g code).length (takeOut g code).length) (takeOut g code).length (codeVals (takeOut g code))) := by
        rw [← hyl3]
        rw [hy, ← hyl3] at hownY
        exact hownY
      have HE := hid hyl3
      clear HY hy hyl3 hownY
      go_wp2
      go_ret
      rw [HE.out]
      exact ⟨G, rfl, HO.out, hbx⟩
end Go.Proofs.Ytffeejkghmpkkaa
