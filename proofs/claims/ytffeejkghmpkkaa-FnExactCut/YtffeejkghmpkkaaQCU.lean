/-
  impl.cutUnreached: what nobody comes to is taken out.
-/
import Derived.Test.YtffeejkghmpkkaaQCK
import Derived.Test.YtffeejkghmpkkaaQV9
namespace Go.Proofs.Ytffeejkghmpkkaa
open Go.RowKit

set_option maxRecDepth 100000 in
set_option maxHeartbeats 8000000 in
theorem cutU_any (a1 a2 : Option Addr) (nt c1 c2 b off cc : Nat) (fs : List Fn) (code : List (Int × Int)) (d : List Int) (w : World) (hm : FnsAt w 0 a2 fs) (hcode : CodeAt w 0 (some ⟨b, off, none⟩) code) (F : Fine fs code) (L : Lab fs code d) (hcc : code.length ≤ cc) :
    Calls Try.prog 23 #[.agg #[.slice a1 nt c1, .slice a2 fs.length c2], .slice (some ⟨b, off, none⟩) code.length cc] w fun e w' => ∃ G, e = .returned (.tuple #[.slice (some ⟨G, 0, none⟩) (takeOut (goneD d) code).length (takeOut (goneD d) code).length, .bool (decide (0 < (goneL (goneD d) code.length).length))]) ∧ w'.ownsRow w.heap.size 54 2 (.slice (some ⟨G, 0, none⟩) (takeOut (goneD d) code).length (takeOut (goneD d) code).length) (takeOut (goneD d) code).length (codeVals (takeOut (goneD d) code)) ∧ Below w.heap.size w w' := by
  obtain ⟨i0, hi, hz0, hz1, hz2⟩ := info_parts info3
  have hone := F.one
  have hmost := F.most
  have hdl := L.len
  have hlow := L.low
  have hbA : Below w.heap.size w (w.alloc (.cells #[.slice a1 nt c1, .slice a2 fs.length c2] 29)) := (Below.refl _ _).alloc (Nat.le_refl _) _
  have hM := block_new w #[.slice a1 nt c1, .slice a2 fs.length c2] 29
  have g0 : goneD d 0 = false := by unfold goneD; rw [L.zero]; rfl
  have m0 := block_cell hM
  go_enter Try.func23, Try.ntmps23
  go_wp2_with fail
  refine (iHeights_any a1 a2 (some ⟨b, off, none⟩) nt c1 c2 cc fs code _ (hm.mono hbA) (hcode.mono hbA) F).mono ?_
  rintro e w1 ⟨gh, d', rfl, -, hD, hH, hb1⟩
  obtain rfl := L.done F hD
  have hb : Below w.heap.size w w1 := hbA.trans (hb1.mono hbA.size)
  have hrow0 : w1.ownsRow w1.heap.size 3 1 (.slice none 0 0) 0 [] := World.ownsRow_nil _ _ _ _
  have HC := hid hcode
  have HF := hid F
  obtain ⟨n, hn⟩ : ∃ n, n = code.length := ⟨_, rfl⟩
  rw [← hn] at hdl hone hmost hcc ⊢
  have HN := hid hn
  clear hm hcode L F hD hb1 hM m0 hbA hn
  go_wp2
  go_loopw [6, 13] (fun o i wr => ∃ (t : Nat) (ga : Option Addr) (gc : Nat), t ≤ n ∧ i = .int .i64 t ∧ o = .slice ga (goneL (goneD d') t).length gc ∧ wr.ownsRow w1.heap.size 3 1 (.slice ga (goneL (goneD d') t).length gc) (goneL (goneD d') t).length ((goneL (goneD d') t).map (Value.int .i64)) ∧ Below w1.heap.size w1 wr) (fun _ i _ => n - (intOf i).toNat)
  case atStart => exact ⟨0, none, 0, by omega, rfl, rfl, hrow0, Below.refl _ _⟩
  case round =>
    obtain ⟨t, ga, gc, ht, rfl, rfl, hown, hbx⟩ := hrel
    clear hrow0
    have hgl := goneL_len (goneD d') t
    by_cases hlt : t < n
    · have hcd := (hH.mono hbx).cell (j := t) (by omega)
      have hszx := hbx.size
      have hszw := hb.size
      have hget : d'.getD t (-1) = d'[t] := by rw [List.getD_eq_getElem?_getD, List.getElem?_eq_getElem (by omega)]; rfl
      have hlt2 := hlow t
      cases hg : goneD d' t with
      | true =>
        have hz : d'[t] = -1 := by unfold goneD at hg; rw [hget] at hg hlt2; have := of_decide_eq_true hg; omega
        rw [hz] at hcd
        have H1 : Hid (goneL (goneD d') (t + 1) = goneL (goneD d') t ++ [(t : Int)]) := goneL_yes hg
        obtain ⟨k, hk⟩ : ∃ k, k = (goneL (goneD d') t).length := ⟨_, rfl⟩
        have HK := hid hk
        rw [← hk] at hown hgl ⊢
        clear hk hz hget hlt2
        go_wp2_with (first | (at_builtin; refine wpList_append_lies _ rfl _ _ 38 rfl w1.heap.size 3 i0 (.int .i64 0) 1 8 Try.underlying38 hi hz0 hz1 hz2 rfl (by decide) _ _ _ rfl (World.ownsRow.alloc hown _) ⟨wr.heap.size, 0, none⟩ 1 1 [.int .i64 (t : Int)] rfl rfl (cell_one_new _ _ _) (by intro u hu; simp at hu; subst hu; rfl) (by decide) (by unfold maxLen; omega) (by omega) (by simp; omega) _ rfl ?_; intro g1 cap w2 hown1 hgrow1 hat1 hlt1))
        have hk1 := Keeps.grown (ts := [3]) (World.ownsRow.alloc hown _) hgrow1 (by simp)
        have hb2 : Below w1.heap.size w1 w2 := (hbx.alloc hbx.size _).trans (hk1.toBelow (by simp; omega))
        have HE : Hid ((goneL (goneD d') (t + 1)).length = k + 1) := by show _ = _; rw [H1.out]; simp [HK.out]
        go_roundw
        case rel => exact ⟨t + 1, _, _, by omega, by go_num, by rw [HE.out], by rw [HE.out, H1.out]; simpa using hown1, hb2⟩
        case measure => simp [intOf]; omega
      | false =>
        have hz : (d'[t] == -1) = false := by unfold goneD at hg; rw [hget] at hg; have := of_decide_eq_false hg; exact beq_eq_false_iff_ne.2 (by omega)
        have H1 : Hid (goneL (goneD d') (t + 1) = goneL (goneD d') t) := goneL_no hg
        generalize d'[t] = z at hcd hz hget
        clear hget hlt2
        go_wp2_with fail
        go_roundw
        case rel => exact ⟨t + 1, ga, gc, by omega, by go_num, by rw [H1.out], by rw [H1.out]; exact hown, hbx⟩
        case measure => simp [intOf]; omega
    · have hte : t = n := by omega
      subst hte
      have hbw : Below w.heap.size w wr := hb.trans (hbx.mono hb.size)
      have HIN : Hid (IntsAt wr 0 ga (goneL (goneD d') t)) := (IntsAt.own hown rfl (by simp)).low (Nat.zero_le _)
      have HO : Hid (∀ W, Below wr.heap.size wr W → Calls Try.prog 44 #[.slice (some ⟨b, off, none⟩) t cc, .slice ga (goneL (goneD d') t).length gc] W fun e w' => ∃ G, e = .returned (.slice (some ⟨G, 0, none⟩) (takeOut (goneD d') code).length (takeOut (goneD d') code).length) ∧ w'.ownsRow W.heap.size 54 2 (.slice (some ⟨G, 0, none⟩) (takeOut (goneD d') code).length (takeOut (goneD d') code).length) (takeOut (goneD d') code).length (codeVals (takeOut (goneD d') code)) ∧ Below W.heap.size W w') := fun W hW => by
        have := withoutIns_any b off cc code (goneD d') ga gc W (HC.out.mono (hbw.trans (hW.mono hbw.size))) HF.out.one HF.out.most (by rw [← HN.out]; exact hcc) g0 (by rw [← HN.out]; exact HIN.out.mono hW) (fun i hi1 hi2 hj => by rw [getD_code hi1] at hj ⊢; exact HF.out.jump i hi1 hj)
        rw [← HN.out] at this
        exact this
      clear hown hH
      go_wp2_with fail
      refine (HO.out _ (Below.refl _ _)).mono ?_
      rintro e w3 ⟨G, rfl, hown3, hb3⟩
      have HF3 := hid (And.intro (own_low hown3 hbw.size) (hbw.trans (hb3.mono hbw.size)))
      obtain ⟨LL, hLL⟩ : ∃ LL, LL = (goneL (goneD d') t).length := ⟨_, rfl⟩
      rw [← hLL]
      have HLL := hid hLL
      have hgl2 : LL ≤ t := by omega
      clear hown3 hb3 hbw hLL hgl
      go_wp2
      go_ret2
      refine ⟨G, ?_, HF3.out.1, HF3.out.2⟩
      rw [← HN.out, ← HLL.out]
      rfl
end Go.Proofs.Ytffeejkghmpkkaa
