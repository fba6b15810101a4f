/-
  What impl.troubleAt returns: the trouble at an instruction, heights being known.
-/
import Derived.Test.YtmmcockkbhnopaaGreatOV18
namespace Go.Proofs.YtmmcockkbhnopaaGreat
open Go.RowKit

section
variable {fs : List Fn} {code : List (Int × Int)} {d : List Int} {pc : Nat} {z t l : Int}

theorem trouble_none (hk : pc < code.length) (hz : d.getD pc (-1) = z) (h : z < 0) : troubleB fs code d pc = 0 := by
  unfold troubleB
  simp only [getD_code hk, hz]
  rw [if_pos h]
theorem trouble_stack (hk : pc < code.length) (hz : d.getD pc (-1) = z) (ht : (usesB fs code[pc].1 code[pc].2).1 = t) (hl : (usesB fs code[pc].1 code[pc].2).2 = l) (h : ¬ z < 0) (hc : z < t ∨ 16 < z - t + l) : troubleB fs code d pc = 2 := by
  unfold troubleB
  simp only [getD_code hk, hz, ht, hl]
  rw [if_neg h, if_pos hc]
theorem trouble_end (hk : pc < code.length) (hz : d.getD pc (-1) = z) (ht : (usesB fs code[pc].1 code[pc].2).1 = t) (hl : (usesB fs code[pc].1 code[pc].2).2 = l) (h : ¬ z < 0) (hc : ¬ (z < t ∨ 16 < z - t + l))
    (hn : (nextB code[pc].1 code[pc].2 pc).any (fun nx => decide ((code.length : Int) ≤ nx)) = true) : troubleB fs code d pc = 3 := by
  unfold troubleB
  simp only [getD_code hk, hz, ht, hl]
  rw [if_neg h, if_neg hc, if_pos hn]
theorem trouble_join (hk : pc < code.length) (hz : d.getD pc (-1) = z) (ht : (usesB fs code[pc].1 code[pc].2).1 = t) (hl : (usesB fs code[pc].1 code[pc].2).2 = l) (h : ¬ z < 0) (hc : ¬ (z < t ∨ 16 < z - t + l))
    (hn : (nextB code[pc].1 code[pc].2 pc).any (fun nx => decide ((code.length : Int) ≤ nx)) = false) (hj : (nextB code[pc].1 code[pc].2 pc).any (fun nx => decide (d.getD nx.toNat (-1) ≠ z - t + l)) = true) : troubleB fs code d pc = 4 := by
  unfold troubleB
  simp only [getD_code hk, hz, ht, hl]
  rw [if_neg h, if_neg hc, if_neg (by rw [hn]; simp), if_pos hj]
theorem trouble_fine (hk : pc < code.length) (hz : d.getD pc (-1) = z) (ht : (usesB fs code[pc].1 code[pc].2).1 = t) (hl : (usesB fs code[pc].1 code[pc].2).2 = l) (h : ¬ z < 0) (hc : ¬ (z < t ∨ 16 < z - t + l))
    (hn : (nextB code[pc].1 code[pc].2 pc).any (fun nx => decide ((code.length : Int) ≤ nx)) = false) (hj : (nextB code[pc].1 code[pc].2 pc).any (fun nx => decide (d.getD nx.toNat (-1) ≠ z - t + l)) = false) : troubleB fs code d pc = 0 := by
  unfold troubleB
  simp only [getD_code hk, hz, ht, hl]
  rw [if_neg h, if_neg hc, if_neg (by rw [hn]; simp), if_neg (by rw [hj]; simp)]
end

theorem any_take_no {α : Type} {p : α → Bool} {l : List α} {k : Nat} (hk : k < l.length) (h : (l.take k).any p = false) (hx : p l[k] = false) : (l.take (k + 1)).any p = false := by
  rw [List.take_succ_eq_append_getElem hk, List.any_append, h]
  simp [hx]
theorem any_yes {α : Type} {p : α → Bool} {l : List α} {k : Nat} (hk : k < l.length) (hx : p l[k] = true) : l.any p = true := by
  rw [List.any_eq_true]
  exact ⟨l[k], List.getElem_mem hk, hx⟩
theorem any_end {α : Type} {p : α → Bool} {l : List α} {k : Nat} (hk : l.length ≤ k) (h : (l.take k).any p = false) : l.any p = false := by
  rwa [List.take_of_length_le hk] at h

/-- The last one is behind the code just where one of them is it. -/
theorem any_ends {n : Int} {l : List Int} (h : ∀ x ∈ l, x ≤ n) : l.any (fun x => decide (x = n)) = l.any (fun x => decide (n ≤ x)) := by
  rw [Bool.eq_iff_iff, List.any_eq_true, List.any_eq_true]
  constructor
  · rintro ⟨x, hx, he⟩
    exact ⟨x, hx, by simp at he ⊢; omega⟩
  · rintro ⟨x, hx, he⟩
    have := h x hx
    exact ⟨x, hx, by simp at he ⊢; omega⟩

set_option maxRecDepth 100000 in
set_option maxHeartbeats 2000000 in
theorem trouble_any (a1 a2 ca : Option Addr) (nt c1 c2 cc : Nat) (fs : List Fn) (code : List (Int × Int)) (d : List Int) (g cap pc : Nat) (w : World) (hm : FnsAt w 0 a2 fs) (d4 : CodeAt w 0 ca code) (F : Fine fs code) (P : Hts code.length d) (hH : Ht w g cap d) (hlt : pc < code.length) :
    Calls Tryz.prog 100 #[.agg #[.slice a1 nt c1, .slice a2 fs.length c2], .slice ca code.length cc, .slice (some ⟨g, 0, none⟩) code.length cap, .int .i64 pc] w fun e w' => e = .returned (.int .i64 (troubleB fs code d pc)) ∧ Below w.heap.size w w' := by
  have hmost := F.most
  have hbA : Below w.heap.size w (w.alloc (.cells #[.slice a1 nt c1, .slice a2 fs.length c2] 40)) := (Below.refl _ _).alloc (Nat.le_refl _) _
  have hM0 := block_new w #[.slice a1 nt c1, .slice a2 fs.length c2] 40
  have hlen : pc < d.length := by rw [P.len]; exact hlt
  have HZ : Hid (d.getD pc (-1) = d[pc]) := P.get hlt
  have z0 := P.low pc hlen
  have z1 := P.high pc hlen
  have hcl := cell_later hbA (hH.cell hlen)
  have hH0 := hH.mono hbA
  obtain ⟨cb, co, rfl, -, e1, e2⟩ := d4 pc hlt
  have e1' := cell_later hbA e1
  have e2' := cell_later hbA e2
  have y1 := block_cell hM0
  obtain ⟨u0, u1, u2, u3⟩ := usesB_ok F.params code[pc].1 code[pc].2
  clear e1 e2
  by_cases hneg : d[pc] < 0
  · have hb : (d[pc] == -1) = true := by rw [beq_iff_eq]; omega
    have HT : Hid (troubleB fs code d pc = 0) := trouble_none hlt HZ.out hneg
    clear hneg
    go_enter Tryz.func100, Tryz.ntmps100
    go_wp2
    go_ret
    exact ⟨ret_int HT.out.symm, hbA⟩
  have hb : (d[pc] == -1) = false := by rw [beq_eq_false_iff_ne]; omega
  have HNN : Hid (¬ d[pc] < 0) := hneg
  obtain ⟨wx, hwx⟩ : ∃ wx, wx = w.alloc (.cells #[.slice a1 nt c1, .slice a2 fs.length c2] 40) := ⟨_, rfl⟩
  have HWX : Hid (wx = w.alloc (.cells #[.slice a1 nt c1, .slice a2 fs.length c2] 40)) := hwx
  by_cases hfit : d[pc] < (usesB fs code[pc].1 code[pc].2).1 ∨ 16 < d[pc] - (usesB fs code[pc].1 code[pc].2).1 + (usesB fs code[pc].1 code[pc].2).2
  · have HT : Hid (troubleB fs code d pc = 2) := trouble_stack hlt HZ.out rfl rfl hneg hfit
    have HF : Hid (d[pc] < (usesB fs code[pc].1 code[pc].2).1 ∨ 16 < d[pc] - (usesB fs code[pc].1 code[pc].2).1 + (usesB fs code[pc].1 code[pc].2).2) := hfit
    clear hfit hneg hwx
    go_enter Tryz.func100, Tryz.ntmps100
    go_wp2
    rw [← HWX.out] at hbA hM0 hcl hH0 e1' e2' y1 ⊢
    go_region_held3 (fun w' => w'.cell? ⟨w.heap.size, 0, none⟩ = some (.slice a1 nt c1) ∧ w'.cell? ⟨w.heap.size, 1, none⟩ = some (.slice a2 fs.length c2) ∧ w'.cell? ⟨cb, co + pc * 2, none⟩ = some (.int .i64 code[pc].1) ∧ w'.cell? ⟨cb, co + pc * 2 + 1, none⟩ = some (.int .i64 code[pc].2) ∧ w'.cell? ⟨g, pc, none⟩ = some (.int .i64 d[pc]))
      (first | exact ⟨(y1 0).trans rfl, (y1 1).trans rfl, e1', e2', hcl⟩ | exact ⟨by rw [block_cell (block_kept hM0 k6)]; rfl, by rw [block_cell (block_kept hM0 k6)]; rfl, cell_later k6 e1', cell_later k6 e2', cell_later k6 hcl⟩)
      (first | (go_at_call 125; refine (iLeft_any _ _ _ _ _ fs code[pc].1 code[pc].2 d[pc] _ (by exact hm.mono hbA.drew) F.params (by exact z0) (by exact z1)).mono ?_; rintro e w4 ⟨hL, k6d⟩; have k6 := below_undraw k6d; obtain ⟨qq, rfl⟩ := hL.no HF.out))
    go_wp2
    go_ret
    exact ⟨ret_int HT.out.symm, hbA.trans (k6.mono hbA.size)⟩
  obtain ⟨left, hleft⟩ : ∃ left, left = d[pc] - (usesB fs code[pc].1 code[pc].2).1 + (usesB fs code[pc].1 code[pc].2).2 := ⟨_, rfl⟩
  have HL : Hid (left = d[pc] - (usesB fs code[pc].1 code[pc].2).1 + (usesB fs code[pc].1 code[pc].2).2) := hleft
  have HF : Hid (¬ (d[pc] < (usesB fs code[pc].1 code[pc].2).1 ∨ 16 < d[pc] - (usesB fs code[pc].1 code[pc].2).1 + (usesB fs code[pc].1 code[pc].2).2)) := hfit
  have hnx := next_in F hlt
  clear hfit hneg hwx hleft
  go_enter Tryz.func100, Tryz.ntmps100
  go_wp2
  rw [← HWX.out] at hbA hM0 hcl hH0 e1' e2' y1 ⊢
  go_region_held3 (fun w' => w'.cell? ⟨w.heap.size, 0, none⟩ = some (.slice a1 nt c1) ∧ w'.cell? ⟨w.heap.size, 1, none⟩ = some (.slice a2 fs.length c2) ∧ w'.cell? ⟨cb, co + pc * 2, none⟩ = some (.int .i64 code[pc].1) ∧ w'.cell? ⟨cb, co + pc * 2 + 1, none⟩ = some (.int .i64 code[pc].2) ∧ w'.cell? ⟨g, pc, none⟩ = some (.int .i64 d[pc]))
    (first | exact ⟨(y1 0).trans rfl, (y1 1).trans rfl, e1', e2', hcl⟩ | exact ⟨by rw [block_cell (block_kept hM0 k6)]; rfl, by rw [block_cell (block_kept hM0 k6)]; rfl, cell_later k6 e1', cell_later k6 e2', cell_later k6 hcl⟩)
    (first | (go_at_call 125; refine (iLeft_any _ _ _ _ _ fs code[pc].1 code[pc].2 d[pc] _ (by exact hm.mono hbA.drew) F.params (by exact z0) (by exact z1)).mono ?_; rintro e w4 ⟨hL, k6d⟩; have k6 := below_undraw k6d; obtain rfl := hL.yes HF.out; rw [← HL.out]))
  have hH4 := hH0.mono k6
  have hb4 : Below w.heap.size w w4 := hbA.trans (k6.mono hbA.size)
  have e14 := cell_later k6 e1'
  have e24 := cell_later k6 e2'
  clear hbA hM0 hcl hH0 e1' e2' y1 k6 k6d HWX
  go_wp2_with fail
  refine (iNext_any code[pc].1 code[pc].2 pc _ (by omega)).mono ?_
  rintro e w5 ⟨ad, ncap, rfl, hI, k7⟩
  have hH5 := hH4.mono k7
  have hb5 : Below w.heap.size w w5 := hb4.trans (k7.mono hb4.size)
  obtain ⟨nx, hnxe⟩ : ∃ nx, nx = nextB code[pc].1 code[pc].2 pc := ⟨_, rfl⟩
  have HX : Hid (nx = nextB code[pc].1 code[pc].2 pc) := hnxe
  rw [← hnxe] at hI hnx ⊢
  have hnl : nx.length ≤ 2 := by rw [hnxe]; exact next_len _ _ _
  have HE : Hid (nx.any (fun x => decide (x = (code.length : Int))) = nx.any (fun x => decide ((code.length : Int) ≤ x))) := any_ends fun x hx => (hnx x hx).2
  clear hH4 hb4 k7 e14 e24 hnxe
  go_wp2_with fail
  refine (contains_any ad nx ncap (code.length : Int) _ (by omega) (hI.low (Nat.zero_le _))).mono ?_
  rintro e w6 ⟨rfl, hw6⟩
  rw [hw6]
  clear hw6 w6
  by_cases hend : nx.any (fun x => decide (x = (code.length : Int))) = true
  · have HT : Hid (troubleB fs code d pc = 3) := by
      refine trouble_end hlt HZ.out rfl rfl (by have := HNN.out; omega) (by have := HF.out; omega) ?_
      rw [← HX.out, ← HE.out]; exact hend
    go_wp2
    go_ret
    exact ⟨ret_int HT.out.symm, hb5⟩
  have hend' : nx.any (fun x => decide (x = (code.length : Int))) = false := by rw [Bool.eq_false_iff]; exact hend
  have HN : Hid (nx.any (fun x => decide ((code.length : Int) ≤ x)) = false) := by show _ = _; rw [← HE.out]; exact hend'
  clear hend
  go_wp2
  clear hend'
  go_loop [46] (fun i => ∃ (q : Nat), q ≤ nx.length ∧ i = .int .i64 q ∧ Hid ((nx.take q).any (fun x => decide (d.getD x.toNat (-1) ≠ left)) = false)) (fun i => nx.length - (intOf i).toNat)
  case atStart => exact ⟨0, by omega, rfl, by show _ = _; simp⟩
  case round =>
    obtain ⟨q, hq, rfl, hno⟩ := hrel
    by_cases hlq : q < nx.length
    · obtain ⟨v0, v1⟩ := hnx nx[q] (List.getElem_mem hlq)
      obtain ⟨nb, no, rfl, hnb, m1⟩ := hI q hlq
      obtain ⟨nk, hnk⟩ : ∃ nk : Nat, nx[q] = (nk : Int) := ⟨nx[q].toNat, by omega⟩
      have hin : nk < code.length := by
        rcases Nat.lt_or_ge nk code.length with h | h
        · exact h
        · have := any_yes (p := fun x => decide ((code.length : Int) ≤ x)) hlq (by simp; omega)
          rw [HN.out] at this
          cases this
      rw [hnk] at m1
      have hkl : nk < d.length := by rw [P.len]; exact hin
      have m2 := hH5.cell hkl
      have hget : d.getD nx[q].toNat (-1) = d[nk] := by rw [hnk, Int.toNat_natCast]; exact P.get hin
      by_cases he : d[nk] = left
      · have HQ : Hid ((nx.take (q + 1)).any (fun x => decide (d.getD x.toNat (-1) ≠ left)) = false) := any_take_no hlq hno.out (by simp only [hget, he]; simp)
        have b1 : (d[nk] != left) = false := by simp [he]
        clear hno hget hnk he
        go_wp2
        go_round
        case rel => exact ⟨q + 1, by omega, by go_num, HQ⟩
        case measure => simp [intOf]; omega
      · have HT : Hid (troubleB fs code d pc = 4) := by
          refine trouble_join hlt HZ.out rfl rfl (by have := HNN.out; omega) (by have := HF.out; omega) (by rw [← HX.out]; exact HN.out) ?_
          rw [← HX.out, ← HL.out]
          exact any_yes (p := fun x => decide (d.getD x.toNat (-1) ≠ left)) hlq (by simp only [hget]; simpa using he)
        have b1 : (d[nk] != left) = true := by simpa using he
        clear hno hget hnk he
        go_wp2
        go_ret
        exact ⟨ret_int HT.out.symm, hb5⟩
    · have HT : Hid (troubleB fs code d pc = 0) := by
        refine trouble_fine hlt HZ.out rfl rfl (by have := HNN.out; omega) (by have := HF.out; omega) (by rw [← HX.out]; exact HN.out) ?_
        rw [← HX.out, ← HL.out]
        exact any_end (by omega) hno.out
      clear hno
      go_wp2
      go_ret
      exact ⟨ret_int HT.out.symm, hb5⟩
end Go.Proofs.YtmmcockkbhnopaaGreat
