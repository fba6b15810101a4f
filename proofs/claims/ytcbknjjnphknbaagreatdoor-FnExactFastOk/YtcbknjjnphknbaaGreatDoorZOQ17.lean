/-
  What impl.troubleAt returns: the trouble at an instruction, heights being known.
  What impl.heightsOfAll and impl.Verify return, for every module within the stated sizes.
-/
import Derived.Test.YtcbknjjnphknbaaGreatDoorZOQ11
import Derived.Deep.RegionHeld3
namespace Go.Proofs.YtcbknjjnphknbaaGreatDoor
open Go.RowKit

section
variable {fs : List Fn} {code : List (Int × Int)} {d : List Int} {pc : Nat} {z t l : Int}

theorem trouble_none (hk : pc < code.length) (hz : d.getD pc (-1) = z) (h : z < 0) : troubleB fs code d pc = 0 := by
  unfold troubleB
  simp only [getD_code hk, hz]
  rw [if_pos h]
theorem trouble_stack (hk : pc < code.length) (hz : d.getD pc (-1) = z) (ht : (usesB fs code[pc].1 code[pc].2).1 = t) (hl : (usesB fs code[pc].1 code[pc].2).2 = l) (h : ¬ z < 0) (hc : z < t ∨ 16 < z - t + l) : troubleB fs code d pc = 2 := by
  unfold troubleB
  simp only [getD_code hk, hz, ht, hl]
  rw [if_neg h, if_pos hc]
theorem trouble_end (hk : pc < code.length) (hz : d.getD pc (-1) = z) (ht : (usesB fs code[pc].1 code[pc].2).1 = t) (hl : (usesB fs code[pc].1 code[pc].2).2 = l) (h : ¬ z < 0) (hc : ¬ (z < t ∨ 16 < z - t + l))
    (hn : (nextB code[pc].1 code[pc].2 pc).any (fun nx => decide ((code.length : Int) ≤ nx)) = true) : troubleB fs code d pc = 3 := by
  unfold troubleB
  simp only [getD_code hk, hz, ht, hl]
  rw [if_neg h, if_neg hc, if_pos hn]
theorem trouble_join (hk : pc < code.length) (hz : d.getD pc (-1) = z) (ht : (usesB fs code[pc].1 code[pc].2).1 = t) (hl : (usesB fs code[pc].1 code[pc].2).2 = l) (h : ¬ z < 0) (hc : ¬ (z < t ∨ 16 < z - t + l))
    (hn : (nextB code[pc].1 code[pc].2 pc).any (fun nx => decide ((code.length : Int) ≤ nx)) = false) (hj : (nextB code[pc].1 code[pc].2 pc).any (fun nx => decide (d.getD nx.toNat (-1) ≠ z - t + l)) = true) : troubleB fs code d pc = 4 := by
  unfold troubleB
  simp only [getD_code hk, hz, ht, hl]
  rw [if_neg h, if_neg hc, if_neg (by rw [hn]; simp), if_pos hj]
theorem trouble_fine (hk : pc < code.length) (hz : d.getD pc (-1) = z) (ht : (usesB fs code[pc].1 code[pc].2).1 = t) (hl : (usesB fs code[pc].1 code[pc].2).2 = l) (h : ¬ z < 0) (hc : ¬ (z < t ∨ 16 < z - t + l))
    (hn : (nextB code[pc].1 code[pc].2 pc).any (fun nx => decide ((code.length : Int) ≤ nx)) = false) (hj : (nextB code[pc].1 code[pc].2 pc).any (fun nx => decide (d.getD nx.toNat (-1) ≠ z - t + l)) = false) : troubleB fs code d pc = 0 := by
  unfold troubleB
  simp only [getD_code hk, hz, ht, hl]
  rw [if_neg h, if_neg hc, if_neg (by rw [hn]; simp), if_neg (by rw [hj]; simp)]
end

theorem any_take_no {α : Type} {p : α → Bool} {l : List α} {k : Nat} (hk : k < l.length) (h : (l.take k).any p = false) (hx : p l[k] = false) : (l.take (k + 1)).any p = false := by
  rw [List.take_succ_eq_append_getElem hk, List.any_append, h]
  simp [hx]
theorem any_yes {α : Type} {p : α → Bool} {l : List α} {k : Nat} (hk : k < l.length) (hx : p l[k] = true) : l.any p = true := by
  rw [List.any_eq_true]
  exact ⟨l[k], List.getElem_mem hk, hx⟩
theorem any_end {α : Type} {p : α → Bool} {l : List α} {k : Nat} (hk : l.length ≤ k) (h : (l.take k).any p = false) : l.any p = false := by
  rwa [List.take_of_length_le hk] at h

/-- The last one is behind the code just where one of them is it. -/
theorem any_ends {n : Int} {l : List Int} (h : ∀ x ∈ l, x ≤ n) : l.any (fun x => decide (x = n)) = l.any (fun x => decide (n ≤ x)) := by
  rw [Bool.eq_iff_iff, List.any_eq_true, List.any_eq_true]
  constructor
  · rintro ⟨x, hx, he⟩
    exact ⟨x, hx, by simp at he ⊢; omega⟩
  · rintro ⟨x, hx, he⟩
    have := h x hx
    exact ⟨x, hx, by simp at he ⊢; omega⟩

set_option maxRecDepth 100000 in
set_option maxHeartbeats 2000000 in
theorem trouble_any (a1 a2 ca : Option Addr) (nt c1 c2 cc : Nat) (fs : List Fn) (code : List (Int × Int)) (d : List Int) (g cap pc : Nat) (w : World) (hm : FnsAt w 0 a2 fs) (d4 : CodeAt w 0 ca code) (F : Fine fs code) (P : Hts code.length d) (hH : Ht w g cap d) (hlt : pc < code.length) :
    Calls Tryz.prog 44 #[.agg #[.slice a1 nt c1, .slice a2 fs.length c2], .slice ca code.length cc, .slice (some ⟨g, 0, none⟩) code.length cap, .int .i64 pc] w fun e w' => e = .returned (.int .i64 (troubleB fs code d pc)) ∧ Below w.heap.size w w' := by
  have hmost := F.most
  have hbA : Below w.heap.size w (w.alloc (.cells #[.slice a1 nt c1, .slice a2 fs.length c2] 35)) := (Below.refl _ _).alloc (Nat.le_refl _) _
  have hM0 := block_new w #[.slice a1 nt c1, .slice a2 fs.length c2] 35
  have hlen : pc < d.length := by rw [P.len]; exact hlt
  have HZ : Hid (d.getD pc (-1) = d[pc]) := P.get hlt
  have z0 := P.low pc hlen
  have z1 := P.high pc hlen
  have hcl := cell_later hbA (hH.cell hlen)
  have hH0 := hH.mono hbA
  obtain ⟨cb, co, rfl, -, e1, e2⟩ := d4 pc hlt
  have e1' := cell_later hbA e1
  have e2' := cell_later hbA e2
  have y1 := block_cell hM0
  obtain ⟨u0, u1, u2, u3⟩ := usesB_ok F.params code[pc].1 code[pc].2
  clear e1 e2
  by_cases hneg : d[pc] < 0
  · have hb : (d[pc] == -1) = true := by rw [beq_iff_eq]; omega
    have HT : Hid (troubleB fs code d pc = 0) := trouble_none hlt HZ.out hneg
    clear hneg
    go_enter Tryz.func44, Tryz.ntmps44
    go_wp2
    go_ret
    exact ⟨ret_int HT.out.symm, hbA⟩
  have hb : (d[pc] == -1) = false := by rw [beq_eq_false_iff_ne]; omega
  have HNN : Hid (¬ d[pc] < 0) := hneg
  obtain ⟨wx, hwx⟩ : ∃ wx, wx = w.alloc (.cells #[.slice a1 nt c1, .slice a2 fs.length c2] 35) := ⟨_, rfl⟩
  have HWX : Hid (wx = w.alloc (.cells #[.slice a1 nt c1, .slice a2 fs.length c2] 35)) := hwx
  by_cases hfit : d[pc] < (usesB fs code[pc].1 code[pc].2).1 ∨ 16 < d[pc] - (usesB fs code[pc].1 code[pc].2).1 + (usesB fs code[pc].1 code[pc].2).2
  · have HT : Hid (troubleB fs code d pc = 2) := trouble_stack hlt HZ.out rfl rfl hneg hfit
    have HF : Hid (d[pc] < (usesB fs code[pc].1 code[pc].2).1 ∨ 16 < d[pc] - (usesB fs code[pc].1 code[pc].2).1 + (usesB fs code[pc].1 code[pc].2).2) := hfit
    clear hfit hneg hwx
    go_enter Tryz.func44, Tryz.ntmps44
    go_wp2
    rw [← HWX.out] at hbA hM0 hcl hH0 e1' e2' y1 ⊢
    go_region_held3 (fun w' => w'.cell? ⟨w.heap.size, 0, none⟩ = some (.slice a1 nt c1) ∧ w'.cell? ⟨w.heap.size, 1, none⟩ = some (.slice a2 fs.length c2) ∧ w'.cell? ⟨cb, co + pc * 2, none⟩ = some (.int .i64 code[pc].1) ∧ w'.cell? ⟨cb, co + pc * 2 + 1, none⟩ = some (.int .i64 code[pc].2) ∧ w'.cell? ⟨g, pc, none⟩ = some (.int .i64 d[pc]))
      (first | exact ⟨(y1 0).trans rfl, (y1 1).trans rfl, e1', e2', hcl⟩ | exact ⟨by rw [block_cell (block_kept hM0 k6)]; rfl, by rw [block_cell (block_kept hM0 k6)]; rfl, cell_later k6 e1', cell_later k6 e2', cell_later k6 hcl⟩)
      (first | (go_at_call 87; refine (iLeft_any _ _ _ _ _ fs code[pc].1 code[pc].2 d[pc] _ (by exact hm.mono hbA.drew) F.params (by exact z0) (by exact z1)).mono ?_; rintro e w4 ⟨hL, k6d⟩; have k6 := below_undraw k6d; obtain ⟨qq, rfl⟩ := hL.no HF.out))
    go_wp2
    go_ret
    exact ⟨ret_int HT.out.symm, hbA.trans (k6.mono hbA.size)⟩
  obtain ⟨left, hleft⟩ : ∃ left, left = d[pc] - (usesB fs code[pc].1 code[pc].2).1 + (usesB fs code[pc].1 code[pc].2).2 := ⟨_, rfl⟩
  have HL : Hid (left = d[pc] - (usesB fs code[pc].1 code[pc].2).1 + (usesB fs code[pc].1 code[pc].2).2) := hleft
  have HF : Hid (¬ (d[pc] < (usesB fs code[pc].1 code[pc].2).1 ∨ 16 < d[pc] - (usesB fs code[pc].1 code[pc].2).1 + (usesB fs code[pc].1 code[pc].2).2)) := hfit
  have hnx := next_in F hlt
  clear hfit hneg hwx hleft
  go_enter Tryz.func44, Tryz.ntmps44
  go_wp2
  rw [← HWX.out] at hbA hM0 hcl hH0 e1' e2' y1 ⊢
  go_region_held3 (fun w' => w'.cell? ⟨w.heap.size, 0, none⟩ = some (.slice a1 nt c1) ∧ w'.cell? ⟨w.heap.size, 1, none⟩ = some (.slice a2 fs.length c2) ∧ w'.cell? ⟨cb, co + pc * 2, none⟩ = some (.int .i64 code[pc].1) ∧ w'.cell? ⟨cb, co + pc * 2 + 1, none⟩ = some (.int .i64 code[pc].2) ∧ w'.cell? ⟨g, pc, none⟩ = some (.int .i64 d[pc]))
    (first | exact ⟨(y1 0).trans rfl, (y1 1).trans rfl, e1', e2', hcl⟩ | exact ⟨by rw [block_cell (block_kept hM0 k6)]; rfl, by rw [block_cell (block_kept hM0 k6)]; rfl, cell_later k6 e1', cell_later k6 e2', cell_later k6 hcl⟩)
    (first | (go_at_call 87; refine (iLeft_any _ _ _ _ _ fs code[pc].1 code[pc].2 d[pc] _ (by exact hm.mono hbA.drew) F.params (by exact z0) (by exact z1)).mono ?_; rintro e w4 ⟨hL, k6d⟩; have k6 := below_undraw k6d; obtain rfl := hL.yes HF.out; rw [← HL.out]))
  have hH4 := hH0.mono k6
  have hb4 : Below w.heap.size w w4 := hbA.trans (k6.mono hbA.size)
  have e14 := cell_later k6 e1'
  have e24 := cell_later k6 e2'
  clear hbA hM0 hcl hH0 e1' e2' y1 k6 k6d HWX
  go_wp2_with fail
  refine (iNext_any code[pc].1 code[pc].2 pc _ (by omega)).mono ?_
  rintro e w5 ⟨ad, ncap, rfl, hI, k7⟩
  have hH5 := hH4.mono k7
  have hb5 : Below w.heap.size w w5 := hb4.trans (k7.mono hb4.size)
  obtain ⟨nx, hnxe⟩ : ∃ nx, nx = nextB code[pc].1 code[pc].2 pc := ⟨_, rfl⟩
  have HX : Hid (nx = nextB code[pc].1 code[pc].2 pc) := hnxe
  rw [← hnxe] at hI hnx ⊢
  have hnl : nx.length ≤ 2 := by rw [hnxe]; exact next_len _ _ _
  have HE : Hid (nx.any (fun x => decide (x = (code.length : Int))) = nx.any (fun x => decide ((code.length : Int) ≤ x))) := any_ends fun x hx => (hnx x hx).2
  clear hH4 hb4 k7 e14 e24 hnxe
  go_wp2_with fail
  refine (contains_any ad nx ncap (code.length : Int) _ (by omega) (hI.low (Nat.zero_le _))).mono ?_
  rintro e w6 ⟨rfl, hw6⟩
  rw [hw6]
  clear hw6 w6
  by_cases hend : nx.any (fun x => decide (x = (code.length : Int))) = true
  · have HT : Hid (troubleB fs code d pc = 3) := by
      refine trouble_end hlt HZ.out rfl rfl (by have := HNN.out; omega) (by have := HF.out; omega) ?_
      rw [← HX.out, ← HE.out]; exact hend
    go_wp2
    go_ret
    exact ⟨ret_int HT.out.symm, hb5⟩
  have hend' : nx.any (fun x => decide (x = (code.length : Int))) = false := by rw [Bool.eq_false_iff]; exact hend
  have HN : Hid (nx.any (fun x => decide ((code.length : Int) ≤ x)) = false) := by show _ = _; rw [← HE.out]; exact hend'
  clear hend
  go_wp2
  clear hend'
  go_loop [46] (fun i => ∃ (q : Nat), q ≤ nx.length ∧ i = .int .i64 q ∧ Hid ((nx.take q).any (fun x => decide (d.getD x.toNat (-1) ≠ left)) = false)) (fun i => nx.length - (intOf i).toNat)
  case atStart => exact ⟨0, by omega, rfl, by show _ = _; simp⟩
  case round =>
    obtain ⟨q, hq, rfl, hno⟩ := hrel
    by_cases hlq : q < nx.length
    · obtain ⟨v0, v1⟩ := hnx nx[q] (List.getElem_mem hlq)
      obtain ⟨nb, no, rfl, hnb, m1⟩ := hI q hlq
      obtain ⟨nk, hnk⟩ : ∃ nk : Nat, nx[q] = (nk : Int) := ⟨nx[q].toNat, by omega⟩
      have hin : nk < code.length := by
        rcases Nat.lt_or_ge nk code.length with h | h
        · exact h
        · have := any_yes (p := fun x => decide ((code.length : Int) ≤ x)) hlq (by simp; omega)
          rw [HN.out] at this
          cases this
      rw [hnk] at m1
      have hkl : nk < d.length := by rw [P.len]; exact hin
      have m2 := hH5.cell hkl
      have hget : d.getD nx[q].toNat (-1) = d[nk] := by rw [hnk, Int.toNat_natCast]; exact P.get hin
      by_cases he : d[nk] = left
      · have HQ : Hid ((nx.take (q + 1)).any (fun x => decide (d.getD x.toNat (-1) ≠ left)) = false) := any_take_no hlq hno.out (by simp only [hget, he]; simp)
        have b1 : (d[nk] != left) = false := by simp [he]
        clear hno hget hnk he
        go_wp2
        go_round
        case rel => exact ⟨q + 1, by omega, by go_num, HQ⟩
        case measure => simp [intOf]; omega
      · have HT : Hid (troubleB fs code d pc = 4) := by
          refine trouble_join hlt HZ.out rfl rfl (by have := HNN.out; omega) (by have := HF.out; omega) (by rw [← HX.out]; exact HN.out) ?_
          rw [← HX.out, ← HL.out]
          exact any_yes (p := fun x => decide (d.getD x.toNat (-1) ≠ left)) hlq (by simp only [hget]; simpa using he)
        have b1 : (d[nk] != left) = true := by simpa using he
        clear hno hget hnk he
        go_wp2
        go_ret
        exact ⟨ret_int HT.out.symm, hb5⟩
    · have HT : Hid (troubleB fs code d pc = 0) := by
        refine trouble_fine hlt HZ.out rfl rfl (by have := HNN.out; omega) (by have := HF.out; omega) (by rw [← HX.out]; exact HN.out) ?_
        rw [← HX.out, ← HL.out]
        exact any_end (by omega) hno.out
      clear hno
      go_wp2
      go_ret
      exact ⟨ret_int HT.out.symm, hb5⟩
end Go.Proofs.YtcbknjjnphknbaaGreatDoor

namespace Go.Proofs.YtcbknjjnphknbaaGreatDoor
open Go.RowKit

theorem info87 : (Tryz.prog.info? 87).map (fun i => (i.zero, i.size, i.bytes)) = some (some (.slice none 0 0), 1, 24) := by kernel_rfl

/-- What heightsOfAll is to answer. -/
def APost (ts : List ByteArray) (fs : List Fn) (base : Nat) (w' : World) (e : Ending) : Prop := ∃ v c f a, (∃ x n k, v = .slice x n k) ∧ e = .returned (.tuple #[v, .agg #[.int .i64 c, .int .i64 f, .int .i64 a]]) ∧ VPost ts fs c f a ∧ (c = 0 → ∃ G, v = .slice (some ⟨G, 0, none⟩) fs.length fs.length ∧ Hs w' base G fs.length fs)

set_option maxRecDepth 100000 in
set_option maxHeartbeats 4000000 in
theorem iAll_any (a1 a2 : Option Addr) (c1 c2 : Nat) (ts : List ByteArray) (fs : List Fn) (w : World) (hs : Small ts fs) (hm : StrsAt w 0 a1 ts) (hm2 : FnsAt w 0 a2 fs) :
    Calls Tryz.prog 22 #[.agg #[.slice a1 ts.length c1, .slice a2 fs.length c2]] w fun e w' => APost ts fs w.heap.size w' e ∧ Below w.heap.size w w' := by
  obtain ⟨i0, hi, hz0, hz1, hz2⟩ := info_parts info87
  have hn := hs.funcs
  have hbA : Below w.heap.size w ((w.alloc (.cells #[.slice a1 ts.length c1, .slice a2 fs.length c2] 35)).alloc (.cells #[.int .i64 0, .int .i64 0, .int .i64 0] 56)) := ((Below.refl _ _).alloc (Nat.le_refl _) _).alloc (by simp) _
  have hM0 := block_old (block_new w #[.slice a1 ts.length c1, .slice a2 fs.length c2] 35) (.cells #[.int .i64 0, .int .i64 0, .int .i64 0] 56)
  have hR0 := block_new (w.alloc (.cells #[.slice a1 ts.length c1, .slice a2 fs.length c2] 35)) #[.int .i64 0, .int .i64 0, .int .i64 0] 56
  rw [World.size_alloc] at hR0
  go_enter Tryz.func22, Tryz.ntmps22
  go_wp2_with fail
  refine (iModuleOk_any _ _ ts fs _ _ _ hs (hm.mono hbA) (hm2.mono hbA)).mono ?_
  rintro e w1 ⟨rfl, hb⟩
  have hM1 := block_kept hM0 hb
  have hR1 := block_kept hR0 hb
  have hb1 : Below w.heap.size w w1 := hbA.trans (hb.mono (by simp; omega))
  have y1 := block_cell hM1
  have r1 := block_cell hR1
  have r2 := block_free hR1
  clear hbA hM0 hR0 hb
  by_cases hok : modB ts fs = true
  · have HO : Hid (modB ts fs = true) := hok
    have FF : ∀ k (hk : k < fs.length), Fine fs fs[k].code := fun k hk => fine_of hok hk
    go_wp2_with (first | (at_make; refine wpList_make_full _ rfl _ _ 54 rfl w1.heap.size 87 i0 (.slice none 0 0) 1 Tryz.underlying54 hi hz0 hz1 _ _ _ _ fs.length rfl rfl rfl rfl (by rw [hz2]; omega) (by unfold maxLen; omega) (Nat.le_refl _) ?_; intro w2 hown hgrow; have hbm : Below w1.heap.size w1 w2 := (Below.refl _ _).grown hgrow (Nat.le_refl _) (by intro k hk; cases hk); have hM2 := block_kept hM1 hbm; have y2 := block_cell hM2))
    have hR2 := block_kept hR1 hbm
    have hb2 := hb1.trans (hbm.mono hb1.size)
    obtain ⟨cur0, hblk, hsz⟩ := made_block hown
    have hH0 : Hs w2 w.heap.size w1.heap.size 0 fs := ⟨hb1.size, cur0, hblk, by omega, fun _ _ h => absurd h (Nat.not_lt_zero _)⟩
    clear hok r1 r2 y1 y2 hown hgrow hi hz0 hz1 hz2 hblk hsz hM1 hR1 hbm
    have HZ1 : Hid (w.heap.size ≤ w1.heap.size) := hb1.size
    go_loopw [20] (fun i wr => ∃ (k : Nat), k ≤ fs.length ∧ i = .int .i64 k ∧ Hid (∀ q (hq : q < fs.length), q < k → Clear fs fs[q].code fs[q].code.length) ∧ Hs wr w.heap.size w1.heap.size k fs ∧ wr.heap[w.heap.size]? = some (.cells #[.slice a1 ts.length c1, .slice a2 fs.length c2] 35 (0, 0)) ∧ wr.heap[w.heap.size + 1]? = some (.cells #[.int .i64 0, .int .i64 0, .int .i64 0] 56 (0, 0)) ∧ Below w.heap.size w wr) (fun i _ => fs.length - (intOf i).toNat)
    case atStart => exact ⟨0, by omega, rfl, fun _ _ h => absurd h (Nat.not_lt_zero _), hH0, hM2, hR2, hb2⟩
    case round =>
      obtain ⟨k, hk, rfl, hcl, hHs, hM, hR, hb⟩ := hrel
      obtain ⟨wo, rfl⟩ : ∃ wo, wo = wr := ⟨_, rfl⟩
      clear hM2 hR2 hb2 hH0 hb1
      by_cases hlt : k < fs.length
      · have F := FF k hlt
        have hmost := F.most
        obtain ⟨b, off, ca, cc, rfl, -, d1, d2, d3, d4⟩ := hm2 k hlt
        have d1' := cell_later hb d1
        have d2' := cell_later hb d2
        have d3' := cell_later hb d3
        clear d1 d2 d3
        obtain ⟨wx, hwx⟩ : ∃ wx, wx = wo.alloc (.cells #[.int .i64 fs[k].params, .int .i64 fs[k].locals, .slice ca fs[k].code.length cc] 91) := ⟨_, rfl⟩
        have hkx : Below wo.heap.size wo wx := by rw [hwx]; exact (Below.refl _ _).alloc (Nat.le_refl _) _
        have hXx : wx.heap[wo.heap.size]? = some (.cells #[.int .i64 fs[k].params, .int .i64 fs[k].locals, .slice ca fs[k].code.length cc] 91 (0, 0)) := by rw [hwx]; exact block_new _ _ _
        have hMx := block_kept hM hkx
        have hRx := block_kept hR hkx
        have hHx := hHs.mono hkx
        have hbx : Below w.heap.size w wx := hb.trans (hkx.mono hb.size)
        have HWX : Hid (wx = wo.alloc (.cells #[.int .i64 fs[k].params, .int .i64 fs[k].locals, .slice ca fs[k].code.length cc] 91)) := hwx
        have y0 := block_cell (block_old hM (.cells #[.int .i64 fs[k].params, .int .i64 fs[k].locals, .slice ca fs[k].code.length cc] 91))
        have z0 := block_cell (block_new wo #[.int .i64 fs[k].params, .int .i64 fs[k].locals, .slice ca fs[k].code.length cc] 91)
        clear hwx hkx
        go_wp2_with fail
        rw [← HWX.out]
        refine (iHeights_any _ _ _ _ _ _ _ fs fs[k].code _ (hm2.mono hbx) (d4.mono hbx) F).mono ?_
        rintro e w2 ⟨g, d, rfl, hg, hD, hH, k2⟩
        have P := hD.hts F
        have hM2 := block_kept hMx k2
        have hR2 := block_kept hRx k2
        have hX2 := block_kept hXx k2
        have hHs2 := hHx.mono k2
        have hb2 : Below w.heap.size w w2 := hbx.trans (k2.mono hbx.size)
        have hgw : w.heap.size ≤ g := Nat.le_trans hbx.size hg
        have hGk := hHs2.put hlt hgw hD hH
        obtain ⟨vg, hvg⟩ := hHs2.cell hlt
        have hfz := hHs2.free k
        have hne1 : w.heap.size ≠ w1.heap.size := by
          obtain ⟨-, cur, h1, -⟩ := hHs2
          intro e; rw [← e, hM2] at h1; simp at h1
        have hne2 : w.heap.size + 1 ≠ w1.heap.size := by
          obtain ⟨-, cur, h1, -⟩ := hHs2
          intro e; rw [← e, hR2] at h1; simp at h1
        have hne3 : wo.heap.size ≠ w1.heap.size := by
          obtain ⟨-, cur, h1, -⟩ := hHs2
          intro e; rw [← e, hX2] at h1; simp at h1
        obtain ⟨wy, hwy⟩ : ∃ wy, wy = w2.setCell ⟨w1.heap.size, k, none⟩ (.slice (some ⟨g, 0, none⟩) fs[k].code.length fs[k].code.length) := ⟨_, rfl⟩
        have hM3 : wy.heap[w.heap.size]? = some (.cells #[.slice a1 ts.length c1, .slice (some ⟨b, off, none⟩) fs.length c2] 35 (0, 0)) := by rw [hwy, Below.heap_setCell _ _ _ _ hne1]; exact hM2
        have hR3 : wy.heap[w.heap.size + 1]? = some (.cells #[.int .i64 0, .int .i64 0, .int .i64 0] 56 (0, 0)) := by rw [hwy, Below.heap_setCell _ _ _ _ hne2]; exact hR2
        have hX3 : wy.heap[wo.heap.size]? = some (.cells #[.int .i64 fs[k].params, .int .i64 fs[k].locals, .slice ca fs[k].code.length cc] 91 (0, 0)) := by rw [hwy, Below.heap_setCell _ _ _ _ hne3]; exact hX2
        have hH3 : Ht wy g fs[k].code.length d := by
          obtain ⟨-, cur, h1, -⟩ := hHs2
          rw [hwy]; exact hH.other h1 _
        have hc3 : wy.cell? ⟨w1.heap.size, k, none⟩ = some (.slice (some ⟨g, 0, none⟩) fs[k].code.length fs[k].code.length) := by
          obtain ⟨-, cur, h1, h2, -⟩ := hHs2
          rw [hwy, block_cell (block_set h1 _)]; exact set_self _ (by omega)
        have hb3 : Below w.heap.size w wy := by rw [hwy]; exact hb2.setCell HZ1.out _
        rw [← hwy] at hGk
        have v2 := block_cell hX2
        have v3 := block_cell hX3
        clear hMx hRx hXx hbx k2 d1' d2' d3' hM hR hb y0 z0 hHs hHx hM2 hR2 hH hb2 hHs2 hne1 hne2
        have HN3 : Hid (wo.heap.size ≠ w1.heap.size) := hne3
        clear hX2
        go_wp2_with fail
        try rw [← hwy]
        clear v2 v3 hvg hfz hwy hne3
        go_loopw [35] (fun i ws => ∃ (j : Nat), j ≤ fs[k].code.length ∧ i = .int .i64 j ∧ Hid (∀ q, q < j → troubleB fs fs[k].code d q = 0) ∧ Ht ws g fs[k].code.length d ∧ Hs ws w.heap.size w1.heap.size (k + 1) fs ∧ ws.cell? ⟨w1.heap.size, k, none⟩ = some (.slice (some ⟨g, 0, none⟩) fs[k].code.length fs[k].code.length) ∧ ws.heap[w.heap.size]? = some (.cells #[.slice a1 ts.length c1, .slice (some ⟨b, off, none⟩) fs.length c2] 35 (0, 0)) ∧ ws.heap[w.heap.size + 1]? = some (.cells #[.int .i64 0, .int .i64 0, .int .i64 0] 56 (0, 0)) ∧ ws.heap[wo.heap.size]? = some (.cells #[.int .i64 fs[k].params, .int .i64 fs[k].locals, .slice ca fs[k].code.length cc] 91 (0, 0)) ∧ Below w.heap.size w ws) (fun i _ => fs[k].code.length - (intOf i).toNat)
        case atStart => exact ⟨0, by omega, rfl, fun _ h => absurd h (Nat.not_lt_zero _), hH3, hGk, hc3, hM3, hR3, hX3, hb3⟩
        case round =>
          obtain ⟨j, hj, rfl, hno, hH4, hG4, hc4, hM4, hR4, hX4, hb4⟩ := hrel
          obtain ⟨ws, rfl⟩ : ∃ ws, ws = wr := ⟨_, rfl⟩
          clear hH3 hGk hc3 hM3 hR3 hX3 hb3
          by_cases hlj : j < fs[k].code.length
          · have hS : ∀ w', Below ws.heap.size ws w' → w'.cell? ⟨w.heap.size, 0, none⟩ = some (.slice a1 ts.length c1) ∧ w'.cell? ⟨w.heap.size, 1, none⟩ = some (.slice (some ⟨b, off, none⟩) fs.length c2) ∧ w'.cell? ⟨wo.heap.size, 2, none⟩ = some (.slice ca fs[k].code.length cc) ∧ w'.cell? ⟨w1.heap.size, k, none⟩ = some (.slice (some ⟨g, 0, none⟩) fs[k].code.length fs[k].code.length) := fun w' hb =>
              ⟨by rw [block_cell (block_kept hM4 hb)]; rfl, by rw [block_cell (block_kept hM4 hb)]; rfl, by rw [block_cell (block_kept hX4 hb)]; rfl, cell_later hb hc4⟩
            have HS : Hid (∀ w', Below ws.heap.size ws w' → w'.cell? ⟨w.heap.size, 0, none⟩ = some (.slice a1 ts.length c1) ∧ w'.cell? ⟨w.heap.size, 1, none⟩ = some (.slice (some ⟨b, off, none⟩) fs.length c2) ∧ w'.cell? ⟨wo.heap.size, 2, none⟩ = some (.slice ca fs[k].code.length cc) ∧ w'.cell? ⟨w1.heap.size, k, none⟩ = some (.slice (some ⟨g, 0, none⟩) fs[k].code.length fs[k].code.length)) := hS
            obtain ⟨j0, j1, j2, j3⟩ := hS ws (Below.refl _ _)
            have q : Below ws.heap.size ws ws.drew := (Below.refl _ _).drew
            have HB : Hid (Below w.heap.size w ws) := hb4
            have HM : Hid (ws.heap[w.heap.size]? = some (.cells #[.slice a1 ts.length c1, .slice (some ⟨b, off, none⟩) fs.length c2] 35 (0, 0))) := hM4
            have HR : Hid (ws.heap[w.heap.size + 1]? = some (.cells #[.int .i64 0, .int .i64 0, .int .i64 0] 56 (0, 0))) := hR4
            have HX : Hid (ws.heap[wo.heap.size]? = some (.cells #[.int .i64 fs[k].params, .int .i64 fs[k].locals, .slice ca fs[k].code.length cc] 91 (0, 0))) := hX4
            clear hS hb4 hM4 hR4 hX4 hc4
            go_wp2
            go_region_held3 (fun w' => w'.cell? ⟨w.heap.size, 0, none⟩ = some (.slice a1 ts.length c1) ∧ w'.cell? ⟨w.heap.size, 1, none⟩ = some (.slice (some ⟨b, off, none⟩) fs.length c2) ∧ w'.cell? ⟨wo.heap.size, 2, none⟩ = some (.slice ca fs[k].code.length cc) ∧ w'.cell? ⟨w1.heap.size, k, none⟩ = some (.slice (some ⟨g, 0, none⟩) fs[k].code.length fs[k].code.length))
              (first | exact ⟨j0, j1, j2, j3⟩ | exact HS.out _ q)
              (first
                | (go_at_call 44; refine (trouble_any _ _ _ _ _ _ _ fs fs[k].code d g _ j _ (by exact hm2.mono (HB.out.trans (q.mono HB.out.size))) (by exact d4.mono (HB.out.trans (q.mono HB.out.size))) F P (by exact hH4.mono q) hlj).mono ?_; rintro e w5 ⟨rfl, kd⟩; have q := q.trans (kd.mono q.size)))
            have hM5 := block_kept HM.out q
            have hR5 := block_kept HR.out q
            have hX5 := block_kept HX.out q
            have hH5 := hH4.mono q
            have hG5 := hG4.mono q
            have hb5 : Below w.heap.size w w5 := HB.out.trans (q.mono HB.out.size)
            have hc5 := (HS.out _ q).2.2.2
            clear HM HR HX HB HS j0 j1 j2 j3 hH4 hG4 kd q
            by_cases hz : troubleB fs fs[k].code d j = 0
            · have HZ : Hid (troubleB fs fs[k].code d j = 0) := hz
              go_wp2
              go_roundw
              case rel => exact ⟨j + 1, by omega, by go_num, fun q hq => (by
                by_cases e : q = j
                · subst e; exact HZ.out
                · exact hno.out q (by omega)), hH5, hG5, hc5, hM5, hR5, hX5, hb5⟩
              case measure => simp [intOf]; omega
            · have HZ : Hid (¬ troubleB fs fs[k].code d j = 0) := hz
              have bz : (troubleB fs fs[k].code d j != 0) = true := by simpa using hz
              have r4 := block_cell hR5
              have q4 := block_free hR5
              clear hz
              go_wp2
              have rr := block_cell (three_set (x := (troubleB fs fs[k].code d j)) (y := (k : Int)) (z := (j : Int)) hR5)
              refine bodyPost_ret (v := .tuple #[.slice none 0 0, .agg #[.int .i64 (troubleB fs fs[k].code d j), .int .i64 (k : Int), .int .i64 (j : Int)]]) (by simp [results, Tryz.results22, go_sem, rr]) rfl ⟨⟨_, (troubleB fs fs[k].code d j), (k : Int), (j : Int), ⟨_, _, _, rfl⟩, rfl, .inr ⟨HO.out, .inr ⟨k, hlt, j, d, rfl, rfl, hlj, hD, rfl, HZ.out, clear_of hD hno.out, hcl.out⟩⟩, fun h => absurd h HZ.out⟩, ?_⟩
              exact ((hb5.setCell (by simp) _).setCell (by simp) _).setCell (by simp) _
          · have hjn : j = fs[k].code.length := by omega
            subst hjn
            go_wp2
            go_roundw
            case rel => exact ⟨k + 1, by omega, by go_num, fun q hq hqk => (by
                by_cases e : q = k
                · subst e; exact clear_of hD hno.out
                · exact hcl.out q hq (by omega)), hG4, hM4, hR4, hb4⟩
            case measure => simp [intOf]; omega
      · have hkn : k = fs.length := by omega
        subst hkn
        have r4 := block_cell hR
        have q4 := block_free hR
        go_wp2
        have rr := block_cell (three_set (x := 0) (y := 0) (z := 0) hR)
        have hbz : Below (w.heap.size + 2) wo (((wo.setCell ⟨w.heap.size + 1, 0, none⟩ (.int .i64 0)).setCell ⟨w.heap.size + 1, 1, none⟩ (.int .i64 0)).setCell ⟨w.heap.size + 1, 2, none⟩ (.int .i64 0)) → True := fun _ => trivial
        clear hbz
        refine bodyPost_ret (v := .tuple #[.slice (some ⟨w1.heap.size, 0, none⟩) fs.length fs.length, .agg #[.int .i64 0, .int .i64 0, .int .i64 0]]) (by simp [results, Tryz.results22, go_sem, rr]) rfl ⟨⟨_, 0, 0, 0, ⟨_, _, _, rfl⟩, rfl, .inr ⟨HO.out, .inl ⟨rfl, rfl, rfl, fun q hq => hcl.out q hq (by omega)⟩⟩, fun _ => ⟨_, rfl, ?_⟩⟩, ?_⟩
        · exact hHs.three hR
        · exact ((hb.setCell (by simp) _).setCell (by simp) _).setCell (by simp) _
  · have hok' : modB ts fs = false := by simpa using hok
    have HO : Hid (modB ts fs = false) := hok'
    clear hok
    go_wp2
    have rr := block_cell (three_set (x := 1) (y := 0) (z := 0) hR1)
    refine bodyPost_ret (v := .tuple #[.slice none 0 0, .agg #[.int .i64 1, .int .i64 0, .int .i64 0]]) (by simp [results, Tryz.results22, go_sem, rr]) rfl ⟨⟨_, 1, 0, 0, ⟨_, _, _, rfl⟩, rfl, .inl ⟨HO.out, rfl, rfl, rfl⟩, fun h => absurd h (by decide)⟩, ?_⟩
    exact ((hb1.setCell (by simp) _).setCell (by simp) _).setCell (by simp) _

end Go.Proofs.YtcbknjjnphknbaaGreatDoor
