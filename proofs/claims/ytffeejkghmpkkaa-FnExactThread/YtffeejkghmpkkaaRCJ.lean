/-
  What impl takes out of a list: without.
-/
import Derived.Test.YtffeejkghmpkkaaRCI
namespace Go.Proofs.Ytffeejkghmpkkaa
open Go.RowKit

theorem size54 : (Try.prog.info? 54).map (·.size) = some 2 := by kernel_rfl

/-- A stretch of a row of instructions that is read. -/
theorem code_part {w : World} {lo b off f i : Nat} {code : List (Int × Int)} (h : CodeAt w lo (some ⟨b, off, none⟩) code) (hf : f ≤ i) (hi : i ≤ code.length) : ∀ (j : Nat) (v : Value), (codeVals ((code.drop f).take (i - f)))[j]? = some v → w.cell? ((⟨b, off + f * 2, none⟩ : Addr).add j) = some v := by
  have h2 : CodeAt w lo (some ⟨b, off + f * 2, none⟩) ((code.drop f).take (i - f)) := by
    intro j hj
    have hj2 : j < i - f := by simp at hj; omega
    obtain ⟨b', off', e, hb, c1, c2⟩ := h (f + j) (by omega)
    cases e
    refine ⟨b, off + f * 2, rfl, hb, ?_, ?_⟩
    · rw [show off + f * 2 + j * 2 = off + (f + j) * 2 by omega, c1]; simp
    · rw [show off + f * 2 + j * 2 + 1 = off + (f + j) * 2 + 1 by omega, c2]; simp
  exact code_news h2 (Below.refl _ _)

set_option maxRecDepth 100000 in
set_option maxHeartbeats 8000000 in
theorem without_any (b off cc : Nat) (code : List (Int × Int)) (g : Nat → Bool) (ga : Option Addr) (gc : Nat) (w : World) (hcode : CodeAt w 0 (some ⟨b, off, none⟩) code) (h1 : 1 ≤ code.length) (h120 : code.length ≤ 120) (hcc : code.length ≤ cc) (g0 : g 0 = false) (hm : IntsAt w 0 ga (goneL g code.length)) :
    Calls Try.prog 60 #[.slice (some ⟨b, off, none⟩) code.length cc, .slice ga (goneL g code.length).length gc] w fun e w' => ∃ G, e = .returned (.slice (some ⟨G, 0, none⟩) (news g code.length) (news g code.length)) ∧ w'.ownsRow w.heap.size 54 2 (.slice (some ⟨G, 0, none⟩) (news g code.length) (news g code.length)) (news g code.length) (codeVals (keptL g (0, 0) code code.length)) ∧ Below w.heap.size w w' := by
  obtain ⟨j0, hj, hy0, hy1, hy2⟩ := info_parts info54
  obtain ⟨n, hn⟩ : ∃ n, n = code.length := ⟨_, rfl⟩
  obtain ⟨T, hT⟩ : ∃ T, T = (goneL g n).length := ⟨_, rfl⟩
  obtain ⟨N, hN⟩ : ∃ N, N = news g n := ⟨_, rfl⟩
  have hTN : T + N = n := by rw [hT, hN]; exact goneL_len g n
  have hN1 : 1 ≤ N := by
    have := news_lt (g := g) (i := 0) (n := n) (by omega) g0
    have e : news g 0 = 0 := rfl
    omega
  rw [← hn] at hm h1 h120 hcc ⊢
  rw [← hT, ← hN]
  have HN := hid hN
  have HT := hid hT
  have HNN := hid hn
  have HM := hid hm
  have HC := hid hcode
  have hsub : IntKind.i64.wrap ((n : Int) - (T : Int)) = (N : Int) := by rw [IntKind.wrap_i64]; omega
  have HTN := hid hTN
  have hN2 : N ≤ 120 := by omega
  have hT2 : T ≤ 120 := by omega
  clear hn hT hN hm hcode hTN
  go_enter Try.func60, Try.ntmps60
  go_wp2_with (first | (at_make; refine wpList_make_full _ rfl _ _ 41 rfl w.heap.size 54 j0 (.agg #[.int .i64 0, .int .i64 0]) 2 Try.underlying41 hj hy0 hy1 _ _ _ _ N rfl rfl rfl rfl (by rw [hy2]; omega) (by unfold maxLen; omega) (Nat.le_refl _) ?_; intro w1 hown hgrow))
  obtain ⟨cur0, hblk, hsz⟩ := made_block hown
  have hb0 : Below w.heap.size w w1 := (Below.refl _ _).grown hgrow (Nat.le_refl _) (by intro k hk; cases hk)
  clear hown hgrow
  go_loopw [6, 7, 19] (fun room fr i wr => ∃ (t f o : Nat) (cur : Array Value), t ≤ T ∧ f ≤ n ∧ i = .int .i64 t ∧ fr = .int .i64 f ∧ Hid ((goneL g f).length = t) ∧ room = .slice (some ⟨w.heap.size, o, none⟩) (N - news g f) (N - news g f) ∧ Hid (news g f < N → o = news g f * 2) ∧ o ≤ N * 2 ∧ news g f ≤ N ∧ wr.heap[w.heap.size]? = some (.cells cur 54 (0, 0)) ∧ cur.size = N * 2 ∧ Hid (cur.toList.take (news g f * 2) = codeVals (keptL g (0, 0) code f)) ∧ Below w.heap.size w wr) (fun _ _ i _ => T - (intOf i).toNat)
  case atStart => exact ⟨0, 0, 0, cur0, by omega, by omega, rfl, rfl, rfl, rfl, fun _ => rfl, by omega, by show 0 ≤ N; omega, hblk, hsz, rfl, hb0⟩
  case round =>
    obtain ⟨t, f, o, cur, ht, hf, rfl, rfl, HL, rfl, HO, hoN, hNf, hblkr, hszr, HK, hb⟩ := hrel
    clear hblk hsz hb0
    by_cases hlt : t < T
    · obtain ⟨i, hi1, hi2, hi3, hi4⟩ := goneL_at (g := g) (n := n) (t := t) (by rw [← HT.out]; exact hlt)
      obtain ⟨ba, oa, rfl, -, hcell⟩ := (HM.out.mono hb) t (by rw [← HT.out]; exact hlt)
      rw [hi3] at hcell
      have hfi : f ≤ i := goneL_ahead hi2 (by rw [hi4, HL.out])
      have hrun := keptL_run (g := g) (z := ((0, 0) : Int × Int)) (l := code) (f := f) i hfi (by rw [← HNN.out]; omega) (goneL_same (by rw [hi4, HL.out]))
      have hnext : Hid (news g (i + 1) = news g i ∧ keptL g ((0, 0) : Int × Int) code (i + 1) = keptL g (0, 0) code i ∧ (goneL g (i + 1)).length = t + 1) := ⟨news_no hi2, keptL_no hi2, by rw [goneL_yes hi2]; simp [hi4]⟩
      have hni : news g i ≤ N := by rw [HN.out]; exact news_mono g (by omega)
      obtain ⟨hr1, hr2⟩ := hrun
      have HR1 := hid hr1
      have HR2 := hid hr2
      clear hr1 hr2 hi3 hi4
      have hic : i < cc := by omega
      have hfc : f < cc := by omega
      obtain ⟨m, hmd⟩ : ∃ m, m = i - f := ⟨_, rfl⟩
      obtain ⟨c, hcd⟩ : ∃ c, c = news g f := ⟨_, rfl⟩
      have hcm : news g i = c + m := by rw [HR2.out, hcd, hmd]
      have hcl : (codeVals ((code.drop f).take (i - f))).length = m * 2 := by
        rw [codeVals_len, List.length_take, List.length_drop, ← HNN.out]
        omega
      have hof : o + m * 2 ≤ N * 2 := by
        by_cases h0 : m = 0
        · omega
        · have := HO.out (by omega)
          omega
      obtain ⟨w2, hw2⟩ : ∃ w2, w2 = wr.setRow w.heap.size (splice cur.toList o (codeVals ((code.drop f).take (i - f)))).toArray := ⟨_, rfl⟩
      have hrunC : (Builtin.copy_ #[41, 41] 3 #[.slice (some ⟨w.heap.size, o, none⟩) (N - c) (N - c), .slice (some ⟨b, off + f * 2, none⟩) (i - f) (cc - f)]).run Try.prog wr = .ok (.int .i64 ((m : Nat) : Int)) w2 := by
        have hq := run_copy2 (P := Try.prog) wr 41 41 3 54 w.heap.size o (N - c) (N - c) ⟨b, off + f * 2, none⟩ (i - f) (cc - f) cur 54 (codeVals ((code.drop f).take (i - f))) Try.underlying41 size54 hblkr (by omega) (by rw [hcl, hmd]) (code_part (HC.out.mono hb) hfi (by rw [← HNN.out]; omega)) (by rw [hcl]; omega) codeVals_one
        rw [hq, ← hw2, hmd]
        rfl
      have hblk2 : w2.heap[w.heap.size]? = some (.cells (splice cur.toList o (codeVals ((code.drop f).take (i - f)))).toArray 54 (0, 0)) := by rw [hw2]; exact setRow_heap wr w.heap.size _ _ 54 _ hblkr
      have hb2 : Below w.heap.size w w2 := by rw [hw2]; exact below_setRow hb (Nat.le_refl _) _
      have HK2 : Hid ((splice cur.toList o (codeVals ((code.drop f).take (i - f)))).length = N * 2 ∧ (splice cur.toList o (codeVals ((code.drop f).take (i - f)))).take (news g i * 2) = codeVals (keptL g (0, 0) code i)) := by
        have hl2 : cur.toList.length = N * 2 := by simpa using hszr
        refine ⟨by rw [length_splice _ _ _ (by rw [hcl]; omega)]; exact hl2, ?_⟩
        rw [HR1.out, codeVals_app, ← HK.out]
        by_cases h0 : m = 0
        · have e0 : codeVals ((code.drop f).take (i - f)) = [] := List.eq_nil_of_length_eq_zero (by rw [hcl]; omega)
          rw [e0]
          have e1 : splice cur.toList o ([] : List Value) = cur.toList := by simp [splice]
          rw [e1, hcm, ← hcd, h0]
          simp
        · have ho := HO.out (by omega)
          have := splice_take cur.toList o (codeVals ((code.drop f).take (i - f))) (by rw [hcl]; omega)
          rw [hcl] at this
          rw [hcm, show (c + m) * 2 = o + m * 2 by omega, this, ho]
      generalize (splice cur.toList o (codeVals ((code.drop f).take (i - f)))) = L2 at hblk2 HK2
      rw [← hcd] at HO hNf ⊢
      have HCM := hid hcm
      have HCD := hid hcd
      have HW2 := hid hw2
      have hmi : m ≤ i := by omega
      have hmN : m ≤ N - c := by omega
      have HMD := hid hmd
      clear hw2 hcl hcm hcd hmd hfc HR1 HK hblkr
      by_cases hlow : m < N - c
      · have HO2 : Hid (news g (i + 1) < N → o + m * 2 = news g (i + 1) * 2) := fun h => by
          rw [hnext.out.1, HCM.out]
          have := HO.out (by omega)
          omega
        have HS2 : Hid (N - c - m = N - news g (i + 1)) := by show _ = _; rw [hnext.out.1, HCM.out]; omega
        go_wp2_with fail
        go_roundw
        case rel => exact ⟨t + 1, i + 1, o + m * 2, L2.toArray, by omega, by omega, by go_num, by go_num, hnext.out.2.2, by rw [HS2.out], HO2, by omega, by rw [hnext.out.1]; exact hni, hblk2, by simpa using HK2.out.1, by rw [hnext.out.1, hnext.out.2.1]; exact HK2.out.2, hb2⟩
        case measure => simp [intOf]; omega
      · have HO2 : Hid (news g (i + 1) < N → o = news g (i + 1) * 2) := fun h => by
          rw [hnext.out.1, HCM.out] at h
          omega
        have HS2 : Hid (N - c - m = N - news g (i + 1)) := by show _ = _; rw [hnext.out.1, HCM.out]; omega
        go_wp2_with fail
        go_roundw
        case rel => exact ⟨t + 1, i + 1, o, L2.toArray, by omega, by omega, by go_num, by go_num, hnext.out.2.2, by rw [HS2.out], HO2, by omega, by rw [hnext.out.1]; exact hni, hblk2, by simpa using HK2.out.1, by rw [hnext.out.1, hnext.out.2.1]; exact HK2.out.2, hb2⟩
        case measure => simp [intOf]; omega
    · have hte : t = T := by omega
      have hrun := keptL_run (g := g) (z := ((0, 0) : Int × Int)) (l := code) (f := f) n hf (by rw [← HNN.out]; omega) (goneL_same (by rw [HL.out, ← HT.out, hte]))
      obtain ⟨hr1, hr2⟩ := hrun
      obtain ⟨m, hmd⟩ : ∃ m, m = n - f := ⟨_, rfl⟩
      obtain ⟨c, hcd⟩ : ∃ c, c = news g f := ⟨_, rfl⟩
      have hcm : N = c + m := by rw [HN.out, hr2, hcd, hmd]
      have hcl : (codeVals ((code.drop f).take (n - f))).length = m * 2 := by
        rw [codeVals_len, List.length_take, List.length_drop, ← HNN.out]
        omega
      have hof : o + m * 2 ≤ N * 2 := by
        by_cases h0 : m = 0
        · omega
        · have := HO.out (by omega)
          omega
      obtain ⟨w2, hw2⟩ : ∃ w2, w2 = wr.setRow w.heap.size (splice cur.toList o (codeVals ((code.drop f).take (n - f)))).toArray := ⟨_, rfl⟩
      have hsrc := code_part (HC.out.mono hb) hf (by rw [← HNN.out]; exact Nat.le_refl _)
      have hblk2 : w2.heap[w.heap.size]? = some (.cells (splice cur.toList o (codeVals ((code.drop f).take (n - f)))).toArray 54 (0, 0)) := by rw [hw2]; exact setRow_heap wr w.heap.size _ _ 54 _ hblkr
      have hb2 : Below w.heap.size w w2 := by rw [hw2]; exact below_setRow hb (Nat.le_refl _) _
      have HK2 : Hid ((splice cur.toList o (codeVals ((code.drop f).take (n - f)))).length = N * 2 ∧ (splice cur.toList o (codeVals ((code.drop f).take (n - f)))).take (N * 2) = codeVals (keptL g (0, 0) code n)) := by
        have hl2 : cur.toList.length = N * 2 := by simpa using hszr
        refine ⟨by rw [length_splice _ _ _ (by rw [hcl]; omega)]; exact hl2, ?_⟩
        rw [hr1, codeVals_app, ← HK.out]
        by_cases h0 : m = 0
        · have e0 : codeVals ((code.drop f).take (n - f)) = [] := List.eq_nil_of_length_eq_zero (by rw [hcl]; omega)
          rw [e0]
          have e1 : splice cur.toList o ([] : List Value) = cur.toList := by simp [splice]
          rw [e1, hcm, ← hcd, h0]
          simp
        · have ho := HO.out (by omega)
          have := splice_take cur.toList o (codeVals ((code.drop f).take (n - f))) (by rw [hcl]; omega)
          rw [hcl] at this
          rw [show N * 2 = o + m * 2 by omega, this, ho]
      have HOWN : Hid (w2.ownsRow w.heap.size 54 2 (.slice (some ⟨w.heap.size, 0, none⟩) N N) N (codeVals (keptL g (0, 0) code n))) := by
        refine ⟨by rw [codeVals_len, keptL_len, ← HN.out], .inr ⟨w.heap.size, N, _, rfl, Nat.le_refl _, hblk2, Nat.le_refl _, by unfold maxLen; omega, ?_, ?_⟩⟩
        · have := HK2.out.1
          simpa using this
        · have := HK2.out.2
          simpa using this
      have HB2 := hid hb2
      by_cases hfc : f < cc
      · have hrunC : (Builtin.copy_ #[41, 41] 3 #[.slice (some ⟨w.heap.size, o, none⟩) (N - c) (N - c), .slice (some ⟨b, off + f * 2, none⟩) (n - f) (cc - f)]).run Try.prog wr = .ok (.int .i64 ((m : Nat) : Int)) w2 := by
          have hq := run_copy2 (P := Try.prog) wr 41 41 3 54 w.heap.size o (N - c) (N - c) ⟨b, off + f * 2, none⟩ (n - f) (cc - f) cur 54 (codeVals ((code.drop f).take (n - f))) Try.underlying41 size54 hblkr (by omega) (by rw [hcl, hmd]) hsrc (by rw [hcl]; omega) codeVals_one
          rw [hq, ← hw2, hmd]
          rfl
        rw [← hcd] at hNf ⊢
        clear hw2 hcl hcm hcd hmd HK hblkr hblk2 hb2 hsrc hr1 hr2
        go_wp2_with fail
        go_ret
        exact ⟨w.heap.size, rfl, HOWN.out, HB2.out⟩
      · have hfn : f = n := by omega
        have hm0 : m = 0 := by omega
        have e0 : codeVals ((code.drop f).take (n - f)) = [] := List.eq_nil_of_length_eq_zero (by rw [hcl]; omega)
        have hrunC : (Builtin.copy_ #[41, 41] 3 #[.slice (some ⟨w.heap.size, o, none⟩) (N - c) (N - c), .slice (some ⟨b, off, none⟩) (n - f) (cc - f)]).run Try.prog wr = .ok (.int .i64 ((m : Nat) : Int)) w2 := by
          have hq := run_copy2 (P := Try.prog) wr 41 41 3 54 w.heap.size o (N - c) (N - c) ⟨b, off, none⟩ (n - f) (cc - f) cur 54 (codeVals ((code.drop f).take (n - f))) Try.underlying41 size54 hblkr (by omega) (by rw [hcl, hmd]) (by rw [e0]; intro j v h; simp at h) (by rw [hcl]; omega) codeVals_one
          rw [hq, ← hw2, hmd]
          rfl
        rw [← hcd] at hNf ⊢
        clear hw2 hcl hcm hcd hmd HK hblkr hblk2 hb2 hsrc hr1 hr2 hfn hm0 e0
        go_wp2_with fail
        go_ret
        exact ⟨w.heap.size, rfl, HOWN.out, HB2.out⟩
end Go.Proofs.Ytffeejkghmpkkaa
