/-
  What impl takes out of a list: without, numberWithout.
  What impl takes out of a list: without.
-/
import Derived.Test.YtjdoljaailokmaaGreatDoorZCO
import Derived.Test.YtjdoljaailokmaaGreatDoorZFQ16
import Derived.Test.YtjdoljaailokmaaGreatDoorZFQ7
import Derived.Laws.CopyRow
import Derived.Laws.CopyOwn
namespace Go.Proofs.YtjdoljaailokmaaGreatDoor
open Go.RowKit

/-- The places of what is gone. -/
def goneL (g : Nat → Bool) : Nat → List Int
  | 0 => []
  | k + 1 => if g k = true then goneL g k ++ [(k : Int)] else goneL g k
theorem goneL_yes {g : Nat → Bool} {k : Nat} (h : g k = true) : goneL g (k + 1) = goneL g k ++ [(k : Int)] := if_pos h
theorem goneL_no {g : Nat → Bool} {k : Nat} (h : g k = false) : goneL g (k + 1) = goneL g k := by show (if g k = true then _ else _) = _; rw [if_neg (by simp [h])]
theorem goneL_len (g : Nat → Bool) (k : Nat) : (goneL g k).length + news g k = k := by
  induction k with
  | zero => rfl
  | succ k ih => cases h : g k with
    | true => rw [goneL_yes h, news_no h]; simp; omega
    | false => rw [goneL_no h, news_yes h]; omega
theorem goneL_lt {g : Nat → Bool} {k : Nat} : ∀ x ∈ goneL g k, 0 ≤ x ∧ x < (k : Int) := by
  induction k with
  | zero => intro x hx; cases hx
  | succ k ih =>
    intro x hx
    cases h : g k with
    | true =>
      rw [goneL_yes h] at hx
      rcases List.mem_append.1 hx with hx | hx
      · have := ih x hx; omega
      · simp at hx; omega
    | false =>
      rw [goneL_no h] at hx
      have := ih x hx; omega
theorem goneL_mono (g : Nat → Bool) {i j : Nat} (h : i ≤ j) : ∃ l, goneL g j = goneL g i ++ l ∧ ∀ x ∈ l, (i : Int) ≤ x := by
  induction j with
  | zero => exact ⟨[], by have : i = 0 := by omega
                          subst this; simp, by simp⟩
  | succ j ih =>
    by_cases e : i = j + 1
    · subst e; exact ⟨[], by simp, by simp⟩
    · obtain ⟨l, h1, h2⟩ := ih (by omega)
      cases hg : g j with
      | true => exact ⟨l ++ [(j : Int)], by rw [goneL_yes hg, h1, List.append_assoc], fun x hx => by
          rcases List.mem_append.1 hx with hx | hx
          · exact h2 x hx
          · simp at hx; omega⟩
      | false => exact ⟨l, by rw [goneL_no hg, h1], h2⟩
theorem goneL_sorted (g : Nat → Bool) (k : Nat) : (goneL g k).Pairwise (· ≤ ·) := by
  induction k with
  | zero => exact List.Pairwise.nil
  | succ k ih => cases h : g k with
    | true =>
      rw [goneL_yes h, List.pairwise_append]
      exact ⟨ih, List.pairwise_singleton .., fun a ha b hb => by
        have := (goneL_lt a ha).2
        simp at hb
        omega⟩
    | false => rw [goneL_no h]; exact ih
theorem goneL_count {g : Nat → Bool} {x n : Nat} (h : x ≤ n) : (goneL g n).countP (fun y => decide (y < (x : Int))) = (goneL g x).length := by
  obtain ⟨l, h1, h2⟩ := goneL_mono g h
  rw [h1, List.countP_append, List.countP_eq_length.2 (fun y hy => by have := (goneL_lt y hy).2; simpa using this), List.countP_eq_zero.2 (fun y hy => by have := h2 y hy; simp; omega)]
  omega
theorem goneL_at {g : Nat → Bool} {n t : Nat} (h : t < (goneL g n).length) : ∃ i, i < n ∧ g i = true ∧ (goneL g n)[t] = (i : Int) ∧ (goneL g i).length = t := by
  induction n with
  | zero => exact absurd h (Nat.not_lt_zero _)
  | succ n ih =>
    cases hg : g n with
    | true =>
      have e := goneL_yes hg
      by_cases h2 : t < (goneL g n).length
      · obtain ⟨i, a, b, c, d⟩ := ih h2
        refine ⟨i, by omega, b, ?_, d⟩
        rw [← c]
        simp only [e]
        rw [List.getElem_append_left h2]
      · have ht : t = (goneL g n).length := by rw [e] at h; simp at h; omega
        refine ⟨n, by omega, hg, ?_, ht.symm⟩
        simp only [e]
        rw [List.getElem_append_right (by omega)]
        simp
    | false =>
      have e := goneL_no hg
      have h' : t < (goneL g n).length := by rw [← e]; exact h
      obtain ⟨i, a, b, c, d⟩ := ih h'
      refine ⟨i, by omega, b, ?_, d⟩
      simp only [e]
      exact c
theorem goneL_le {g : Nat → Bool} {i j : Nat} (h : i ≤ j) : (goneL g i).length ≤ (goneL g j).length := by
  obtain ⟨l, h1, -⟩ := goneL_mono g h
  rw [h1]; simp
theorem goneL_same {g : Nat → Bool} {f i : Nat} (hl : (goneL g i).length = (goneL g f).length) : ∀ j, f ≤ j → j < i → g j = false := by
  intro j h1 h2
  cases hg : g j with
  | false => rfl
  | true =>
    have a := goneL_le (g := g) h1
    have b := goneL_le (g := g) (show j + 1 ≤ i by omega)
    rw [goneL_yes hg] at b
    simp at b
    omega
theorem goneL_ahead {g : Nat → Bool} {f i : Nat} (hg : g i = true) (hl : (goneL g i).length = (goneL g f).length) : f ≤ i := by
  rcases Nat.lt_or_ge i f with a | a
  · have b := goneL_le (g := g) (show i + 1 ≤ f by omega)
    rw [goneL_yes hg] at b
    simp at b
    omega
  · exact a
theorem keptL_run {α : Type} {g : Nat → Bool} {z : α} {l : List α} {f : Nat} : ∀ i, f ≤ i → i ≤ l.length → (∀ j, f ≤ j → j < i → g j = false) → keptL g z l i = keptL g z l f ++ (l.drop f).take (i - f) ∧ news g i = news g f + (i - f) := by
  intro i
  induction i with
  | zero => intro h _ _; have : f = 0 := by omega
            subst this; simp
  | succ i ih =>
    intro h1 h2 h3
    by_cases e : f = i + 1
    · subst e; simp
    · obtain ⟨a, b⟩ := ih (by omega) (by omega) (fun j q1 q2 => h3 j q1 (by omega))
      have hg := h3 i (by omega) (by omega)
      refine ⟨?_, by rw [news_yes hg, b]; omega⟩
      rw [keptL_yes hg, a, List.append_assoc]
      congr 1
      rw [show i + 1 - f = (i - f) + 1 by omega, List.take_succ_eq_append_getElem (by simp; omega)]
      congr 1
      rw [List.getElem_drop, List.getD_eq_getElem?_getD, List.getElem?_eq_getElem (by omega)]
      simp only [show f + (i - f) = i by omega]
      rfl
theorem splice_take {α : Type} (L : List α) (o : Nat) (cs : List α) (h : o + cs.length ≤ L.length) : (splice L o cs).take (o + cs.length) = L.take o ++ cs := by
  unfold splice
  rw [← List.append_assoc, List.take_append_of_le_length (by simp; omega), List.take_of_length_le (by simp; omega)]
theorem codeVals_app (xs ys : List (Int × Int)) : codeVals (xs ++ ys) = codeVals xs ++ codeVals ys := by simp [codeVals]

theorem run_copy2 {P : Program} (w : World) (dT sT ty elem : TypeId) (g o dLen dCap : Nat) (a : Addr) (sLen sCap : Nat) (cur : Array Value) (t : TypeId) (cs : List Value)
    (hu : P.underlying dT = some (.slice elem)) (hs : (P.info? elem).map (·.size) = some 2)
    (hg : w.heap[g]? = some (.cells cur t (0, 0))) (hle : sLen ≤ dLen) (hn : cs.length = sLen * 2)
    (hsrc : ∀ j v, cs[j]? = some v → w.cell? (a.add j) = some v) (hfit : o + cs.length ≤ cur.size) (h1 : ∀ v ∈ cs, v.oneCell' = true) :
    (Builtin.copy_ #[dT, sT] ty #[.slice (some ⟨g, o, none⟩) dLen dCap, .slice (some a) sLen sCap]).run P w =
      .ok (goInt sLen) (w.setRow g (splice cur.toList o cs).toArray) := by
  have hl := run_loadCells_list (P := P) w a cs hsrc
  have hst := run_storeCells_at P g o t cs 0 cur w hg (by simpa using hfit) h1
  have hmin : Nat.min sLen dLen = sLen := Nat.min_eq_left hle
  cases hq : P.info? elem with
  | none => simp [hq] at hs
  | some i =>
    have hi : i.size = 2 := by simpa [hq] using hs
    simp [Builtin.copy_, run_underlying hu, Builtin.lenOf, Builtin.firstCells, sizeOf, typeInfo, hq, hi, hmin, ← hn, hl, hst, splice]

set_option maxRecDepth 100000 in
set_option maxHeartbeats 1000000 in
theorem jumpOp_any (op : Int) (w : World) : Calls Tryz.prog 68 #[.int .i64 op] w fun e w' => e = .returned (.bool (decide (op = 17 ∨ op = 18 ∨ op = 19))) ∧ w' = w := by
  by_cases h1 : op = 17
  · subst h1
    go_enter Tryz.func68, Tryz.ntmps68
    go_wp2
    go_ret
    exact ⟨rfl, rfl⟩
  by_cases h2 : op = 18
  · subst h2
    go_enter Tryz.func68, Tryz.ntmps68
    go_wp2
    go_ret
    exact ⟨rfl, rfl⟩
  by_cases h3 : op = 19
  · subst h3
    go_enter Tryz.func68, Tryz.ntmps68
    go_wp2
    go_ret
    exact ⟨rfl, rfl⟩
  have e1 : (op == 17) = false := beq_eq_false_iff_ne.2 h1
  have e2 : (op == 18) = false := beq_eq_false_iff_ne.2 h2
  have e3 : (op == 19) = false := beq_eq_false_iff_ne.2 h3
  have hd : decide (op = 17 ∨ op = 18 ∨ op = 19) = false := decide_eq_false (by omega)
  rw [hd]
  clear h1 h2 h3
  go_enter Tryz.func68, Tryz.ntmps68
  go_wp2
  go_ret
  exact ⟨rfl, rfl⟩

set_option maxHeartbeats 1000000 in
theorem numWithout_any (p n : Nat) (g : Nat → Bool) (ga : Option Addr) (gc : Nat) (w : World) (hp : p ≤ n) (hn : n ≤ 120) (hm : IntsAt w 0 ga (goneL g n)) :
    Calls Tryz.prog 69 #[.int .i64 p, .slice ga (goneL g n).length gc] w fun e w' => e = .returned (.int .i64 (news g p : Int)) ∧ Below w.heap.size w w' := by
  have hl := goneL_len g n
  have hcp := goneL_count (g := g) hp
  have hlp := goneL_len g p
  have HB : Hid (Calls Tryz.prog 82 #[.slice ga (goneL g n).length gc, .int .i64 p] w fun e w' => ∃ b, e = .returned (.tuple #[.int .i64 ((goneL g p).length : Int), .bool b]) ∧ Below w.heap.size w w') := by
    by_cases h0 : (goneL g n).length = 0
    · have h1 : (goneL g p).length = 0 := by have := goneL_le (g := g) hp; omega
      rw [h0]
      refine (Tryz.slices_BinarySearch_int_empty ga gc p w).mono ?_
      rintro e w' ⟨rfl, rfl⟩
      exact ⟨false, by rw [h1]; rfl, Below.refl _ _⟩
    · obtain ⟨b, off, rfl, -, -⟩ := hm 0 (by omega)
      refine (Tryz.slices_BinarySearch_int b off (goneL g n).length gc (goneL g n) p w (Nat.le_refl _) (by omega) (fun j hj => ?_) (by rw [List.take_length]; exact goneL_sorted g n)).mono ?_
      · obtain ⟨b', off', e, -, hc⟩ := hm j hj
        cases e
        rw [hc, List.getD_eq_getElem?_getD, List.getElem?_eq_getElem hj]; rfl
      · rintro e w' ⟨rfl, q, rfl⟩
        refine ⟨_, by rw [List.take_length, hcp], ?_⟩
        exact ⟨rfl, rfl, rfl, Nat.le_refl _, fun _ _ => rfl⟩
  have hw : IntKind.i64.wrap ((p : Int) - ((goneL g p).length : Int)) = (news g p : Int) := by rw [IntKind.wrap_i64]; omega
  go_enter Tryz.func69, Tryz.ntmps69
  go_wp2_with fail
  refine HB.out.mono ?_
  rintro e w1 ⟨b, rfl, hb⟩
  go_wp2
  go_ret
  exact ⟨rfl, hb⟩
end Go.Proofs.YtjdoljaailokmaaGreatDoor

namespace Go.Proofs.YtjdoljaailokmaaGreatDoor
open Go.RowKit

theorem size44 : (Tryz.prog.info? 44).map (·.size) = some 2 := by kernel_rfl

/-- A stretch of a row of instructions that is read. -/
theorem code_part {w : World} {lo b off f i : Nat} {code : List (Int × Int)} (h : CodeAt w lo (some ⟨b, off, none⟩) code) (hf : f ≤ i) (hi : i ≤ code.length) : ∀ (j : Nat) (v : Value), (codeVals ((code.drop f).take (i - f)))[j]? = some v → w.cell? ((⟨b, off + f * 2, none⟩ : Addr).add j) = some v := by
  have h2 : CodeAt w lo (some ⟨b, off + f * 2, none⟩) ((code.drop f).take (i - f)) := by
    intro j hj
    have hj2 : j < i - f := by simp at hj; omega
    obtain ⟨b', off', e, hb, c1, c2⟩ := h (f + j) (by omega)
    cases e
    refine ⟨b, off + f * 2, rfl, hb, ?_, ?_⟩
    · rw [show off + f * 2 + j * 2 = off + (f + j) * 2 by omega, c1]; simp
    · rw [show off + f * 2 + j * 2 + 1 = off + (f + j) * 2 + 1 by omega, c2]; simp
  exact code_news h2 (Below.refl _ _)

set_option maxRecDepth 100000 in
set_option maxHeartbeats 8000000 in
theorem without_any (b off cc : Nat) (code : List (Int × Int)) (g : Nat → Bool) (ga : Option Addr) (gc : Nat) (w : World) (hcode : CodeAt w 0 (some ⟨b, off, none⟩) code) (h1 : 1 ≤ code.length) (h120 : code.length ≤ 120) (hcc : code.length ≤ cc) (g0 : g 0 = false) (hm : IntsAt w 0 ga (goneL g code.length)) :
    Calls Tryz.prog 67 #[.slice (some ⟨b, off, none⟩) code.length cc, .slice ga (goneL g code.length).length gc] w fun e w' => ∃ G, e = .returned (.slice (some ⟨G, 0, none⟩) (news g code.length) (news g code.length)) ∧ w'.ownsRow w.heap.size 44 2 (.slice (some ⟨G, 0, none⟩) (news g code.length) (news g code.length)) (news g code.length) (codeVals (keptL g (0, 0) code code.length)) ∧ Below w.heap.size w w' := by
  obtain ⟨j0, hj, hy0, hy1, hy2⟩ := info_parts info44
  obtain ⟨n, hn⟩ : ∃ n, n = code.length := ⟨_, rfl⟩
  obtain ⟨T, hT⟩ : ∃ T, T = (goneL g n).length := ⟨_, rfl⟩
  obtain ⟨N, hN⟩ : ∃ N, N = news g n := ⟨_, rfl⟩
  have hTN : T + N = n := by rw [hT, hN]; exact goneL_len g n
  have hN1 : 1 ≤ N := by
    have := news_lt (g := g) (i := 0) (n := n) (by omega) g0
    have e : news g 0 = 0 := rfl
    omega
  rw [← hn] at hm h1 h120 hcc ⊢
  rw [← hT, ← hN]
  have HN := hid hN
  have HT := hid hT
  have HNN := hid hn
  have HM := hid hm
  have HC := hid hcode
  have hsub : IntKind.i64.wrap ((n : Int) - (T : Int)) = (N : Int) := by rw [IntKind.wrap_i64]; omega
  have HTN := hid hTN
  have hN2 : N ≤ 120 := by omega
  have hT2 : T ≤ 120 := by omega
  clear hn hT hN hm hcode hTN
  go_enter Tryz.func67, Tryz.ntmps67
  go_wp2_with (first | (at_make; refine wpList_make_full _ rfl _ _ 38 rfl w.heap.size 44 j0 (.agg #[.int .i64 0, .int .i64 0]) 2 Tryz.underlying38 hj hy0 hy1 _ _ _ _ N rfl rfl rfl rfl (by rw [hy2]; omega) (by unfold maxLen; omega) (Nat.le_refl _) ?_; intro w1 hown hgrow))
  obtain ⟨cur0, hblk, hsz⟩ := made_block hown
  have hb0 : Below w.heap.size w w1 := (Below.refl _ _).grown hgrow (Nat.le_refl _) (by intro k hk; cases hk)
  clear hown hgrow
  go_loopw [6, 7, 19] (fun room fr i wr => ∃ (t f o : Nat) (cur : Array Value), t ≤ T ∧ f ≤ n ∧ i = .int .i64 t ∧ fr = .int .i64 f ∧ Hid ((goneL g f).length = t) ∧ room = .slice (some ⟨w.heap.size, o, none⟩) (N - news g f) (N - news g f) ∧ Hid (news g f < N → o = news g f * 2) ∧ o ≤ N * 2 ∧ news g f ≤ N ∧ wr.heap[w.heap.size]? = some (.cells cur 44 (0, 0)) ∧ cur.size = N * 2 ∧ Hid (cur.toList.take (news g f * 2) = codeVals (keptL g (0, 0) code f)) ∧ Below w.heap.size w wr) (fun _ _ i _ => T - (intOf i).toNat)
  case atStart => exact ⟨0, 0, 0, cur0, by omega, by omega, rfl, rfl, rfl, rfl, fun _ => rfl, by omega, by show 0 ≤ N; omega, hblk, hsz, rfl, hb0⟩
  case round =>
    obtain ⟨t, f, o, cur, ht, hf, rfl, rfl, HL, rfl, HO, hoN, hNf, hblkr, hszr, HK, hb⟩ := hrel
    clear hblk hsz hb0
    by_cases hlt : t < T
    · obtain ⟨i, hi1, hi2, hi3, hi4⟩ := goneL_at (g := g) (n := n) (t := t) (by rw [← HT.out]; exact hlt)
      obtain ⟨ba, oa, rfl, -, hcell⟩ := (HM.out.mono hb) t (by rw [← HT.out]; exact hlt)
      rw [hi3] at hcell
      have hfi : f ≤ i := goneL_ahead hi2 (by rw [hi4, HL.out])
      have hrun := keptL_run (g := g) (z := ((0, 0) : Int × Int)) (l := code) (f := f) i hfi (by rw [← HNN.out]; omega) (goneL_same (by rw [hi4, HL.out]))
      have hnext : Hid (news g (i + 1) = news g i ∧ keptL g ((0, 0) : Int × Int) code (i + 1) = keptL g (0, 0) code i ∧ (goneL g (i + 1)).length = t + 1) := ⟨news_no hi2, keptL_no hi2, by rw [goneL_yes hi2]; simp [hi4]⟩
      have hni : news g i ≤ N := by rw [HN.out]; exact news_mono g (by omega)
      obtain ⟨hr1, hr2⟩ := hrun
      have HR1 := hid hr1
      have HR2 := hid hr2
      clear hr1 hr2 hi3 hi4
      have hic : i < cc := by omega
      have hfc : f < cc := by omega
      obtain ⟨m, hmd⟩ : ∃ m, m = i - f := ⟨_, rfl⟩
      obtain ⟨c, hcd⟩ : ∃ c, c = news g f := ⟨_, rfl⟩
      have hcm : news g i = c + m := by rw [HR2.out, hcd, hmd]
      have hcl : (codeVals ((code.drop f).take (i - f))).length = m * 2 := by
        rw [codeVals_len, List.length_take, List.length_drop, ← HNN.out]
        omega
      have hof : o + m * 2 ≤ N * 2 := by
        by_cases h0 : m = 0
        · omega
        · have := HO.out (by omega)
          omega
      obtain ⟨w2, hw2⟩ : ∃ w2, w2 = wr.setRow w.heap.size (splice cur.toList o (codeVals ((code.drop f).take (i - f)))).toArray := ⟨_, rfl⟩
      have hrunC : (Builtin.copy_ #[38, 38] 3 #[.slice (some ⟨w.heap.size, o, none⟩) (N - c) (N - c), .slice (some ⟨b, off + f * 2, none⟩) (i - f) (cc - f)]).run Tryz.prog wr = .ok (.int .i64 ((m : Nat) : Int)) w2 := by
        have hq := run_copy2 (P := Tryz.prog) wr 38 38 3 44 w.heap.size o (N - c) (N - c) ⟨b, off + f * 2, none⟩ (i - f) (cc - f) cur 44 (codeVals ((code.drop f).take (i - f))) Tryz.underlying38 size44 hblkr (by omega) (by rw [hcl, hmd]) (code_part (HC.out.mono hb) hfi (by rw [← HNN.out]; omega)) (by rw [hcl]; omega) codeVals_one
        rw [hq, ← hw2, hmd]
        rfl
      have hblk2 : w2.heap[w.heap.size]? = some (.cells (splice cur.toList o (codeVals ((code.drop f).take (i - f)))).toArray 44 (0, 0)) := by rw [hw2]; exact setRow_heap wr w.heap.size _ _ 44 _ hblkr
      have hb2 : Below w.heap.size w w2 := by rw [hw2]; exact below_setRow hb (Nat.le_refl _) _
      have HK2 : Hid ((splice cur.toList o (codeVals ((code.drop f).take (i - f)))).length = N * 2 ∧ (splice cur.toList o (codeVals ((code.drop f).take (i - f)))).take (news g i * 2) = codeVals (keptL g (0, 0) code i)) := by
        have hl2 : cur.toList.length = N * 2 := by simpa using hszr
        refine ⟨by rw [length_splice _ _ _ (by rw [hcl]; omega)]; exact hl2, ?_⟩
        rw [HR1.out, codeVals_app, ← HK.out]
        by_cases h0 : m = 0
        · have e0 : codeVals ((code.drop f).take (i - f)) = [] := List.eq_nil_of_length_eq_zero (by rw [hcl]; omega)
          rw [e0]
          have e1 : splice cur.toList o ([] : List Value) = cur.toList := by simp [splice]
          rw [e1, hcm, ← hcd, h0]
          simp
        · have ho := HO.out (by omega)
          have := splice_take cur.toList o (codeVals ((code.drop f).take (i - f))) (by rw [hcl]; omega)
          rw [hcl] at this
          rw [hcm, show (c + m) * 2 = o + m * 2 by omega, this, ho]
      generalize (splice cur.toList o (codeVals ((code.drop f).take (i - f)))) = L2 at hblk2 HK2
      rw [← hcd] at HO hNf ⊢
      have HCM := hid hcm
      have HCD := hid hcd
      have HW2 := hid hw2
      have hmi : m ≤ i := by omega
      have hmN : m ≤ N - c := by omega
      have HMD := hid hmd
      clear hw2 hcl hcm hcd hmd hfc HR1 HK hblkr
      by_cases hlow : m < N - c
      · have HO2 : Hid (news g (i + 1) < N → o + m * 2 = news g (i + 1) * 2) := fun h => by
          rw [hnext.out.1, HCM.out]
          have := HO.out (by omega)
          omega
        have HS2 : Hid (N - c - m = N - news g (i + 1)) := by show _ = _; rw [hnext.out.1, HCM.out]; omega
        go_wp2_with fail
        go_roundw
        case rel => exact ⟨t + 1, i + 1, o + m * 2, L2.toArray, by omega, by omega, by go_num, by go_num, hnext.out.2.2, by rw [HS2.out], HO2, by omega, by rw [hnext.out.1]; exact hni, hblk2, by simpa using HK2.out.1, by rw [hnext.out.1, hnext.out.2.1]; exact HK2.out.2, hb2⟩
        case measure => simp [intOf]; omega
      · have HO2 : Hid (news g (i + 1) < N → o = news g (i + 1) * 2) := fun h => by
          rw [hnext.out.1, HCM.out] at h
          omega
        have HS2 : Hid (N - c - m = N - news g (i + 1)) := by show _ = _; rw [hnext.out.1, HCM.out]; omega
        go_wp2_with fail
        go_roundw
        case rel => exact ⟨t + 1, i + 1, o, L2.toArray, by omega, by omega, by go_num, by go_num, hnext.out.2.2, by rw [HS2.out], HO2, by omega, by rw [hnext.out.1]; exact hni, hblk2, by simpa using HK2.out.1, by rw [hnext.out.1, hnext.out.2.1]; exact HK2.out.2, hb2⟩
        case measure => simp [intOf]; omega
    · have hte : t = T := by omega
      have hrun := keptL_run (g := g) (z := ((0, 0) : Int × Int)) (l := code) (f := f) n hf (by rw [← HNN.out]; omega) (goneL_same (by rw [HL.out, ← HT.out, hte]))
      obtain ⟨hr1, hr2⟩ := hrun
      obtain ⟨m, hmd⟩ : ∃ m, m = n - f := ⟨_, rfl⟩
      obtain ⟨c, hcd⟩ : ∃ c, c = news g f := ⟨_, rfl⟩
      have hcm : N = c + m := by rw [HN.out, hr2, hcd, hmd]
      have hcl : (codeVals ((code.drop f).take (n - f))).length = m * 2 := by
        rw [codeVals_len, List.length_take, List.length_drop, ← HNN.out]
        omega
      have hof : o + m * 2 ≤ N * 2 := by
        by_cases h0 : m = 0
        · omega
        · have := HO.out (by omega)
          omega
      obtain ⟨w2, hw2⟩ : ∃ w2, w2 = wr.setRow w.heap.size (splice cur.toList o (codeVals ((code.drop f).take (n - f)))).toArray := ⟨_, rfl⟩
      have hsrc := code_part (HC.out.mono hb) hf (by rw [← HNN.out]; exact Nat.le_refl _)
      have hblk2 : w2.heap[w.heap.size]? = some (.cells (splice cur.toList o (codeVals ((code.drop f).take (n - f)))).toArray 44 (0, 0)) := by rw [hw2]; exact setRow_heap wr w.heap.size _ _ 44 _ hblkr
      have hb2 : Below w.heap.size w w2 := by rw [hw2]; exact below_setRow hb (Nat.le_refl _) _
      have HK2 : Hid ((splice cur.toList o (codeVals ((code.drop f).take (n - f)))).length = N * 2 ∧ (splice cur.toList o (codeVals ((code.drop f).take (n - f)))).take (N * 2) = codeVals (keptL g (0, 0) code n)) := by
        have hl2 : cur.toList.length = N * 2 := by simpa using hszr
        refine ⟨by rw [length_splice _ _ _ (by rw [hcl]; omega)]; exact hl2, ?_⟩
        rw [hr1, codeVals_app, ← HK.out]
        by_cases h0 : m = 0
        · have e0 : codeVals ((code.drop f).take (n - f)) = [] := List.eq_nil_of_length_eq_zero (by rw [hcl]; omega)
          rw [e0]
          have e1 : splice cur.toList o ([] : List Value) = cur.toList := by simp [splice]
          rw [e1, hcm, ← hcd, h0]
          simp
        · have ho := HO.out (by omega)
          have := splice_take cur.toList o (codeVals ((code.drop f).take (n - f))) (by rw [hcl]; omega)
          rw [hcl] at this
          rw [show N * 2 = o + m * 2 by omega, this, ho]
      have HOWN : Hid (w2.ownsRow w.heap.size 44 2 (.slice (some ⟨w.heap.size, 0, none⟩) N N) N (codeVals (keptL g (0, 0) code n))) := by
        refine ⟨by rw [codeVals_len, keptL_len, ← HN.out], .inr ⟨w.heap.size, N, _, rfl, Nat.le_refl _, hblk2, Nat.le_refl _, by unfold maxLen; omega, ?_, ?_⟩⟩
        · have := HK2.out.1
          simpa using this
        · have := HK2.out.2
          simpa using this
      have HB2 := hid hb2
      by_cases hfc : f < cc
      · have hrunC : (Builtin.copy_ #[38, 38] 3 #[.slice (some ⟨w.heap.size, o, none⟩) (N - c) (N - c), .slice (some ⟨b, off + f * 2, none⟩) (n - f) (cc - f)]).run Tryz.prog wr = .ok (.int .i64 ((m : Nat) : Int)) w2 := by
          have hq := run_copy2 (P := Tryz.prog) wr 38 38 3 44 w.heap.size o (N - c) (N - c) ⟨b, off + f * 2, none⟩ (n - f) (cc - f) cur 44 (codeVals ((code.drop f).take (n - f))) Tryz.underlying38 size44 hblkr (by omega) (by rw [hcl, hmd]) hsrc (by rw [hcl]; omega) codeVals_one
          rw [hq, ← hw2, hmd]
          rfl
        rw [← hcd] at hNf ⊢
        clear hw2 hcl hcm hcd hmd HK hblkr hblk2 hb2 hsrc hr1 hr2
        go_wp2_with fail
        go_ret
        exact ⟨w.heap.size, rfl, HOWN.out, HB2.out⟩
      · have hfn : f = n := by omega
        have hm0 : m = 0 := by omega
        have e0 : codeVals ((code.drop f).take (n - f)) = [] := List.eq_nil_of_length_eq_zero (by rw [hcl]; omega)
        have hrunC : (Builtin.copy_ #[38, 38] 3 #[.slice (some ⟨w.heap.size, o, none⟩) (N - c) (N - c), .slice (some ⟨b, off, none⟩) (n - f) (cc - f)]).run Tryz.prog wr = .ok (.int .i64 ((m : Nat) : Int)) w2 := by
          have hq := run_copy2 (P := Tryz.prog) wr 38 38 3 44 w.heap.size o (N - c) (N - c) ⟨b, off, none⟩ (n - f) (cc - f) cur 44 (codeVals ((code.drop f).take (n - f))) Tryz.underlying38 size44 hblkr (by omega) (by rw [hcl, hmd]) (by rw [e0]; intro j v h; simp at h) (by rw [hcl]; omega) codeVals_one
          rw [hq, ← hw2, hmd]
          rfl
        rw [← hcd] at hNf ⊢
        clear hw2 hcl hcm hcd hmd HK hblkr hblk2 hb2 hsrc hr1 hr2 hfn hm0 e0
        go_wp2_with fail
        go_ret
        exact ⟨w.heap.size, rfl, HOWN.out, HB2.out⟩
end Go.Proofs.YtjdoljaailokmaaGreatDoor
