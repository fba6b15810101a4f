/-
  What the library's slices.Repeat returns at the program's call: a slice of as many numbers, in memory of the call's own.
-/
import Derived.Test.YtoabnejocbnflaaGreatZV7
import Derived.Deep.RegionLaw
namespace Go.Proofs.YtoabnejocbnflaaGreat
open Go.RowKit

theorem size3 : (Tryz.prog.info? 3).map (·.size) = some 1 := by kernel_rfl

theorem splice_get {v : Value} {cur cs : List Value} {k : Nat} (hk : k + cs.length ≤ cur.length) (h1 : ∀ j, j < k → cur[j]? = some v) (h2 : ∀ x ∈ cs, x = v) : ∀ j, j < k + cs.length → (splice cur k cs)[j]? = some v := by
  intro j hj
  unfold splice
  by_cases hjk : j < k
  · rw [List.getElem?_append_left (by simp; omega), List.getElem?_take_of_lt hjk]
    exact h1 j hjk
  · rw [List.getElem?_append_right (by simp; omega)]
    rw [List.getElem?_append_left (by simp; omega)]
    rw [List.getElem?_eq_getElem (by simp; omega)]
    exact congrArg some (h2 _ (List.getElem_mem _))

theorem add_at (b o j : Nat) : (⟨b, o, none⟩ : Addr).add j = ⟨b, o + j, none⟩ := Go.WideShapes.add_plain b o j
theorem one_cell {w : World} {b : Nat} {x : Value} (h : w.cell? ⟨b, 0, none⟩ = some x) : ∀ (j : Nat) (u : Value), [x][j]? = some u → w.cell? ((⟨b, 0, none⟩ : Addr).add j) = some u := by
  intro j u hj
  match j, hj with
  | 0, hj =>
    simp at hj
    subst hj
    rw [add_at]
    exact h
  | j + 1, hj => simp at hj

theorem copy_first {w0 w1 : World} {g b n : Nat} {cur : Array Value} {v : Int} (hn : 1 ≤ n) (hg : w1.heap[g]? = some (.cells cur 3 (0, 0))) (hsz : cur.size = n) (hc : w1.cell? ⟨b, 0, none⟩ = some (.int .i64 v)) (hb : Below g w0 w1) :
    ∃ w2, (Builtin.copy_ #[146, 146] 3 #[.slice (some ⟨g, 0, none⟩) n n, .slice (some ⟨b, 0, none⟩) 1 1]).run Tryz.prog w1 = .ok (.int .i64 1) w2 ∧ Hid (w2.heap[g]? = some (.cells (splice cur.toList 0 [.int .i64 v]).toArray 3 (0, 0))) ∧ Below g w0 w2 := by
  have hrun := run_copy_row (P := Tryz.prog) w1 146 146 3 3 g 0 n n ⟨b, 0, none⟩ 1 1 cur 3 [.int .i64 v] Tryz.underlying146 size3 hg (by show 1 = Nat.min 1 n; exact (Nat.min_eq_left hn).symm) (one_cell hc) (by simp; omega) (by intro u hu; simp at hu; subst hu; rfl)
  refine ⟨_, hrun, ?_, below_setRow hb (Nat.le_refl _) _⟩
  show _ = _
  simpa [splice] using setRow_heap w1 g _ _ 3 _ hg

set_option maxRecDepth 100000 in
set_option maxHeartbeats 400000 in
theorem repeat_any (b n : Nat) (v : Int) (w : World) (h1 : 1 ≤ n) (hn : n ≤ 120) (hc : w.cell? ⟨b, 0, none⟩ = some (.int .i64 v)) :
    Calls Tryz.prog 108 #[.slice (some ⟨b, 0, none⟩) 1 1, .int .i64 n] w fun e w' => ∃ g, e = .returned (.slice (some ⟨g, 0, none⟩) n n) ∧ w.heap.size ≤ g ∧ Ht w' g n (List.replicate n v) ∧ Below w.heap.size w w' := by
  obtain ⟨i0, hi, hz0, hz1, hz2⟩ := info_parts info3
  have hw1 : IntKind.u64.wrap 1 = 1 := Mul64.wrapN 1 (by omega)
  have hwn := Mul64.wrapN n (by omega)
  go_enter Tryz.func108, Tryz.ntmps108
  go_wp2_with (first | (go_at_call 117; refine (mul_one n (by omega) _).mono ?_; rintro e w1 ⟨rfl, hw⟩; rw [hw]; clear hw w1) | (at_make; refine wpList_make_full _ rfl _ _ 146 rfl w.heap.size 3 i0 (.int .i64 0) 1 Tryz.underlying146 hi hz0 hz1 _ _ _ _ n rfl rfl rfl rfl (by rw [hz2]; omega) (by unfold maxLen; omega) (Nat.le_refl _) ?_; intro w1 hown hgrow; obtain ⟨cur0, hblk, hsz⟩ := made_block hown; have hb0 : Below w.heap.size w w1 := (Below.refl _ _).grown hgrow (Nat.le_refl _) (by intro k hk; cases hk); have hc1 := cell_later hb0 hc; obtain ⟨w2, hrun, hg2, hb2⟩ := copy_first h1 hblk (by omega) hc1 hb0; have HZ : Hid (cur0.size = n) := (show cur0.size = n by omega); clear hown hgrow hsz hc1 hblk))
  go_loopw [8] (fun i wr => ∃ (k : Nat) (cur : List Value), 1 ≤ k ∧ k ≤ n ∧ i = .int .i64 k ∧ Hid (wr.heap[w.heap.size]? = some (.cells cur.toArray 3 (0, 0))) ∧ Hid (cur.length = n) ∧ Hid (∀ j, j < k → cur[j]? = some (.int .i64 v)) ∧ Below w.heap.size w wr) (fun i _ => n - (intOf i).toNat)
  case atStart =>
    have hl0 : cur0.toList.length = n := by rw [Array.length_toList]; exact HZ.out
    refine ⟨1, _, Nat.le_refl _, h1, rfl, hg2, ?_, ?_, hb2⟩
    · show _ = _
      rw [length_splice _ _ _ (by rw [hl0]; simpa using h1)]
      exact hl0
    · exact splice_get (cur := cur0.toList) (cs := [.int .i64 v]) (k := 0) (by rw [hl0]; simpa using h1) (fun j hj => absurd hj (Nat.not_lt_zero _)) (by simp)
  case round =>
    obtain ⟨k, cur, hk1, hkn, rfl, hg, hlen, hall, hb⟩ := hrel
    by_cases hlt : k < n
    · obtain ⟨m, hm⟩ : ∃ m, m = Nat.min k (n - k) := ⟨_, rfl⟩
      have hm1 : 1 ≤ m := by rw [hm]; exact Nat.le_min.2 ⟨hk1, by omega⟩
      have hm2 : m ≤ n - k := by rw [hm]; exact Nat.min_le_right _ _
      have hm3 : m ≤ k := by rw [hm]; exact Nat.min_le_left _ _
      have HM : Hid (m = Nat.min k (n - k)) := hm
      have HC : Hid (∀ W : World, W.heap[w.heap.size]? = some (.cells cur.toArray 3 (0, 0)) → ∀ (j : Nat) (u : Value), (List.replicate m (Value.int .i64 v))[j]? = some u → W.cell? ((⟨w.heap.size, 0, none⟩ : Addr).add j) = some u) := by
        intro W hW j u hj
        rw [List.getElem?_replicate] at hj
        split at hj
        · cases hj
          rw [add_at, block_cell hW, Nat.zero_add, List.getElem?_toArray]
          exact hall.out j (by omega)
        · cases hj
      clear hm
      have hne : ¬ n = k := by omega
      have hkm : (k : Int) + (m : Int) ≤ 120 := by omega
      have hwr : IntKind.i64.wrap ((k : Int) + (m : Int)) = (k : Int) + (m : Int) := by rw [IntKind.wrap_i64]; omega
      go_wp2
      go_region_law (refine step_copy_splice (by rfl) (.tmp 41) (.tmp 44) 146 146 (by rfl) 3 Tryz.underlying146 size3 (some ⟨w.heap.size, k, none⟩) (some ⟨w.heap.size, 0, none⟩) (n - k) (n - k) k n (by go_simp) (by go_simp) w.heap.size k cur 3 (by exact hg.out) (List.replicate m (.int .i64 v)) (by rw [List.length_replicate]; exact HM.out) (fun _ => ⟨by rfl, ⟨w.heap.size, 0, none⟩, by rfl, HC.out _ (by exact hg.out)⟩) (by rw [List.length_replicate, hlen.out]; omega) (by intro u hu; rw [(List.mem_replicate.1 hu).2]; rfl) w.heap.size w (by exact hb.drew) (Nat.le_refl _) ?_; intro w3 hg3 hb3)
      all_goals
        go_simp
        go_wp2
        go_roundw
        case rel =>
          have hl0 : k + (List.replicate m (Value.int .i64 v)).length ≤ cur.length := by rw [List.length_replicate, hlen.out]; omega
          refine ⟨k + m, splice cur k (List.replicate m (Value.int .i64 v)), by omega, by omega, by simp, hg3, ?_, ?_, hb3⟩
          · show _ = _
            rw [length_splice _ _ _ hl0]
            exact hlen.out
          · have := splice_get hl0 hall.out (fun x hx => (List.mem_replicate.1 hx).2)
            rw [List.length_replicate] at this
            exact this
        case measure => simp [intOf]; omega
    · have hkn2 : k = n := by omega
      subst hkn2
      go_wp2
      go_ret
      refine ⟨w.heap.size, rfl, Nat.le_refl _, ⟨cur.toArray, hg.out, by rw [List.size_toArray]; exact hlen.out, by simp, fun j hj => ?_⟩, hb⟩
      rw [List.length_replicate] at hj
      rw [List.getElem?_toArray, hall.out j hj, List.getElem_replicate]
end Go.Proofs.YtoabnejocbnflaaGreat
