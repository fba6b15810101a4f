/-
  What the library's slices.Repeat, slices.Index, slices.Contains return at the program's calls; impl.leftBy and impl.followersOf.
  What the library's slices.Repeat returns at the program's call: a slice of as many numbers, in memory of the call's own.
-/
import Derived.Test.YtmmcockkbhnopaaGreatOV12
import Derived.Shelf.Bits.Mul64
import Derived.Laws.CopyOwn
import Derived.Deep.RegionLaw
namespace Go.Proofs.YtmmcockkbhnopaaGreat
open Go.RowKit

set_option maxHeartbeats 1000000 in
theorem mul64_one (n : Nat) (hn : n ≤ 1048576) (w : World) :
    Calls Tryz.prog 157 #[.int .u64 1, .int .u64 n] w fun e w' => e = .returned (.tuple #[.int .u64 0, .int .u64 n]) ∧ w' = w := by
  have h0 : bits .and .u64 0 4294967295 = 0 := Mul64.maskN 0 (by omega)
  have h1 : bits .and .u64 1 4294967295 = 1 := Mul64.maskN 1 (by omega)
  have h2 := Mul64.maskN n (by omega)
  rw [Nat.mod_eq_of_lt (by omega)] at h2
  have h3 := Mul64.wrapN n (by omega)
  have h4 : (n : Int) / 4294967296 = 0 := by omega
  have h5 : IntKind.u64.wrap 0 = 0 := Mul64.wrapN 0 (by omega)
  go_enter Tryz.func157, Tryz.ntmps157
  go_wp2
  go_ret2
  exact ⟨rfl, rfl⟩

set_option maxHeartbeats 1000000 in
theorem mul_one (n : Nat) (hn : n ≤ 1048576) (w : World) :
    Calls Tryz.prog 141 #[.int .u64 1, .int .u64 n] w fun e w' => e = .returned (.tuple #[.int .u64 0, .int .u64 n]) ∧ w' = w := by
  go_enter Tryz.func141, Tryz.ntmps141
  go_wp2_with (go_at_call 157; refine (mul64_one n hn _).mono ?_; rintro e w1 ⟨rfl, rfl⟩)
  go_ret2
  exact ⟨rfl, rfl⟩

/-- What impl.leftBy answers. -/
def LeftPost (fs : List Fn) (op a z : Int) (e : Ending) : Prop :=
  if z < (usesB fs op a).1 ∨ 16 < z - (usesB fs op a).1 + (usesB fs op a).2 then ∃ q, e = .returned (.tuple #[.int .i64 q, .bool false])
  else e = .returned (.tuple #[.int .i64 (z - (usesB fs op a).1 + (usesB fs op a).2), .bool true])

theorem ret_ib {a b : Int} {x y : Bool} (h : a = b) (k : x = y) : Ending.returned (.tuple #[.int .i64 a, .bool x]) = .returned (.tuple #[.int .i64 b, .bool y]) := by rw [h, k]

set_option maxHeartbeats 1000000 in
theorem iLeft_any (a1 a2 : Option Addr) (nt c1 c2 : Nat) (fs : List Fn) (op a z : Int) (w : World) (hf : FnsAt w 0 a2 fs) (hp : ∀ f ∈ fs, 0 ≤ f.params ∧ f.params ≤ 6) (z0 : -1 ≤ z) (z1 : z ≤ 16) :
    Calls Tryz.prog 125 #[.agg #[.slice a1 nt c1, .slice a2 fs.length c2], .agg #[.int .i64 op, .int .i64 a], .int .i64 z] w fun e w' => LeftPost fs op a z e ∧ Below w.heap.size w w' := by
  have hbA : Below w.heap.size w ((w.alloc (.cells #[.slice a1 nt c1, .slice a2 fs.length c2] 40)).alloc (.cells #[.int .i64 op, .int .i64 a] 152)) := ((Below.refl _ _).alloc (Nat.le_refl _) _).alloc (by simp) _
  have hU : Hid (∀ W : World, FnsAt W 0 a2 fs → Calls Tryz.prog 142 #[.agg #[.slice a1 nt c1, .slice a2 fs.length c2], .agg #[.int .i64 op, .int .i64 a]] W fun e w' => e = .returned (.tuple #[.int .i64 (usesB fs op a).1, .int .i64 (usesB fs op a).2]) ∧ Below W.heap.size W w') := fun W hW => iUses_any a1 a2 nt c1 c2 fs op a W hW
  have hL : Hid (LeftPost fs op a z = fun e => if z < (usesB fs op a).1 ∨ 16 < z - (usesB fs op a).1 + (usesB fs op a).2 then ∃ q, e = .returned (.tuple #[.int .i64 q, .bool false]) else e = .returned (.tuple #[.int .i64 (z - (usesB fs op a).1 + (usesB fs op a).2), .bool true])) := rfl
  obtain ⟨u0, u1, u2, u3⟩ := usesB_ok hp op a
  generalize (usesB fs op a).1 = t at *
  generalize (usesB fs op a).2 = l at *
  rcases (show z < 0 ∨ (0 ≤ z ∧ z < t) ∨ (0 ≤ z ∧ t ≤ z ∧ 16 < z - t + l) ∨ (0 ≤ z ∧ t ≤ z ∧ z - t + l ≤ 16) by omega) with h1 | ⟨h1, h2⟩ | ⟨h1, h2, h3⟩ | ⟨h1, h2, h3⟩
  all_goals
    first
      | (have hzz : (z == -1) = false := by rw [beq_eq_false_iff_ne]; omega)
      | (have hzz : (z == -1) = true := by rw [beq_iff_eq]; omega)
    go_enter Tryz.func125, Tryz.ntmps125
    go_wp2_with (go_at_call 142; refine (hU.out _ (hf.mono hbA)).mono ?_; rintro e w1 ⟨rfl, k1⟩)
    go_ret2
    refine ⟨?_, hbA.trans (k1.mono (by simp; omega))⟩
    rw [hL.out]
    by_cases hc : z < t ∨ 16 < z - t + l
    · refine (if_pos hc).mpr ⟨_, ret_ib rfl ?_⟩
      first | rfl | (rw [decide_eq_false_iff_not]; omega) | (exfalso; omega)
    · refine (if_neg hc).mpr (ret_ib ?_ ?_)
      · first | rfl | omega
      · first | rfl | (rw [decide_eq_true_eq]; omega) | (exfalso; omega)

set_option maxHeartbeats 800000 in
theorem iNext_any (op a : Int) (pc : Nat) (w : World) (hpc : pc ≤ 1048576) :
    Calls Tryz.prog 126 #[.agg #[.int .i64 op, .int .i64 a], .int .i64 pc] w fun e w' => ∃ ad cap, e = .returned (.slice ad (nextB op a pc).length cap) ∧ IntsAt w' w.heap.size ad (nextB op a pc) ∧ Below w.heap.size w w' := by
  by_cases h25 : op = 25
  · subst h25
    rw [next25]
    go_enter Tryz.func126, Tryz.ntmps126
    go_wp2
    go_ret
    exact ⟨_, _, rfl, fun i hi => absurd hi (by simp), (Below.refl _ _).alloc (Nat.le_refl _) _⟩
  by_cases h17 : op = 17
  · subst h17
    rw [next17]
    clear h25
    go_enter Tryz.func126, Tryz.ntmps126
    go_wp2
    go_ret
    refine ⟨_, _, rfl, fun i hi => ⟨_, _, rfl, by simp, ?_⟩, ((Below.refl _ _).alloc (Nat.le_refl _) _).alloc (by simp) _⟩
    have hx := block_cell (block_new (w.alloc (.cells #[.int .i64 17, .int .i64 a] 152)) #[.int .i64 a] 3)
    rw [World.size_alloc] at hx
    rw [hx]
    match i, hi with
    | 0, _ => rfl
  by_cases h2 : op = 18 ∨ op = 19
  · rcases h2 with rfl | rfl
    all_goals
      first | rw [next18] | rw [next19]
      clear h25 h17
      go_enter Tryz.func126, Tryz.ntmps126
      go_wp2
      go_ret
      refine ⟨_, _, rfl, fun i hi => ⟨_, _, rfl, by simp, ?_⟩, ((Below.refl _ _).alloc (Nat.le_refl _) _).alloc (by simp) _⟩
      rw [show ∀ W : World, ∀ C n, W.heap.size = n → (W.alloc (.cells C 3)).cell? ⟨n, 0 + i, none⟩ = C[0 + i]? from fun W C n h => by subst h; exact block_cell (block_new W C 3) _]
      · match i, hi with
        | 0, _ => rfl
        | 1, _ => rfl
      · simp
  · have h18 : op ≠ 18 := fun h => h2 (Or.inl h)
    have h19 : op ≠ 19 := fun h => h2 (Or.inr h)
    rw [next_else a pc h25 h17 h18 h19]
    have b25 : (op == 25) = false := by simpa using h25
    have b17 : (op == 17) = false := by simpa using h17
    have b18 : (op == 18) = false := by simpa using h18
    have b19 : (op == 19) = false := by simpa using h19
    clear h2 h25 h17 h18 h19
    go_enter Tryz.func126, Tryz.ntmps126
    go_wp2
    go_ret
    refine ⟨_, _, rfl, fun i hi => ⟨_, _, rfl, by simp, ?_⟩, ((Below.refl _ _).alloc (Nat.le_refl _) _).alloc (by simp) _⟩
    rw [show ∀ W : World, ∀ C n, W.heap.size = n → (W.alloc (.cells C 3)).cell? ⟨n, 0 + i, none⟩ = C[0 + i]? from fun W C n h => by subst h; exact block_cell (block_new W C 3) _]
    · match i, hi with
      | 0, _ => rfl
    · simp

set_option maxHeartbeats 800000 in
theorem index_any (a : Option Addr) (xs : List Int) (cap : Nat) (v : Int) (w : World) (hn : xs.length ≤ 1048576) (hm : IntsAt w 0 a xs) :
    Calls Tryz.prog 143 #[.slice a xs.length cap, .int .i64 v] w fun e w' => ∃ r : Int, e = .returned (.int .i64 r) ∧ decide (0 ≤ r) = xs.any (fun x => decide (x = v)) ∧ w' = w := by
  go_enter Tryz.func143, Tryz.ntmps143
  go_wp2
  go_loop [8] (fun i => ∃ (k : Nat), k ≤ xs.length ∧ i = .int .i64 k ∧ Hid ((xs.take k).any (fun x => decide (x = v)) = false)) (fun i => xs.length - (intOf i).toNat)
  case atStart => exact ⟨0, by omega, rfl, by show _ = _; simp⟩
  case round =>
    obtain ⟨k, hk, rfl, hno⟩ := hrel
    by_cases hlt : k < xs.length
    · obtain ⟨b, off, rfl, -, c1⟩ := hm k hlt
      by_cases he : xs[k] = v
      · have hb : (v == xs[k]) = true := by rw [beq_iff_eq]; exact he.symm
        have HE : Hid (xs[k] = v) := he
        clear he
        go_wp2
        go_ret
        refine ⟨k, rfl, ?_, rfl⟩
        rw [decide_eq_true (by omega)]
        symm
        rw [List.any_eq_true]
        exact ⟨xs[k], List.getElem_mem hlt, by simpa using HE.out⟩
      · have hb : (v == xs[k]) = false := by rw [beq_eq_false_iff_ne]; exact fun h => he h.symm
        have HE : Hid (¬ xs[k] = v) := he
        clear he
        go_wp2
        go_round
        case rel =>
          refine ⟨k + 1, by omega, by go_num, ?_⟩
          show _ = _
          rw [List.take_succ_eq_append_getElem hlt, List.any_append, hno.out]
          simpa using HE.out
        case measure => simp [intOf]; omega
    · have HE : Hid (xs.any (fun x => decide (x = v)) = false) := by
        have := hno.out
        rw [List.take_of_length_le (by omega)] at this
        exact this
      clear hno
      go_wp2
      go_ret
      exact ⟨-1, rfl, by rw [HE.out]; rfl, rfl⟩

set_option maxHeartbeats 800000 in
theorem contains_any (a : Option Addr) (xs : List Int) (cap : Nat) (v : Int) (w : World) (hn : xs.length ≤ 1048576) (hm : IntsAt w 0 a xs) :
    Calls Tryz.prog 127 #[.slice a xs.length cap, .int .i64 v] w fun e w' => e = .returned (.bool (xs.any (fun x => decide (x = v)))) ∧ w' = w := by
  go_enter Tryz.func127, Tryz.ntmps127
  go_wp2_with fail
  refine (index_any a xs cap v _ hn hm).mono ?_
  rintro e w1 ⟨r, rfl, hr, rfl⟩
  have HR : Hid (decide (0 ≤ r) = xs.any (fun x => decide (x = v))) := hr
  clear hr
  go_wp2
  go_ret
  exact ⟨ret_bool HR.out, rfl⟩
end Go.Proofs.YtmmcockkbhnopaaGreat

namespace Go.Proofs.YtmmcockkbhnopaaGreat
open Go.RowKit

theorem size3 : (Tryz.prog.info? 3).map (·.size) = some 1 := by kernel_rfl

theorem splice_get {v : Value} {cur cs : List Value} {k : Nat} (hk : k + cs.length ≤ cur.length) (h1 : ∀ j, j < k → cur[j]? = some v) (h2 : ∀ x ∈ cs, x = v) : ∀ j, j < k + cs.length → (splice cur k cs)[j]? = some v := by
  intro j hj
  unfold splice
  by_cases hjk : j < k
  · rw [List.getElem?_append_left (by simp; omega), List.getElem?_take_of_lt hjk]
    exact h1 j hjk
  · rw [List.getElem?_append_right (by simp; omega)]
    rw [List.getElem?_append_left (by simp; omega)]
    rw [List.getElem?_eq_getElem (by simp; omega)]
    exact congrArg some (h2 _ (List.getElem_mem _))

theorem add_at (b o j : Nat) : (⟨b, o, none⟩ : Addr).add j = ⟨b, o + j, none⟩ := Go.WideShapes.add_plain b o j
theorem one_cell {w : World} {b : Nat} {x : Value} (h : w.cell? ⟨b, 0, none⟩ = some x) : ∀ (j : Nat) (u : Value), [x][j]? = some u → w.cell? ((⟨b, 0, none⟩ : Addr).add j) = some u := by
  intro j u hj
  match j, hj with
  | 0, hj =>
    simp at hj
    subst hj
    rw [add_at]
    exact h
  | j + 1, hj => simp at hj

theorem copy_first {w0 w1 : World} {g b n : Nat} {cur : Array Value} {v : Int} (hn : 1 ≤ n) (hg : w1.heap[g]? = some (.cells cur 3 (0, 0))) (hsz : cur.size = n) (hc : w1.cell? ⟨b, 0, none⟩ = some (.int .i64 v)) (hb : Below g w0 w1) :
    ∃ w2, (Builtin.copy_ #[156, 156] 3 #[.slice (some ⟨g, 0, none⟩) n n, .slice (some ⟨b, 0, none⟩) 1 1]).run Tryz.prog w1 = .ok (.int .i64 1) w2 ∧ Hid (w2.heap[g]? = some (.cells (splice cur.toList 0 [.int .i64 v]).toArray 3 (0, 0))) ∧ Below g w0 w2 := by
  have hrun := run_copy_row (P := Tryz.prog) w1 156 156 3 3 g 0 n n ⟨b, 0, none⟩ 1 1 cur 3 [.int .i64 v] Tryz.underlying156 size3 hg (by show 1 = Nat.min 1 n; exact (Nat.min_eq_left hn).symm) (one_cell hc) (by simp; omega) (by intro u hu; simp at hu; subst hu; rfl)
  refine ⟨_, hrun, ?_, below_setRow hb (Nat.le_refl _) _⟩
  show _ = _
  simpa [splice] using setRow_heap w1 g _ _ 3 _ hg

set_option maxRecDepth 100000 in
set_option maxHeartbeats 400000 in
theorem repeat_any (b n : Nat) (v : Int) (w : World) (h1 : 1 ≤ n) (hn : n ≤ 120) (hc : w.cell? ⟨b, 0, none⟩ = some (.int .i64 v)) :
    Calls Tryz.prog 124 #[.slice (some ⟨b, 0, none⟩) 1 1, .int .i64 n] w fun e w' => ∃ g, e = .returned (.slice (some ⟨g, 0, none⟩) n n) ∧ w.heap.size ≤ g ∧ Ht w' g n (List.replicate n v) ∧ Below w.heap.size w w' := by
  obtain ⟨i0, hi, hz0, hz1, hz2⟩ := info_parts info3
  have hw1 : IntKind.u64.wrap 1 = 1 := Mul64.wrapN 1 (by omega)
  have hwn := Mul64.wrapN n (by omega)
  go_enter Tryz.func124, Tryz.ntmps124
  go_wp2_with (first | (go_at_call 141; refine (mul_one n (by omega) _).mono ?_; rintro e w1 ⟨rfl, hw⟩; rw [hw]; clear hw w1) | (at_make; refine wpList_make_full _ rfl _ _ 156 rfl w.heap.size 3 i0 (.int .i64 0) 1 Tryz.underlying156 hi hz0 hz1 _ _ _ _ n rfl rfl rfl rfl (by rw [hz2]; omega) (by unfold maxLen; omega) (Nat.le_refl _) ?_; intro w1 hown hgrow; obtain ⟨cur0, hblk, hsz⟩ := made_block hown; have hb0 : Below w.heap.size w w1 := (Below.refl _ _).grown hgrow (Nat.le_refl _) (by intro k hk; cases hk); have hc1 := cell_later hb0 hc; obtain ⟨w2, hrun, hg2, hb2⟩ := copy_first h1 hblk (by omega) hc1 hb0; have HZ : Hid (cur0.size = n) := (show cur0.size = n by omega); clear hown hgrow hsz hc1 hblk))
  go_loopw [8] (fun i wr => ∃ (k : Nat) (cur : List Value), 1 ≤ k ∧ k ≤ n ∧ i = .int .i64 k ∧ Hid (wr.heap[w.heap.size]? = some (.cells cur.toArray 3 (0, 0))) ∧ Hid (cur.length = n) ∧ Hid (∀ j, j < k → cur[j]? = some (.int .i64 v)) ∧ Below w.heap.size w wr) (fun i _ => n - (intOf i).toNat)
  case atStart =>
    have hl0 : cur0.toList.length = n := by rw [Array.length_toList]; exact HZ.out
    refine ⟨1, _, Nat.le_refl _, h1, rfl, hg2, ?_, ?_, hb2⟩
    · show _ = _
      rw [length_splice _ _ _ (by rw [hl0]; simpa using h1)]
      exact hl0
    · exact splice_get (cur := cur0.toList) (cs := [.int .i64 v]) (k := 0) (by rw [hl0]; simpa using h1) (fun j hj => absurd hj (Nat.not_lt_zero _)) (by simp)
  case round =>
    obtain ⟨k, cur, hk1, hkn, rfl, hg, hlen, hall, hb⟩ := hrel
    by_cases hlt : k < n
    · obtain ⟨m, hm⟩ : ∃ m, m = Nat.min k (n - k) := ⟨_, rfl⟩
      have hm1 : 1 ≤ m := by rw [hm]; exact Nat.le_min.2 ⟨hk1, by omega⟩
      have hm2 : m ≤ n - k := by rw [hm]; exact Nat.min_le_right _ _
      have hm3 : m ≤ k := by rw [hm]; exact Nat.min_le_left _ _
      have HM : Hid (m = Nat.min k (n - k)) := hm
      have HC : Hid (∀ W : World, W.heap[w.heap.size]? = some (.cells cur.toArray 3 (0, 0)) → ∀ (j : Nat) (u : Value), (List.replicate m (Value.int .i64 v))[j]? = some u → W.cell? ((⟨w.heap.size, 0, none⟩ : Addr).add j) = some u) := by
        intro W hW j u hj
        rw [List.getElem?_replicate] at hj
        split at hj
        · cases hj
          rw [add_at, block_cell hW, Nat.zero_add, List.getElem?_toArray]
          exact hall.out j (by omega)
        · cases hj
      clear hm
      have hne : ¬ n = k := by omega
      have hkm : (k : Int) + (m : Int) ≤ 120 := by omega
      have hwr : IntKind.i64.wrap ((k : Int) + (m : Int)) = (k : Int) + (m : Int) := by rw [IntKind.wrap_i64]; omega
      go_wp2
      go_region_law (refine step_copy_splice (by rfl) (.tmp 41) (.tmp 44) 156 156 (by rfl) 3 Tryz.underlying156 size3 (some ⟨w.heap.size, k, none⟩) (some ⟨w.heap.size, 0, none⟩) (n - k) (n - k) k n (by go_simp) (by go_simp) w.heap.size k cur 3 (by exact hg.out) (List.replicate m (.int .i64 v)) (by rw [List.length_replicate]; exact HM.out) (fun _ => ⟨by rfl, ⟨w.heap.size, 0, none⟩, by rfl, HC.out _ (by exact hg.out)⟩) (by rw [List.length_replicate, hlen.out]; omega) (by intro u hu; rw [(List.mem_replicate.1 hu).2]; rfl) w.heap.size w (by exact hb.drew) (Nat.le_refl _) ?_; intro w3 hg3 hb3)
      all_goals
        go_simp
        go_wp2
        go_roundw
        case rel =>
          have hl0 : k + (List.replicate m (Value.int .i64 v)).length ≤ cur.length := by rw [List.length_replicate, hlen.out]; omega
          refine ⟨k + m, splice cur k (List.replicate m (Value.int .i64 v)), by omega, by omega, by simp, hg3, ?_, ?_, hb3⟩
          · show _ = _
            rw [length_splice _ _ _ hl0]
            exact hlen.out
          · have := splice_get hl0 hall.out (fun x hx => (List.mem_replicate.1 hx).2)
            rw [List.length_replicate] at this
            exact this
        case measure => simp [intOf]; omega
    · have hkn2 : k = n := by omega
      subst hkn2
      go_wp2
      go_ret
      refine ⟨w.heap.size, rfl, Nat.le_refl _, ⟨cur.toArray, hg.out, by rw [List.size_toArray]; exact hlen.out, by simp, fun j hj => ?_⟩, hb⟩
      rw [List.length_replicate] at hj
      rw [List.getElem?_toArray, hall.out j hj, List.getElem_replicate]
end Go.Proofs.YtmmcockkbhnopaaGreat
