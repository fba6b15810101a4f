/-
  A row of memory that holds heights, and what spec.l03Depths returns for a module that is ok: the heights that are told.
  What the library's slices.Repeat, slices.Index, slices.Contains return at the program's calls; impl.leftBy and impl.followersOf.
-/
import Derived.Test.YtffeejkghmpkkaaRV3
import Derived.Test.YtffeejkghmpkkaaRMT3
import Derived.Test.YtffeejkghmpkkaaRW8
import Derived.Deep.RegionHeld3
import Derived.Deep.LoopGhost
import Derived.Shelf.Bits.Mul64
import Derived.Laws.CopyOwn
namespace Go.Proofs.Ytffeejkghmpkkaa
open Go.RowKit

/-- The block 'g' holds the heights 'd'. -/
def Ht (w : World) (g cap : Nat) (d : List Int) : Prop := ∃ cur : Array Value, w.heap[g]? = some (Obj.cells cur 3 (0, 0)) ∧ cur.size = cap ∧ d.length ≤ cap ∧ ∀ j (h : j < d.length), cur[j]? = some (.int .i64 d[j])

theorem Ht.mono {w w' : World} {g cap : Nat} {d : List Int} (h : Ht w g cap d) (hb : Below w.heap.size w w') : Ht w' g cap d := by
  obtain ⟨c, h1, h2⟩ := h
  exact ⟨c, block_kept h1 hb, h2⟩
theorem Ht.lt {w : World} {g cap : Nat} {d : List Int} (h : Ht w g cap d) : g < w.heap.size := by
  obtain ⟨c, h1, -⟩ := h
  exact lt_block h1
theorem Ht.cell {w : World} {g cap : Nat} {d : List Int} (h : Ht w g cap d) {j : Nat} (hj : j < d.length) : w.cell? ⟨g, j, none⟩ = some (.int .i64 d[j]) := by
  obtain ⟨c, h1, -, -, h4⟩ := h
  rw [block_cell h1]
  exact h4 j hj
theorem Ht.free {w : World} {g cap : Nat} {d : List Int} (h : Ht w g cap d) (j : Nat) : w.frozen? ⟨g, j, none⟩ = false := by
  obtain ⟨c, h1, -⟩ := h
  exact block_free h1 j
theorem Ht.set {w : World} {g cap : Nat} {d : List Int} (h : Ht w g cap d) {j : Nat} (hj : j < d.length) (x : Int) : Ht (w.setCell ⟨g, j, none⟩ (.int .i64 x)) g cap (d.set j x) := by
  obtain ⟨c, h1, h2, h3, h4⟩ := h
  refine ⟨_, block_set h1 _, by simpa using h2, by simpa using h3, fun i hi => ?_⟩
  rw [List.length_set] at hi
  by_cases e : i = j
  · subst e
    rw [set_self _ (by omega)]
    simp
  · rw [set_else _ e, List.getElem_set_ne (fun q => e q.symm)]
    exact h4 i hi
theorem Ht.ints {w : World} {g cap lo : Nat} {d : List Int} (h : Ht w g cap d) (hg : lo ≤ g) : IntsAt w lo (some ⟨g, 0, none⟩) d := fun i hi => ⟨g, 0, rfl, hg, by rw [Nat.zero_add]; exact h.cell hi⟩
theorem Ht.own {w : World} {B n : Nat} {v : Value} {vs : List Value} {d : List Int} (h : w.ownsRow B 3 1 v n vs) (hv : vs = d.map (Value.int .i64)) (hn : n = d.length) (h0 : 0 < n) : ∃ g cap, v = .slice (some ⟨g, 0, none⟩) n cap ∧ B ≤ g ∧ Ht w g cap d := by
  subst hv
  subst hn
  rcases h.2 with ⟨-, hn⟩ | ⟨g, cap, cur, hv, hb, hh, hn, -, hs, htake⟩
  · omega
  · refine ⟨g, cap, hv, hb, cur, hh, by omega, hn, fun i hi => ?_⟩
    have h1 : (cur.toList.take (d.length * 1))[i]? = (d.map (Value.int .i64))[i]? := by rw [htake]
    rw [List.getElem?_take_of_lt (by omega)] at h1
    simpa [hi] using h1

theorem stepB_no {fs : List Fn} {x : Int × Int} {pc : Nat} {h : List Int} {z t l : Int} (hz : h.getD pc (-1) = z) (ht : (usesB fs x.1 x.2).1 = t) (hl : (usesB fs x.1 x.2).2 = l) (hc : z < t ∨ 16 < z - t + l) : stepB fs x pc h = h := by
  unfold stepB
  rw [hz, ht, hl, if_pos hc]
theorem stepB_yes {fs : List Fn} {x : Int × Int} {pc : Nat} {h : List Int} {z t l : Int} (hz : h.getD pc (-1) = z) (ht : (usesB fs x.1 x.2).1 = t) (hl : (usesB fs x.1 x.2).2 = l) (hc : ¬ (z < t ∨ 16 < z - t + l)) : stepB fs x pc h = (nextB x.1 x.2 pc).foldl (layB (z - t + l)) h := by
  unfold stepB
  rw [hz, ht, hl, if_neg hc]
theorem part_succ {fs : List Fn} {code : List (Int × Int)} {k : Nat} (hk : k < code.length) (h : List Int) : partB fs code (k + 1) h = stepB fs code[k] k (partB fs code k h) := by
  show stepB fs (code.getD k (0, 0)) k (partB fs code k h) = _
  rw [getD_code hk]

/-- What may follow an instruction of a function lies in it, or just behind it. -/
theorem next_in {fs : List Fn} {code : List (Int × Int)} (F : Fine fs code) {k : Nat} (hk : k < code.length) : ∀ nx ∈ nextB code[k].1 code[k].2 k, 0 ≤ nx ∧ nx ≤ code.length := by
  intro nx hnx
  unfold nextB at hnx
  split at hnx
  · simp at hnx
  · split at hnx
    · simp at hnx; have := F.jump k hk (by omega); omega
    · split at hnx
      · simp at hnx
        rcases hnx with h | h
        · omega
        · have := F.jump k hk (by omega); omega
      · simp at hnx; omega

theorem fold_take {α β : Type} {f : β → α → β} {l : List α} {k : Nat} (hk : k < l.length) (b : β) : (l.take (k + 1)).foldl f b = f ((l.take k).foldl f b) l[k] := by
  rw [List.take_succ_eq_append_getElem hk, List.foldl_append]
  rfl
end Go.Proofs.Ytffeejkghmpkkaa

namespace Go.Proofs.Ytffeejkghmpkkaa
open Go.RowKit

set_option maxHeartbeats 1000000 in
theorem mul64_one (n : Nat) (hn : n ≤ 1048576) (w : World) :
    Calls Try.prog 77 #[.int .u64 1, .int .u64 n] w fun e w' => e = .returned (.tuple #[.int .u64 0, .int .u64 n]) ∧ w' = w := by
  have h0 : bits .and .u64 0 4294967295 = 0 := Mul64.maskN 0 (by omega)
  have h1 : bits .and .u64 1 4294967295 = 1 := Mul64.maskN 1 (by omega)
  have h2 := Mul64.maskN n (by omega)
  rw [Nat.mod_eq_of_lt (by omega)] at h2
  have h3 := Mul64.wrapN n (by omega)
  have h4 : (n : Int) / 4294967296 = 0 := by omega
  have h5 : IntKind.u64.wrap 0 = 0 := Mul64.wrapN 0 (by omega)
  go_enter Try.func77, Try.ntmps77
  go_wp2
  go_ret2
  exact ⟨rfl, rfl⟩

set_option maxHeartbeats 1000000 in
theorem mul_one (n : Nat) (hn : n ≤ 1048576) (w : World) :
    Calls Try.prog 69 #[.int .u64 1, .int .u64 n] w fun e w' => e = .returned (.tuple #[.int .u64 0, .int .u64 n]) ∧ w' = w := by
  go_enter Try.func69, Try.ntmps69
  go_wp2_with (go_at_call 77; refine (mul64_one n hn _).mono ?_; rintro e w1 ⟨rfl, rfl⟩)
  go_ret2
  exact ⟨rfl, rfl⟩

/-- What impl.leftBy answers. -/
def LeftPost (fs : List Fn) (op a z : Int) (e : Ending) : Prop :=
  if z < (usesB fs op a).1 ∨ 16 < z - (usesB fs op a).1 + (usesB fs op a).2 then ∃ q, e = .returned (.tuple #[.int .i64 q, .bool false])
  else e = .returned (.tuple #[.int .i64 (z - (usesB fs op a).1 + (usesB fs op a).2), .bool true])

theorem ret_ib {a b : Int} {x y : Bool} (h : a = b) (k : x = y) : Ending.returned (.tuple #[.int .i64 a, .bool x]) = .returned (.tuple #[.int .i64 b, .bool y]) := by rw [h, k]

set_option maxHeartbeats 1000000 in
theorem iLeft_any (a1 a2 : Option Addr) (nt c1 c2 : Nat) (fs : List Fn) (op a z : Int) (w : World) (hf : FnsAt w 0 a2 fs) (hp : ∀ f ∈ fs, 0 ≤ f.params ∧ f.params ≤ 6) (z0 : -1 ≤ z) (z1 : z ≤ 16) :
    Calls Try.prog 58 #[.agg #[.slice a1 nt c1, .slice a2 fs.length c2], .agg #[.int .i64 op, .int .i64 a], .int .i64 z] w fun e w' => LeftPost fs op a z e ∧ Below w.heap.size w w' := by
  have hbA : Below w.heap.size w ((w.alloc (.cells #[.slice a1 nt c1, .slice a2 fs.length c2] 29)).alloc (.cells #[.int .i64 op, .int .i64 a] 54)) := ((Below.refl _ _).alloc (Nat.le_refl _) _).alloc (by simp) _
  have hU : Hid (∀ W : World, FnsAt W 0 a2 fs → Calls Try.prog 70 #[.agg #[.slice a1 nt c1, .slice a2 fs.length c2], .agg #[.int .i64 op, .int .i64 a]] W fun e w' => e = .returned (.tuple #[.int .i64 (usesB fs op a).1, .int .i64 (usesB fs op a).2]) ∧ Below W.heap.size W w') := fun W hW => iUses_any a1 a2 nt c1 c2 fs op a W hW
  have hL : Hid (LeftPost fs op a z = fun e => if z < (usesB fs op a).1 ∨ 16 < z - (usesB fs op a).1 + (usesB fs op a).2 then ∃ q, e = .returned (.tuple #[.int .i64 q, .bool false]) else e = .returned (.tuple #[.int .i64 (z - (usesB fs op a).1 + (usesB fs op a).2), .bool true])) := rfl
  obtain ⟨u0, u1, u2, u3⟩ := usesB_ok hp op a
  generalize (usesB fs op a).1 = t at *
  generalize (usesB fs op a).2 = l at *
  rcases (show z < 0 ∨ (0 ≤ z ∧ z < t) ∨ (0 ≤ z ∧ t ≤ z ∧ 16 < z - t + l) ∨ (0 ≤ z ∧ t ≤ z ∧ z - t + l ≤ 16) by omega) with h1 | ⟨h1, h2⟩ | ⟨h1, h2, h3⟩ | ⟨h1, h2, h3⟩
  all_goals
    first
      | (have hzz : (z == -1) = false := by rw [beq_eq_false_iff_ne]; omega)
      | (have hzz : (z == -1) = true := by rw [beq_iff_eq]; omega)
    go_enter Try.func58, Try.ntmps58
    go_wp2_with (go_at_call 70; refine (hU.out _ (hf.mono hbA)).mono ?_; rintro e w1 ⟨rfl, k1⟩)
    go_ret2
    refine ⟨?_, hbA.trans (k1.mono (by simp; omega))⟩
    rw [hL.out]
    by_cases hc : z < t ∨ 16 < z - t + l
    · refine (if_pos hc).mpr ⟨_, ret_ib rfl ?_⟩
      first | rfl | (rw [decide_eq_false_iff_not]; omega) | (exfalso; omega)
    · refine (if_neg hc).mpr (ret_ib ?_ ?_)
      · first | rfl | omega
      · first | rfl | (rw [decide_eq_true_eq]; omega) | (exfalso; omega)

set_option maxHeartbeats 800000 in
theorem iNext_any (op a : Int) (pc : Nat) (w : World) (hpc : pc ≤ 1048576) :
    Calls Try.prog 59 #[.agg #[.int .i64 op, .int .i64 a], .int .i64 pc] w fun e w' => ∃ ad cap, e = .returned (.slice ad (nextB op a pc).length cap) ∧ IntsAt w' w.heap.size ad (nextB op a pc) ∧ Below w.heap.size w w' := by
  by_cases h25 : op = 25
  · subst h25
    rw [next25]
    go_enter Try.func59, Try.ntmps59
    go_wp2
    go_ret
    exact ⟨_, _, rfl, fun i hi => absurd hi (by simp), (Below.refl _ _).alloc (Nat.le_refl _) _⟩
  by_cases h17 : op = 17
  · subst h17
    rw [next17]
    clear h25
    go_enter Try.func59, Try.ntmps59
    go_wp2
    go_ret
    refine ⟨_, _, rfl, fun i hi => ⟨_, _, rfl, by simp, ?_⟩, ((Below.refl _ _).alloc (Nat.le_refl _) _).alloc (by simp) _⟩
    have hx := block_cell (block_new (w.alloc (.cells #[.int .i64 17, .int .i64 a] 54)) #[.int .i64 a] 3)
    rw [World.size_alloc] at hx
    rw [hx]
    match i, hi with
    | 0, _ => rfl
  by_cases h2 : op = 18 ∨ op = 19
  · rcases h2 with rfl | rfl
    all_goals
      first | rw [next18] | rw [next19]
      clear h25 h17
      go_enter Try.func59, Try.ntmps59
      go_wp2
      go_ret
      refine ⟨_, _, rfl, fun i hi => ⟨_, _, rfl, by simp, ?_⟩, ((Below.refl _ _).alloc (Nat.le_refl _) _).alloc (by simp) _⟩
      rw [show ∀ W : World, ∀ C n, W.heap.size = n → (W.alloc (.cells C 3)).cell? ⟨n, 0 + i, none⟩ = C[0 + i]? from fun W C n h => by subst h; exact block_cell (block_new W C 3) _]
      · match i, hi with
        | 0, _ => rfl
        | 1, _ => rfl
      · simp
  · have h18 : op ≠ 18 := fun h => h2 (Or.inl h)
    have h19 : op ≠ 19 := fun h => h2 (Or.inr h)
    rw [next_else a pc h25 h17 h18 h19]
    have b25 : (op == 25) = false := by simpa using h25
    have b17 : (op == 17) = false := by simpa using h17
    have b18 : (op == 18) = false := by simpa using h18
    have b19 : (op == 19) = false := by simpa using h19
    clear h2 h25 h17 h18 h19
    go_enter Try.func59, Try.ntmps59
    go_wp2
    go_ret
    refine ⟨_, _, rfl, fun i hi => ⟨_, _, rfl, by simp, ?_⟩, ((Below.refl _ _).alloc (Nat.le_refl _) _).alloc (by simp) _⟩
    rw [show ∀ W : World, ∀ C n, W.heap.size = n → (W.alloc (.cells C 3)).cell? ⟨n, 0 + i, none⟩ = C[0 + i]? from fun W C n h => by subst h; exact block_cell (block_new W C 3) _]
    · match i, hi with
      | 0, _ => rfl
    · simp

set_option maxHeartbeats 800000 in
theorem index_any (a : Option Addr) (xs : List Int) (cap : Nat) (v : Int) (w : World) (hn : xs.length ≤ 1048576) (hm : IntsAt w 0 a xs) :
    Calls Try.prog 81 #[.slice a xs.length cap, .int .i64 v] w fun e w' => ∃ r : Int, e = .returned (.int .i64 r) ∧ decide (0 ≤ r) = xs.any (fun x => decide (x = v)) ∧ w' = w := by
  go_enter Try.func81, Try.ntmps81
  go_wp2
  go_loop [8] (fun i => ∃ (k : Nat), k ≤ xs.length ∧ i = .int .i64 k ∧ Hid ((xs.take k).any (fun x => decide (x = v)) = false)) (fun i => xs.length - (intOf i).toNat)
  case atStart => exact ⟨0, by omega, rfl, by show _ = _; simp⟩
  case round =>
    obtain ⟨k, hk, rfl, hno⟩ := hrel
    by_cases hlt : k < xs.length
    · obtain ⟨b, off, rfl, -, c1⟩ := hm k hlt
      by_cases he : xs[k] = v
      · have hb : (v == xs[k]) = true := by rw [beq_iff_eq]; exact he.symm
        have HE : Hid (xs[k] = v) := he
        clear he
        go_wp2
        go_ret
        refine ⟨k, rfl, ?_, rfl⟩
        rw [decide_eq_true (by omega)]
        symm
        rw [List.any_eq_true]
        exact ⟨xs[k], List.getElem_mem hlt, by simpa using HE.out⟩
      · have hb : (v == xs[k]) = false := by rw [beq_eq_false_iff_ne]; exact fun h => he h.symm
        have HE : Hid (¬ xs[k] = v) := he
        clear he
        go_wp2
        go_round
        case rel =>
          refine ⟨k + 1, by omega, by go_num, ?_⟩
          show _ = _
          rw [List.take_succ_eq_append_getElem hlt, List.any_append, hno.out]
          simpa using HE.out
        case measure => simp [intOf]; omega
    · have HE : Hid (xs.any (fun x => decide (x = v)) = false) := by
        have := hno.out
        rw [List.take_of_length_le (by omega)] at this
        exact this
      clear hno
      go_wp2
      go_ret
      exact ⟨-1, rfl, by rw [HE.out]; rfl, rfl⟩

set_option maxHeartbeats 800000 in
theorem contains_any (a : Option Addr) (xs : List Int) (cap : Nat) (v : Int) (w : World) (hn : xs.length ≤ 1048576) (hm : IntsAt w 0 a xs) :
    Calls Try.prog 75 #[.slice a xs.length cap, .int .i64 v] w fun e w' => e = .returned (.bool (xs.any (fun x => decide (x = v)))) ∧ w' = w := by
  go_enter Try.func75, Try.ntmps75
  go_wp2_with fail
  refine (index_any a xs cap v _ hn hm).mono ?_
  rintro e w1 ⟨r, rfl, hr, rfl⟩
  have HR : Hid (decide (0 ≤ r) = xs.any (fun x => decide (x = v))) := hr
  clear hr
  go_wp2
  go_ret
  exact ⟨ret_bool HR.out, rfl⟩
end Go.Proofs.Ytffeejkghmpkkaa
