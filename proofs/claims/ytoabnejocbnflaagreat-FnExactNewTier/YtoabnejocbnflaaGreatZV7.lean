/-
  What the library's slices.Repeat, slices.Index, slices.Contains return at the program's calls; impl.leftBy and impl.followersOf.
-/
import Derived.Test.YtoabnejocbnflaaGreatZNQ5
import Derived.Shelf.Bits.Mul64
import Derived.Laws.CopyOwn
namespace Go.Proofs.YtoabnejocbnflaaGreat
open Go.RowKit

set_option maxHeartbeats 1000000 in
theorem mul64_one (n : Nat) (hn : n ≤ 1048576) (w : World) :
    Calls Tryz.prog 124 #[.int .u64 1, .int .u64 n] w fun e w' => e = .returned (.tuple #[.int .u64 0, .int .u64 n]) ∧ w' = w := by
  have h0 : bits .and .u64 0 4294967295 = 0 := Mul64.maskN 0 (by omega)
  have h1 : bits .and .u64 1 4294967295 = 1 := Mul64.maskN 1 (by omega)
  have h2 := Mul64.maskN n (by omega)
  rw [Nat.mod_eq_of_lt (by omega)] at h2
  have h3 := Mul64.wrapN n (by omega)
  have h4 : (n : Int) / 4294967296 = 0 := by omega
  have h5 : IntKind.u64.wrap 0 = 0 := Mul64.wrapN 0 (by omega)
  go_enter Tryz.func124, Tryz.ntmps124
  go_wp2
  go_ret2
  exact ⟨rfl, rfl⟩

set_option maxHeartbeats 1000000 in
theorem mul_one (n : Nat) (hn : n ≤ 1048576) (w : World) :
    Calls Tryz.prog 117 #[.int .u64 1, .int .u64 n] w fun e w' => e = .returned (.tuple #[.int .u64 0, .int .u64 n]) ∧ w' = w := by
  go_enter Tryz.func117, Tryz.ntmps117
  go_wp2_with (go_at_call 124; refine (mul64_one n hn _).mono ?_; rintro e w1 ⟨rfl, rfl⟩)
  go_ret2
  exact ⟨rfl, rfl⟩

/-- What impl.leftBy answers. -/
def LeftPost (fs : List Fn) (op a z : Int) (e : Ending) : Prop :=
  if z < (usesB fs op a).1 ∨ 16 < z - (usesB fs op a).1 + (usesB fs op a).2 then ∃ q, e = .returned (.tuple #[.int .i64 q, .bool false])
  else e = .returned (.tuple #[.int .i64 (z - (usesB fs op a).1 + (usesB fs op a).2), .bool true])

theorem ret_ib {a b : Int} {x y : Bool} (h : a = b) (k : x = y) : Ending.returned (.tuple #[.int .i64 a, .bool x]) = .returned (.tuple #[.int .i64 b, .bool y]) := by rw [h, k]

set_option maxHeartbeats 1000000 in
theorem iLeft_any (a1 a2 : Option Addr) (nt c1 c2 : Nat) (fs : List Fn) (op a z : Int) (w : World) (hf : FnsAt w 0 a2 fs) (hp : ∀ f ∈ fs, 0 ≤ f.params ∧ f.params ≤ 6) (z0 : -1 ≤ z) (z1 : z ≤ 16) :
    Calls Tryz.prog 109 #[.agg #[.slice a1 nt c1, .slice a2 fs.length c2], .agg #[.int .i64 op, .int .i64 a], .int .i64 z] w fun e w' => LeftPost fs op a z e ∧ Below w.heap.size w w' := by
  have hbA : Below w.heap.size w ((w.alloc (.cells #[.slice a1 nt c1, .slice a2 fs.length c2] 44)).alloc (.cells #[.int .i64 op, .int .i64 a] 135)) := ((Below.refl _ _).alloc (Nat.le_refl _) _).alloc (by simp) _
  have hU : Hid (∀ W : World, FnsAt W 0 a2 fs → Calls Tryz.prog 118 #[.agg #[.slice a1 nt c1, .slice a2 fs.length c2], .agg #[.int .i64 op, .int .i64 a]] W fun e w' => e = .returned (.tuple #[.int .i64 (usesB fs op a).1, .int .i64 (usesB fs op a).2]) ∧ Below W.heap.size W w') := fun W hW => iUses_any a1 a2 nt c1 c2 fs op a W hW
  have hL : Hid (LeftPost fs op a z = fun e => if z < (usesB fs op a).1 ∨ 16 < z - (usesB fs op a).1 + (usesB fs op a).2 then ∃ q, e = .returned (.tuple #[.int .i64 q, .bool false]) else e = .returned (.tuple #[.int .i64 (z - (usesB fs op a).1 + (usesB fs op a).2), .bool true])) := rfl
  obtain ⟨u0, u1, u2, u3⟩ := usesB_ok hp op a
  generalize (usesB fs op a).1 = t at *
  generalize (usesB fs op a).2 = l at *
  rcases (show z < 0 ∨ (0 ≤ z ∧ z < t) ∨ (0 ≤ z ∧ t ≤ z ∧ 16 < z - t + l) ∨ (0 ≤ z ∧ t ≤ z ∧ z - t + l ≤ 16) by omega) with h1 | ⟨h1, h2⟩ | ⟨h1, h2, h3⟩ | ⟨h1, h2, h3⟩
  all_goals
    first
      | (have hzz : (z == -1) = false := by rw [beq_eq_false_iff_ne]; omega)
      | (have hzz : (z == -1) = true := by rw [beq_iff_eq]; omega)
    go_enter Tryz.func109, Tryz.ntmps109
    go_wp2_with (go_at_call 118; refine (hU.out _ (hf.mono hbA)).mono ?_; rintro e w1 ⟨rfl, k1⟩)
    go_ret2
    refine ⟨?_, hbA.trans (k1.mono (by simp; omega))⟩
    rw [hL.out]
    by_cases hc : z < t ∨ 16 < z - t + l
    · refine (if_pos hc).mpr ⟨_, ret_ib rfl ?_⟩
      first | rfl | (rw [decide_eq_false_iff_not]; omega) | (exfalso; omega)
    · refine (if_neg hc).mpr (ret_ib ?_ ?_)
      · first | rfl | omega
      · first | rfl | (rw [decide_eq_true_eq]; omega) | (exfalso; omega)

set_option maxHeartbeats 800000 in
theorem iNext_any (op a : Int) (pc : Nat) (w : World) (hpc : pc ≤ 1048576) :
    Calls Tryz.prog 110 #[.agg #[.int .i64 op, .int .i64 a], .int .i64 pc] w fun e w' => ∃ ad cap, e = .returned (.slice ad (nextB op a pc).length cap) ∧ IntsAt w' w.heap.size ad (nextB op a pc) ∧ Below w.heap.size w w' := by
  by_cases h25 : op = 25
  · subst h25
    rw [next25]
    go_enter Tryz.func110, Tryz.ntmps110
    go_wp2
    go_ret
    exact ⟨_, _, rfl, fun i hi => absurd hi (by simp), (Below.refl _ _).alloc (Nat.le_refl _) _⟩
  by_cases h17 : op = 17
  · subst h17
    rw [next17]
    clear h25
    go_enter Tryz.func110, Tryz.ntmps110
    go_wp2
    go_ret
    refine ⟨_, _, rfl, fun i hi => ⟨_, _, rfl, by simp, ?_⟩, ((Below.refl _ _).alloc (Nat.le_refl _) _).alloc (by simp) _⟩
    have hx := block_cell (block_new (w.alloc (.cells #[.int .i64 17, .int .i64 a] 135)) #[.int .i64 a] 3)
    rw [World.size_alloc] at hx
    rw [hx]
    match i, hi with
    | 0, _ => rfl
  by_cases h2 : op = 18 ∨ op = 19
  · rcases h2 with rfl | rfl
    all_goals
      first | rw [next18] | rw [next19]
      clear h25 h17
      go_enter Tryz.func110, Tryz.ntmps110
      go_wp2
      go_ret
      refine ⟨_, _, rfl, fun i hi => ⟨_, _, rfl, by simp, ?_⟩, ((Below.refl _ _).alloc (Nat.le_refl _) _).alloc (by simp) _⟩
      rw [show ∀ W : World, ∀ C n, W.heap.size = n → (W.alloc (.cells C 3)).cell? ⟨n, 0 + i, none⟩ = C[0 + i]? from fun W C n h => by subst h; exact block_cell (block_new W C 3) _]
      · match i, hi with
        | 0, _ => rfl
        | 1, _ => rfl
      · simp
  · have h18 : op ≠ 18 := fun h => h2 (Or.inl h)
    have h19 : op ≠ 19 := fun h => h2 (Or.inr h)
    rw [next_else a pc h25 h17 h18 h19]
    have b25 : (op == 25) = false := by simpa using h25
    have b17 : (op == 17) = false := by simpa using h17
    have b18 : (op == 18) = false := by simpa using h18
    have b19 : (op == 19) = false := by simpa using h19
    clear h2 h25 h17 h18 h19
    go_enter Tryz.func110, Tryz.ntmps110
    go_wp2
    go_ret
    refine ⟨_, _, rfl, fun i hi => ⟨_, _, rfl, by simp, ?_⟩, ((Below.refl _ _).alloc (Nat.le_refl _) _).alloc (by simp) _⟩
    rw [show ∀ W : World, ∀ C n, W.heap.size = n → (W.alloc (.cells C 3)).cell? ⟨n, 0 + i, none⟩ = C[0 + i]? from fun W C n h => by subst h; exact block_cell (block_new W C 3) _]
    · match i, hi with
      | 0, _ => rfl
    · simp

set_option maxHeartbeats 800000 in
theorem index_any (a : Option Addr) (xs : List Int) (cap : Nat) (v : Int) (w : World) (hn : xs.length ≤ 1048576) (hm : IntsAt w 0 a xs) :
    Calls Tryz.prog 119 #[.slice a xs.length cap, .int .i64 v] w fun e w' => ∃ r : Int, e = .returned (.int .i64 r) ∧ decide (0 ≤ r) = xs.any (fun x => decide (x = v)) ∧ w' = w := by
  go_enter Tryz.func119, Tryz.ntmps119
  go_wp2
  go_loop [8] (fun i => ∃ (k : Nat), k ≤ xs.length ∧ i = .int .i64 k ∧ Hid ((xs.take k).any (fun x => decide (x = v)) = false)) (fun i => xs.length - (intOf i).toNat)
  case atStart => exact ⟨0, by omega, rfl, by show _ = _; simp⟩
  case round =>
    obtain ⟨k, hk, rfl, hno⟩ := hrel
    by_cases hlt : k < xs.length
    · obtain ⟨b, off, rfl, -, c1⟩ := hm k hlt
      by_cases he : xs[k] = v
      · have hb : (v == xs[k]) = true := by rw [beq_iff_eq]; exact he.symm
        have HE : Hid (xs[k] = v) := he
        clear he
        go_wp2
        go_ret
        refine ⟨k, rfl, ?_, rfl⟩
        rw [decide_eq_true (by omega)]
        symm
        rw [List.any_eq_true]
        exact ⟨xs[k], List.getElem_mem hlt, by simpa using HE.out⟩
      · have hb : (v == xs[k]) = false := by rw [beq_eq_false_iff_ne]; exact fun h => he h.symm
        have HE : Hid (¬ xs[k] = v) := he
        clear he
        go_wp2
        go_round
        case rel =>
          refine ⟨k + 1, by omega, by go_num, ?_⟩
          show _ = _
          rw [List.take_succ_eq_append_getElem hlt, List.any_append, hno.out]
          simpa using HE.out
        case measure => simp [intOf]; omega
    · have HE : Hid (xs.any (fun x => decide (x = v)) = false) := by
        have := hno.out
        rw [List.take_of_length_le (by omega)] at this
        exact this
      clear hno
      go_wp2
      go_ret
      exact ⟨-1, rfl, by rw [HE.out]; rfl, rfl⟩

set_option maxHeartbeats 800000 in
theorem contains_any (a : Option Addr) (xs : List Int) (cap : Nat) (v : Int) (w : World) (hn : xs.length ≤ 1048576) (hm : IntsAt w 0 a xs) :
    Calls Tryz.prog 111 #[.slice a xs.length cap, .int .i64 v] w fun e w' => e = .returned (.bool (xs.any (fun x => decide (x = v)))) ∧ w' = w := by
  go_enter Tryz.func111, Tryz.ntmps111
  go_wp2_with fail
  refine (index_any a xs cap v _ hn hm).mono ?_
  rintro e w1 ⟨r, rfl, hr, rfl⟩
  have HR : Hid (decide (0 ≤ r) = xs.any (fun x => decide (x = v))) := hr
  clear hr
  go_wp2
  go_ret
  exact ⟨ret_bool HR.out, rfl⟩
end Go.Proofs.YtoabnejocbnflaaGreat
