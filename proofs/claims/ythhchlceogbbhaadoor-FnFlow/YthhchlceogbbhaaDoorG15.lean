/-
  The laws' sameInts and member.
  What leaders, heads and entries of a function have to do with each other.
-/
import Derived.Test.YthhchlceogbbhaaDoorG12
import Derived.Test.YthhchlceogbbhaaDoorB6
namespace Go.Proofs.YthhchlceogbbhaaDoor
open Go.RowKit

set_option maxHeartbeats 400000 in
theorem sameInts_any (a a2 : Option Addr) (bs : List Int) (cap cap2 : Nat) (w : World) (hn : bs.length ≤ 1048576) (hm : IntsAt w 0 a bs) (hm2 : IntsAt w 0 a2 bs) :
    Calls Tryd.prog 9 #[.slice a bs.length cap, .slice a2 bs.length cap2] w fun e w' => e = .returned (.bool true) ∧ Below w.heap.size w w' := by
  go_enter Tryd.func9, Tryd.ntmps9
  go_wp2
  go_loopw [5] (fun i wr => ∃ (k : Nat), k ≤ bs.length ∧ i = .int .i64 k ∧ Below w.heap.size w wr) (fun i _ => bs.length - (intOf i).toNat)
  case atStart => exact ⟨0, by omega, rfl, Below.refl _ _⟩
  case round =>
    obtain ⟨k, hk, rfl, hb⟩ := hrel
    by_cases hlt : k < bs.length
    · obtain ⟨b, off, rfl, -, c1⟩ := hm k hlt
      obtain ⟨b2, off2, rfl, -, c2⟩ := hm2 k hlt
      have c1' := cell_later hb c1
      have c2' := cell_later hb c2
      clear c1 c2
      go_wp2
      go_quiet (fail)
      go_wp2
      go_roundw
      case rel => exact ⟨k + 1, by omega, by go_num, below_draws hb _⟩
      case measure => simp [intOf]; omega
    · go_wp2
      go_ret
      exact ⟨rfl, hb⟩

set_option maxHeartbeats 400000 in
theorem member_any (a : Option Addr) (l : List Int) (n : Int) (cap : Nat) (w : World) (hn : l.length ≤ 1048576) (hm : IntsAt w 0 a l) :
    Calls Tryd.prog 16 #[.slice a l.length cap, .int .i64 n] w fun e w' => e = .returned (.bool (pB (n ∈ l))) ∧ w' = w := by
  go_enter Tryd.func16, Tryd.ntmps16
  go_wp2
  go_loopw [5] (fun i wr => ∃ (k : Nat), k ≤ l.length ∧ i = .int .i64 k ∧ Hid (∀ j (hj : j < l.length), j < k → l[j] ≠ n) ∧ wr = w) (fun i _ => l.length - (intOf i).toNat)
  case atStart => exact ⟨0, by omega, rfl, fun _ _ h => absurd h (Nat.not_lt_zero _), rfl⟩
  case round =>
    obtain ⟨k, hk, rfl, hno, rfl⟩ := hrel
    by_cases hlt : k < l.length
    · obtain ⟨b, off, rfl, -, c1⟩ := hm k hlt
      obtain ⟨z, hz⟩ : ∃ z, z = l[k] := ⟨_, rfl⟩
      rw [← hz] at c1
      have HZ : Hid (l[k] = z) := hz.symm
      clear hz
      by_cases he : z = n
      · subst he
        have HY : Hid (pB (z ∈ l) = true) := pB_yes (by rw [← HZ.out]; exact List.getElem_mem _)
        go_wp2
        go_ret
        exact ⟨ret_bool HY.out.symm, rfl⟩
      · have he' : (z == n) = false := by simpa using he
        have HNO : Hid (∀ j (hj : j < l.length), j < k + 1 → l[j] ≠ n) := fun j hj hjk => by
          by_cases e : j = k
          · subst e; rw [HZ.out]; exact he
          · exact hno.out j hj (by omega)
        go_wp2
        go_roundw
        case rel => exact ⟨k + 1, by omega, by go_num, HNO.out, trivial⟩
        case measure => simp [intOf]; omega
    · have HY : Hid (pB (n ∈ l) = false) := pB_no (fun h => by
        obtain ⟨j, hj, e⟩ := List.getElem_of_mem h
        exact hno.out j hj (by omega) e)
      go_wp2
      go_ret
      exact ⟨ret_bool HY.out.symm, rfl⟩
end Go.Proofs.YthhchlceogbbhaaDoor

namespace Go.Proofs.YthhchlceogbbhaaDoor
open Go.RowKit

theorem mem_lstI {P : Nat → Prop} {n : Nat} {x : Int} : x ∈ lstI P n ↔ ∃ j : Nat, x = j ∧ j < n ∧ P j := by
  unfold lstI
  rw [List.mem_map]
  constructor
  · rintro ⟨j, hj, rfl⟩
    exact ⟨j, rfl, mem_lst.1 hj⟩
  · rintro ⟨j, rfl, hj⟩
    exact ⟨j, mem_lst.2 hj, rfl⟩
theorem head_lead {code : List (Int × Int)} {d : List Int} : ∀ {k j : Nat}, HP code d k j → LP code d k j
  | 0, _, h => h.elim
  | _ + 1, _, .inl h => .inl (head_lead h)
  | _ + 1, _, .inr ⟨h1, _, h3⟩ => .inr ⟨h1, .inl h3⟩
theorem jump_lead {code : List (Int × Int)} {d : List Int} : ∀ {k pc j : Nat}, pc < k → isJ code d pc → (j : Int) = (code.getD pc (0, 0)).2 → LP code d k j
  | k + 1, pc, j, h, h1, h2 => by
    by_cases e : pc = k
    · subst e; exact .inr ⟨h1, .inl h2⟩
    · exact .inl (jump_lead (by omega) h1 h2)
theorem jump_head {code : List (Int × Int)} {d : List Int} : ∀ {k pc j : Nat}, pc < k → isJ code d pc → (code.getD pc (0, 0)).2 ≤ pc → (j : Int) = (code.getD pc (0, 0)).2 → HP code d k j
  | k + 1, pc, j, h, h1, h2, h3 => by
    by_cases e : pc = k
    · subst e; exact .inr ⟨h1, h2, h3⟩
    · exact .inl (jump_head (by omega) h1 h2 h3)

/-- The list begins with 0. -/
theorem lstI_zero {P : Nat → Prop} {n : Nat} (hn : 1 ≤ n) (h : P 0) : ∃ t, lstI P n = 0 :: t := by
  obtain ⟨t, ht⟩ := lst_head hn h
  exact ⟨t.map fun (j : Nat) => (j : Int), by unfold lstI; rw [ht]; rfl⟩
theorem ent_len {P : Nat → Prop} {n : Nat} (hn : 1 ≤ n) : (lstI (fun j => j = 0 ∨ P j) n).length ≤ (lstI P n).length + 1 := by
  unfold lstI
  rw [List.length_map, List.length_map, lst_cons hn, List.length_cons]
  have := List.length_filter_le (fun j => decide (j ≠ 0)) (lst P n)
  omega

/-- What the law asks where the first list is empty. -/
theorem Ans.none_of {ts : List ByteArray} {fs : List Fn} {f : Int} {l h e : List Int} (hl : Ans LP ts fs f l) (hh : Ans HP ts fs f h) (he : Ans EP ts fs f e) (h0 : l.length = 0) : h = [] ∧ e = [] := by
  rcases hl with ⟨hG, k, hk, d, rfl, hD, rfl⟩ | ⟨hn, -⟩
  · exfalso
    obtain ⟨t, ht⟩ := lstI_zero (P := LP fs[k].code d fs[k].code.length) (fine_of (good_mod hG) hk).one (LP.zero _ _ _)
    rw [ht] at h0
    simp at h0
  · refine ⟨?_, ?_⟩
    · rcases hh with ⟨hG, k, hk, d, rfl, -⟩ | ⟨-, rfl⟩
      · exact absurd ⟨hG, by omega, by omega⟩ hn
      · rfl
    · rcases he with ⟨hG, k, hk, d, rfl, -⟩ | ⟨-, rfl⟩
      · exact absurd ⟨hG, by omega, by omega⟩ hn
      · rfl
/-- .. and where it is not. -/
theorem Ans.some_of {ts : List ByteArray} {fs : List Fn} {f : Int} {l h e : List Int} (hl : Ans LP ts fs f l) (hh : Ans HP ts fs f h) (he : Ans EP ts fs f e) (h0 : l.length ≠ 0) :
    Good ts fs ∧ ∃ (k : Nat) (hk : k < fs.length) (d : List Int), f = k ∧ Done fs fs[k].code d ∧ l = lstI (LP fs[k].code d fs[k].code.length) fs[k].code.length ∧ h = lstI (HP fs[k].code d fs[k].code.length) fs[k].code.length ∧ e = lstI (EP fs[k].code d fs[k].code.length) fs[k].code.length := by
  rcases hl with ⟨hG, k, hk, d, rfl, hD, rfl⟩ | ⟨-, rfl⟩
  · refine ⟨hG, k, hk, d, rfl, hD, rfl, ?_, ?_⟩
    · rcases hh with ⟨-, k', hk', d', e', hD', rfl⟩ | ⟨hn, -⟩
      · obtain rfl : k = k' := by omega
        obtain rfl := hD.one hD'
        rfl
      · exact absurd ⟨hG, by omega, by omega⟩ hn
    · rcases he with ⟨-, k', hk', d', e', hD', rfl⟩ | ⟨hn, -⟩
      · obtain rfl : k = k' := by omega
        obtain rfl := hD.one hD'
        rfl
      · exact absurd ⟨hG, by omega, by omega⟩ hn
  · simp at h0
end Go.Proofs.YthhchlceogbbhaaDoor
