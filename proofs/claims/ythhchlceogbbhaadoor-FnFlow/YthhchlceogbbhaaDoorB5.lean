/-
  LeadersOf and HeadsOf of both sides.
-/
import Derived.Test.YthhchlceogbbhaaDoorG13
import Derived.Test.YthhchlceogbbhaaDoorL9
namespace Go.Proofs.YthhchlceogbbhaaDoor
open Go.RowKit

/-- What is to be answered: the places at which P holds, or nothing. -/
def Ans (P : List (Int × Int) → List Int → Nat → Nat → Prop) (ts : List ByteArray) (fs : List Fn) (f : Int) (l : List Int) : Prop :=
  (Good ts fs ∧ ∃ (k : Nat) (hk : k < fs.length) (d : List Int), f = k ∧ Done fs fs[k].code d ∧ l = lstI (P fs[k].code d fs[k].code.length) fs[k].code.length) ∨ (¬ (Good ts fs ∧ 0 ≤ f ∧ f < fs.length) ∧ l = [])
theorem Ans.one {P : List (Int × Int) → List Int → Nat → Nat → Prop} {ts : List ByteArray} {fs : List Fn} {f : Int} {l l' : List Int} (h : Ans P ts fs f l) (h' : Ans P ts fs f l') : l = l' := by
  rcases h with ⟨hG, k, hk, d, rfl, hD, rfl⟩ | ⟨hn, rfl⟩
  · rcases h' with ⟨-, k', hk', d', e, hD', rfl⟩ | ⟨hn, -⟩
    · obtain rfl : k = k' := by omega
      obtain rfl := hD.one hD'
      rfl
    · exact absurd ⟨hG, by omega, by omega⟩ hn
  · rcases h' with ⟨hG, k', hk', d', rfl, -, -⟩ | ⟨-, rfl⟩
    · exact absurd ⟨hG, by omega, by omega⟩ hn
    · rfl
theorem good_mod {ts : List ByteArray} {fs : List Fn} (hG : Good ts fs) : modB ts fs = true := by
  obtain ⟨f', a', hV⟩ := hG
  rcases hV with ⟨-, h, -⟩ | ⟨hm, -⟩
  · cases h
  · exact hm
theorem Ans.len {P : List (Int × Int) → List Int → Nat → Nat → Prop} {ts : List ByteArray} {fs : List Fn} {f : Int} {l : List Int} (h : Ans P ts fs f l) : l.length ≤ 120 := by
  rcases h with ⟨hG, k, hk, d, rfl, hD, rfl⟩ | ⟨-, rfl⟩
  · have := (fine_of (good_mod hG) hk).most
    have := lstI_len (P fs[k].code d fs[k].code.length) fs[k].code.length
    omega
  · simp

theorem lst_as {P Q : Nat → Prop} {n : Nat} (h : ∀ j, j < n → (P j ↔ Q j)) : lst P n = lst Q n := by
  unfold lst
  apply List.filter_congr
  intro j hj
  have hj' : j < n := by simpa using hj
  simp only [show P j = Q j from propext (h j hj')]
theorem lstI_as {P Q : Nat → Prop} {n m : Nat} (hnm : n ≤ m) (h : ∀ j, j < m → (P j ↔ Q j)) (hq : ∀ j, n ≤ j → ¬ Q j) : lstI P m = lstI Q n := by
  unfold lstI
  rw [lst_as h, lst_to hnm (fun j h1 _ => hq j h1)]
theorem lst_zero : lst (In (0, 0)) 128 = [] := by
  have := lst_to (P := In (0, 0)) (a := 0) (b := 128) (by omega) (fun j _ _ h => by unfold In at h; rw [bhas_zero] at h; cases h)
  rw [this]; rfl

set_option maxRecDepth 100000 in
set_option maxHeartbeats 2000000 in
theorem iLeaders_any (a1 a2 : Option Addr) (c1 c2 : Nat) (ts : List ByteArray) (fs : List Fn) (f : Int) (w : World) (hs : Small ts fs) (hm : StrsAt w 0 a1 ts) (hm2 : FnsAt w 0 a2 fs) (hDB : DB w) :
    Calls Tryd.prog 6 #[.agg #[.slice a1 ts.length c1, .slice a2 fs.length c2], .int .i64 f] w fun e w' => ∃ v l, e = .returned v ∧ Ans LP ts fs f l ∧ DSl w' w.heap.size v l ∧ Below w.heap.size w w' := by
  have hbA : Below w.heap.size w (w.alloc (.cells #[.slice a1 ts.length c1, .slice a2 fs.length c2] 27)) := (Below.refl _ _).alloc (Nat.le_refl _) _
  go_enter Tryd.func6, Tryd.ntmps6
  go_wp2_with fail
  refine (flowIn_any _ _ _ _ ts fs f _ hs (hm.mono hbA) (hm2.mono hbA)).mono ?_
  rintro e w1 ⟨hF, hb⟩
  have hB1 := hbA.trans (hb.mono hbA.size)
  clear hbA hb
  obtain ⟨a, b, c, e', r, he, hok, hA⟩ : ∃ (a b c e' : Nat) (r : Bool), e = .returned (.tuple #[.agg #[.int .u64 (a : Int), .int .u64 (b : Int), .int .u64 (c : Int), .int .u64 (e' : Int)], .bool r]) ∧ bok (a, b) ∧ Ans LP ts fs f (lstI (In (a, b)) 128) := by
    rcases hF with ⟨k, hk, d, rfl, hG, hD, rfl⟩ | ⟨hno, rfl⟩
    · obtain ⟨G1, G2, G3⟩ := gj_of hG hk hD
      have hbits := flow_bits (d := d) G2 (Nat.le_refl _)
      refine ⟨_, _, _, _, _, rfl, (flowB_ok (jl fs[k].code d fs[k].code.length)).1, .inl ⟨hG, k, hk, d, rfl, hD, ?_⟩⟩
      have hmost := G1.most
      exact lstI_as (by omega) (fun j hj => (hbits j hj).1) (fun j h1 h2 => by have := h2.lt G1 (Nat.le_refl _); omega)
    · exact ⟨0, 0, 0, 0, _, rfl, ⟨by decide, by decide⟩, .inr ⟨hno, by unfold lstI; rw [lst_zero]; rfl⟩⟩
  subst he
  have HA : Hid (Ans LP ts fs f (lstI (In (a, b)) 128)) := hA
  have hB2 : Below w.heap.size w (w1.alloc (.cells #[.int .u64 (a : Int), .int .u64 (b : Int), .int .u64 (c : Int), .int .u64 (e' : Int)] 47)) := hB1.alloc hB1.size _
  clear hF hA
  go_wp2_with fail
  refine (told_any a b _ hok (hDB.mono hB2)).mono ?_
  rintro e w3 ⟨v, rfl, hds, k3⟩
  have hB3 := hB2.trans (k3.mono hB2.size)
  have hds' : DSl w3 w.heap.size v (lstI (In (a, b)) 128) := hds.low hB2.size
  obtain ⟨av, cv, rfl, -⟩ := hds.form
  clear hds k3 hB2
  go_wp2
  go_ret
  exact ⟨_, _, rfl, HA.out, hds', hB3⟩

set_option maxRecDepth 100000 in
set_option maxHeartbeats 2000000 in
theorem iHeads_any (a1 a2 : Option Addr) (c1 c2 : Nat) (ts : List ByteArray) (fs : List Fn) (f : Int) (w : World) (hs : Small ts fs) (hm : StrsAt w 0 a1 ts) (hm2 : FnsAt w 0 a2 fs) (hDB : DB w) :
    Calls Tryd.prog 7 #[.agg #[.slice a1 ts.length c1, .slice a2 fs.length c2], .int .i64 f] w fun e w' => ∃ v l, e = .returned v ∧ Ans HP ts fs f l ∧ DSl w' w.heap.size v l ∧ Below w.heap.size w w' := by
  have hbA : Below w.heap.size w (w.alloc (.cells #[.slice a1 ts.length c1, .slice a2 fs.length c2] 27)) := (Below.refl _ _).alloc (Nat.le_refl _) _
  go_enter Tryd.func7, Tryd.ntmps7
  go_wp2_with fail
  refine (flowIn_any _ _ _ _ ts fs f _ hs (hm.mono hbA) (hm2.mono hbA)).mono ?_
  rintro e w1 ⟨hF, hb⟩
  have hB1 := hbA.trans (hb.mono hbA.size)
  clear hbA hb
  obtain ⟨a, b, c, e', r, he, hok, hA⟩ : ∃ (a b c e' : Nat) (r : Bool), e = .returned (.tuple #[.agg #[.int .u64 (a : Int), .int .u64 (b : Int), .int .u64 (c : Int), .int .u64 (e' : Int)], .bool r]) ∧ bok (c, e') ∧ Ans HP ts fs f (lstI (In (c, e')) 128) := by
    rcases hF with ⟨k, hk, d, rfl, hG, hD, rfl⟩ | ⟨hno, rfl⟩
    · obtain ⟨G1, G2, G3⟩ := gj_of hG hk hD
      have hbits := flow_bits (d := d) G2 (Nat.le_refl _)
      refine ⟨_, _, _, _, _, rfl, (flowB_ok (jl fs[k].code d fs[k].code.length)).2, .inl ⟨hG, k, hk, d, rfl, hD, ?_⟩⟩
      have hmost := G1.most
      exact lstI_as (by omega) (fun j hj => (hbits j hj).2) (fun j h1 h2 => by have := h2.lt G1 (Nat.le_refl _); omega)
    · exact ⟨0, 0, 0, 0, _, rfl, ⟨by decide, by decide⟩, .inr ⟨hno, by unfold lstI; rw [lst_zero]; rfl⟩⟩
  subst he
  have HA : Hid (Ans HP ts fs f (lstI (In (c, e')) 128)) := hA
  have hB2 : Below w.heap.size w (w1.alloc (.cells #[.int .u64 (a : Int), .int .u64 (b : Int), .int .u64 (c : Int), .int .u64 (e' : Int)] 47)) := hB1.alloc hB1.size _
  clear hF hA
  go_wp2_with fail
  refine (told_any c e' _ hok (hDB.mono hB2)).mono ?_
  rintro e w3 ⟨v, rfl, hds, k3⟩
  have hB3 := hB2.trans (k3.mono hB2.size)
  have hds' : DSl w3 w.heap.size v (lstI (In (c, e')) 128) := hds.low hB2.size
  obtain ⟨av, cv, rfl, -⟩ := hds.form
  clear hds k3 hB2
  go_wp2
  go_ret
  exact ⟨_, _, rfl, HA.out, hds', hB3⟩
end Go.Proofs.YthhchlceogbbhaaDoor
