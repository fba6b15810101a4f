/-
  LeadersOf, HeadsOf and EntriesOf of the document, and EntriesOf of the program.
-/
import Derived.Test.YthhchlceogbbhaaDoorB5
namespace Go.Proofs.YthhchlceogbbhaaDoor
open Go.RowKit

/-- The entries. -/
def EP (code : List (Int × Int)) (d : List Int) (k j : Nat) : Prop := j = 0 ∨ HP code d k j

set_option maxRecDepth 100000 in
set_option maxHeartbeats 1000000 in
theorem sLeadersOf_any (a1 a2 : Option Addr) (c1 c2 : Nat) (ts : List ByteArray) (fs : List Fn) (f : Int) (w : World) (hs : Small ts fs) (hst : StrsAt w 0 a1 ts) (hfn : FnsAt w 0 a2 fs) :
    Calls Tryd.prog 10 #[.agg #[.slice a1 ts.length c1, .slice a2 fs.length c2], .int .i64 f] w fun e w' => ∃ v l, e = .returned v ∧ Ans LP ts fs f l ∧ DSl w' w.heap.size v l ∧ Below w.heap.size w w' := by
  have hbA : Below w.heap.size w (w.alloc (.cells #[.slice a1 ts.length c1, .slice a2 fs.length c2] 27)) := (Below.refl _ _).alloc (Nat.le_refl _) _
  have hM0 := block_new w #[.slice a1 ts.length c1, .slice a2 fs.length c2] 27
  go_enter Tryd.func10, Tryd.ntmps10
  go_wp2_with fail
  refine (sIs_any _ _ _ _ ts fs f _ hs (hst.mono hbA) (hfn.mono hbA)).mono ?_
  rintro e w1 ⟨he, hb1⟩
  have hM1 := block_kept hM0 hb1
  have hB1 := hbA.trans (hb1.mono hbA.size)
  clear hM0 hbA hb1
  by_cases hI : Good ts fs ∧ 0 ≤ f ∧ f < fs.length
  case neg =>
    rw [pB_no hI] at he
    subst he
    have HI : Hid (¬ (Good ts fs ∧ 0 ≤ f ∧ f < fs.length)) := hI
    have HB2 : Hid (Below w.heap.size w (w1.alloc (.cells #[] 3))) := hB1.alloc hB1.size _
    clear hI
    go_wp2
    go_ret
    exact ⟨_, [], rfl, .inr ⟨HI.out, rfl⟩, .inl ⟨rfl, _, _, rfl⟩, HB2.out⟩
  rw [pB_yes hI] at he
  subst he
  obtain ⟨k, rfl⟩ : ∃ k : Nat, f = (k : Int) := ⟨f.toNat, by omega⟩
  have hk : k < fs.length := by omega
  have hG := hI.1
  clear hI
  have F := fine_of (good_mod hG) hk
  have m1 := block_cell hM1
  go_wp2_with fail
  refine (sLeaders_any a1 a2 _ _ _ fs k _ hk hs.funcs (hfn.mono hB1) F (fun d hd => (gj_of hG hk hd).1)).mono ?_
  rintro e w2 ⟨v, d, rfl, hD, hds, hb2⟩
  have hB2 := hB1.trans (hb2.mono hB1.size)
  have hds' := hds.low hB1.size
  obtain ⟨av, cv, rfl, -⟩ := hds.form
  have HA : Hid (Ans LP ts fs k (lstI (LP fs[k].code d fs[k].code.length) fs[k].code.length)) := .inl ⟨hG, k, hk, d, rfl, hD, rfl⟩
  clear m1 hM1 hb2 hds hD hG
  go_wp2
  go_ret
  exact ⟨_, _, rfl, HA.out, hds', hB2⟩

set_option maxRecDepth 100000 in
set_option maxHeartbeats 1000000 in
theorem sHeadsOf_any (a1 a2 : Option Addr) (c1 c2 : Nat) (ts : List ByteArray) (fs : List Fn) (f : Int) (w : World) (hs : Small ts fs) (hst : StrsAt w 0 a1 ts) (hfn : FnsAt w 0 a2 fs) :
    Calls Tryd.prog 11 #[.agg #[.slice a1 ts.length c1, .slice a2 fs.length c2], .int .i64 f] w fun e w' => ∃ v l, e = .returned v ∧ Ans HP ts fs f l ∧ DSl w' w.heap.size v l ∧ Below w.heap.size w w' := by
  have hbA : Below w.heap.size w (w.alloc (.cells #[.slice a1 ts.length c1, .slice a2 fs.length c2] 27)) := (Below.refl _ _).alloc (Nat.le_refl _) _
  have hM0 := block_new w #[.slice a1 ts.length c1, .slice a2 fs.length c2] 27
  go_enter Tryd.func11, Tryd.ntmps11
  go_wp2_with fail
  refine (sIs_any _ _ _ _ ts fs f _ hs (hst.mono hbA) (hfn.mono hbA)).mono ?_
  rintro e w1 ⟨he, hb1⟩
  have hM1 := block_kept hM0 hb1
  have hB1 := hbA.trans (hb1.mono hbA.size)
  clear hM0 hbA hb1
  by_cases hI : Good ts fs ∧ 0 ≤ f ∧ f < fs.length
  case neg =>
    rw [pB_no hI] at he
    subst he
    have HI : Hid (¬ (Good ts fs ∧ 0 ≤ f ∧ f < fs.length)) := hI
    have HB2 : Hid (Below w.heap.size w (w1.alloc (.cells #[] 3))) := hB1.alloc hB1.size _
    clear hI
    go_wp2
    go_ret
    exact ⟨_, [], rfl, .inr ⟨HI.out, rfl⟩, .inl ⟨rfl, _, _, rfl⟩, HB2.out⟩
  rw [pB_yes hI] at he
  subst he
  obtain ⟨k, rfl⟩ : ∃ k : Nat, f = (k : Int) := ⟨f.toNat, by omega⟩
  have hk : k < fs.length := by omega
  have hG := hI.1
  clear hI
  have F := fine_of (good_mod hG) hk
  have m1 := block_cell hM1
  go_wp2_with fail
  refine (sHeads_any a1 a2 _ _ _ fs k _ hk hs.funcs (hfn.mono hB1) F (fun d hd => (gj_of hG hk hd).1)).mono ?_
  rintro e w2 ⟨v, d, rfl, hD, hds, hb2⟩
  have hB2 := hB1.trans (hb2.mono hB1.size)
  have hds' := hds.low hB1.size
  obtain ⟨av, cv, rfl, -⟩ := hds.form
  have HA : Hid (Ans HP ts fs k (lstI (HP fs[k].code d fs[k].code.length) fs[k].code.length)) := .inl ⟨hG, k, hk, d, rfl, hD, rfl⟩
  clear m1 hM1 hb2 hds hD hG
  go_wp2
  go_ret
  exact ⟨_, _, rfl, HA.out, hds', hB2⟩

theorem lst_cons {P : Nat → Prop} {n : Nat} (hn : 1 ≤ n) : lst (fun j => j = 0 ∨ P j) n = 0 :: (lst P n).filter (fun j => decide (j ≠ 0)) := by
  induction n with
  | zero => omega
  | succ n ih =>
    by_cases h0 : n = 0
    · subst h0
      rw [lst_yes (.inl rfl)]
      by_cases hp : P 0
      · rw [lst_yes hp]; simp [lst]
      · rw [lst_no hp]; simp [lst]
    · by_cases hp : P n
      · rw [lst_yes (.inr hp), lst_yes hp, ih (by omega), List.filter_append]
        simp [h0]
      · rw [lst_no (fun q => q.elim h0 hp), lst_no hp, ih (by omega)]
theorem lst_head {P : Nat → Prop} {n : Nat} (hn : 1 ≤ n) (h : P 0) : ∃ l, lst P n = 0 :: l := by
  have := lst_cons (P := P) hn
  rw [lst_as (Q := P) (fun j _ => ⟨fun q => q.elim (fun e => by rw [e]; exact h) id, .inr⟩)] at this
  exact ⟨_, this⟩
theorem lst_ent_yes {P : Nat → Prop} {n : Nat} (h : P 0) : lst (fun j => j = 0 ∨ P j) n = lst P n := lst_as (fun j _ => ⟨fun q => q.elim (fun e => by rw [e]; exact h) id, .inr⟩)
theorem lst_ent_no {P : Nat → Prop} {n : Nat} (hn : 1 ≤ n) (h : ¬ P 0) : lst (fun j => j = 0 ∨ P j) n = 0 :: lst P n := by
  rw [lst_cons hn, List.filter_eq_self.2]
  intro j hj
  have := (mem_lst.1 hj).2
  simp only [decide_eq_true_eq]
  rintro rfl
  exact h this
theorem lstI_first {P : Nat → Prop} {n : Nat} (h : ¬ P 0) : ∀ (h0 : 0 < (lstI P n).length), (lstI P n)[0] ≠ 0 := by
  intro h0 e
  have hm : (lstI P n)[0] ∈ lstI P n := List.getElem_mem _
  rw [e] at hm
  unfold lstI at hm
  obtain ⟨j, hj, hj0⟩ := List.mem_map.1 hm
  obtain rfl : j = 0 := by omega
  exact h (mem_lst.1 hj).2

theorem app_noneI (W : World) (a p : Option Addr) (n cap c : Nat) (h : n ≤ cap) (ty : TypeId) : (Builtin.append_ #[30, 30] ty #[.slice a n cap, .slice p 0 c]).run Tryd.prog W = .ok (.slice a n cap) W := by
  obtain ⟨i0, hi, hz0, hz1, hz2⟩ := info_parts info3
  cases a <;> cases p <;> simp [Builtin.append_, run_underlying Tryd.underlying30, sizeOf, typeInfo, hi, Builtin.lenOf, Builtin.firstCells, loadCells, loadCellsFrom, storeCells, h]

set_option maxRecDepth 100000 in
set_option maxHeartbeats 2000000 in
theorem sEntries0_any (a1 a2 : Option Addr) (nt c1 c2 : Nat) (fs : List Fn) (f : Nat) (w : World) (hf : f < fs.length) (hn : fs.length ≤ 1048576) (hm : FnsAt w 0 a2 fs) (F : Fine fs fs[f].code) (HG : ∀ d, Done fs fs[f].code d → GJ fs[f].code d) :
    Calls Tryd.prog 25 #[.agg #[.slice a1 nt c1, .slice a2 fs.length c2], .int .i64 f] w fun e w' => ∃ v d, e = .returned v ∧ Done fs fs[f].code d ∧ DSl w' w.heap.size v (lstI (EP fs[f].code d fs[f].code.length) fs[f].code.length) ∧ Below w.heap.size w w' := by
  obtain ⟨i0, hi, hz0, hz1, hz2⟩ := info_parts info3
  have hbA : Below w.heap.size w (w.alloc (.cells #[.slice a1 nt c1, .slice a2 fs.length c2] 27)) := (Below.refl _ _).alloc (Nat.le_refl _) _
  have hone := F.one
  have hmost := F.most
  go_enter Tryd.func25, Tryd.ntmps25
  go_wp2_with fail
  refine (sHeads_any a1 a2 _ _ _ fs f _ hf hn (hm.mono hbA) F HG).mono ?_
  rintro e w1 ⟨v, d, rfl, hD, hds, hb1⟩
  have hB1 := hbA.trans (hb1.mono hbA.size)
  have HD : Hid (Done fs fs[f].code d) := hD
  have hds1 := hds.low hbA.size
  have hlen := lstI_len (HP fs[f].code d fs[f].code.length) fs[f].code.length
  clear hbA hb1 hD hds
  by_cases h0 : HP fs[f].code d fs[f].code.length 0
  · have HE : Hid (lstI (EP fs[f].code d fs[f].code.length) fs[f].code.length = lstI (HP fs[f].code d fs[f].code.length) fs[f].code.length) := by
      show _ = _
      unfold lstI
      exact congrArg _ (lst_ent_yes h0)
    obtain ⟨t, ht⟩ := lst_head hone h0
    have hl : lstI (HP fs[f].code d fs[f].code.length) fs[f].code.length = 0 :: t.map fun (j : Nat) => (j : Int) := by unfold lstI; rw [ht]; rfl
    have hds2 := hds1
    rw [hl] at hds1
    obtain ⟨av, cv, rfl, hI⟩ := hds1.form
    obtain ⟨b, off, rfl, -, hc⟩ := hI 0 (by simp)
    have hc' : w1.cell? ⟨b, off, none⟩ = some (.int .i64 0) := by simpa using hc
    obtain ⟨n1, hn1⟩ : ∃ n1, n1 = (0 :: t.map fun (j : Nat) => (j : Int)).length := ⟨_, rfl⟩
    have hpos : 0 < n1 := by rw [hn1]; simp
    rw [hl, ← hn1] at hlen
    rw [← hn1] at hds2 ⊢
    clear hn1 hl ht hds1 hI hc
    go_wp2
    go_ret
    exact ⟨_, d, rfl, HD.out, by rw [HE.out]; exact hds2, hB1⟩
  have HE : Hid (lstI (EP fs[f].code d fs[f].code.length) fs[f].code.length = 0 :: lstI (HP fs[f].code d fs[f].code.length) fs[f].code.length) := by
    show _ = _
    unfold lstI
    rw [show lst (EP fs[f].code d fs[f].code.length) fs[f].code.length = 0 :: lst (HP fs[f].code d fs[f].code.length) fs[f].code.length from lst_ent_no hone h0]
    rfl
  have hfirst := lstI_first (n := fs[f].code.length) h0
  obtain ⟨L, hL⟩ : ∃ L, L = lstI (HP fs[f].code d fs[f].code.length) fs[f].code.length := ⟨_, rfl⟩
  rw [← hL] at hlen hds1 hfirst HE
  clear hL h0
  have hown0 : (w1.alloc (.cells #[.int .i64 0] 3)).ownsRow w.heap.size 3 1 (.slice (some ⟨w1.heap.size, 0, none⟩) 1 1) 1 [.int .i64 0] := ⟨rfl, .inr ⟨w1.heap.size, 1, #[.int .i64 0], rfl, hB1.size, block_new _ _ _, by omega, by unfold maxLen; omega, rfl, rfl⟩⟩
  rcases hds1 with ⟨rfl, av, cv, rfl⟩ | ⟨g, cv, rfl, hg, hH⟩
  · have ha := fun ty => app_noneI (w1.alloc (.cells #[.int .i64 0] 3)) (some ⟨w1.heap.size, 0, none⟩) av 1 1 cv (by omega) ty
    have hB2 : Below w.heap.size w (w1.alloc (.cells #[.int .i64 0] 3)) := hB1.alloc hB1.size _
    have hds2 : DSl (w1.alloc (.cells #[.int .i64 0] 3)) w.heap.size (.slice (some ⟨w1.heap.size, 0, none⟩) 1 1) [0] := own_dsl (d := [0]) hown0 rfl
    clear hfirst
    cases av
    all_goals
      go_wp2
      go_ret
      exact ⟨_, d, rfl, HD.out, by rw [HE.out]; exact hds2, hB2⟩
  by_cases hL0 : L = []
  · subst hL0
    have ha := fun ty => app_noneI (w1.alloc (.cells #[.int .i64 0] 3)) (some ⟨w1.heap.size, 0, none⟩) (some ⟨g, 0, none⟩) 1 1 cv (by omega) ty
    have hB2 : Below w.heap.size w (w1.alloc (.cells #[.int .i64 0] 3)) := hB1.alloc hB1.size _
    have hds2 : DSl (w1.alloc (.cells #[.int .i64 0] 3)) w.heap.size (.slice (some ⟨w1.heap.size, 0, none⟩) 1 1) [0] := own_dsl (d := [0]) hown0 rfl
    clear hfirst
    simp only [List.length_nil] at hlen ⊢
    go_wp2
    go_ret
    exact ⟨_, d, rfl, HD.out, by rw [HE.out]; exact hds2, hB2⟩
  have hpos : 0 < L.length := List.length_pos_iff.2 hL0
  have c0 := hH.cell hpos
  have hf0 := hfirst hpos
  have hf0' : (L[0] == 0) = false := by simpa using hf0
  have hH2 := hH.mono (w' := w1.alloc (.cells #[.int .i64 0] 3)) ((Below.refl _ _).alloc (Nat.le_refl _) _)
  have HNW : Hid (∀ (j : Nat) (u : Value), (L.map (Value.int .i64))[j]? = some u → (w1.alloc (.cells #[.int .i64 0] 3)).cell? ((⟨g, 0, none⟩ : Addr).add j) = some u) := fun j u hu => by
    rw [Go.WideShapes.add_plain, Nat.zero_add]
    simp only [List.getElem?_map, Option.map_eq_some_iff] at hu
    obtain ⟨z, hz, rfl⟩ := hu
    obtain ⟨hj, rfl⟩ := List.getElem?_eq_some_iff.1 hz
    exact hH2.cell hj
  have hB2 : Below w.heap.size w (w1.alloc (.cells #[.int .i64 0] 3)) := hB1.alloc hB1.size _
  have hz2' := hB2.size
  clear hfirst hf0 hH
  go_wp2_with (first | (at_builtin; refine wpList_append_lies _ rfl _ _ 30 rfl w.heap.size 3 i0 (.int .i64 0) 1 8 Tryd.underlying30 hi hz0 hz1 hz2 rfl (by decide) _ _ _ rfl hown0 ⟨g, 0, none⟩ L.length cv (L.map (Value.int .i64)) rfl (by simp) HNW.out (by intro u hu; obtain ⟨z, -, rfl⟩ := List.mem_map.1 hu; rfl) hpos (by unfold maxLen; omega) (by omega) hz2' _ rfl ?_; intro g1 cap w5 hown1 hgrow1 hat1 hlt1))
  have hk1 := Keeps.grown (ts := [3]) hown0 hgrow1 (by simp)
  have hB3 : Below w.heap.size w w5 := hB2.trans (hk1.toBelow hz2')
  have hds2 : DSl w5 w.heap.size (.slice (some ⟨g1, 0, none⟩) (1 + L.length) cap) (0 :: L) := own_dsl (d := 0 :: L) (by simpa using hown1) (by simp; omega)
  go_wp2
  go_ret
  exact ⟨_, d, rfl, HD.out, by rw [HE.out]; exact hds2, hB3⟩

set_option maxRecDepth 100000 in
set_option maxHeartbeats 1000000 in
theorem sEntriesOf_any (a1 a2 : Option Addr) (c1 c2 : Nat) (ts : List ByteArray) (fs : List Fn) (f : Int) (w : World) (hs : Small ts fs) (hst : StrsAt w 0 a1 ts) (hfn : FnsAt w 0 a2 fs) :
    Calls Tryd.prog 12 #[.agg #[.slice a1 ts.length c1, .slice a2 fs.length c2], .int .i64 f] w fun e w' => ∃ v l, e = .returned v ∧ Ans EP ts fs f l ∧ DSl w' w.heap.size v l ∧ Below w.heap.size w w' := by
  have hbA : Below w.heap.size w (w.alloc (.cells #[.slice a1 ts.length c1, .slice a2 fs.length c2] 27)) := (Below.refl _ _).alloc (Nat.le_refl _) _
  have hM0 := block_new w #[.slice a1 ts.length c1, .slice a2 fs.length c2] 27
  go_enter Tryd.func12, Tryd.ntmps12
  go_wp2_with fail
  refine (sIs_any _ _ _ _ ts fs f _ hs (hst.mono hbA) (hfn.mono hbA)).mono ?_
  rintro e w1 ⟨he, hb1⟩
  have hM1 := block_kept hM0 hb1
  have hB1 := hbA.trans (hb1.mono hbA.size)
  clear hM0 hbA hb1
  by_cases hI : Good ts fs ∧ 0 ≤ f ∧ f < fs.length
  case neg =>
    rw [pB_no hI] at he
    subst he
    have HI : Hid (¬ (Good ts fs ∧ 0 ≤ f ∧ f < fs.length)) := hI
    have HB2 : Hid (Below w.heap.size w (w1.alloc (.cells #[] 3))) := hB1.alloc hB1.size _
    clear hI
    go_wp2
    go_ret
    exact ⟨_, [], rfl, .inr ⟨HI.out, rfl⟩, .inl ⟨rfl, _, _, rfl⟩, HB2.out⟩
  rw [pB_yes hI] at he
  subst he
  obtain ⟨k, rfl⟩ : ∃ k : Nat, f = (k : Int) := ⟨f.toNat, by omega⟩
  have hk : k < fs.length := by omega
  have hG := hI.1
  clear hI
  have F := fine_of (good_mod hG) hk
  have m1 := block_cell hM1
  go_wp2_with fail
  refine (sEntries0_any a1 a2 _ _ _ fs k _ hk hs.funcs (hfn.mono hB1) F (fun d hd => (gj_of hG hk hd).1)).mono ?_
  rintro e w2 ⟨v, d, rfl, hD, hds, hb2⟩
  have hB2 := hB1.trans (hb2.mono hB1.size)
  have hds' := hds.low hB1.size
  obtain ⟨av, cv, rfl, -⟩ := hds.form
  have HA : Hid (Ans EP ts fs k (lstI (EP fs[k].code d fs[k].code.length) fs[k].code.length)) := .inl ⟨hG, k, hk, d, rfl, hD, rfl⟩
  clear m1 hM1 hb2 hds hD hG
  go_wp2
  go_ret
  exact ⟨_, _, rfl, HA.out, hds', hB2⟩

set_option maxRecDepth 100000 in
set_option maxHeartbeats 1000000 in
theorem entries_any (x y z u : Nat) (w : World) (hz : bok (z, u)) :
    Calls Tryd.prog 21 #[.agg #[.int .u64 (x : Int), .int .u64 (y : Int), .int .u64 (z : Int), .int .u64 (u : Int)]] w fun e w' => e = .returned (.agg #[.int .u64 ((bw (z, u) 0).1 : Int), .int .u64 ((bw (z, u) 0).2 : Int)]) ∧ Below w.heap.size w w' := by
  have hbA : Below w.heap.size w ((w.alloc (.cells #[.int .u64 (x : Int), .int .u64 (y : Int), .int .u64 (z : Int), .int .u64 (u : Int)] 47)).alloc (.cells #[.int .u64 0, .int .u64 0] 45)) := ((Below.refl _ _).alloc (Nat.le_refl _) _).alloc (by simp) _
  have hR0 : ((w.alloc (.cells #[.int .u64 (x : Int), .int .u64 (y : Int), .int .u64 (z : Int), .int .u64 (u : Int)] 47)).alloc (.cells #[.int .u64 0, .int .u64 0] 45)).heap[w.heap.size + 1]? = some (.cells #[.int .u64 0, .int .u64 0] 45 (0, 0)) := by
    have := block_new (w.alloc (.cells #[.int .u64 (x : Int), .int .u64 (y : Int), .int .u64 (z : Int), .int .u64 (u : Int)] 47)) #[.int .u64 0, .int .u64 0] 45
    rwa [World.size_alloc] at this
  go_enter Tryd.func21, Tryd.ntmps21
  go_wp2_with fail
  refine (with_at z u 0 _ hz (by decide)).mono ?_
  rintro e w1 ⟨x', y', hq, rfl, hb⟩
  have hR := block_kept hR0 hb
  have r1 := block_cell hR
  have r2 := block_free hR
  have HQ : Hid (bw (z, u) 0 = (x', y')) := hq
  clear hq
  go_wp2
  refine bodyPost_ret (v := .agg #[.int .u64 (x' : Int), .int .u64 (y' : Int)]) (by simp [results, Tryd.results21, go_sem, r1]) rfl ⟨by rw [HQ.out], ?_⟩
  exact ((hbA.trans (hb.mono hbA.size)).setCell (by simp) _).setCell (by simp) _

set_option maxRecDepth 100000 in
set_option maxHeartbeats 2000000 in
theorem iEntries_any (a1 a2 : Option Addr) (c1 c2 : Nat) (ts : List ByteArray) (fs : List Fn) (f : Int) (w : World) (hs : Small ts fs) (hm : StrsAt w 0 a1 ts) (hm2 : FnsAt w 0 a2 fs) (hDB : DB w) :
    Calls Tryd.prog 8 #[.agg #[.slice a1 ts.length c1, .slice a2 fs.length c2], .int .i64 f] w fun e w' => ∃ v l, e = .returned v ∧ Ans EP ts fs f l ∧ DSl w' w.heap.size v l ∧ Below w.heap.size w w' := by
  have hbA : Below w.heap.size w (w.alloc (.cells #[.slice a1 ts.length c1, .slice a2 fs.length c2] 27)) := (Below.refl _ _).alloc (Nat.le_refl _) _
  go_enter Tryd.func8, Tryd.ntmps8
  go_wp2_with fail
  refine (flowIn_any _ _ _ _ ts fs f _ hs (hm.mono hbA) (hm2.mono hbA)).mono ?_
  rintro e w1 ⟨hF, hb⟩
  have hB1 := hbA.trans (hb.mono hbA.size)
  clear hbA hb
  rcases hF with ⟨k, hk, d, rfl, hG, hD, rfl⟩ | ⟨hno, rfl⟩
  case inr =>
    have HB2 : Hid (Below w.heap.size w (w1.alloc (.cells #[.int .u64 0, .int .u64 0, .int .u64 0, .int .u64 0] 47))) := hB1.alloc hB1.size _
    have HNO : Hid (¬ (Good ts fs ∧ 0 ≤ f ∧ f < fs.length)) := hno
    clear hno
    unfold fv fcells
    dsimp only
    go_wp2
    go_ret
    exact ⟨_, [], rfl, .inr ⟨HNO.out, rfl⟩, .inl ⟨rfl, _, _, rfl⟩, HB2.out⟩
  obtain ⟨G1, G2, G3⟩ := gj_of hG hk hD
  have hbits := flow_bits (d := d) G2 (Nat.le_refl _)
  have hokk := (flowB_ok (jl fs[k].code d fs[k].code.length)).2
  have hmost := G1.most
  obtain ⟨⟨⟨a, b⟩, ⟨c, e'⟩⟩, hst⟩ : ∃ st, st = flowB (jl fs[k].code d fs[k].code.length) := ⟨_, rfl⟩
  rw [← hst] at hbits hokk ⊢
  clear hst
  have HA : Hid (Ans EP ts fs k (lstI (In (bw (c, e') 0)) 128)) := .inl ⟨hG, k, hk, d, rfl, hD, lstI_as (by omega) (fun j hj => by
    unfold In EP
    rw [bhas_bw (by decide) hj, Bool.or_eq_true, decide_eq_true_eq, (hbits j hj).2]
    constructor
    · rintro (h | h)
      · exact .inr h
      · exact .inl h.symm
    · rintro (h | h)
      · exact .inr h.symm
      · exact .inl h) (fun j h1 h2 => by
        have := G1.one
        rcases h2 with h2 | h2
        · omega
        · have := h2.lt G1 (Nat.le_refl _); omega)⟩
  unfold fv fcells
  dsimp only
  have hB2 : Below w.heap.size w (w1.alloc (.cells #[.int .u64 (a : Int), .int .u64 (b : Int), .int .u64 (c : Int), .int .u64 (e' : Int)] 47)) := hB1.alloc hB1.size _
  clear hbits hD hG
  go_wp2_with fail
  refine (entries_any a b c e' _ hokk).mono ?_
  rintro r w2 ⟨rfl, k2⟩
  obtain ⟨c2', e2', hw2⟩ : ∃ c2' e2', bw (c, e') 0 = (c2', e2') := ⟨_, _, rfl⟩
  rw [hw2]
  dsimp only
  have hB3 := hB2.trans (k2.mono hB2.size)
  have ok2 : bok (c2', e2') := by rw [← hw2]; exact bw_ok hokk (by decide)
  rw [hw2] at HA
  clear hw2 k2 hB2
  go_wp2_with fail
  refine (told_any c2' e2' _ ok2 (hDB.mono hB3)).mono ?_
  rintro e w3 ⟨v, rfl, hds, k3⟩
  have hB4 := hB3.trans (k3.mono hB3.size)
  have hds' := hds.low hB3.size
  obtain ⟨av, cv, rfl, -⟩ := hds.form
  clear hds k3 hB3
  go_wp2
  go_ret
  exact ⟨_, _, rfl, HA.out, hds', hB4⟩
end Go.Proofs.YthhchlceogbbhaaDoor
