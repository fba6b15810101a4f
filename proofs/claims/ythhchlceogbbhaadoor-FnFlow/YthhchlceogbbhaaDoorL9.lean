/-
  Straight of both sides.
-/
import Derived.Test.YthhchlceogbbhaaDoorG14
import Derived.Test.YthhchlceogbbhaaDoorG2
import Derived.Deep.RegionHeld3
import Derived.Deep.QuietTactic
import Derived.BigQuiet
namespace Go.Proofs.YthhchlceogbbhaaDoor
open Go.RowKit

/-- What Straight is to tell. -/
def StrP (ts : List ByteArray) (fs : List Fn) (f : Int) : Prop :=
  Good ts fs ∧ ∃ (k : Nat) (hk : k < fs.length) (d : List Int), f = k ∧ Done fs fs[k].code d ∧ (∀ j, j < fs[k].code.length → LP fs[k].code d fs[k].code.length j → j = 0) ∧ (∀ j, j < fs[k].code.length → ¬ HP fs[k].code d fs[k].code.length j) ∧ fs[k].code.length ≤ 24

theorem way_iff {code : List (Int × Int)} {d : List Int} (HJ : JOk code) (G : GJ code d) : flowB (jl code d code.length) = ((1, 0), (0, 0)) ↔ (∀ j, j < code.length → LP code d code.length j → j = 0) ∧ (∀ j, j < code.length → ¬ HP code d code.length j) := by
  have hb := flow_bits (d := d) HJ (Nat.le_refl _)
  have hm := G.most
  have h1 : ∀ j, j < 128 → (bhas (1, 0) j = true ↔ j = 0) := fun j hj => by
    have := bhas_bw (s := (0, 0)) (k := 0) (j := j) (by decide) hj
    rw [show bw (0, 0) 0 = (1, 0) from rfl, bhas_zero, Bool.false_or] at this
    rw [this, decide_eq_true_eq]
    exact eq_comm
  constructor
  · intro e
    rw [e] at hb
    refine ⟨fun j hj h => ?_, fun j hj h => ?_⟩
    · exact (h1 j (by omega)).1 ((hb j (by omega)).1.2 h)
    · have := (hb j (by omega)).2.2 h
      rw [bhas_zero] at this
      cases this
  · rintro ⟨hl, hh⟩
    have ok := flowB_ok (jl code d code.length)
    apply Prod.ext
    · refine bset_ext ok.1 ⟨by decide, by decide⟩ fun j hj => ?_
      rw [Bool.eq_iff_iff, (hb j hj).1, h1 j hj]
      constructor
      · exact fun h => hl j (h.lt G (Nat.le_refl _)) h
      · rintro rfl; exact LP.zero _ _ _
    · refine bset_ext ok.2 ⟨by decide, by decide⟩ fun j hj => ?_
      rw [Bool.eq_iff_iff, (hb j hj).2, bhas_zero]
      constructor
      · exact fun h => absurd h (hh j (h.lt G (Nat.le_refl _)))
      · intro h; cases h

theorem lst_one {P : Nat → Prop} {n : Nat} (h0 : P 0) (hn : 1 ≤ n) : (lst P n).length = 1 ↔ ∀ j, j < n → P j → j = 0 := by
  have hm : 0 ∈ lst P n := mem_lst.2 ⟨by omega, h0⟩
  have hnd : (lst P n).Nodup := List.nodup_range.sublist List.filter_sublist
  constructor
  · intro h j hj hp
    obtain ⟨x, hx⟩ := List.length_eq_one_iff.1 h
    have h2 : j ∈ lst P n := mem_lst.2 ⟨hj, hp⟩
    rw [hx] at hm h2
    simp at hm h2
    omega
  · intro h
    have hall : ∀ x ∈ lst P n, x = 0 := fun x hx => h x (mem_lst.1 hx).1 (mem_lst.1 hx).2
    rcases hl : lst P n with _ | ⟨x, _ | ⟨y, l⟩⟩
    · rw [hl] at hm; simp at hm
    · rfl
    · rw [hl] at hnd hall
      have h1 := hall x (by simp)
      have h2 := hall y (by simp)
      rw [h1, h2] at hnd
      simp at hnd
theorem lst_none {P : Nat → Prop} {n : Nat} : (lst P n).length = 0 ↔ ∀ j, j < n → ¬ P j := by
  rw [List.length_eq_zero_iff]
  constructor
  · intro h j hj hp
    have := mem_lst.2 ⟨hj, hp⟩
    rw [h] at this
    cases this
  · intro h
    rw [List.eq_nil_iff_forall_not_mem]
    intro j hj
    exact h j (mem_lst.1 hj).1 (mem_lst.1 hj).2
theorem lstI_length (P : Nat → Prop) (n : Nat) : (lstI P n).length = (lst P n).length := by simp [lstI]

theorem StrP.iff {ts : List ByteArray} {fs : List Fn} {k : Nat} (hG : Good ts fs) (hk : k < fs.length) {d : List Int} (hD : Done fs fs[k].code d) :
    StrP ts fs k ↔ (∀ j, j < fs[k].code.length → LP fs[k].code d fs[k].code.length j → j = 0) ∧ (∀ j, j < fs[k].code.length → ¬ HP fs[k].code d fs[k].code.length j) ∧ fs[k].code.length ≤ 24 := by
  constructor
  · rintro ⟨-, k', hk', d', e, hd', h⟩
    obtain rfl : k = k' := by omega
    obtain rfl := hD.one hd'
    exact h
  · intro h
    exact ⟨hG, k, hk, d, rfl, hD, h⟩

set_option maxRecDepth 100000 in
set_option maxHeartbeats 2000000 in
theorem laysIn_any (a b c e : Int) (ca : Option Addr) (n cc : Nat) (w : World) :
    Calls Tryd.prog 26 #[.agg #[.int .u64 a, .int .u64 b, .int .u64 c, .int .u64 e], .slice ca n cc] w fun r w' => r = .returned (.bool (decide (a = 1 ∧ b = 0 ∧ c = 0 ∧ e = 0) && decide ((n : Int) ≤ 24))) ∧ Below w.heap.size w w' := by
  have hbA : Below w.heap.size w (w.alloc (.cells #[.int .u64 a, .int .u64 b, .int .u64 c, .int .u64 e] 47)) := (Below.refl _ _).alloc (Nat.le_refl _) _
  have m0 := block_cell (block_new w #[.int .u64 a, .int .u64 b, .int .u64 c, .int .u64 e] 47)
  go_enter Tryd.func26, Tryd.ntmps26
  go_wp2_with fail
  refine (oneWay_any a b c e _).mono ?_
  rintro r w1 ⟨rfl, hb⟩
  have hB := hbA.trans (hb.mono hbA.size)
  clear m0
  by_cases hd : a = 1 ∧ b = 0 ∧ c = 0 ∧ e = 0
  case neg =>
    have HD : Hid (decide (a = 1 ∧ b = 0 ∧ c = 0 ∧ e = 0) = false) := decide_eq_false hd
    rw [HD.out]
    clear hd
    go_wp2
    go_ret
    exact ⟨ret_bool (by rw [HD.out]; rfl), hB⟩
  have HD : Hid (decide (a = 1 ∧ b = 0 ∧ c = 0 ∧ e = 0) = true) := decide_eq_true hd
  rw [HD.out]
  clear hd
  go_wp2
  go_ret
  exact ⟨ret_bool (by rw [HD.out, Bool.true_and]), hB⟩

set_option maxRecDepth 100000 in
set_option maxHeartbeats 2000000 in
theorem iStraight_any (a1 a2 : Option Addr) (c1 c2 : Nat) (ts : List ByteArray) (fs : List Fn) (f : Int) (w : World) (hs : Small ts fs) (hm : StrsAt w 0 a1 ts) (hm2 : FnsAt w 0 a2 fs) :
    Calls Tryd.prog 13 #[.agg #[.slice a1 ts.length c1, .slice a2 fs.length c2], .int .i64 f] w fun e w' => e = .returned (.bool (pB (StrP ts fs f))) ∧ Below w.heap.size w w' := by
  have hbA : Below w.heap.size w (w.alloc (.cells #[.slice a1 ts.length c1, .slice a2 fs.length c2] 27)) := (Below.refl _ _).alloc (Nat.le_refl _) _
  have hM0 := block_new w #[.slice a1 ts.length c1, .slice a2 fs.length c2] 27
  go_enter Tryd.func13, Tryd.ntmps13
  go_wp2_with fail
  refine (flowIn_any _ _ _ _ ts fs f _ hs (hm.mono hbA) (hm2.mono hbA)).mono ?_
  rintro e w1 ⟨hF, hb⟩
  have hM1 := block_kept hM0 hb
  have hB1 := hbA.trans (hb.mono hbA.size)
  clear hM0 hbA hb
  rcases hF with ⟨k, hk, d, rfl, hG, hD, rfl⟩ | ⟨hno, rfl⟩
  case inr =>
    have HNO : Hid (pB (StrP ts fs f) = false) := pB_no (fun ⟨h1, k, hk, d, e, _⟩ => hno ⟨h1, by omega, by omega⟩)
    have HB2 : Hid (Below w.heap.size w (w1.alloc (.cells #[.int .u64 0, .int .u64 0, .int .u64 0, .int .u64 0] 47))) := hB1.alloc hB1.size _
    clear hno
    unfold fv fcells
    dsimp only
    go_wp2
    go_quiet (fail)
    go_wp2
    go_ret
    exact ⟨ret_bool HNO.out.symm, below_draws HB2.out _⟩
  obtain ⟨G1, G2, G3⟩ := gj_of hG hk hD
  have HI : Hid (StrP ts fs k ↔ (∀ j, j < fs[k].code.length → LP fs[k].code d fs[k].code.length j → j = 0) ∧ (∀ j, j < fs[k].code.length → ¬ HP fs[k].code d fs[k].code.length j) ∧ fs[k].code.length ≤ 24) := StrP.iff hG hk hD
  have HW := way_iff G2 G1
  obtain ⟨⟨⟨a, b⟩, ⟨c, e⟩⟩, hst⟩ : ∃ st, st = flowB (jl fs[k].code d fs[k].code.length) := ⟨_, rfl⟩
  rw [← hst] at HW ⊢
  clear hst hD hG
  have HWY : Hid (((a : Int) = 1 ∧ (b : Int) = 0 ∧ (c : Int) = 0 ∧ (e : Int) = 0) ↔ (∀ j, j < fs[k].code.length → LP fs[k].code d fs[k].code.length j → j = 0) ∧ (∀ j, j < fs[k].code.length → ¬ HP fs[k].code d fs[k].code.length j)) := by
    show _ ↔ _
    rw [← HW]
    simp only [Prod.mk.injEq]
    omega
  clear HW
  unfold fv fcells
  dsimp only
  have hB2 : Below w.heap.size w (w1.alloc (.cells #[.int .u64 (a : Int), .int .u64 (b : Int), .int .u64 (c : Int), .int .u64 (e : Int)] 47)) := hB1.alloc hB1.size _
  have hM2 := block_old hM1 (.cells #[.int .u64 (a : Int), .int .u64 (b : Int), .int .u64 (c : Int), .int .u64 (e : Int)] 47)
  clear hM1
  have HV : Hid (pB (StrP ts fs k) = (decide ((a : Int) = 1 ∧ (b : Int) = 0 ∧ (c : Int) = 0 ∧ (e : Int) = 0) && decide ((fs[k].code.length : Int) ≤ 24))) := by
    show _ = _
    by_cases hw : (a : Int) = 1 ∧ (b : Int) = 0 ∧ (c : Int) = 0 ∧ (e : Int) = 0
    · have HWW := HWY.out.1 hw
      rw [decide_eq_true hw, Bool.true_and]
      by_cases h : (fs[k].code.length : Int) ≤ 24
      · rw [decide_eq_true h, pB_yes (HI.out.2 ⟨HWW.1, HWW.2, by omega⟩)]
      · rw [decide_eq_false h, pB_no (fun q => h (by have := (HI.out.1 q).2.2; omega))]
    · rw [decide_eq_false hw, Bool.false_and, pB_no (fun h => hw (HWY.out.2 ⟨(HI.out.1 h).1, (HI.out.1 h).2.1⟩))]
  obtain ⟨bb, off, ca, cc, rfl, -, d1, d2, d3, d4⟩ := hm2 k hk
  have d3' := cell_later hB2 d3
  have m2 := block_cell hM2
  have hn := hs.funcs
  clear d1 d2 d3 d4 HWY HI
  obtain ⟨w2, hw2⟩ : ∃ w2, w2 = w1.alloc (.cells #[.int .u64 (a : Int), .int .u64 (b : Int), .int .u64 (c : Int), .int .u64 (e : Int)] 47) := ⟨_, rfl⟩
  have hX2 : w2.heap[w1.heap.size]? = some (.cells #[.int .u64 (a : Int), .int .u64 (b : Int), .int .u64 (c : Int), .int .u64 (e : Int)] 47 (0, 0)) := by rw [hw2]; exact block_new _ _ _
  rw [← hw2] at hB2 hM2 d3' m2
  have hS : ∀ w', Below w2.heap.size w2 w' → w'.cell? ⟨w1.heap.size, 0, none⟩ = some (.int .u64 (a : Int)) ∧ w'.cell? ⟨w1.heap.size, 1, none⟩ = some (.int .u64 (b : Int)) ∧ w'.cell? ⟨w1.heap.size, 2, none⟩ = some (.int .u64 (c : Int)) ∧ w'.cell? ⟨w1.heap.size, 3, none⟩ = some (.int .u64 (e : Int)) ∧ w'.cell? ⟨w.heap.size, 1, none⟩ = some (.slice (some ⟨bb, off, none⟩) fs.length c2) ∧ w'.cell? ⟨bb, off + k * 3 + 2, none⟩ = some (.slice ca fs[k].code.length cc) := fun w' q => ⟨by rw [block_cell (block_kept hX2 q)]; rfl, by rw [block_cell (block_kept hX2 q)]; rfl, by rw [block_cell (block_kept hX2 q)]; rfl, by rw [block_cell (block_kept hX2 q)]; rfl, by rw [block_cell (block_kept hM2 q)]; rfl, cell_later q d3'⟩
  have HS : Hid (∀ w', Below w2.heap.size w2 w' → w'.cell? ⟨w1.heap.size, 0, none⟩ = some (.int .u64 (a : Int)) ∧ w'.cell? ⟨w1.heap.size, 1, none⟩ = some (.int .u64 (b : Int)) ∧ w'.cell? ⟨w1.heap.size, 2, none⟩ = some (.int .u64 (c : Int)) ∧ w'.cell? ⟨w1.heap.size, 3, none⟩ = some (.int .u64 (e : Int)) ∧ w'.cell? ⟨w.heap.size, 1, none⟩ = some (.slice (some ⟨bb, off, none⟩) fs.length c2) ∧ w'.cell? ⟨bb, off + k * 3 + 2, none⟩ = some (.slice ca fs[k].code.length cc)) := hS
  obtain ⟨j0, j1, j2, j3, j4, j5⟩ := hS w2 (Below.refl _ _)
  have HB : Hid (Below w.heap.size w w2) := hB2
  have q : Below w2.heap.size w2 w2.drew := (Below.refl _ _).drew
  clear hS hB2 hM2 d3' m2 hX2
  go_wp2
  rw [← hw2]
  clear hw2
  go_region_held3 (fun w' => w'.cell? ⟨w1.heap.size, 0, none⟩ = some (.int .u64 (a : Int)) ∧ w'.cell? ⟨w1.heap.size, 1, none⟩ = some (.int .u64 (b : Int)) ∧ w'.cell? ⟨w1.heap.size, 2, none⟩ = some (.int .u64 (c : Int)) ∧ w'.cell? ⟨w1.heap.size, 3, none⟩ = some (.int .u64 (e : Int)) ∧ w'.cell? ⟨w.heap.size, 1, none⟩ = some (.slice (some ⟨bb, off, none⟩) fs.length c2) ∧ w'.cell? ⟨bb, off + k * 3 + 2, none⟩ = some (.slice ca fs[k].code.length cc))
    (first | exact ⟨j0, j1, j2, j3, j4, j5⟩ | exact HS.out _ q)
    (first
      | (go_at_call 26; refine (laysIn_any _ _ _ _ ca fs[k].code.length cc _).mono ?_; rintro r w3 ⟨rfl, kd⟩; have q := q.trans (kd.mono q.size)))
  have hB3 := HB.out.trans (q.mono HB.out.size)
  clear HS HB j0 j1 j2 j3 j4 j5 q kd
  go_wp2
  go_ret
  exact ⟨ret_bool (by rw [HV.out]; simp), hB3⟩

set_option maxRecDepth 100000 in
set_option maxHeartbeats 1000000 in
theorem sIs_any (a1 a2 : Option Addr) (c1 c2 : Nat) (ts : List ByteArray) (fs : List Fn) (f : Int) (w : World) (hs : Small ts fs) (hst : StrsAt w 0 a1 ts) (hfn : FnsAt w 0 a2 fs) :
    Calls Tryd.prog 22 #[.agg #[.slice a1 ts.length c1, .slice a2 fs.length c2], .int .i64 f] w fun e w' => e = .returned (.bool (pB (Good ts fs ∧ 0 ≤ f ∧ f < fs.length))) ∧ Below w.heap.size w w' := by
  have hbA : Below w.heap.size w (w.alloc (.cells #[.slice a1 ts.length c1, .slice a2 fs.length c2] 27)) := (Below.refl _ _).alloc (Nat.le_refl _) _
  have hM0 := block_new w #[.slice a1 ts.length c1, .slice a2 fs.length c2] 27
  have hn := hs.funcs
  go_enter Tryd.func22, Tryd.ntmps22
  go_wp2_with fail
  refine (sGood_any _ _ _ _ ts fs _ hs (hst.mono hbA) (hfn.mono hbA)).mono ?_
  rintro e w1 ⟨he, hb1⟩
  have hM1 := block_kept hM0 hb1
  have hB1 := hbA.trans (hb1.mono hbA.size)
  clear hM0 hbA hb1
  by_cases hG : Good ts fs
  case neg =>
    rw [pB_no hG] at he
    subst he
    go_wp2
    go_ret
    exact ⟨ret_bool (pB_no (fun h => hG h.1)).symm, hB1⟩
  rw [pB_yes hG] at he
  subst he
  have m1 := block_cell hM1
  have HV : Hid (pB (Good ts fs ∧ 0 ≤ f ∧ f < fs.length) = (decide (0 ≤ f) && decide (f ≤ (fs.length : Int) - 1))) := by
    show _ = _
    by_cases h : 0 ≤ f ∧ f < fs.length
    · rw [pB_yes ⟨hG, h⟩, decide_eq_true h.1, decide_eq_true (by omega)]; rfl
    · rw [pB_no (fun q => h q.2), ← Bool.decide_and, decide_eq_false (by omega)]
  clear hG
  go_wp2_with fail
  refine (between_any _ _ _ _).mono ?_
  rintro e w2 ⟨rfl, rfl⟩
  rw [← HV.out]
  clear m1 hM1
  go_wp2
  go_ret
  exact ⟨rfl, hB1⟩

set_option maxRecDepth 100000 in
set_option maxHeartbeats 2000000 in
theorem sStraight0_any (a1 a2 : Option Addr) (c1 c2 : Nat) (ts : List ByteArray) (fs : List Fn) (k : Nat) (w : World) (hs : Small ts fs) (hfn : FnsAt w 0 a2 fs) (hk : k < fs.length) (hG : Good ts fs) :
    Calls Tryd.prog 27 #[.agg #[.slice a1 ts.length c1, .slice a2 fs.length c2], .int .i64 k] w fun e w' => e = .returned (.bool (pB (StrP ts fs k))) ∧ Below w.heap.size w w' := by
  have hbA : Below w.heap.size w (w.alloc (.cells #[.slice a1 ts.length c1, .slice a2 fs.length c2] 27)) := (Below.refl _ _).alloc (Nat.le_refl _) _
  have hM0 := block_new w #[.slice a1 ts.length c1, .slice a2 fs.length c2] 27
  have hn := hs.funcs
  have hmod : modB ts fs = true := by
    obtain ⟨f', a', hV⟩ := hG
    rcases hV with ⟨-, h, -⟩ | ⟨hm, -⟩
    · cases h
    · exact hm
  have F := fine_of hmod hk
  have HG : ∀ d, Done fs fs[k].code d → GJ fs[k].code d := fun d hd => (gj_of hG hk hd).1
  have hmost := F.most
  go_enter Tryd.func27, Tryd.ntmps27
  go_wp2_with fail
  refine (sLeaders_any a1 a2 _ _ _ fs k _ hk hn (hfn.mono hbA) F HG).mono ?_
  rintro e w1 ⟨v, d, rfl, hD, hds, hb1⟩
  have HI : Hid (StrP ts fs k ↔ (∀ j, j < fs[k].code.length → LP fs[k].code d fs[k].code.length j → j = 0) ∧ (∀ j, j < fs[k].code.length → ¬ HP fs[k].code d fs[k].code.length j) ∧ fs[k].code.length ≤ 24) := StrP.iff hG hk hD
  have HL1 : Hid ((lst (LP fs[k].code d fs[k].code.length) fs[k].code.length).length = 1 ↔ _) := lst_one (LP.zero _ _ _) F.one
  have HL0 : Hid ((lst (HP fs[k].code d fs[k].code.length) fs[k].code.length).length = 0 ↔ _) := lst_none
  have hlen := lstI_len (LP fs[k].code d fs[k].code.length) fs[k].code.length
  obtain ⟨av, cv, rfl, -⟩ := hds.form
  rw [lstI_length] at hlen ⊢
  obtain ⟨n1, hn1⟩ : ∃ n1, n1 = (lst (LP fs[k].code d fs[k].code.length) fs[k].code.length).length := ⟨_, rfl⟩
  rw [← hn1] at HL1 hlen ⊢
  clear hn1 hds
  have hM1 := block_kept hM0 hb1
  have hB1 := hbA.trans (hb1.mono hbA.size)
  clear hM0 hbA hb1
  by_cases h1 : n1 = 1
  case neg =>
    have HNO : Hid (pB (StrP ts fs k) = false) := pB_no (fun h => h1 (HL1.out.2 (HI.out.1 h).1))
    have h1i : ¬ (n1 : Int) = 1 := by omega
    have h1' : ((n1 : Int) == 1) = false := by simpa using h1i
    clear h1i
    go_wp2
    go_ret
    exact ⟨ret_bool HNO.out.symm, hB1⟩
  have hA1 := HL1.out.1 h1
  have HA1 : Hid (∀ j, j < fs[k].code.length → LP fs[k].code d fs[k].code.length j → j = 0) := hA1
  clear hA1 HL1
  subst h1
  have m1 := block_cell hM1
  go_wp2_with fail
  refine (sHeads_any a1 a2 _ _ _ fs k _ hk hn (hfn.mono hB1) F HG).mono ?_
  rintro e w2 ⟨v, d', rfl, hD', hds, hb2⟩
  obtain rfl := hD.one hD'
  have hlen2 := lstI_len (HP fs[k].code d fs[k].code.length) fs[k].code.length
  obtain ⟨av2, cv2, rfl, -⟩ := hds.form
  rw [lstI_length] at hlen2 ⊢
  obtain ⟨n2, hn2⟩ : ∃ n2, n2 = (lst (HP fs[k].code d fs[k].code.length) fs[k].code.length).length := ⟨_, rfl⟩
  rw [← hn2] at HL0 hlen2 ⊢
  clear hn2 hds hD'
  have hM2 := block_kept hM1 hb2
  have hB2 := hB1.trans (hb2.mono hB1.size)
  clear hM1 m1 hb2
  by_cases h2 : n2 = 0
  case neg =>
    have HNO : Hid (pB (StrP ts fs k) = false) := pB_no (fun h => h2 (HL0.out.2 (HI.out.1 h).2.1))
    have h2' : ((n2 : Int) == 0) = false := by simpa using h2
    go_wp2
    go_ret
    exact ⟨ret_bool HNO.out.symm, hB2⟩
  have hA2 := HL0.out.1 h2
  have HV : Hid (pB (StrP ts fs k) = decide ((fs[k].code.length : Int) ≤ 24)) := by
    show _ = _
    by_cases h : (fs[k].code.length : Int) ≤ 24
    · rw [decide_eq_true h, pB_yes (HI.out.2 ⟨HA1.out, hA2, by omega⟩)]
    · rw [decide_eq_false h, pB_no (fun q => h (by have := (HI.out.1 q).2.2; omega))]
  clear hA2 HL0
  subst h2
  obtain ⟨bb, off, ca, cc, rfl, -, d1, d2, d3, d4⟩ := hfn k hk
  have d3' := cell_later hB2 d3
  have m3 := block_cell hM2
  clear d1 d2 d3 d4 hM2
  go_wp2
  go_ret
  exact ⟨ret_bool (by rw [HV.out]), hB2⟩

set_option maxRecDepth 100000 in
set_option maxHeartbeats 1000000 in
theorem sStraight_any (a1 a2 : Option Addr) (c1 c2 : Nat) (ts : List ByteArray) (fs : List Fn) (f : Int) (w : World) (hs : Small ts fs) (hst : StrsAt w 0 a1 ts) (hfn : FnsAt w 0 a2 fs) :
    Calls Tryd.prog 14 #[.agg #[.slice a1 ts.length c1, .slice a2 fs.length c2], .int .i64 f] w fun e w' => e = .returned (.bool (pB (StrP ts fs f))) ∧ Below w.heap.size w w' := by
  have hbA : Below w.heap.size w (w.alloc (.cells #[.slice a1 ts.length c1, .slice a2 fs.length c2] 27)) := (Below.refl _ _).alloc (Nat.le_refl _) _
  have hM0 := block_new w #[.slice a1 ts.length c1, .slice a2 fs.length c2] 27
  go_enter Tryd.func14, Tryd.ntmps14
  go_wp2_with fail
  refine (sIs_any _ _ _ _ ts fs f _ hs (hst.mono hbA) (hfn.mono hbA)).mono ?_
  rintro e w1 ⟨he, hb1⟩
  have hM1 := block_kept hM0 hb1
  have hB1 := hbA.trans (hb1.mono hbA.size)
  clear hM0 hbA hb1
  by_cases hI : Good ts fs ∧ 0 ≤ f ∧ f < fs.length
  case neg =>
    rw [pB_no hI] at he
    subst he
    have HNO : Hid (pB (StrP ts fs f) = false) := pB_no (fun ⟨h1, k, hk, d, e, _⟩ => hI ⟨h1, by omega, by omega⟩)
    clear hI
    go_wp2
    go_ret
    exact ⟨ret_bool HNO.out.symm, hB1⟩
  rw [pB_yes hI] at he
  subst he
  obtain ⟨k, rfl⟩ : ∃ k : Nat, f = (k : Int) := ⟨f.toNat, by omega⟩
  have hk : k < fs.length := by omega
  have hG := hI.1
  clear hI
  have m1 := block_cell hM1
  go_wp2_with fail
  refine (sStraight0_any _ _ _ _ ts fs k _ hs (hfn.mono hB1) hk hG).mono ?_
  rintro e w2 ⟨rfl, hb2⟩
  have hB2 := hB1.trans (hb2.mono hB1.size)
  clear m1 hM1 hb2
  go_wp2
  go_ret
  exact ⟨rfl, hB2⟩
end Go.Proofs.YthhchlceogbbhaaDoor
