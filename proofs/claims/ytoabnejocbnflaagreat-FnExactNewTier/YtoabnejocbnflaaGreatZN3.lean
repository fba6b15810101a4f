/-
  What Start is to answer; impl.Start.
  What spec.Start returns.
-/
import Derived.Test.YtoabnejocbnflaaGreatZN1
import Derived.Test.YtoabnejocbnflaaGreatZGd
import Derived.Deep.RegionWith
import Derived.Deep.RegionHeld3
import Derived.Deep.QuietTactic
import Derived.BigQuiet
namespace Go.Proofs.YtoabnejocbnflaaGreat
open Go.RowKit

/-- Whether there is a state ahead of the first step. -/
def StartP (ts : List ByteArray) (fs : List Fn) (vs : List Vl) : Prop := Good ts fs ∧ (vs.length : Int) = (fnAt fs 0).params ∧ valsB vs fs.length 0 = true
def SPost (P : Prop) (vs : List Vl) (L base : Nat) (w' : World) (e : Ending) : Prop :=
  (¬ P ∧ e = .returned (.tuple #[.agg #[.slice none 0 0, .slice none 0 0, .int .i64 0, .slice none 0 0, .int .i64 0, .int .i64 0, .int .i64 0, .int .i64 0, .string ⟨#[]⟩, .int .i64 0], .bool false])) ∨
  (P ∧ ∃ G g, base ≤ G ∧ base ≤ g ∧ e = .returned (.tuple #[.agg #[.slice (some ⟨G, 0, none⟩) 1 1, .slice none 0 0, .int .i64 0, .slice none 0 0, .int .i64 0, .int .i64 0, .int .i64 0, .int .i64 0, .string ⟨#[]⟩, .int .i64 0], .bool true]) ∧ w'.heap[G]? = some (.cells #[.int .i64 0, .int .i64 0, .slice (some ⟨g, 0, none⟩) L L, .slice none 0 0] 87 (0, 0)) ∧ ValsAt w' base (some ⟨g, 0, none⟩) (padded vs L) ∧ ValsBlk w' g L)

theorem good_fn {ts : List ByteArray} {fs : List Fn} (h : Good ts fs) : ∃ (h0 : 0 < fs.length) (L : Nat), fs[0].locals = (L : Int) ∧ L ≤ 12 ∧ fs[0].params ≤ (L : Int) := by
  have hm := h.ok
  unfold modB at hm
  simp only [Bool.and_eq_true, decide_eq_true_eq] at hm
  have h0 : 0 < fs.length := by omega
  have hf := List.all_eq_true.1 hm.2 _ (List.getElem_mem h0)
  unfold fnB at hf
  simp only [Bool.and_eq_true, decide_eq_true_eq] at hf
  exact ⟨h0, fs[0].locals.toNat, by omega, by omega, by omega⟩

set_option maxRecDepth 100000 in
set_option maxHeartbeats 4000000 in
theorem iStart_any (a1 a2 va : Option Addr) (c1 c2 vcap : Nat) (ts : List ByteArray) (fs : List Fn) (vs : List Vl) (w : World) (hs : Small ts fs) (hst : StrsAt w 0 a1 ts) (hfn : FnsAt w 0 a2 fs) (hvs : ValsSmall vs) (hv : ValsAt w 0 va vs) :
    Calls Tryz.prog 24 #[.agg #[.slice a1 ts.length c1, .slice a2 fs.length c2], .slice va vs.length vcap] w fun e w' => SPost (StartP ts fs vs) vs (fnAt fs 0).locals.toNat w.heap.size w' e ∧ Below w.heap.size w w' := by
  have hvl := hvs.1
  have hbA : Below w.heap.size w ((w.alloc (.cells #[.slice a1 ts.length c1, .slice a2 fs.length c2] 44)).alloc (.cells #[.slice none 0 0, .slice none 0 0, .int .i64 0, .slice none 0 0, .int .i64 0, .int .i64 0, .int .i64 0, .int .i64 0, .string ⟨#[]⟩, .int .i64 0] 34)) := ((Below.refl _ _).alloc (Nat.le_refl _) _).alloc (by simp) _
  have hM0 := block_old (block_new w #[.slice a1 ts.length c1, .slice a2 fs.length c2] 44) (.cells #[.slice none 0 0, .slice none 0 0, .int .i64 0, .slice none 0 0, .int .i64 0, .int .i64 0, .int .i64 0, .int .i64 0, .string ⟨#[]⟩, .int .i64 0] 34)
  have hR0 := block_new_at (w.alloc (.cells #[.slice a1 ts.length c1, .slice a2 fs.length c2] 44)) #[.slice none 0 0, .slice none 0 0, .int .i64 0, .slice none 0 0, .int .i64 0, .int .i64 0, .int .i64 0, .int .i64 0, .string ⟨#[]⟩, .int .i64 0] 34 (w.heap.size + 1) (by simp)
  go_enter Tryz.func24, Tryz.ntmps24
  go_wp2_with fail
  refine (iVerify_any _ _ _ _ ts fs _ hs (hst.mono hbA) (hfn.mono hbA)).mono ?_
  rintro e w1 ⟨c, f, q, rfl, hV, hb1⟩
  have hM1 := block_kept hM0 hb1
  have hR1 := block_kept hR0 hb1
  have hB1 := hbA.trans (hb1.mono hbA.size)
  have HG : Hid (c = 0 ↔ Good ts fs) := hV.good
  have hfld : (Instr.field 90 (.agg #[.int .i64 c, .int .i64 f, .int .i64 q]) 0).run Tryz.prog w1 = .ok (.int .i64 c) w1 := by kernel_rfl
  clear hM0 hR0 hb1 hbA hV
  by_cases hc : c = 0
  case neg =>
    have hc' : (c != 0) = true := by simpa using hc
    have HN : Hid (¬ StartP ts fs vs) := fun h => hc (HG.out.2 h.1)
    have r1 := block_cell hR1
    have r2 := block_free hR1
    clear hc
    go_wp2
    refine bodyPost_ret (v := .tuple #[.agg #[.slice none 0 0, .slice none 0 0, .int .i64 0, .slice none 0 0, .int .i64 0, .int .i64 0, .int .i64 0, .int .i64 0, .string ⟨#[]⟩, .int .i64 0], .bool false]) (by simp [results, Tryz.results24, go_sem, r1]) rfl ⟨.inl ⟨HN.out, rfl⟩, ?_⟩
    exact ((((((((((hB1.setCell (by simp) _).setCell (by simp) _).setCell (by simp) _).setCell (by simp) _).setCell (by simp) _).setCell (by simp) _).setCell (by simp) _).setCell (by simp) _).setCell (by simp) _).setCell (by simp) _)
  subst hc
  have hg := HG.out.1 rfl
  have HGD : Hid (Good ts fs) := hg
  obtain ⟨h0, L, hL, hL2, hpL⟩ := good_fn hg
  have hf0 : fnAt fs 0 = fs[0] := fnAt_of (i := 0) h0
  have HLE : Hid ((fnAt fs 0).locals.toNat = L) := by show (fnAt fs 0).locals.toNat = L; rw [hf0, hL, Int.toNat_natCast]
  have HPs : Hid (StartP ts fs vs ↔ (vs.length : Int) = fs[0].params ∧ valsB vs fs.length 0 = true) := by
    show StartP ts fs vs ↔ _
    unfold StartP
    rw [hf0]
    exact ⟨fun h => h.2, fun h => ⟨hg, h⟩⟩
  clear HG hg hf0
  obtain ⟨b, off, ca, cc, rfl, -, d1, d2, d3, d4⟩ := hfn 0 h0
  simp only [Nat.zero_mul, Nat.add_zero] at d1
  have d1' := cell_later hB1 d1
  clear d1 d2 d3 d4
  have m1 := block_cell hM1
  by_cases hp : (vs.length : Int) = fs[0].params
  case neg =>
    have hp' : ((vs.length : Int) != fs[0].params) = true := by simpa using hp
    have HN : Hid (¬ StartP ts fs vs) := fun h => hp (HPs.out.1 h).1
    have r1 := block_cell hR1
    have r2 := block_free hR1
    clear hp
    go_wp2
    refine bodyPost_ret (v := .tuple #[.agg #[.slice none 0 0, .slice none 0 0, .int .i64 0, .slice none 0 0, .int .i64 0, .int .i64 0, .int .i64 0, .int .i64 0, .string ⟨#[]⟩, .int .i64 0], .bool false]) (by simp [results, Tryz.results24, go_sem, r1]) rfl ⟨.inl ⟨HN.out, rfl⟩, ?_⟩
    exact ((((((((((hB1.setCell (by simp) _).setCell (by simp) _).setCell (by simp) _).setCell (by simp) _).setCell (by simp) _).setCell (by simp) _).setCell (by simp) _).setCell (by simp) _).setCell (by simp) _).setCell (by simp) _)
  have HP1 : Hid ((vs.length : Int) = fs[0].params) := hp
  have hp' : ((vs.length : Int) != fs[0].params) = false := by simpa using hp
  have hvL : vs.length ≤ L := by omega
  clear hp
  go_wp2_with fail
  refine (allIn_any _ _ _ _ _ _ _ _ _ _ _ hvs (hv.mono hB1)).mono ?_
  rintro e w2 ⟨rfl, hb2⟩
  have hM2 := block_kept hM1 hb2
  have hR2 := block_kept hR1 hb2
  have hB2 := hB1.trans (hb2.mono hB1.size)
  clear hM1 hR1 hB1 hb2 m1 d1' hp' hfld hpL
  by_cases ho : valsB vs fs.length 0 = true
  case neg =>
    have ho' : valsB vs fs.length 0 = false := by simpa using ho
    have HN : Hid (¬ StartP ts fs vs) := fun h => ho (HPs.out.1 h).2
    have r1 := block_cell hR2
    have r2 := block_free hR2
    clear ho
    go_wp2
    refine bodyPost_ret (v := .tuple #[.agg #[.slice none 0 0, .slice none 0 0, .int .i64 0, .slice none 0 0, .int .i64 0, .int .i64 0, .int .i64 0, .int .i64 0, .string ⟨#[]⟩, .int .i64 0], .bool false]) (by simp [results, Tryz.results24, go_sem, r1]) rfl ⟨.inl ⟨HN.out, rfl⟩, ?_⟩
    exact ((((((((((hB2.setCell (by simp) _).setCell (by simp) _).setCell (by simp) _).setCell (by simp) _).setCell (by simp) _).setCell (by simp) _).setCell (by simp) _).setCell (by simp) _).setCell (by simp) _).setCell (by simp) _)
  have HO : Hid (StartP ts fs vs) := HPs.out.2 ⟨HP1.out, ho⟩
  have hno : (!valsB vs fs.length 0) = false := by rw [ho]; rfl
  have hS : ∀ w', Below w2.heap.size w2 w' → w'.cell? ⟨w.heap.size, 0, none⟩ = some (.slice a1 ts.length c1) ∧ w'.cell? ⟨w.heap.size, 1, none⟩ = some (.slice (some ⟨b, off, none⟩) fs.length c2) := fun w' hb =>
    ⟨by rw [block_cell (block_kept hM2 hb)]; rfl, by rw [block_cell (block_kept hM2 hb)]; rfl⟩
  have HS : Hid (∀ w', Below w2.heap.size w2 w' → w'.cell? ⟨w.heap.size, 0, none⟩ = some (.slice a1 ts.length c1) ∧ w'.cell? ⟨w.heap.size, 1, none⟩ = some (.slice (some ⟨b, off, none⟩) fs.length c2)) := hS
  obtain ⟨j0, j1⟩ := hS w2 (Below.refl _ _)
  have HB : Hid (Below w.heap.size w w2) := hB2
  have HR : Hid (w2.heap[w.heap.size + 1]? = some (.cells #[.slice none 0 0, .slice none 0 0, .int .i64 0, .slice none 0 0, .int .i64 0, .int .i64 0, .int .i64 0, .int .i64 0, .string ⟨#[]⟩, .int .i64 0] 34 (0, 0))) := hR2
  have q : Below w2.heap.size w2 w2.drew := (Below.refl _ _).drew
  have hz2 : w.heap.size + 1 < w2.heap.size := lt_block hR2
  have HZ2 : Hid (w.heap.size + 1 < w2.heap.size) := hz2
  clear hS hM2 hR2 hB2 hz2
  go_wp2
  clear ho hno
  first | (go_region_with (first
      | (go_at_call 50; refine (ownValues_any _ _ _ _ hvs (by exact hv.mono (HB.out.trans (q.mono HB.out.size)))).mono ?_; rintro e wa ⟨rfl, hown, kd⟩; have hqs : Hid (w2.heap.size ≤ _) := q.size; have q := q.trans (kd.mono q.size); obtain ⟨j0, j1⟩ := HS.out _ q)
      | (go_at_call 49; refine (newFrame_any _ _ _ _ _ fs _ _ _ L vs _ h0 hL hL2 hvL (by exact hfn.mono (HB.out.trans (q.mono HB.out.size))) (by exact hown.low (Nat.zero_le _))).mono ?_; rintro e wb ⟨gL, hgL, rfl, hpad, hblk, kd⟩; have hqs2 : Hid (w2.heap.size ≤ _) := q.size; have q := q.trans (kd.mono q.size); obtain ⟨j0, j1⟩ := HS.out _ q; have hRb := block_kept HR.out q; have r1 := block_cell (block_old hRb (.cells #[.int .i64 0, .int .i64 0, .slice (some ⟨gL, 0, none⟩) L L, .slice none 0 0] 87)); have r2 := block_free (block_old hRb (.cells #[.int .i64 0, .int .i64 0, .slice (some ⟨gL, 0, none⟩) L L, .slice none 0 0] 87))))) | fail
  all_goals
    go_wp2
    have hsz := HZ2.out
    have hqz := q.size
    have hbz := HB.out.size
    have hG1 := block_new wb #[.int .i64 0, .int .i64 0, .slice (some ⟨gL, 0, none⟩) L L, .slice none 0 0] 87
    have hb6 := HB.out.trans (q.mono HB.out.size)
    have hbA6 := hb6.alloc hb6.size (.cells #[.int .i64 0, .int .i64 0, .slice (some ⟨gL, 0, none⟩) L L, .slice none 0 0] 87)
    refine bodyPost_ret (v := .tuple #[.agg #[.slice (some ⟨wb.heap.size, 0, none⟩) 1 1, .slice none 0 0, .int .i64 0, .slice none 0 0, .int .i64 0, .int .i64 0, .int .i64 0, .int .i64 0, .string ⟨#[]⟩, .int .i64 0], .bool true]) (by simp [results, Tryz.results24, go_sem, r1]) rfl ?_
    rw [HLE.out]
    have hk : ∀ (kk : Nat), kk ≠ w.heap.size + 1 → (((((((((((wb.alloc (.cells #[.int .i64 0, .int .i64 0, .slice (some ⟨gL, 0, none⟩) L L, .slice none 0 0] 87)).setCell ⟨w.heap.size + 1, 0, none⟩ (.slice (some ⟨wb.heap.size, 0, none⟩) 1 1)).setCell ⟨w.heap.size + 1, 1, none⟩ (.slice none 0 0)).setCell ⟨w.heap.size + 1, 2, none⟩ (.int .i64 0)).setCell ⟨w.heap.size + 1, 3, none⟩ (.slice none 0 0)).setCell ⟨w.heap.size + 1, 4, none⟩ (.int .i64 0)).setCell ⟨w.heap.size + 1, 5, none⟩ (.int .i64 0)).setCell ⟨w.heap.size + 1, 6, none⟩ (.int .i64 0)).setCell ⟨w.heap.size + 1, 7, none⟩ (.int .i64 0)).setCell ⟨w.heap.size + 1, 8, none⟩ (.string ⟨#[]⟩)).setCell ⟨w.heap.size + 1, 9, none⟩ (.int .i64 0)).heap[kk]? = (wb.alloc (.cells #[.int .i64 0, .int .i64 0, .slice (some ⟨gL, 0, none⟩) L L, .slice none 0 0] 87)).heap[kk]? := fun kk hk => by
      rw [Below.heap_setCell _ _ _ _ hk, Below.heap_setCell _ _ _ _ hk, Below.heap_setCell _ _ _ _ hk, Below.heap_setCell _ _ _ _ hk, Below.heap_setCell _ _ _ _ hk, Below.heap_setCell _ _ _ _ hk, Below.heap_setCell _ _ _ _ hk, Below.heap_setCell _ _ _ _ hk, Below.heap_setCell _ _ _ _ hk, Below.heap_setCell _ _ _ _ hk]
    refine ⟨.inr ⟨HO.out, wb.heap.size, gL, by omega, by have := hqs2.out; omega, rfl, ?_, ?_, ?_⟩, ?_⟩
    · rw [hk _ (by omega)]; exact hG1
    · exact (((hpad.mono ((Below.refl _ _).alloc (Nat.le_refl _) _)).low (by have := hqs2.out; omega : w.heap.size + 2 ≤ _)).above (((((((((((Above.refl _ _).setCell (by simp) _).setCell (by simp) _).setCell (by simp) _).setCell (by simp) _).setCell (by simp) _).setCell (by simp) _).setCell (by simp) _).setCell (by simp) _).setCell (by simp) _).setCell (by simp) _)).low (by omega)
    · obtain ⟨cc2, k1, k2⟩ := hblk.mono ((Below.refl _ _).alloc (Nat.le_refl _) (.cells #[.int .i64 0, .int .i64 0, .slice (some ⟨gL, 0, none⟩) L L, .slice none 0 0] 87))
      exact ⟨cc2, by rw [hk _ (by have := hqs2.out; omega)]; exact k1, k2⟩
    · exact ((((((((((hbA6.setCell (by simp) _).setCell (by simp) _).setCell (by simp) _).setCell (by simp) _).setCell (by simp) _).setCell (by simp) _).setCell (by simp) _).setCell (by simp) _).setCell (by simp) _).setCell (by simp) _)
end Go.Proofs.YtoabnejocbnflaaGreat
namespace Go.Proofs.YtoabnejocbnflaaGreat
open Go.RowKit

theorem drew_heap (w : World) : w.drew.heap = w.heap := rfl

set_option maxRecDepth 100000 in
set_option maxHeartbeats 8000000 in
theorem sStart_any (a1 a2 va : Option Addr) (c1 c2 vcap : Nat) (ts : List ByteArray) (fs : List Fn) (vs : List Vl) (w : World) (hs : Small ts fs) (hst : StrsAt w 0 a1 ts) (hfn : FnsAt w 0 a2 fs) (hvs : ValsSmall vs) (hv : ValsAt w 0 va vs) :
    Calls Tryz.prog 20 #[.agg #[.slice a1 ts.length c1, .slice a2 fs.length c2], .slice va vs.length vcap] w fun e w' => SPost (StartP ts fs vs) vs (fnAt fs 0).locals.toNat w.heap.size w' e ∧ Below w.heap.size w w' := by
  have hvl := hvs.1
  have hnf := hs.funcs
  obtain ⟨i0, hi, hz0, hz1, hz2⟩ := info_parts info32
  have hbA : Below w.heap.size w ((w.alloc (.cells #[.slice a1 ts.length c1, .slice a2 fs.length c2] 44)).alloc (.cells #[.slice none 0 0, .slice none 0 0, .int .i64 0, .slice none 0 0, .int .i64 0, .int .i64 0, .int .i64 0, .int .i64 0, .string ⟨#[]⟩, .int .i64 0] 34)) := ((Below.refl _ _).alloc (Nat.le_refl _) _).alloc (by simp) _
  have hM0 := block_old (block_new w #[.slice a1 ts.length c1, .slice a2 fs.length c2] 44) (.cells #[.slice none 0 0, .slice none 0 0, .int .i64 0, .slice none 0 0, .int .i64 0, .int .i64 0, .int .i64 0, .int .i64 0, .string ⟨#[]⟩, .int .i64 0] 34)
  have hR0 := block_new_at (w.alloc (.cells #[.slice a1 ts.length c1, .slice a2 fs.length c2] 44)) #[.slice none 0 0, .slice none 0 0, .int .i64 0, .slice none 0 0, .int .i64 0, .int .i64 0, .int .i64 0, .int .i64 0, .string ⟨#[]⟩, .int .i64 0] 34 (w.heap.size + 1) (by simp)
  go_enter Tryz.func20, Tryz.ntmps20
  go_wp2_with fail
  refine (sGood_any _ _ _ _ ts fs _ hs (hst.mono hbA) (hfn.mono hbA)).mono ?_
  rintro e w1 ⟨hsay, hb1⟩
  obtain rfl := hsay.eq
  clear hsay
  have hM1 := block_kept hM0 hb1
  have hR1 := block_kept hR0 hb1
  have hB1 := hbA.trans (hb1.mono hbA.size)
  clear hM0 hR0 hb1 hbA
  by_cases hg : Good ts fs
  case neg =>
    have hg' := pB_no hg
    have HN : Hid (¬ StartP ts fs vs) := fun h => hg h.1
    have r1 := block_cell hR1
    have r2 := block_free hR1
    clear hg
    go_wp2
    refine bodyPost_ret (v := .tuple #[.agg #[.slice none 0 0, .slice none 0 0, .int .i64 0, .slice none 0 0, .int .i64 0, .int .i64 0, .int .i64 0, .int .i64 0, .string ⟨#[]⟩, .int .i64 0], .bool false]) (by simp [results, Tryz.results20, go_sem, r1]) rfl ⟨.inl ⟨HN.out, rfl⟩, ?_⟩
    exact ((((((((((hB1.setCell (by simp) _).setCell (by simp) _).setCell (by simp) _).setCell (by simp) _).setCell (by simp) _).setCell (by simp) _).setCell (by simp) _).setCell (by simp) _).setCell (by simp) _).setCell (by simp) _)
  have hg' := pB_yes hg
  obtain ⟨h0, L, hL, hL2, hpL⟩ := good_fn hg
  have hf0 : fnAt fs 0 = fs[0] := fnAt_of (i := 0) h0
  have HLE : Hid ((fnAt fs 0).locals.toNat = L) := by show (fnAt fs 0).locals.toNat = L; rw [hf0, hL, Int.toNat_natCast]
  have HPs : Hid (StartP ts fs vs ↔ (vs.length : Int) = fs[0].params ∧ valsB vs fs.length 0 = true) := by
    show StartP ts fs vs ↔ _
    unfold StartP
    rw [hf0]
    exact ⟨fun h => h.2, fun h => ⟨hg, h⟩⟩
  clear hg hf0
  obtain ⟨b, off, ca, cc, rfl, -, d1, d2, d3, d4⟩ := hfn 0 h0
  simp only [Nat.zero_mul, Nat.add_zero] at d1 d2
  rw [hL] at d2
  have d1' := cell_later hB1 d1
  clear d1 d3 d4
  have m1 := block_cell hM1
  by_cases hp : (vs.length : Int) = fs[0].params
  case neg =>
    have hp' : ((vs.length : Int) != fs[0].params) = true := by simpa using hp
    have HN : Hid (¬ StartP ts fs vs) := fun h => hp (HPs.out.1 h).1
    have r1 := block_cell hR1
    have r2 := block_free hR1
    clear hp
    go_wp2
    refine bodyPost_ret (v := .tuple #[.agg #[.slice none 0 0, .slice none 0 0, .int .i64 0, .slice none 0 0, .int .i64 0, .int .i64 0, .int .i64 0, .int .i64 0, .string ⟨#[]⟩, .int .i64 0], .bool false]) (by simp [results, Tryz.results20, go_sem, r1]) rfl ⟨.inl ⟨HN.out, rfl⟩, ?_⟩
    exact ((((((((((hB1.setCell (by simp) _).setCell (by simp) _).setCell (by simp) _).setCell (by simp) _).setCell (by simp) _).setCell (by simp) _).setCell (by simp) _).setCell (by simp) _).setCell (by simp) _).setCell (by simp) _)
  have HP1 : Hid ((vs.length : Int) = fs[0].params) := hp
  have hp' : ((vs.length : Int) != fs[0].params) = false := by simpa using hp
  have hvL : vs.length ≤ L := by omega
  clear hp
  go_wp2
  clear m1 d1' hp' hg' hpL
  go_loopw [6] (fun i wr => ∃ (k : Nat), k ≤ vs.length ∧ i = .int .i64 k ∧ Hid ((vs.take k).all (okB fs.length 0) = true) ∧ wr.heap[w.heap.size]? = some (.cells #[.slice a1 ts.length c1, .slice (some ⟨b, off, none⟩) fs.length c2] 44 (0, 0)) ∧ wr.heap[w.heap.size + 1]? = some (.cells #[.slice none 0 0, .slice none 0 0, .int .i64 0, .slice none 0 0, .int .i64 0, .int .i64 0, .int .i64 0, .int .i64 0, .string ⟨#[]⟩, .int .i64 0] 34 (0, 0)) ∧ Below w.heap.size w wr) (fun i _ => vs.length - (intOf i).toNat)
  case atStart => exact ⟨0, by omega, rfl, rfl, hM1, hR1, hB1⟩
  case round =>
    obtain ⟨k, hk, rfl, hal, hM, hR, hb⟩ := hrel
    clear hM1 hR1 hB1
    by_cases hlt : k < vs.length
    · obtain ⟨vb, vo, rfl, -, e1, e2, e3⟩ := hv k hlt
      have e1' := cell_later hb e1
      have e2' := cell_later hb e2
      have e3' := cell_later hb e3
      clear e1 e2 e3
      have hck := hvs.2 vs[k] (List.getElem_mem hlt)
      have hS : ∀ w', Below wr.heap.size wr w' → w'.cell? ⟨w.heap.size, 0, none⟩ = some (.slice a1 ts.length c1) ∧ w'.cell? ⟨w.heap.size, 1, none⟩ = some (.slice (some ⟨b, off, none⟩) fs.length c2) ∧ w'.cell? ⟨vb, vo + k * 3, none⟩ = some (.int .i64 vs[k].k) ∧ w'.cell? ⟨vb, vo + k * 3 + 1, none⟩ = some (.int .i64 vs[k].n) ∧ w'.cell? ⟨vb, vo + k * 3 + 2, none⟩ = some (.string vs[k].s) := fun w' hb =>
        ⟨by rw [block_cell (block_kept hM hb)]; rfl, by rw [block_cell (block_kept hM hb)]; rfl, cell_later hb e1', cell_later hb e2', cell_later hb e3'⟩
      have HS : Hid (∀ w', Below wr.heap.size wr w' → w'.cell? ⟨w.heap.size, 0, none⟩ = some (.slice a1 ts.length c1) ∧ w'.cell? ⟨w.heap.size, 1, none⟩ = some (.slice (some ⟨b, off, none⟩) fs.length c2) ∧ w'.cell? ⟨vb, vo + k * 3, none⟩ = some (.int .i64 vs[k].k) ∧ w'.cell? ⟨vb, vo + k * 3 + 1, none⟩ = some (.int .i64 vs[k].n) ∧ w'.cell? ⟨vb, vo + k * 3 + 2, none⟩ = some (.string vs[k].s)) := hS
      obtain ⟨j0, j1, j2, j3, j4⟩ := hS wr (Below.refl _ _)
      have q : Below wr.heap.size wr wr.drew := (Below.refl _ _).drew
      have HB : Hid (Below w.heap.size w wr) := hb
      have HM : Hid (wr.heap[w.heap.size]? = some (.cells #[.slice a1 ts.length c1, .slice (some ⟨b, off, none⟩) fs.length c2] 44 (0, 0))) := hM
      have HR : Hid (wr.heap[w.heap.size + 1]? = some (.cells #[.slice none 0 0, .slice none 0 0, .int .i64 0, .slice none 0 0, .int .i64 0, .int .i64 0, .int .i64 0, .int .i64 0, .string ⟨#[]⟩, .int .i64 0] 34 (0, 0))) := hR
      clear hS hb hM hR e1' e2' e3'
      by_cases ho : valB vs[k].k vs[k].n vs[k].s fs.length 0 = true
      · have HO : Hid (valB vs[k].k vs[k].n vs[k].s fs.length 0 = true) := ho
        have hon : (!valB vs[k].k vs[k].n vs[k].s fs.length 0) = false := by rw [ho]; rfl
        go_wp2
        go_region_held3 (fun w' => w'.cell? ⟨w.heap.size, 0, none⟩ = some (.slice a1 ts.length c1) ∧ w'.cell? ⟨w.heap.size, 1, none⟩ = some (.slice (some ⟨b, off, none⟩) fs.length c2) ∧ w'.cell? ⟨vb, vo + k * 3, none⟩ = some (.int .i64 vs[k].k) ∧ w'.cell? ⟨vb, vo + k * 3 + 1, none⟩ = some (.int .i64 vs[k].n) ∧ w'.cell? ⟨vb, vo + k * 3 + 2, none⟩ = some (.string vs[k].s))
          (first | exact ⟨j0, j1, j2, j3, j4⟩ | exact HS.out _ q)
          (first
            | (go_at_call 45; refine (sOk_any _ _ _ _ _ _ _ _ _ _ _ hnf hck).mono ?_; rintro e w5 ⟨rfl, kd⟩; have q := q.trans (kd.mono q.size)))
        have hM5 := block_kept HM.out q
        have hR5 := block_kept HR.out q
        have hB5 := HB.out.trans (q.mono HB.out.size)
        clear HM HR HB HS j0 j1 j2 j3 j4 q kd
        go_wp2
        go_roundw
        case rel => exact ⟨k + 1, by omega, by go_num, all_take hlt hal.out HO.out, hM5, hR5, hB5⟩
        case measure => simp [intOf]; omega
      · have ho' : valB vs[k].k vs[k].n vs[k].s fs.length 0 = false := by simpa using ho
        have hon : (!valB vs[k].k vs[k].n vs[k].s fs.length 0) = true := by rw [ho']; rfl
        have HN : Hid (¬ StartP ts fs vs) := fun h => by
          have h2 := (HPs.out.1 h).2
          rw [show valsB vs fs.length 0 = false from all_no hlt ho'] at h2
          cases h2
        clear ho
        go_wp2
        go_region_held3 (fun w' => w'.cell? ⟨w.heap.size, 0, none⟩ = some (.slice a1 ts.length c1) ∧ w'.cell? ⟨w.heap.size, 1, none⟩ = some (.slice (some ⟨b, off, none⟩) fs.length c2) ∧ w'.cell? ⟨vb, vo + k * 3, none⟩ = some (.int .i64 vs[k].k) ∧ w'.cell? ⟨vb, vo + k * 3 + 1, none⟩ = some (.int .i64 vs[k].n) ∧ w'.cell? ⟨vb, vo + k * 3 + 2, none⟩ = some (.string vs[k].s))
          (first | exact ⟨j0, j1, j2, j3, j4⟩ | exact HS.out _ q)
          (first
            | (go_at_call 45; refine (sOk_any _ _ _ _ _ _ _ _ _ _ _ hnf hck).mono ?_; rintro e w5 ⟨rfl, kd⟩; have q := q.trans (kd.mono q.size)))
        have hM5 := block_kept HM.out q
        have hR5 := block_kept HR.out q
        have hB5 := HB.out.trans (q.mono HB.out.size)
        clear HM HR HB HS j0 j1 j2 j3 j4 q kd
        have r1 := block_cell hR5
        have r2 := block_free hR5
        go_wp2
        refine bodyPost_ret (v := .tuple #[.agg #[.slice none 0 0, .slice none 0 0, .int .i64 0, .slice none 0 0, .int .i64 0, .int .i64 0, .int .i64 0, .int .i64 0, .string ⟨#[]⟩, .int .i64 0], .bool false]) (by simp [results, Tryz.results20, go_sem, r1]) rfl ⟨.inl ⟨HN.out, rfl⟩, ?_⟩
        exact ((((((((((hB5.setCell (by simp) _).setCell (by simp) _).setCell (by simp) _).setCell (by simp) _).setCell (by simp) _).setCell (by simp) _).setCell (by simp) _).setCell (by simp) _).setCell (by simp) _).setCell (by simp) _)
    · have HO : Hid (StartP ts fs vs) := HPs.out.2 ⟨HP1.out, all_end (by omega) hal.out⟩
      have m1 := block_cell hM
      have d2' := cell_later hb d2
      obtain ⟨wq, rfl⟩ : ∃ wq, wq = wr := ⟨_, rfl⟩
      have HQ : Hid (w.heap.size + 1 < wq.heap.size) := lt_block hR
      clear hal
      go_wp2_with (first | (at_make; refine wpList_make_full _ rfl _ _ 46 rfl w.heap.size 32 i0 (.agg #[.int .i64 0, .int .i64 0, .string ByteArray.empty]) 3 Tryz.underlying46 hi hz0 hz1 _ _ _ _ L rfl rfl rfl rfl (by rw [hz2]; omega) (by unfold maxLen; omega) (by exact hb.size) ?_; intro w1 hown hgrow))
      obtain ⟨cur0, hblk, hsz, hzz⟩ := made3 hown
      have hbm : Below wq.heap.size wq w1 := (Below.refl _ _).grown hgrow (Nat.le_refl _) (by intro k hk; cases hk)
      have hM1 := block_kept hM hbm
      have hR1 := block_kept hR hbm
      have hB1 := hb.trans (hbm.mono hb.size)
      have hs1 : wq.heap.size < w1.heap.size := lt_block hblk
      have HS1 : Hid (wq.heap.size < w1.heap.size) := hs1
      have hXA := block_new w1 #[.int .i64 0, .int .i64 0, .slice (some ⟨wq.heap.size, 0, none⟩) L L, .slice none 0 0] 87
      have hRA := block_old hR1 (.cells #[.int .i64 0, .int .i64 0, .slice (some ⟨wq.heap.size, 0, none⟩) L L, .slice none 0 0] 87)
      have hCA := block_old hblk (.cells #[.int .i64 0, .int .i64 0, .slice (some ⟨wq.heap.size, 0, none⟩) L L, .slice none 0 0] 87)
      have hBA := hB1.alloc hB1.size (.cells #[.int .i64 0, .int .i64 0, .slice (some ⟨wq.heap.size, 0, none⟩) L L, .slice none 0 0] 87)
      clear hown hgrow hi hz0 hz1 hz2 hblk hbm hM hR hb hM1 hR1 hB1 m1 d2' hs1
      go_loopw [8] (fun i wr => ∃ (k : Nat) (cur : Array Value), k ≤ vs.length ∧ i = .int .i64 k ∧ wr.heap[wq.heap.size]? = some (.cells cur 32 (0, 0)) ∧ Hid (cur.size = L * 3) ∧ Hid (∀ j (hj : j < (padded vs L).length), j < k ∨ vs.length ≤ j → cur[j * 3]? = some (.int .i64 (padded vs L)[j].k) ∧ cur[j * 3 + 1]? = some (.int .i64 (padded vs L)[j].n) ∧ cur[j * 3 + 2]? = some (.string (padded vs L)[j].s)) ∧ wr.heap[w1.heap.size]? = some (.cells #[.int .i64 0, .int .i64 0, .slice (some ⟨wq.heap.size, 0, none⟩) L L, .slice none 0 0] 87 (0, 0)) ∧ wr.heap[w.heap.size + 1]? = some (.cells #[.slice none 0 0, .slice none 0 0, .int .i64 0, .slice none 0 0, .int .i64 0, .int .i64 0, .int .i64 0, .int .i64 0, .string ⟨#[]⟩, .int .i64 0] 34 (0, 0)) ∧ Below w.heap.size w wr) (fun i _ => vs.length - (intOf i).toNat)
      case atStart =>
        refine ⟨0, cur0, by omega, rfl, hCA, hsz, fun j hj hjk => ?_, hXA, hRA, hBA⟩
        have hpl := padded_len hvL
        obtain ⟨z1, z2, z3⟩ := hzz j (by omega)
        rw [padded_hi (by omega) hj]
        exact ⟨z1, z2, z3⟩
      case round =>
        obtain ⟨k, cur, hk, rfl, hC, hcs, hd, hX, hR, hb⟩ := hrel
        clear hXA hRA hCA hBA
        by_cases hlt : k < vs.length
        · obtain ⟨vb, vo, rfl, -, e1, e2, e3⟩ := hv k hlt
          have e1' := cell_later hb e1
          have e2' := cell_later hb e2
          have e3' := cell_later hb e3
          clear e1 e2 e3
          have x1 := block_cell hX
          have hfz := block_free hC
          have hplk : k < (padded vs L).length := by rw [padded_len hvL]; omega
          obtain ⟨y1, hcl⟩ : ∃ v, wr.cell? ⟨wq.heap.size, k * 3, none⟩ = some v := ⟨cur[k * 3]'(by rw [hcs.out]; omega), by rw [block_cell hC]; exact Array.getElem?_eq_getElem _⟩
          obtain ⟨y2, hcl2⟩ : ∃ v, wr.cell? ⟨wq.heap.size, k * 3 + 1, none⟩ = some v := ⟨cur[k * 3 + 1]'(by rw [hcs.out]; omega), by rw [block_cell hC]; exact Array.getElem?_eq_getElem _⟩
          obtain ⟨y3, hcl3⟩ : ∃ v, wr.cell? ⟨wq.heap.size, k * 3 + 2, none⟩ = some v := ⟨cur[k * 3 + 2]'(by rw [hcs.out]; omega), by rw [block_cell hC]; exact Array.getElem?_eq_getElem _⟩
          have HSX := HS1.out
          have HQX := HQ.out
          have hne1 : Hid (w1.heap.size ≠ wq.heap.size) := by show w1.heap.size ≠ wq.heap.size; omega
          have hne2 : Hid (w.heap.size + 1 ≠ wq.heap.size) := by show w.heap.size + 1 ≠ wq.heap.size; omega
          have hle : Hid (w.heap.size ≤ wq.heap.size) := by show w.heap.size ≤ wq.heap.size; omega
          clear HSX HQX
          go_wp2
          go_region
          all_goals
            go_wp2
            go_roundw
            case rel =>
              refine ⟨k + 1, ((cur.setIfInBounds (k * 3) (.int .i64 vs[k].k)).setIfInBounds (k * 3 + 1) (.int .i64 vs[k].n)).setIfInBounds (k * 3 + 2) (.string vs[k].s), by omega, by go_num, block_set (block_set (block_set hC _) _) _, by have := hcs.out; show _ = _; simpa using this, ?_, ?_, ?_, ?_⟩
              · have hcsz := hcs.out
                intro j hj hjk
                by_cases e : j = k
                · subst e
                  rw [padded_lo hlt hj]
                  refine ⟨?_, ?_, ?_⟩
                  · rw [set_else _ (by omega), set_else _ (by omega)]; exact set_self _ (by omega)
                  · rw [set_else _ (by omega)]; exact set_self _ (by simp; omega)
                  · exact set_self _ (by simp; omega)
                · obtain ⟨d1, d2, d3⟩ := hd.out j hj (by omega)
                  refine ⟨?_, ?_, ?_⟩
                  · rw [set_else _ (by omega), set_else _ (by omega), set_else _ (by omega)]; exact d1
                  · rw [set_else _ (by omega), set_else _ (by omega), set_else _ (by omega)]; exact d2
                  · rw [set_else _ (by omega), set_else _ (by omega), set_else _ (by omega)]; exact d3
              · repeat (first | rw [Below.heap_setCell _ _ _ _ hne1.out] | rw [drew_heap])
                exact hX
              · repeat (first | rw [Below.heap_setCell _ _ _ _ hne2.out] | rw [drew_heap])
                exact hR
              · repeat (first | exact hb | apply Below.drew | refine Below.setCell ?_ hle.out _)
            case measure => simp [intOf]; omega
        · have x1 := block_cell hX
          have hRn := block_old hR (.cells #[.int .i64 0, .int .i64 0, .slice (some ⟨wq.heap.size, 0, none⟩) L L, .slice none 0 0] 87)
          have r1 := block_cell hRn
          have r2 := block_free hRn
          have hG1 := block_new wr #[.int .i64 0, .int .i64 0, .slice (some ⟨wq.heap.size, 0, none⟩) L L, .slice none 0 0] 87
          have hbA6 := hb.alloc hb.size (.cells #[.int .i64 0, .int .i64 0, .slice (some ⟨wq.heap.size, 0, none⟩) L L, .slice none 0 0] 87)
          have hzw := lt_block hX
          have HQ2 := HQ.out
          have HS2 := HS1.out
          go_wp2
          refine bodyPost_ret (v := .tuple #[.agg #[.slice (some ⟨wr.heap.size, 0, none⟩) 1 1, .slice none 0 0, .int .i64 0, .slice none 0 0, .int .i64 0, .int .i64 0, .int .i64 0, .int .i64 0, .string ⟨#[]⟩, .int .i64 0], .bool true]) (by simp [results, Tryz.results20, go_sem, r1]) rfl ?_
          rw [HLE.out]
          have hk2 : ∀ (kk : Nat), kk ≠ w.heap.size + 1 → (((((((((((wr.alloc (.cells #[.int .i64 0, .int .i64 0, .slice (some ⟨wq.heap.size, 0, none⟩) L L, .slice none 0 0] 87)).setCell ⟨w.heap.size + 1, 0, none⟩ (.slice (some ⟨wr.heap.size, 0, none⟩) 1 1)).setCell ⟨w.heap.size + 1, 1, none⟩ (.slice none 0 0)).setCell ⟨w.heap.size + 1, 2, none⟩ (.int .i64 0)).setCell ⟨w.heap.size + 1, 3, none⟩ (.slice none 0 0)).setCell ⟨w.heap.size + 1, 4, none⟩ (.int .i64 0)).setCell ⟨w.heap.size + 1, 5, none⟩ (.int .i64 0)).setCell ⟨w.heap.size + 1, 6, none⟩ (.int .i64 0)).setCell ⟨w.heap.size + 1, 7, none⟩ (.int .i64 0)).setCell ⟨w.heap.size + 1, 8, none⟩ (.string ⟨#[]⟩)).setCell ⟨w.heap.size + 1, 9, none⟩ (.int .i64 0)).heap[kk]? = (wr.alloc (.cells #[.int .i64 0, .int .i64 0, .slice (some ⟨wq.heap.size, 0, none⟩) L L, .slice none 0 0] 87)).heap[kk]? := fun kk hk => by
            rw [Below.heap_setCell _ _ _ _ hk, Below.heap_setCell _ _ _ _ hk, Below.heap_setCell _ _ _ _ hk, Below.heap_setCell _ _ _ _ hk, Below.heap_setCell _ _ _ _ hk, Below.heap_setCell _ _ _ _ hk, Below.heap_setCell _ _ _ _ hk, Below.heap_setCell _ _ _ _ hk, Below.heap_setCell _ _ _ _ hk, Below.heap_setCell _ _ _ _ hk]
          have hCw := block_old hC (.cells #[.int .i64 0, .int .i64 0, .slice (some ⟨wq.heap.size, 0, none⟩) L L, .slice none 0 0] 87)
          have hpv : ValsAt (wr.alloc (.cells #[.int .i64 0, .int .i64 0, .slice (some ⟨wq.heap.size, 0, none⟩) L L, .slice none 0 0] 87)) (w.heap.size + 2) (some ⟨wq.heap.size, 0, none⟩) (padded vs L) := fun j hj => by
            obtain ⟨d1, d2, d3⟩ := hd.out j hj (by omega)
            exact ⟨wq.heap.size, 0, rfl, by omega, by rw [block_cell hCw, Nat.zero_add]; exact d1, by rw [block_cell hCw, Nat.zero_add]; exact d2, by rw [block_cell hCw, Nat.zero_add]; exact d3⟩
          refine ⟨.inr ⟨HO.out, wr.heap.size, wq.heap.size, by omega, by omega, rfl, ?_, ?_, ?_⟩, ?_⟩
          · rw [hk2 _ (by omega)]; exact hG1
          · exact (hpv.above (((((((((((Above.refl _ _).setCell (by simp) _).setCell (by simp) _).setCell (by simp) _).setCell (by simp) _).setCell (by simp) _).setCell (by simp) _).setCell (by simp) _).setCell (by simp) _).setCell (by simp) _).setCell (by simp) _)).low (by omega)
          · exact ⟨cur, by rw [hk2 _ (by omega)]; exact hCw, hcs.out⟩
          · exact ((((((((((hbA6.setCell (by simp) _).setCell (by simp) _).setCell (by simp) _).setCell (by simp) _).setCell (by simp) _).setCell (by simp) _).setCell (by simp) _).setCell (by simp) _).setCell (by simp) _).setCell (by simp) _)
end Go.Proofs.YtoabnejocbnflaaGreat
