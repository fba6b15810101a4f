/-
  A jump led on by one: impl.hop.
-/
import Derived.Test.YtffeejkghmpkkaaRMT6
import Derived.Test.YtffeejkghmpkkaaRCK
import Derived.Test.YtffeejkghmpkkaaRMT2
namespace Go.Proofs.Ytffeejkghmpkkaa
open Go.RowKit

/-- What leading on by one leaves. -/
def HopPost (B g n cap at' : Nat) (code : List (Int × Int)) (w : World) (b : Bool) (w' : World) : Prop :=
  w'.ownsRow B 54 2 (.slice (some ⟨g, 0, none⟩) n cap) n (codeVals (hopC at' code)) ∧ (b = false → hopC at' code = code) ∧ Keeps B [54] w w'
/-- What leading on by one answers. -/
def HopEnd (B g n cap at' : Nat) (code : List (Int × Int)) (w : World) (e : Ending) (w' : World) : Prop := ∃ b, e = .returned (.bool b) ∧ HopPost B g n cap at' code w b w'

set_option maxRecDepth 100000 in
set_option maxHeartbeats 8000000 in
theorem hop_any (B g n cap at' : Nat) (code : List (Int × Int)) (w : World) (hn : n = code.length) (h120 : n ≤ 120) (hat : at' < n) (hJ : JIn n code) (hBw : B ≤ w.heap.size) (hown : w.ownsRow B 54 2 (.slice (some ⟨g, 0, none⟩) n cap) n (codeVals code)) :
    Calls Try.prog 50 #[.slice (some ⟨g, 0, none⟩) n cap, .int .i64 at'] w fun e w' => HopEnd B g n cap at' code w e w' := by
  have hat2 : at' < code.length := by omega
  rw [hn] at hown
  obtain ⟨g', hg', hgb, d1, d2, d3, hput, honly⟩ := own_ins hown hat2
  obtain rfl : g = g' := by cases hg'; rfl
  have hca := getD_code hat2
  have hJa := hJ.2 at' hat
  rw [hca] at hJa
  have HP := hid hput
  have HO := hid hown
  have HN := hid hn
  have HXE : Hid (code.getD at' (0, 0) = code[at']) := hca
  have HBW := hid hBw
  rw [← hn] at hown
  have HO2 := hid hown
  obtain ⟨op, hop⟩ : ∃ op, op = code[at'].1 := ⟨_, rfl⟩
  obtain ⟨a, ha⟩ : ∃ a, a = code[at'].2 := ⟨_, rfl⟩
  rw [← hop, ← ha] at hJa
  rw [← hop] at d1
  rw [← ha] at d2
  have HOP : Hid (code.getD at' (0, 0) = (op, a)) := by show _ = _; rw [hca, hop, ha]
  clear hput honly hown hg' hca hn hop ha
  by_cases hj : Jop op
  case neg =>
    have hd : decide (op = 17 ∨ op = 18 ∨ op = 19) = false := decide_eq_false hj
    have HF : Hid (HopPost B g n cap at' code w false w) := by
      have e : hopC at' code = code := hopC_no (by rw [HOP.out]; exact fun h => hj h.1)
      exact ⟨by rw [e]; exact HO2.out, fun _ => e, Keeps.refl _ _ _⟩
    go_enter Try.func50, Try.ntmps50
    go_wp2_with fail
    refine (jumpOp_any op _).mono ?_
    rintro e w2 ⟨rfl, hw2⟩
    rw [hw2, hd]
    clear hw2 w2
    go_wp2
    go_ret
    exact ⟨false, rfl, HF.out⟩
  have hd : decide (op = 17 ∨ op = 18 ∨ op = 19) = true := decide_eq_true hj
  obtain ⟨ha0, ha1⟩ := hJa hj
  obtain ⟨p, rfl⟩ : ∃ p : Nat, a = (p : Int) := ⟨a.toNat, by omega⟩
  have hpn : p < n := by omega
  have hpl : p < code.length := by rw [← HN.out]; exact hpn
  obtain ⟨g', hg', -, k1, k2, -, -, -⟩ := own_ins HO.out hpl
  obtain rfl : g = g' := by cases hg'; rfl
  obtain ⟨op2, hop2⟩ : ∃ op2, op2 = code[p].1 := ⟨_, rfl⟩
  obtain ⟨a2, ha2⟩ : ∃ a2, a2 = code[p].2 := ⟨_, rfl⟩
  rw [← hop2] at k1
  rw [← ha2] at k2
  have HNX : Hid (code.getD (code.getD at' (0, 0)).2.toNat (0, 0) = (op2, a2)) := by show _ = _; rw [HOP.out, Int.toNat_natCast, getD_code hpl, hop2, ha2]
  have HJP : Hid (Jop (code.getD at' (0, 0)).1) := by show Jop _; rw [HOP.out]; exact hj
  have hbA : Below w.heap.size w (w.alloc (.cells #[.int .i64 op2, .int .i64 a2] 54)) := (Below.refl _ _).alloc (Nat.le_refl _) _
  have hZ := block_new w #[.int .i64 op2, .int .i64 a2] 54
  have hgw : g < w.heap.size := (HO2.out.lt g rfl).2
  obtain ⟨wA, hwA⟩ : ∃ wA, wA = w.alloc (.cells #[.int .i64 op2, .int .i64 a2] 54) := ⟨_, rfl⟩
  have HWA := hid hwA
  rw [← hwA] at hbA hZ
  have z1 := block_cell hZ
  have z2 := cell_later hbA d2
  have z3 : wA.frozen? ⟨g, at' * 2 + 1, none⟩ = false := by
    obtain ⟨cu, hcu⟩ := own_blk HO2.out rfl
    exact block_free (block_kept hcu hbA) _
  have HBA : Hid (Below w.heap.size w wA) := hbA
  have HOA : Hid (wA.ownsRow B 54 2 (.slice (some ⟨g, 0, none⟩) n cap) n (codeVals code)) := own_keeps (B := 0) (ts := []) HO2.out (Keeps.below hbA) (by simp)
  clear hwA hg' hop2 ha2 hJa hZ
  by_cases h17 : op2 = 17
  case neg =>
    have hne : (op2 == 17) = false := beq_eq_false_iff_ne.2 h17
    have HF : Hid (HopPost B g n cap at' code w false wA.drew) := by
      have e : hopC at' code = code := hopC_no (by rw [HNX.out]; exact fun h => h17 h.2)
      exact ⟨by rw [e]; exact own_keeps (B := 0) (ts := []) HOA.out (Keeps.below (Below.refl _ _).drew) (by simp), fun _ => e, Keeps.below HBA.out.drew⟩
    clear h17 hj
    go_enter Try.func50, Try.ntmps50
    go_wp2_with fail
    refine (jumpOp_any op _).mono ?_
    rintro e w2 ⟨rfl, hw2⟩
    rw [hw2, hd]
    clear hw2 w2
    go_upto_region 5 with fail
    rw [← HWA.out]
    have hh : (fun w' : World => w'.cell? ⟨w.heap.size, 0, none⟩ = some (.int .i64 op2) ∧ w'.cell? ⟨w.heap.size, 1, none⟩ = some (.int .i64 a2) ∧ w'.cell? ⟨g, at' * 2 + 1, none⟩ = some (.int .i64 (p : Int))) _ := ⟨(z1 0).trans rfl, (z1 1).trans rfl, z2⟩
    refine h_begin (fun w' : World => w'.cell? ⟨w.heap.size, 0, none⟩ = some (.int .i64 op2) ∧ w'.cell? ⟨w.heap.size, 1, none⟩ = some (.int .i64 a2) ∧ w'.cell? ⟨g, at' * 2 + 1, none⟩ = some (.int .i64 (p : Int))) (by kernel_rfl) ?_
    refine h_take (i := 0) (oi := _) (v := ?_) rfl (by kernel_rfl) (by kernel_rfl) (by kernel_rfl) (fun _ _ _ h => h) (by kernel_rfl) ?_ hh ?_
    rotate_left
    · intro w' hSw
      obtain ⟨s0, s1, s2⟩ := hSw
      go_simp
      try with_reducible rfl
    simp only [Act.put, List.setIfInBounds_toArray]
    refine h_take (i := 1) (oi := _) (v := ?_) rfl (by kernel_rfl) (by kernel_rfl) (by kernel_rfl) (fun _ _ _ h => h) (by kernel_rfl) ?_ hh ?_
    rotate_left
    · intro w' hSw
      obtain ⟨s0, s1, s2⟩ := hSw
      go_simp
      try with_reducible rfl
    simp only [Act.put]
    refine h_take (i := 2) (oi := _) (v := .bool true) rfl (by kernel_rfl) (by kernel_rfl) (by kernel_rfl) (fun _ _ _ h => h) (by kernel_rfl) ?_ hh ?_
    · intro w' hSw
      obtain ⟨s0, s1, s2⟩ := hSw
      go_simp
      exact beq_eq_false_iff_ne.1 hne
    simp only [Act.put]
    refine h_take (i := 3) (oi := _) (v := ?_) rfl (by kernel_rfl) (by kernel_rfl) (by kernel_rfl) (fun _ _ _ h => h) (by kernel_rfl) ?_ hh ?_
    rotate_left
    · intro w' hSw
      obtain ⟨s0, s1, s2⟩ := hSw
      go_simp
      try with_reducible rfl
    simp only [Act.put]
    refine h_skip (i := 4) (oi := _) rfl (by kernel_rfl) (by kernel_rfl) (by kernel_rfl) (fun _ _ _ h => h) (by kernel_rfl) hh ?_
    simp only [Act.put]
    refine h_skip (i := 5) (oi := _) rfl (by kernel_rfl) (by kernel_rfl) (by kernel_rfl) (fun _ _ _ h => h) (by kernel_rfl) hh ?_
    simp only [Act.put]
    refine h_skip (i := 6) (oi := _) rfl (by kernel_rfl) (by kernel_rfl) (by kernel_rfl) (fun _ _ _ h => h) (by kernel_rfl) hh ?_
    simp only [Act.put]
    refine h_skip (i := 7) (oi := _) rfl (by kernel_rfl) (by kernel_rfl) (by kernel_rfl) (fun _ _ _ h => h) (by kernel_rfl) hh ?_
    simp only [Act.put]
    refine h_skip (i := 8) (oi := _) rfl (by kernel_rfl) (by kernel_rfl) (by kernel_rfl) (fun _ _ _ h => h) (by kernel_rfl) hh ?_
    simp only [Act.put]
    refine h_skip (i := 9) (oi := _) rfl (by kernel_rfl) (by kernel_rfl) (by kernel_rfl) (fun _ _ _ h => h) (by kernel_rfl) hh ?_
    simp only [Act.put]
    refine h_skip (i := 10) (oi := _) rfl (by kernel_rfl) (by kernel_rfl) (by kernel_rfl) (fun _ _ _ h => h) (by kernel_rfl) hh ?_
    simp only [Act.put]
    refine h_take (i := 11) (oi := _) (v := ?_) rfl (by kernel_rfl) (by kernel_rfl) (by kernel_rfl) (fun _ _ _ h => h) (by kernel_rfl) ?_ hh ?_
    rotate_left
    · intro w' hSw
      obtain ⟨s0, s1, s2⟩ := hSw
      go_simp
      try with_reducible rfl
    simp only [Act.put]
    refine wpAnyH_done (by kernel_rfl) ?_ _
    go_simp
    go_wp2
    go_ret
    exact ⟨false, rfl, HF.out⟩
  subst h17
  have HEN : Hid (∀ x : Bool, x = (a2 == (p : Int)) → True) := fun _ _ => trivial
  by_cases he : a2 = (p : Int)
  · have heq : (a2 == (p : Int)) = true := beq_iff_eq.2 he
    have HF : Hid (HopPost B g n cap at' code w false wA.drew) := by
      have e : hopC at' code = code := hopC_self (by rw [HNX.out, HOP.out]; exact he)
      exact ⟨by rw [e]; exact own_keeps (B := 0) (ts := []) HOA.out (Keeps.below (Below.refl _ _).drew) (by simp), fun _ => e, Keeps.below HBA.out.drew⟩
    clear he hj HEN
    go_enter Try.func50, Try.ntmps50
    go_wp2_with fail
    refine (jumpOp_any op _).mono ?_
    rintro e w2 ⟨rfl, hw2⟩
    rw [hw2, hd]
    clear hw2 w2
    go_upto_region 5 with fail
    rw [← HWA.out]
    have hh : (fun w' : World => w'.cell? ⟨w.heap.size, 0, none⟩ = some (.int .i64 17) ∧ w'.cell? ⟨w.heap.size, 1, none⟩ = some (.int .i64 a2) ∧ w'.cell? ⟨g, at' * 2 + 1, none⟩ = some (.int .i64 (p : Int))) _ := ⟨(z1 0).trans rfl, (z1 1).trans rfl, z2⟩
    refine h_begin (fun w' : World => w'.cell? ⟨w.heap.size, 0, none⟩ = some (.int .i64 17) ∧ w'.cell? ⟨w.heap.size, 1, none⟩ = some (.int .i64 a2) ∧ w'.cell? ⟨g, at' * 2 + 1, none⟩ = some (.int .i64 (p : Int))) (by kernel_rfl) ?_
    refine h_take (i := 0) (oi := _) (v := ?_) rfl (by kernel_rfl) (by kernel_rfl) (by kernel_rfl) (fun _ _ _ h => h) (by kernel_rfl) ?_ hh ?_
    rotate_left
    · intro w' hSw
      obtain ⟨s0, s1, s2⟩ := hSw
      go_simp
      try with_reducible rfl
    simp only [Act.put, List.setIfInBounds_toArray]
    refine h_take (i := 1) (oi := _) (v := ?_) rfl (by kernel_rfl) (by kernel_rfl) (by kernel_rfl) (fun _ _ _ h => h) (by kernel_rfl) ?_ hh ?_
    rotate_left
    · intro w' hSw
      obtain ⟨s0, s1, s2⟩ := hSw
      go_simp
      try with_reducible rfl
    simp only [Act.put]
    refine h_take (i := 2) (oi := _) (v := ?_) rfl (by kernel_rfl) (by kernel_rfl) (by kernel_rfl) (fun _ _ _ h => h) (by kernel_rfl) ?_ hh ?_
    rotate_left
    · intro w' hSw
      obtain ⟨s0, s1, s2⟩ := hSw
      go_simp
      try with_reducible rfl
    simp only [Act.put]
    refine h_take (i := 3) (oi := _) (v := ?_) rfl (by kernel_rfl) (by kernel_rfl) (by kernel_rfl) (fun _ _ _ h => h) (by kernel_rfl) ?_ hh ?_
    rotate_left
    · intro w' hSw
      obtain ⟨s0, s1, s2⟩ := hSw
      go_simp
      try with_reducible rfl
    simp only [Act.put]
    refine h_take (i := 4) (oi := _) (v := ?_) rfl (by kernel_rfl) (by kernel_rfl) (by kernel_rfl) (fun _ _ _ h => h) (by kernel_rfl) ?_ hh ?_
    rotate_left
    · intro w' hSw
      obtain ⟨s0, s1, s2⟩ := hSw
      go_simp
      try with_reducible rfl
    simp only [Act.put]
    refine h_take (i := 5) (oi := _) (v := ?_) rfl (by kernel_rfl) (by kernel_rfl) (by kernel_rfl) (fun _ _ _ h => h) (by kernel_rfl) ?_ hh ?_
    rotate_left
    · intro w' hSw
      obtain ⟨s0, s1, s2⟩ := hSw
      go_simp
      try with_reducible rfl
    simp only [Act.put]
    refine h_take (i := 6) (oi := _) (v := ?_) rfl (by kernel_rfl) (by kernel_rfl) (by kernel_rfl) (fun _ _ _ h => h) (by kernel_rfl) ?_ hh ?_
    rotate_left
    · intro w' hSw
      obtain ⟨s0, s1, s2⟩ := hSw
      go_simp
      try with_reducible rfl
    simp only [Act.put]
    refine h_take (i := 7) (oi := _) (v := ?_) rfl (by kernel_rfl) (by kernel_rfl) (by kernel_rfl) (fun _ _ _ h => h) (by kernel_rfl) ?_ hh ?_
    rotate_left
    · intro w' hSw
      obtain ⟨s0, s1, s2⟩ := hSw
      go_simp
      try with_reducible rfl
    simp only [Act.put]
    refine h_take (i := 8) (oi := _) (v := ?_) rfl (by kernel_rfl) (by kernel_rfl) (by kernel_rfl) (fun _ _ _ h => h) (by kernel_rfl) ?_ hh ?_
    rotate_left
    · intro w' hSw
      obtain ⟨s0, s1, s2⟩ := hSw
      go_simp
      try with_reducible rfl
    simp only [Act.put]
    refine h_take (i := 9) (oi := _) (v := ?_) rfl (by kernel_rfl) (by kernel_rfl) (by kernel_rfl) (fun _ _ _ h => h) (by kernel_rfl) ?_ hh ?_
    rotate_left
    · intro w' hSw
      obtain ⟨s0, s1, s2⟩ := hSw
      go_simp
      try with_reducible rfl
    simp only [Act.put]
    refine h_take (i := 10) (oi := _) (v := ?_) rfl (by kernel_rfl) (by kernel_rfl) (by kernel_rfl) (fun _ _ _ h => h) (by kernel_rfl) ?_ hh ?_
    rotate_left
    · intro w' hSw
      obtain ⟨s0, s1, s2⟩ := hSw
      go_simp
      try with_reducible rfl
    simp only [Act.put]
    refine h_take (i := 11) (oi := _) (v := ?_) rfl (by kernel_rfl) (by kernel_rfl) (by kernel_rfl) (fun _ _ _ h => h) (by kernel_rfl) ?_ hh ?_
    rotate_left
    · intro w' hSw
      obtain ⟨s0, s1, s2⟩ := hSw
      go_simp
      try with_reducible rfl
    simp only [Act.put]
    refine wpAnyH_done (by kernel_rfl) ?_ _
    go_simp
    go_wp2
    go_ret
    exact ⟨false, rfl, HF.out⟩
  · have heq : (a2 == (p : Int)) = false := beq_eq_false_iff_ne.2 he
    have HF : Hid (HopPost B g n cap at' code w true (wA.drew.setCell ⟨g, at' * 2 + 1, none⟩ (.int .i64 a2))) := by
      have e : hopC at' code = code.set at' (op, a2) := by rw [hopC_yes ⟨HJP.out, by rw [HNX.out]⟩, HNX.out, HOP.out]
      have ho := own_keeps (B := 0) (ts := []) HOA.out (Keeps.below (Below.refl wA.heap.size wA).drew) (by simp)
      have hl := HN.out
      subst hl
      obtain ⟨g', hg', hgb2, -, -, -, hput2, -⟩ := own_ins ho hat2
      obtain rfl : g = g' := by cases hg'; rfl
      have hp2 := hput2 a2
      have e2 : code[at'].1 = op := by
        have := HOP.out
        rw [HXE.out] at this
        rw [this]
      rw [e2] at hp2
      refine ⟨by rw [e]; exact hp2, fun h => (by cases h), (by obtain ⟨cu, hcu⟩ := own_blk ho rfl; exact Keeps.set (Keeps.below HBA.out.drew) hcu (by simp) hgb2 _ _)⟩
    have q1 := z1
    clear he hj HEN
    go_enter Try.func50, Try.ntmps50
    go_wp2_with fail
    refine (jumpOp_any op _).mono ?_
    rintro e w2 ⟨rfl, hw2⟩
    rw [hw2, hd]
    clear hw2 w2
    go_upto_region 5 with fail
    rw [← HWA.out]
    have hh : (fun w' : World => w'.cell? ⟨w.heap.size, 0, none⟩ = some (.int .i64 17) ∧ w'.cell? ⟨w.heap.size, 1, none⟩ = some (.int .i64 a2) ∧ w'.cell? ⟨g, at' * 2 + 1, none⟩ = some (.int .i64 (p : Int))) _ := ⟨(z1 0).trans rfl, (z1 1).trans rfl, z2⟩
    refine h_begin (fun w' : World => w'.cell? ⟨w.heap.size, 0, none⟩ = some (.int .i64 17) ∧ w'.cell? ⟨w.heap.size, 1, none⟩ = some (.int .i64 a2) ∧ w'.cell? ⟨g, at' * 2 + 1, none⟩ = some (.int .i64 (p : Int))) (by kernel_rfl) ?_
    refine h_take (i := 0) (oi := _) (v := ?_) rfl (by kernel_rfl) (by kernel_rfl) (by kernel_rfl) (fun _ _ _ h => h) (by kernel_rfl) ?_ hh ?_
    rotate_left
    · intro w' hSw
      obtain ⟨s0, s1, s2⟩ := hSw
      go_simp
      try with_reducible rfl
    simp only [Act.put, List.setIfInBounds_toArray]
    refine h_take (i := 1) (oi := _) (v := ?_) rfl (by kernel_rfl) (by kernel_rfl) (by kernel_rfl) (fun _ _ _ h => h) (by kernel_rfl) ?_ hh ?_
    rotate_left
    · intro w' hSw
      obtain ⟨s0, s1, s2⟩ := hSw
      go_simp
      try with_reducible rfl
    simp only [Act.put]
    refine h_take (i := 2) (oi := _) (v := ?_) rfl (by kernel_rfl) (by kernel_rfl) (by kernel_rfl) (fun _ _ _ h => h) (by kernel_rfl) ?_ hh ?_
    rotate_left
    · intro w' hSw
      obtain ⟨s0, s1, s2⟩ := hSw
      go_simp
      try with_reducible rfl
    simp only [Act.put]
    refine h_take (i := 3) (oi := _) (v := ?_) rfl (by kernel_rfl) (by kernel_rfl) (by kernel_rfl) (fun _ _ _ h => h) (by kernel_rfl) ?_ hh ?_
    rotate_left
    · intro w' hSw
      obtain ⟨s0, s1, s2⟩ := hSw
      go_simp
      try with_reducible rfl
    simp only [Act.put]
    refine h_take (i := 4) (oi := _) (v := ?_) rfl (by kernel_rfl) (by kernel_rfl) (by kernel_rfl) (fun _ _ _ h => h) (by kernel_rfl) ?_ hh ?_
    rotate_left
    · intro w' hSw
      obtain ⟨s0, s1, s2⟩ := hSw
      go_simp
      try with_reducible rfl
    simp only [Act.put]
    refine h_take (i := 5) (oi := _) (v := ?_) rfl (by kernel_rfl) (by kernel_rfl) (by kernel_rfl) (fun _ _ _ h => h) (by kernel_rfl) ?_ hh ?_
    rotate_left
    · intro w' hSw
      obtain ⟨s0, s1, s2⟩ := hSw
      go_simp
      try with_reducible rfl
    simp only [Act.put]
    refine h_take (i := 6) (oi := _) (v := ?_) rfl (by kernel_rfl) (by kernel_rfl) (by kernel_rfl) (fun _ _ _ h => h) (by kernel_rfl) ?_ hh ?_
    rotate_left
    · intro w' hSw
      obtain ⟨s0, s1, s2⟩ := hSw
      go_simp
      try with_reducible rfl
    simp only [Act.put]
    refine h_take (i := 7) (oi := _) (v := ?_) rfl (by kernel_rfl) (by kernel_rfl) (by kernel_rfl) (fun _ _ _ h => h) (by kernel_rfl) ?_ hh ?_
    rotate_left
    · intro w' hSw
      obtain ⟨s0, s1, s2⟩ := hSw
      go_simp
      try with_reducible rfl
    simp only [Act.put]
    refine h_take (i := 8) (oi := _) (v := ?_) rfl (by kernel_rfl) (by kernel_rfl) (by kernel_rfl) (fun _ _ _ h => h) (by kernel_rfl) ?_ hh ?_
    rotate_left
    · intro w' hSw
      obtain ⟨s0, s1, s2⟩ := hSw
      go_simp
      try with_reducible rfl
    simp only [Act.put]
    refine h_take (i := 9) (oi := _) (v := ?_) rfl (by kernel_rfl) (by kernel_rfl) (by kernel_rfl) (fun _ _ _ h => h) (by kernel_rfl) ?_ hh ?_
    rotate_left
    · intro w' hSw
      obtain ⟨s0, s1, s2⟩ := hSw
      go_simp
      try with_reducible rfl
    simp only [Act.put]
    refine h_take (i := 10) (oi := _) (v := ?_) rfl (by kernel_rfl) (by kernel_rfl) (by kernel_rfl) (fun _ _ _ h => h) (by kernel_rfl) ?_ hh ?_
    rotate_left
    · intro w' hSw
      obtain ⟨s0, s1, s2⟩ := hSw
      go_simp
      try with_reducible rfl
    simp only [Act.put]
    refine h_take (i := 11) (oi := _) (v := ?_) rfl (by kernel_rfl) (by kernel_rfl) (by kernel_rfl) (fun _ _ _ h => h) (by kernel_rfl) ?_ hh ?_
    rotate_left
    · intro w' hSw
      obtain ⟨s0, s1, s2⟩ := hSw
      go_simp
      try with_reducible rfl
    simp only [Act.put]
    refine wpAnyH_done (by kernel_rfl) ?_ _
    have y0 : wA.drew.cell? ⟨w.heap.size, 0, none⟩ = some (.int .i64 17) := (z1 0).trans rfl
    have y1 : wA.drew.cell? ⟨w.heap.size, 1, none⟩ = some (.int .i64 a2) := (z1 1).trans rfl
    have y2 : wA.drew.cell? ⟨g, at' * 2 + 1, none⟩ = some (.int .i64 (p : Int)) := z2
    have y3 : wA.drew.frozen? ⟨g, at' * 2 + 1, none⟩ = false := z3
    clear z1 z2 z3 q1 hh
    go_simp
    go_wp2
    go_ret
    exact ⟨true, rfl, HF.out⟩
end Go.Proofs.Ytffeejkghmpkkaa
