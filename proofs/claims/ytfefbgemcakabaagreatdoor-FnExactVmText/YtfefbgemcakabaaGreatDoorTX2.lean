/-
  What the document's VmText gives: the walk.
-/
import Derived.Test.YtfefbgemcakabaaGreatDoorVQ13
import Derived.Deep.DeepCutAuto
import Derived.Deep.CutBlock
import Derived.Deep.CutRange
namespace Go.Proofs.YtfefbgemcakabaaGreatDoor
open Go.RowKit

/-- The text that is told of a state: nothing where it is not ok. -/
noncomputable def txT (ts : List ByteArray) (fs : List Fn) (d : VmD) : ByteArray := if pB (VmGood ts fs d) = true then vmT d else ⟨#[]⟩

set_option maxRecDepth 100000 in
set_option maxHeartbeats 8000000 in
theorem sVmText_any (a1 a2 : Option Addr) (c1 c2 : Nat) (ts : List ByteArray) (fs : List Fn) (fa ha oa : Option Addr) (fc hcp oc : Nat) (d : VmD) (w : World) (hs : Small ts fs) (hst : StrsAt w 0 a1 ts) (hfn : FnsAt w 0 a2 fs) (hx : VmSmall d) (hm : VmAt w 0 fa ha oa d) :
    Calls Tryz.prog 6 #[.agg #[.slice a1 ts.length c1, .slice a2 fs.length c2], .agg (vmCells fa ha oa fc hcp oc d)] w fun e w' => e = .returned (.string (txT ts fs d)) ∧ Below w.heap.size w w' := by
  have hbA : Below w.heap.size w ((w.alloc (.cells #[.slice a1 ts.length c1, .slice a2 fs.length c2] 37)).alloc (.cells (vmCells fa ha oa fc hcp oc d) 43)) := ((Below.refl _ _).alloc (Nat.le_refl _) _).alloc (by simp) _
  have hV0 := block_new_at (w.alloc (.cells #[.slice a1 ts.length c1, .slice a2 fs.length c2] 37)) (vmCells fa ha oa fc hcp oc d) 43 (w.heap.size + 1) (by simp)
  unfold vmCells at hbA hV0 ⊢
  unfold txT
  by_cases hgood : VmGood ts fs d
  case neg =>
    rw [if_neg (by rw [pB_no hgood]; decide)]
    go_enter Tryz.func6, Tryz.ntmps6
    go_wp2_with fail
    refine (sVmOk_any _ _ _ _ ts fs _ _ _ _ _ _ d _ hs (hst.mono hbA) (hfn.mono hbA) hx (hm.mono hbA)).mono ?_
    rintro e w1 ⟨hsay, hb1⟩
    obtain rfl := hsay.eq
    rw [pB_no hgood]
    have hB1 := hbA.trans (hb1.mono hbA.size)
    clear hbA hb1 hV0 hsay
    go_wp2
    go_ret
    exact ⟨rfl, hB1⟩
  rw [if_pos (pB_yes hgood)]
  have hT := hgood.tx hx hs
  have HT : Hid (VmTx d) := hT
  have HX : Hid (VmSmall d) := hx
  have hnfr := hT.nf
  have hsz0 := hT.st hx
  have hvz := hT.vval hx
  obtain ⟨s0, hs0⟩ : ∃ s0, s0 = stT d := ⟨_, rfl⟩
  have HS0 : Hid (s0 = stT d) := hs0
  rw [← hs0] at hsz0
  clear hs0
  have HFR : Hid (∀ k ≤ d.frames.length, (frsT d.heap s0 (d.frames.take k)).size ≤ 200000000 * (k + 1)) := fun k hk => by rw [HS0.out]; exact hT.frs hx k hk
  have HEND : Hid (vmT d = frsT d.heap s0 d.frames ++ ⟨#[109, 97, 100, 101, 32]⟩ ++ numText d.made ++ ⟨#[32, 111, 117, 116, 32]⟩ ++ numText (d.out.length : Nat) ++ ⟨#[10]⟩) := by rw [HS0.out]; rfl
  obtain ⟨R, hR⟩ : ∃ R, R = vmT d := ⟨_, rfl⟩
  rw [← hR]
  rw [← hR] at HEND
  clear hR
  go_enter Tryz.func6, Tryz.ntmps6
  go_wp2_with fail
  refine (sVmOk_any _ _ _ _ ts fs _ _ _ _ _ _ d _ hs (hst.mono hbA) (hfn.mono hbA) hx (hm.mono hbA)).mono ?_
  rintro e w1 ⟨hsay, hb1⟩
  obtain rfl := hsay.eq
  rw [pB_yes hgood]
  have hB1 := hbA.trans (hb1.mono hbA.size)
  have hV1 := block_kept hV0 hb1
  have hm1 := hm.mono hB1
  have HV1 : Hid (w1.heap[w.heap.size + 1]? = some (.cells #[.slice fa d.frames.length fc, .slice ha d.heap.length hcp, .int .i64 d.made, .slice oa d.out.length oc, .int .i64 d.status, .int .i64 d.trap, .int .i64 d.value.k, .int .i64 d.value.n, .string d.value.s, .int .i64 d.steps] 43 (0, 0))) := hV1
  have HM1 : Hid (VmAt w1 0 fa ha oa d) := hm1
  have HB1 : Hid (Below w.heap.size w w1) := hB1
  have HP : Hid (HpOk w1 ha d.heap) := ⟨hx.heap, fun r hr => (hx.fields r hr).1, hm1.recs⟩
  have HVal : Hid (∀ (v : Vl) (w' : World), VOk v → Below w1.heap.size w1 w' → Calls Tryz.prog 18 #[.agg #[.int .i64 v.k, .int .i64 v.n, .string v.s], .slice ha d.heap.length hcp] w' fun e w'' => e = .returned (.string (vlT d.heap v)) ∧ Below w'.heap.size w' w'') := fun v w' hv hb =>
    sVText_any v.k v.n v.s ha d.heap hcp w' HP.out.len HP.out.each hv.2 (HP.out.mono hb).lies
  have HC1 : Hid (∀ w', Below w1.heap.size w1 w' → w'.cell? ⟨w.heap.size + 1, 0, none⟩ = some (.slice fa d.frames.length fc) ∧ w'.cell? ⟨w.heap.size + 1, 1, none⟩ = some (.slice ha d.heap.length hcp) ∧ w'.cell? ⟨w.heap.size + 1, 2, none⟩ = some (.int .i64 d.made) ∧ w'.cell? ⟨w.heap.size + 1, 3, none⟩ = some (.slice oa d.out.length oc)) := fun w' hb =>
    ⟨by rw [block_cell (block_kept HV1.out hb)]; rfl, by rw [block_cell (block_kept HV1.out hb)]; rfl, by rw [block_cell (block_kept HV1.out hb)]; rfl, by rw [block_cell (block_kept HV1.out hb)]; rfl⟩
  have v1 := block_cell hV1
  clear hbA hb1 hV0 hsay hm1 hB1 hV1 hst hfn hs hgood hm
  go_upto_block 0 with fail
  go_cut [5] (fun s5 wx => s5 = .string s0 ∧ Below w1.heap.size w1 wx)
  case first =>
    rcases (show d.status = 1 ∨ d.status = 2 ∨ (¬ d.status = 1 ∧ ¬ d.status = 2) by omega) with h1 | h2 | ⟨h1, h2⟩
    · have HE : ⟨#[100, 111, 110, 101, 32]⟩ ++ vlT d.heap d.value ++ ⟨#[10]⟩ = s0 := by rw [HS0.out]; unfold stT; rw [if_pos h1]
      have e1 : (d.status == 1) = true := by rw [h1]; rfl
      clear h1
      have C := HVal.out d.value w1 hT.val (Below.refl _ _)
      generalize vlT d.heap d.value = t at *
      have HC : Hid (Calls Tryz.prog 18 #[.agg #[.int .i64 d.value.k, .int .i64 d.value.n, .string d.value.s], .slice ha d.heap.length hcp] w1 fun e w'' => e = .returned (.string t) ∧ Below w1.heap.size w1 w'') := C
      clear C
      have q2 : ¬ 9223372036854775807 < 5 + t.size := by omega
      have q3 : ¬ 9223372036854775807 < 5 + t.size + 1 := by omega
      go_wp2_with fail
      refine HC.out.mono ?_
      rintro e w2 ⟨rfl, hbw⟩
      clear v1 HC
      go_wp2_with fail
      go_meet
      case rel => exact ⟨rfl, hbw⟩
    · have hr := hT.trap h2
      have HE : ⟨#[116, 114, 97, 112, 32]⟩ ++ numText d.trap ++ ⟨#[10]⟩ = s0 := by rw [HS0.out]; unfold stT; rw [if_neg (by omega), if_pos h2]
      have e1 : (d.status == 1) = false := by rw [h2]; rfl
      have e2 : (d.status == 2) = true := by rw [h2]; rfl
      clear h2
      have C := sDigits_any d.trap (by omega) (by omega) w1
      have hz := numText_size d.trap (by omega) (by omega)
      generalize numText d.trap = t at *
      have HC : Hid (Calls Tryz.prog 19 #[.int .i64 d.trap] w1 fun e w'' => e = .returned (.string t) ∧ Below w1.heap.size w1 w'') := C
      clear C
      have q2 : ¬ 9223372036854775807 < 5 + t.size := by omega
      have q3 : ¬ 9223372036854775807 < 5 + t.size + 1 := by omega
      go_wp2_with fail
      refine HC.out.mono ?_
      rintro e w2 ⟨rfl, hbw⟩
      clear v1 HC
      go_wp2_with fail
      go_meet
      case rel => exact ⟨rfl, hbw⟩
    · have HE : ⟨#[114, 117, 110, 10]⟩ = s0 := by rw [HS0.out]; unfold stT; rw [if_neg h1, if_neg h2]
      go_wp2_with fail
      go_meet
      case rel => exact ⟨by rw [HE], Below.refl _ _⟩
  case rest =>
    obtain ⟨rfl, hbw⟩ := hcut
    clear v1 hvz
    have HBW : Hid (Below w1.heap.size w1 wc) := hbw
    clear hbw
    go_wp2_with fail
    go_loopw [5, 6] (fun o i wr => ∃ k : Nat, k ≤ d.frames.length ∧ i = .int .i64 k ∧ o = .string (frsT d.heap s0 (d.frames.take k)) ∧ Below w1.heap.size w1 wr) (fun _ i _ => d.frames.length - (intOf i).toNat)
    case atStart => exact ⟨0, by omega, rfl, rfl, HBW.out⟩
    case round =>
      obtain ⟨k, hk, rfl, rfl, hbr⟩ := hrel
      obtain ⟨v0, v1, v2, v3⟩ := HC1.out wr hbr
      have hfz := HFR.out k hk
      by_cases hlt : k < d.frames.length
      · obtain ⟨b, off, la, lc, sa, sc, rfl, -, e0, e1, e2, e3, hL, hS⟩ := (HM1.out.mono hbr).frs k hlt
        have hmem := List.getElem_mem hlt
        obtain ⟨t1, t2, t3, t4, t5⟩ := HT.out.fr _ hmem
        obtain ⟨z1, z2⟩ := HT.out.vsize HX.out _ hmem
        have HS : Hid (frsT d.heap s0 (d.frames.take (k + 1)) = frT d.heap (frsT d.heap s0 (d.frames.take k)) d.frames[k]) := frsT_succ _ _ _ _ hlt
        unfold frT at HS
        have hsz : (frsT d.heap s0 (d.frames.take k)).size ≤ 5000000000 := by omega
        clear hmem hfz
        generalize d.frames[k] = f at *
        generalize frsT d.heap s0 (d.frames.take k) = s at *
        have n1 := numText_size f.fn (by omega) (by omega)
        have n2 := numText_size f.pc (by omega) (by omega)
        have HD1 : Hid (∀ w' : World, Calls Tryz.prog 19 #[.int .i64 f.fn] w' fun e w'' => e = .returned (.string (numText f.fn)) ∧ Below w'.heap.size w' w'') := fun w' => sDigits_any f.fn (by omega) (by omega) w'
        have HD2 : Hid (∀ w' : World, Calls Tryz.prog 19 #[.int .i64 f.pc] w' fun e w'' => e = .returned (.string (numText f.pc)) ∧ Below w'.heap.size w' w'') := fun w' => sDigits_any f.pc (by omega) (by omega) w'
        generalize numText f.fn = x at *
        generalize numText f.pc = y at *
        have hFB := block_new wr #[.int .i64 f.fn, .int .i64 f.pc, .slice la f.locals.length lc, .slice sa f.stack.length sc] 58
        have hbA : Below wr.heap.size wr (wr.alloc (.cells #[.int .i64 f.fn, .int .i64 f.pc, .slice la f.locals.length lc, .slice sa f.stack.length sc] 58)) := (Below.refl _ _).alloc (Nat.le_refl _) _
        obtain ⟨wA, hwA⟩ : ∃ wA, wA = wr.alloc (.cells #[.int .i64 f.fn, .int .i64 f.pc, .slice la f.locals.length lc, .slice sa f.stack.length sc] 58) := ⟨_, rfl⟩
        rw [← hwA] at hFB hbA
        have hBA := hbr.trans (hbA.mono hbr.size)
        have HBA : Hid (Below w1.heap.size w1 wA) := hBA
        have HL : Hid (ValsAt wA 0 la f.locals) := hL.mono hbA
        have HST : Hid (ValsAt wA 0 sa f.stack) := hS.mono hbA
        obtain ⟨F, HF⟩ : ∃ F, Hid (F = wr.heap.size) := ⟨_, rfl⟩
        have HC : Hid (∀ w', Below wA.heap.size wA w' → w'.cell? ⟨F, 0, none⟩ = some (.int .i64 f.fn) ∧ w'.cell? ⟨F, 1, none⟩ = some (.int .i64 f.pc) ∧ w'.cell? ⟨F, 2, none⟩ = some (.slice la f.locals.length lc) ∧ w'.cell? ⟨F, 3, none⟩ = some (.slice sa f.stack.length sc) ∧ w'.cell? ⟨w.heap.size + 1, 1, none⟩ = some (.slice ha d.heap.length hcp)) := by
          intro w' hb
          rw [HF.out]
          exact ⟨by rw [block_cell (block_kept hFB hb)]; rfl, by rw [block_cell (block_kept hFB hb)]; rfl, by rw [block_cell (block_kept hFB hb)]; rfl, by rw [block_cell (block_kept hFB hb)]; rfl, (HC1.out w' (hBA.trans (hb.mono hBA.size))).2.1⟩
        have q1 : ¬ 9223372036854775807 < s.size + 6 := by omega
        have q2 : ¬ 9223372036854775807 < s.size + 6 + x.size := by omega
        have q3 : ¬ 9223372036854775807 < s.size + 6 + x.size + 1 := by omega
        have q4 : ¬ 9223372036854775807 < s.size + 6 + x.size + 1 + y.size := by omega
        clear hL hS hFB hbA hBA
        go_wp2_with fail
        rw [← hwA, ← HF.out]
        clear hwA e0 e1 e2 e3 v0 v1 v2 v3
        refine wp_below (by kernel_rfl) (by kernel_rfl) ?_
        refine q_want (v := ?_) (by kernel_rfl) ?_ ?_
        rotate_left
        · intro w' hC
          obtain ⟨j0, j1, j2, j3, j4⟩ := HC.out w' hC
          go_simp
          try with_reducible rfl
        try simp only [Act.put, List.setIfInBounds_toArray, List.set_cons_zero, List.set_cons_succ]
        refine q_want (v := ?_) (by kernel_rfl) ?_ ?_
        rotate_left
        · intro w' hC
          obtain ⟨j0, j1, j2, j3, j4⟩ := HC.out w' hC
          go_simp
          try with_reducible rfl
        try simp only [Act.put, List.setIfInBounds_toArray, List.set_cons_zero, List.set_cons_succ]
        refine q_want (v := ?_) (by kernel_rfl) ?_ ?_
        rotate_left
        · intro w' hC
          obtain ⟨j0, j1, j2, j3, j4⟩ := HC.out w' hC
          go_simp
          try with_reducible rfl
        try simp only [Act.put, List.setIfInBounds_toArray, List.set_cons_zero, List.set_cons_succ]
        refine q_want (v := ?_) (by kernel_rfl) ?_ ?_
        rotate_left
        · intro w' hC
          obtain ⟨j0, j1, j2, j3, j4⟩ := HC.out w' hC
          go_simp
          try with_reducible rfl
        try simp only [Act.put, List.setIfInBounds_toArray, List.set_cons_zero, List.set_cons_succ]
        refine q_want (v := .string x) (by kernel_rfl) ?_ ?_
        · intro w' hC
          go_simp
          refine (HD1.out _).mono ?_
          rintro e w'' ⟨rfl, hb2⟩
          exact ⟨rfl, hC.trans (hb2.mono hC.size)⟩
        try simp only [Act.put, List.setIfInBounds_toArray, List.set_cons_zero, List.set_cons_succ]
        refine q_want (v := ?_) (by kernel_rfl) ?_ ?_
        rotate_left
        · intro w' hC
          obtain ⟨j0, j1, j2, j3, j4⟩ := HC.out w' hC
          go_simp
          try with_reducible rfl
        try simp only [Act.put, List.setIfInBounds_toArray, List.set_cons_zero, List.set_cons_succ]
        refine q_want (v := ?_) (by kernel_rfl) ?_ ?_
        rotate_left
        · intro w' hC
          obtain ⟨j0, j1, j2, j3, j4⟩ := HC.out w' hC
          go_simp
          try with_reducible rfl
        try simp only [Act.put, List.setIfInBounds_toArray, List.set_cons_zero, List.set_cons_succ]
        refine q_want (v := ?_) (by kernel_rfl) ?_ ?_
        rotate_left
        · intro w' hC
          obtain ⟨j0, j1, j2, j3, j4⟩ := HC.out w' hC
          go_simp
          try with_reducible rfl
        try simp only [Act.put, List.setIfInBounds_toArray, List.set_cons_zero, List.set_cons_succ]
        refine q_want (v := ?_) (by kernel_rfl) ?_ ?_
        rotate_left
        · intro w' hC
          obtain ⟨j0, j1, j2, j3, j4⟩ := HC.out w' hC
          go_simp
          try with_reducible rfl
        try simp only [Act.put, List.setIfInBounds_toArray, List.set_cons_zero, List.set_cons_succ]
        refine q_want (v := .string y) (by kernel_rfl) ?_ ?_
        · intro w' hC
          go_simp
          refine (HD2.out _).mono ?_
          rintro e w'' ⟨rfl, hb2⟩
          exact ⟨rfl, hC.trans (hb2.mono hC.size)⟩
        try simp only [Act.put, List.setIfInBounds_toArray, List.set_cons_zero, List.set_cons_succ]
        refine q_want (v := ?_) (by kernel_rfl) ?_ ?_
        rotate_left
        · intro w' hC
          obtain ⟨j0, j1, j2, j3, j4⟩ := HC.out w' hC
          go_simp
          try with_reducible rfl
        try simp only [Act.put, List.setIfInBounds_toArray, List.set_cons_zero, List.set_cons_succ]
        refine q_want (v := ?_) (by kernel_rfl) ?_ ?_
        rotate_left
        · intro w' hC
          obtain ⟨j0, j1, j2, j3, j4⟩ := HC.out w' hC
          go_simp
          try with_reducible rfl
        try simp only [Act.put, List.setIfInBounds_toArray, List.set_cons_zero, List.set_cons_succ]
        refine wpQuiet_nil ?_
        intro wq qq
        clear q1 q2 q3 q4
        obtain ⟨s1, hs1⟩ : ∃ s1, s ++ ⟨#[102, 114, 97, 109, 101, 32]⟩ ++ x ++ ⟨#[32]⟩ ++ y = s1 := ⟨_, rfl⟩
        have hsz1 : s1.size ≤ 5000000100 := by
          rw [← hs1]
          have l1 : (⟨#[102, 114, 97, 109, 101, 32]⟩ : ByteArray).size = 6 := rfl
          have l2 : (⟨#[32]⟩ : ByteArray).size = 1 := rfl
          simp only [ByteArray.size_append]
          omega
        rw [hs1]
        rw [hs1] at HS
        have HQ : Hid (Below wA.heap.size wA wq) := qq
        clear hs1 hsz qq HD1 HD2 n1 n2
        go_wp2_with fail
        go_loopw [5, 8] (fun o i wr => ∃ j : Nat, j ≤ f.locals.length ∧ i = .int .i64 j ∧ o = .string (wsT s1 ((f.locals.map (vlT d.heap)).take j)) ∧ Below wA.heap.size wA wr) (fun _ i _ => f.locals.length - (intOf i).toNat)
        case atStart => exact ⟨0, by omega, rfl, rfl, HQ.out⟩
        case round =>
          clear HQ
          obtain ⟨j, hj, rfl, rfl, hbi⟩ := hrel
          obtain ⟨c0, c1, c2, c3, c4⟩ := HC.out wr hbi
          have hwz : (wsT s1 ((f.locals.map (vlT d.heap)).take j)).size ≤ 5200000000 := by
            have h := wsT_size s1 ((f.locals.map (vlT d.heap)).take j) (fun x hx => by obtain ⟨v, hv, rfl⟩ := List.mem_map.1 (List.mem_of_mem_take hx); exact z1 v hv)
            rw [List.length_take, List.length_map] at h
            omega
          by_cases hjl : j < f.locals.length
          · obtain ⟨b', off', rfl, -, g0, g1, g2⟩ := (HL.out.mono hbi) j hjl
            have hvk := t4 _ (List.getElem_mem hjl)
            have hvz := z1 _ (List.getElem_mem hjl)
            have HW : Hid (wsT s1 ((f.locals.map (vlT d.heap)).take (j + 1)) = wsT s1 ((f.locals.map (vlT d.heap)).take j) ++ ⟨#[32]⟩ ++ vlT d.heap f.locals[j]) := by
              rw [wsT_succ _ _ _ (by simpa using hjl), List.getElem_map]
              exact rfl
            have hB1 := HBA.out.trans (hbi.mono HBA.out.size)
            have HCv : Hid (∀ w', Below wr.heap.size wr w' → Calls Tryz.prog 18 #[.agg #[.int .i64 f.locals[j].k, .int .i64 f.locals[j].n, .string f.locals[j].s], .slice ha d.heap.length hcp] w' fun e w'' => e = .returned (.string (vlT d.heap f.locals[j])) ∧ Below w'.heap.size w' w'') := fun w' hb => HVal.out f.locals[j] w' hvk (hB1.trans (hb.mono hB1.size))
            have HS2 : Hid (∀ w', Below wr.heap.size wr w' → w'.cell? ⟨F, 2, none⟩ = some (.slice (some ⟨b', off', none⟩) f.locals.length lc) ∧ w'.cell? ⟨w.heap.size + 1, 1, none⟩ = some (.slice ha d.heap.length hcp) ∧ w'.cell? ⟨b', off' + j * 3, none⟩ = some (.int .i64 f.locals[j].k) ∧ w'.cell? ⟨b', off' + j * 3 + 1, none⟩ = some (.int .i64 f.locals[j].n) ∧ w'.cell? ⟨b', off' + j * 3 + 2, none⟩ = some (.string f.locals[j].s)) := fun w' hb => ⟨cell_later hb c2, cell_later hb c4, cell_later hb g0, cell_later hb g1, cell_later hb g2⟩
            clear hB1 hvk g0 g1 g2
            generalize vlT d.heap f.locals[j] = t at *
            generalize f.locals[j] = vj at *
            generalize wsT s1 ((f.locals.map (vlT d.heap)).take j) = sj at *
            have q1 : ¬ 9223372036854775807 < sj.size + 1 := by omega
            have q2 : ¬ 9223372036854775807 < sj.size + 1 + t.size := by omega
            go_wp2_with fail
            clear c0 c1 c2 c3 c4
            refine wp_below (by kernel_rfl) (by kernel_rfl) ?_
            refine q_want (v := ?_) (by kernel_rfl) ?_ ?_
            rotate_left
            · intro w' hC
              obtain ⟨j0, j1, j2, j3, j4⟩ := HS2.out w' hC
              go_simp
              try with_reducible rfl
            try simp only [Act.put, List.setIfInBounds_toArray, List.set_cons_zero, List.set_cons_succ]
            refine q_want (v := ?_) (by kernel_rfl) ?_ ?_
            rotate_left
            · intro w' hC
              obtain ⟨j0, j1, j2, j3, j4⟩ := HS2.out w' hC
              go_simp
              try with_reducible rfl
            try simp only [Act.put, List.setIfInBounds_toArray, List.set_cons_zero, List.set_cons_succ]
            refine q_want (v := ?_) (by kernel_rfl) ?_ ?_
            rotate_left
            · intro w' hC
              obtain ⟨j0, j1, j2, j3, j4⟩ := HS2.out w' hC
              go_simp
              try with_reducible rfl
            try simp only [Act.put, List.setIfInBounds_toArray, List.set_cons_zero, List.set_cons_succ]
            refine q_want (v := ?_) (by kernel_rfl) ?_ ?_
            rotate_left
            · intro w' hC
              obtain ⟨j0, j1, j2, j3, j4⟩ := HS2.out w' hC
              go_simp
              try with_reducible rfl
            try simp only [Act.put, List.setIfInBounds_toArray, List.set_cons_zero, List.set_cons_succ]
            refine q_want (v := ?_) (by kernel_rfl) ?_ ?_
            rotate_left
            · intro w' hC
              obtain ⟨j0, j1, j2, j3, j4⟩ := HS2.out w' hC
              go_simp
              try with_reducible rfl
            try simp only [Act.put, List.setIfInBounds_toArray, List.set_cons_zero, List.set_cons_succ]
            refine q_want (v := ?_) (by kernel_rfl) ?_ ?_
            rotate_left
            · intro w' hC
              obtain ⟨j0, j1, j2, j3, j4⟩ := HS2.out w' hC
              go_simp
              try with_reducible rfl
            try simp only [Act.put, List.setIfInBounds_toArray, List.set_cons_zero, List.set_cons_succ]
            refine q_want (v := ?_) (by kernel_rfl) ?_ ?_
            rotate_left
            · intro w' hC
              obtain ⟨j0, j1, j2, j3, j4⟩ := HS2.out w' hC
              go_simp
              try with_reducible rfl
            try simp only [Act.put, List.setIfInBounds_toArray, List.set_cons_zero, List.set_cons_succ]
            refine q_want (v := ?_) (by kernel_rfl) ?_ ?_
            rotate_left
            · intro w' hC
              obtain ⟨j0, j1, j2, j3, j4⟩ := HS2.out w' hC
              go_simp
              try with_reducible rfl
            try simp only [Act.put, List.setIfInBounds_toArray, List.set_cons_zero, List.set_cons_succ]
            refine q_want (v := ?_) (by kernel_rfl) ?_ ?_
            rotate_left
            · intro w' hC
              obtain ⟨j0, j1, j2, j3, j4⟩ := HS2.out w' hC
              go_simp
              try with_reducible rfl
            try simp only [Act.put, List.setIfInBounds_toArray, List.set_cons_zero, List.set_cons_succ]
            refine q_want (v := .string t) (by kernel_rfl) ?_ ?_
            · intro w' hC
              go_simp
              refine (HCv.out _ hC).mono ?_
              rintro e w'' ⟨rfl, hb2⟩
              exact ⟨rfl, hC.trans (hb2.mono hC.size)⟩
            try simp only [Act.put, List.setIfInBounds_toArray, List.set_cons_zero, List.set_cons_succ]
            refine q_want (v := ?_) (by kernel_rfl) ?_ ?_
            rotate_left
            · intro w' hC
              obtain ⟨j0, j1, j2, j3, j4⟩ := HS2.out w' hC
              go_simp
              try with_reducible rfl
            try simp only [Act.put, List.setIfInBounds_toArray, List.set_cons_zero, List.set_cons_succ]
            refine q_want (v := ?_) (by kernel_rfl) ?_ ?_
            rotate_left
            · intro w' hC
              obtain ⟨j0, j1, j2, j3, j4⟩ := HS2.out w' hC
              go_simp
              try with_reducible rfl
            try simp only [Act.put, List.setIfInBounds_toArray, List.set_cons_zero, List.set_cons_succ]
            refine wpQuiet_nil ?_
            intro wz qz
            have hbz := hbi.trans (qz.mono hbi.size)
            clear q1 q2 HS2 HCv qz
            go_wp2
            exact ⟨⟨j + 1, by omega, by go_num, by rw [HW.out], hbz⟩, by simp [intOf]; omega⟩
          · have hje : j = f.locals.length := by omega
            rw [hje, show (f.locals.map (vlT d.heap)).take f.locals.length = f.locals.map (vlT d.heap) by rw [← List.length_map (f := vlT d.heap), List.take_length]] at hwz ⊢
            clear hje hjl hj
            generalize hsL : wsT s1 (f.locals.map (vlT d.heap)) = sL at *
            obtain ⟨s2, hs2⟩ : ∃ s2, sL ++ ⟨#[32, 124]⟩ = s2 := ⟨_, rfl⟩
            have q1 : ¬ 9223372036854775807 < sL.size + 2 := by omega
            have hsz2 : s2.size ≤ 5200000010 := by
              rw [← hs2, ByteArray.size_append]
              have l1 : (⟨#[32, 124]⟩ : ByteArray).size = 2 := rfl
              omega
            rw [hs2] at HS
            have HQ2 : Hid (Below wA.heap.size wA wr) := hbi
            have HsL : Hid (wsT s1 (f.locals.map (vlT d.heap)) = sL) := hsL
            clear hsL hbi
            go_wp2_with fail
            try rw [hs2]
            clear hs2 q1 c0 c1 c2 c3 c4 hwz
            go_wp2_with fail
            go_loopw [5, 9] (fun o i wr => ∃ j : Nat, j ≤ f.stack.length ∧ i = .int .i64 j ∧ o = .string (wsT s2 ((f.stack.map (vlT d.heap)).take j)) ∧ Below wA.heap.size wA wr) (fun _ i _ => f.stack.length - (intOf i).toNat)
            case atStart => exact ⟨0, by omega, rfl, rfl, HQ2.out⟩
            case round =>
              clear HQ2
              obtain ⟨j, hj, rfl, rfl, hbi⟩ := hrel
              obtain ⟨c0, c1, c2, c3, c4⟩ := HC.out wr hbi
              have hwz : (wsT s2 ((f.stack.map (vlT d.heap)).take j)).size ≤ 5300000000 := by
                have h := wsT_size s2 ((f.stack.map (vlT d.heap)).take j) (fun x hx => by obtain ⟨v, hv, rfl⟩ := List.mem_map.1 (List.mem_of_mem_take hx); exact z2 v hv)
                rw [List.length_take, List.length_map] at h
                omega
              by_cases hjl : j < f.stack.length
              · obtain ⟨b', off', rfl, -, g0, g1, g2⟩ := (HST.out.mono hbi) j hjl
                have hvk := t5 _ (List.getElem_mem hjl)
                have hvz := z2 _ (List.getElem_mem hjl)
                have HW : Hid (wsT s2 ((f.stack.map (vlT d.heap)).take (j + 1)) = wsT s2 ((f.stack.map (vlT d.heap)).take j) ++ ⟨#[32]⟩ ++ vlT d.heap f.stack[j]) := by
                  rw [wsT_succ _ _ _ (by simpa using hjl), List.getElem_map]
                  exact rfl
                have hB1 := HBA.out.trans (hbi.mono HBA.out.size)
                have HCv : Hid (∀ w', Below wr.heap.size wr w' → Calls Tryz.prog 18 #[.agg #[.int .i64 f.stack[j].k, .int .i64 f.stack[j].n, .string f.stack[j].s], .slice ha d.heap.length hcp] w' fun e w'' => e = .returned (.string (vlT d.heap f.stack[j])) ∧ Below w'.heap.size w' w'') := fun w' hb => HVal.out f.stack[j] w' hvk (hB1.trans (hb.mono hB1.size))
                have HS2 : Hid (∀ w', Below wr.heap.size wr w' → w'.cell? ⟨F, 3, none⟩ = some (.slice (some ⟨b', off', none⟩) f.stack.length sc) ∧ w'.cell? ⟨w.heap.size + 1, 1, none⟩ = some (.slice ha d.heap.length hcp) ∧ w'.cell? ⟨b', off' + j * 3, none⟩ = some (.int .i64 f.stack[j].k) ∧ w'.cell? ⟨b', off' + j * 3 + 1, none⟩ = some (.int .i64 f.stack[j].n) ∧ w'.cell? ⟨b', off' + j * 3 + 2, none⟩ = some (.string f.stack[j].s)) := fun w' hb => ⟨cell_later hb c3, cell_later hb c4, cell_later hb g0, cell_later hb g1, cell_later hb g2⟩
                clear hB1 hvk g0 g1 g2
                generalize vlT d.heap f.stack[j] = t at *
                generalize f.stack[j] = vj at *
                generalize wsT s2 ((f.stack.map (vlT d.heap)).take j) = sj at *
                have q1 : ¬ 9223372036854775807 < sj.size + 1 := by omega
                have q2 : ¬ 9223372036854775807 < sj.size + 1 + t.size := by omega
                go_wp2_with fail
                clear c0 c1 c2 c3 c4
                refine wp_below (by kernel_rfl) (by kernel_rfl) ?_
                refine q_want (v := ?_) (by kernel_rfl) ?_ ?_
                rotate_left
                · intro w' hC
                  obtain ⟨j0, j1, j2, j3, j4⟩ := HS2.out w' hC
                  go_simp
                  try with_reducible rfl
                try simp only [Act.put, List.setIfInBounds_toArray, List.set_cons_zero, List.set_cons_succ]
                refine q_want (v := ?_) (by kernel_rfl) ?_ ?_
                rotate_left
                · intro w' hC
                  obtain ⟨j0, j1, j2, j3, j4⟩ := HS2.out w' hC
                  go_simp
                  try with_reducible rfl
                try simp only [Act.put, List.setIfInBounds_toArray, List.set_cons_zero, List.set_cons_succ]
                refine q_want (v := ?_) (by kernel_rfl) ?_ ?_
                rotate_left
                · intro w' hC
                  obtain ⟨j0, j1, j2, j3, j4⟩ := HS2.out w' hC
                  go_simp
                  try with_reducible rfl
                try simp only [Act.put, List.setIfInBounds_toArray, List.set_cons_zero, List.set_cons_succ]
                refine q_want (v := ?_) (by kernel_rfl) ?_ ?_
                rotate_left
                · intro w' hC
                  obtain ⟨j0, j1, j2, j3, j4⟩ := HS2.out w' hC
                  go_simp
                  try with_reducible rfl
                try simp only [Act.put, List.setIfInBounds_toArray, List.set_cons_zero, List.set_cons_succ]
                refine q_want (v := ?_) (by kernel_rfl) ?_ ?_
                rotate_left
                · intro w' hC
                  obtain ⟨j0, j1, j2, j3, j4⟩ := HS2.out w' hC
                  go_simp
                  try with_reducible rfl
                try simp only [Act.put, List.setIfInBounds_toArray, List.set_cons_zero, List.set_cons_succ]
                refine q_want (v := ?_) (by kernel_rfl) ?_ ?_
                rotate_left
                · intro w' hC
                  obtain ⟨j0, j1, j2, j3, j4⟩ := HS2.out w' hC
                  go_simp
                  try with_reducible rfl
                try simp only [Act.put, List.setIfInBounds_toArray, List.set_cons_zero, List.set_cons_succ]
                refine q_want (v := ?_) (by kernel_rfl) ?_ ?_
                rotate_left
                · intro w' hC
                  obtain ⟨j0, j1, j2, j3, j4⟩ := HS2.out w' hC
                  go_simp
                  try with_reducible rfl
                try simp only [Act.put, List.setIfInBounds_toArray, List.set_cons_zero, List.set_cons_succ]
                refine q_want (v := ?_) (by kernel_rfl) ?_ ?_
                rotate_left
                · intro w' hC
                  obtain ⟨j0, j1, j2, j3, j4⟩ := HS2.out w' hC
                  go_simp
                  try with_reducible rfl
                try simp only [Act.put, List.setIfInBounds_toArray, List.set_cons_zero, List.set_cons_succ]
                refine q_want (v := ?_) (by kernel_rfl) ?_ ?_
                rotate_left
                · intro w' hC
                  obtain ⟨j0, j1, j2, j3, j4⟩ := HS2.out w' hC
                  go_simp
                  try with_reducible rfl
                try simp only [Act.put, List.setIfInBounds_toArray, List.set_cons_zero, List.set_cons_succ]
                refine q_want (v := .string t) (by kernel_rfl) ?_ ?_
                · intro w' hC
                  go_simp
                  refine (HCv.out _ hC).mono ?_
                  rintro e w'' ⟨rfl, hb2⟩
                  exact ⟨rfl, hC.trans (hb2.mono hC.size)⟩
                try simp only [Act.put, List.setIfInBounds_toArray, List.set_cons_zero, List.set_cons_succ]
                refine q_want (v := ?_) (by kernel_rfl) ?_ ?_
                rotate_left
                · intro w' hC
                  obtain ⟨j0, j1, j2, j3, j4⟩ := HS2.out w' hC
                  go_simp
                  try with_reducible rfl
                try simp only [Act.put, List.setIfInBounds_toArray, List.set_cons_zero, List.set_cons_succ]
                refine q_want (v := ?_) (by kernel_rfl) ?_ ?_
                rotate_left
                · intro w' hC
                  obtain ⟨j0, j1, j2, j3, j4⟩ := HS2.out w' hC
                  go_simp
                  try with_reducible rfl
                try simp only [Act.put, List.setIfInBounds_toArray, List.set_cons_zero, List.set_cons_succ]
                refine wpQuiet_nil ?_
                intro wz qz
                have hbz := hbi.trans (qz.mono hbi.size)
                clear q1 q2 HS2 HCv qz
                go_wp2
                exact ⟨⟨j + 1, by omega, by go_num, by rw [HW.out], hbz⟩, by simp [intOf]; omega⟩
              · have hje : j = f.stack.length := by omega
                rw [hje, show (f.stack.map (vlT d.heap)).take f.stack.length = f.stack.map (vlT d.heap) by rw [← List.length_map (f := vlT d.heap), List.take_length]] at hwz ⊢
                clear hje hjl hj
                generalize wsT s2 (f.stack.map (vlT d.heap)) = sS at *
                have q1 : ¬ 9223372036854775807 < sS.size + 1 := by omega
                have hbz := HBA.out.trans (hbi.mono HBA.out.size)
                clear hbi
                go_wp2
                exact ⟨⟨k + 1, by omega, by go_num, by rw [HS.out], hbz⟩, by simp [intOf]; omega⟩
      · have hke : k = d.frames.length := by omega
        rw [hke, List.take_length] at hfz ⊢
        have hm1 := HT.out.made
        have hm2 := HT.out.out
        have HD1 : Hid (∀ w' : World, Calls Tryz.prog 19 #[.int .i64 d.made] w' fun e w'' => e = .returned (.string (numText d.made)) ∧ Below w'.heap.size w' w'') := fun w' => sDigits_any d.made (by omega) (by omega) w'
        have HD2 : Hid (∀ w' : World, Calls Tryz.prog 19 #[.int .i64 (d.out.length : Nat)] w' fun e w'' => e = .returned (.string (numText (d.out.length : Nat))) ∧ Below w'.heap.size w' w'') := fun w' => sDigits_any (d.out.length : Nat) (by omega) (by omega) w'
        have n1 := numText_size d.made (by omega) (by omega)
        have n2 := numText_size (d.out.length : Nat) (by omega) (by omega)
        have hsz : (frsT d.heap s0 d.frames).size ≤ 6000000000 := by omega
        clear hfz hke hlt hk
        generalize frsT d.heap s0 d.frames = s at *
        generalize numText d.made = x at *
        generalize numText (d.out.length : Nat) = y at *
        have HC : Hid (∀ w', Below wr.heap.size wr w' → w'.cell? ⟨w.heap.size + 1, 2, none⟩ = some (.int .i64 d.made) ∧ w'.cell? ⟨w.heap.size + 1, 3, none⟩ = some (.slice oa d.out.length oc)) := fun w' hb => ⟨cell_later hb v2, cell_later hb v3⟩
        have q1 : ¬ 9223372036854775807 < s.size + 5 := by omega
        have q2 : ¬ 9223372036854775807 < s.size + 5 + x.size := by omega
        have q3 : ¬ 9223372036854775807 < s.size + 5 + x.size + 5 := by omega
        have q4 : ¬ 9223372036854775807 < s.size + 5 + x.size + 5 + y.size := by omega
        have q5 : ¬ 9223372036854775807 < s.size + 5 + x.size + 5 + y.size + 1 := by omega
        have hB := HB1.out.trans (hbr.mono HB1.out.size)
        go_wp2_with fail
        clear v0 v1 v2 v3
        refine wp_below (by kernel_rfl) (by kernel_rfl) ?_
        refine q_want (v := ?_) (by kernel_rfl) ?_ ?_
        rotate_left
        · intro w' hC
          obtain ⟨j0, j1⟩ := HC.out w' hC
          go_simp
          try with_reducible rfl
        try simp only [Act.put, List.setIfInBounds_toArray, List.set_cons_zero, List.set_cons_succ]
        refine q_want (v := ?_) (by kernel_rfl) ?_ ?_
        rotate_left
        · intro w' hC
          obtain ⟨j0, j1⟩ := HC.out w' hC
          go_simp
          try with_reducible rfl
        try simp only [Act.put, List.setIfInBounds_toArray, List.set_cons_zero, List.set_cons_succ]
        refine q_want (v := ?_) (by kernel_rfl) ?_ ?_
        rotate_left
        · intro w' hC
          obtain ⟨j0, j1⟩ := HC.out w' hC
          go_simp
          try with_reducible rfl
        try simp only [Act.put, List.setIfInBounds_toArray, List.set_cons_zero, List.set_cons_succ]
        refine q_want (v := ?_) (by kernel_rfl) ?_ ?_
        rotate_left
        · intro w' hC
          obtain ⟨j0, j1⟩ := HC.out w' hC
          go_simp
          try with_reducible rfl
        try simp only [Act.put, List.setIfInBounds_toArray, List.set_cons_zero, List.set_cons_succ]
        refine q_want (v := .string x) (by kernel_rfl) ?_ ?_
        · intro w' hC
          go_simp
          refine (HD1.out _).mono ?_
          rintro e w'' ⟨rfl, hb2⟩
          exact ⟨rfl, hC.trans (hb2.mono hC.size)⟩
        try simp only [Act.put, List.setIfInBounds_toArray, List.set_cons_zero, List.set_cons_succ]
        refine q_want (v := ?_) (by kernel_rfl) ?_ ?_
        rotate_left
        · intro w' hC
          obtain ⟨j0, j1⟩ := HC.out w' hC
          go_simp
          try with_reducible rfl
        try simp only [Act.put, List.setIfInBounds_toArray, List.set_cons_zero, List.set_cons_succ]
        refine q_want (v := ?_) (by kernel_rfl) ?_ ?_
        rotate_left
        · intro w' hC
          obtain ⟨j0, j1⟩ := HC.out w' hC
          go_simp
          try with_reducible rfl
        try simp only [Act.put, List.setIfInBounds_toArray, List.set_cons_zero, List.set_cons_succ]
        refine q_want (v := ?_) (by kernel_rfl) ?_ ?_
        rotate_left
        · intro w' hC
          obtain ⟨j0, j1⟩ := HC.out w' hC
          go_simp
          try with_reducible rfl
        try simp only [Act.put, List.setIfInBounds_toArray, List.set_cons_zero, List.set_cons_succ]
        refine q_want (v := ?_) (by kernel_rfl) ?_ ?_
        rotate_left
        · intro w' hC
          obtain ⟨j0, j1⟩ := HC.out w' hC
          go_simp
          try with_reducible rfl
        try simp only [Act.put, List.setIfInBounds_toArray, List.set_cons_zero, List.set_cons_succ]
        refine q_want (v := ?_) (by kernel_rfl) ?_ ?_
        rotate_left
        · intro w' hC
          obtain ⟨j0, j1⟩ := HC.out w' hC
          go_simp
          try with_reducible rfl
        try simp only [Act.put, List.setIfInBounds_toArray, List.set_cons_zero, List.set_cons_succ]
        refine q_want (v := .string y) (by kernel_rfl) ?_ ?_
        · intro w' hC
          go_simp
          refine (HD2.out _).mono ?_
          rintro e w'' ⟨rfl, hb2⟩
          exact ⟨rfl, hC.trans (hb2.mono hC.size)⟩
        try simp only [Act.put, List.setIfInBounds_toArray, List.set_cons_zero, List.set_cons_succ]
        refine q_want (v := ?_) (by kernel_rfl) ?_ ?_
        rotate_left
        · intro w' hC
          obtain ⟨j0, j1⟩ := HC.out w' hC
          go_simp
          try with_reducible rfl
        try simp only [Act.put, List.setIfInBounds_toArray, List.set_cons_zero, List.set_cons_succ]
        refine q_want (v := ?_) (by kernel_rfl) ?_ ?_
        rotate_left
        · intro w' hC
          obtain ⟨j0, j1⟩ := HC.out w' hC
          go_simp
          try with_reducible rfl
        try simp only [Act.put, List.setIfInBounds_toArray, List.set_cons_zero, List.set_cons_succ]
        refine q_want (v := ?_) (by kernel_rfl) ?_ ?_
        rotate_left
        · intro w' hC
          obtain ⟨j0, j1⟩ := HC.out w' hC
          go_simp
          try with_reducible rfl
        try simp only [Act.put, List.setIfInBounds_toArray, List.set_cons_zero, List.set_cons_succ]
        refine wpQuiet_nil ?_
        intro wz qz
        have hbz := hB.trans (qz.mono hB.size)
        clear q1 q2 q3 q4 q5 HC qz
        go_wp2
        go_ret
        exact ⟨by rw [HEND.out]; rfl, hbz⟩
end Go.Proofs.YtfefbgemcakabaaGreatDoor
