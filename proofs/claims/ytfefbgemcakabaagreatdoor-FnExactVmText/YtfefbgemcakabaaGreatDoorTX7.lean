/-
  What the program's VmText gives.
-/
import Derived.Test.YtfefbgemcakabaaGreatDoorTX6
import Derived.Test.YtfefbgemcakabaaGreatDoorTX2
namespace Go.Proofs.YtfefbgemcakabaaGreatDoor
open Go.RowKit

theorem cur_strs {hp : List (List Vl)} {l : List Vl} {cur : Array Value} (hs : cur.size = l.length) (h : ∀ j (h : j < l.length), cur[j]? = some (.string (vlT hp l[j]))) : cur.toList = (l.map (vlT hp)).map Value.string := by
  apply List.ext_getElem?
  intro j
  rw [Array.getElem?_toList]
  by_cases e : j < l.length
  · rw [h j e]
    simp [e]
  · rw [Array.getElem?_eq_none (by omega), List.getElem?_eq_none (by simp; omega)]
theorem one_strs (l : List ByteArray) : ∀ u ∈ l.map Value.string, u.oneCell' = true := by
  intro u hu
  obtain ⟨x, -, rfl⟩ := List.mem_map.1 hu
  rfl
theorem infoS9 : (Tryz.prog.info? 9).map (fun i => (i.zero, i.size, i.bytes)) = some (some (.string ByteArray.empty), 1, 16) := by kernel_rfl
theorem infoS22 : (Tryz.prog.info? 22).map (fun i => (i.zero, i.size, i.bytes)) = some (some (.slice none 0 0), 1, 24) := by kernel_rfl
theorem vmW_ok {d : VmD} (hT : VmTx d) (hx : VmSmall d) : ∀ l ∈ vmW d, l.length ≤ 3000000 ∧ ∀ t ∈ l, t.size ≤ 60 := by
  have hnum : ∀ n : Int, -9000000000000000000 ≤ n → n ≤ 9000000000000000000 → (numText n).size ≤ 60 := fun n h0 h1 => Nat.le_trans (numText_size n (by omega) (by omega)) (by decide)
  intro l hl
  unfold vmW at hl
  rcases List.mem_append.1 hl with hl | hl
  · rcases List.mem_cons.1 hl with rfl | hl
    · unfold stW
      split
      · refine ⟨by simp, fun t ht => ?_⟩
        rcases List.mem_cons.1 ht with rfl | ht
        · decide
        · rw [List.mem_singleton.1 ht]; exact hT.vval hx
      split
      · rename_i e
        have := hT.trap e
        refine ⟨by simp, fun t ht => ?_⟩
        rcases List.mem_cons.1 ht with rfl | ht
        · decide
        · rw [List.mem_singleton.1 ht]; exact hnum _ (by omega) (by omega)
      · refine ⟨by simp, fun t ht => ?_⟩
        rw [List.mem_singleton.1 ht]; decide
    · obtain ⟨f, hf, rfl⟩ := List.mem_map.1 hl
      obtain ⟨t1, t2, t3, -, -⟩ := hT.fr f hf
      obtain ⟨z1, z2⟩ := hT.vsize hx f hf
      unfold frW
      refine ⟨by simp; omega, fun t ht => ?_⟩
      rcases List.mem_cons.1 ht with rfl | ht
      · decide
      rcases List.mem_cons.1 ht with rfl | ht
      · exact hnum _ (by omega) (by omega)
      rcases List.mem_cons.1 ht with rfl | ht
      · exact hnum _ (by omega) (by omega)
      rcases List.mem_append.1 ht with ht | ht
      · obtain ⟨v, hv, rfl⟩ := List.mem_map.1 ht
        exact z1 v hv
      rcases List.mem_cons.1 ht with rfl | ht
      · decide
      · obtain ⟨v, hv, rfl⟩ := List.mem_map.1 ht
        exact z2 v hv
  · rw [List.mem_singleton.1 hl]
    have := hT.made
    have := hT.out
    unfold laW
    refine ⟨by simp, fun t ht => ?_⟩
    rcases List.mem_cons.1 ht with rfl | ht
    · decide
    rcases List.mem_cons.1 ht with rfl | ht
    · exact hnum _ (by omega) (by omega)
    rcases List.mem_cons.1 ht with rfl | ht
    · decide
    · rw [List.mem_singleton.1 ht]; exact hnum _ (by omega) (by omega)

set_option maxRecDepth 100000 in
set_option maxHeartbeats 8000000 in
theorem iVmText_any (a1 a2 : Option Addr) (c1 c2 : Nat) (ts : List ByteArray) (fs : List Fn) (fa ha oa : Option Addr) (fc hcp oc : Nat) (d : VmD) (w : World) (hs : Small ts fs) (hst : StrsAt w 0 a1 ts) (hfn : FnsAt w 0 a2 fs) (hx : VmSmall d) (hm : VmAt w 0 fa ha oa d) (htab : TabP w) :
    Calls Tryz.prog 9 #[.agg #[.slice a1 ts.length c1, .slice a2 fs.length c2], .agg (vmCells fa ha oa fc hcp oc d)] w fun e w' => e = .returned (.string (txT ts fs d)) ∧ Below w.heap.size w w' := by
  have hbA : Below w.heap.size w ((w.alloc (.cells #[.slice a1 ts.length c1, .slice a2 fs.length c2] 37)).alloc (.cells (vmCells fa ha oa fc hcp oc d) 43)) := ((Below.refl _ _).alloc (Nat.le_refl _) _).alloc (by simp) _
  have hV0 := block_new_at (w.alloc (.cells #[.slice a1 ts.length c1, .slice a2 fs.length c2] 37)) (vmCells fa ha oa fc hcp oc d) 43 (w.heap.size + 1) (by simp)
  unfold vmCells at hbA hV0 ⊢
  unfold txT
  by_cases hgood : VmGood ts fs d
  case neg =>
    rw [if_neg (by rw [pB_no hgood]; decide)]
    go_enter Tryz.func9, Tryz.ntmps9
    go_wp2_with fail
    refine (iVmOk_any _ _ _ _ ts fs _ _ _ _ _ _ d _ hs (hst.mono hbA) (hfn.mono hbA) hx (hm.mono hbA)).mono ?_
    rintro e w1 ⟨hsay, hb1⟩
    obtain rfl := hsay.eq
    rw [pB_no hgood]
    have hB1 := hbA.trans (hb1.mono hbA.size)
    clear hbA hb1 hV0 hsay
    go_wp2
    go_ret
    exact ⟨rfl, hB1⟩
  rw [if_pos (pB_yes hgood)]
  have hT := hgood.tx hx hs
  have HT : Hid (VmTx d) := hT
  have HX : Hid (VmSmall d) := hx
  have hnfr := hT.nf
  have HLL : Hid (linesT ⟨#[]⟩ (vmW d) = vmT d) := lines_vm d
  have HWO : Hid (∀ l ∈ vmW d, l.length ≤ 3000000 ∧ ∀ t ∈ l, t.size ≤ 60) := vmW_ok hT hx
  obtain ⟨R, hR⟩ : ∃ R, R = vmT d := ⟨_, rfl⟩
  rw [← hR]
  rw [← hR] at HLL
  clear hR
  obtain ⟨i9, hi9, hy0, hy1, hy2⟩ := info_parts infoS9
  obtain ⟨i22, hi22, hz0, hz1, hz2⟩ := info_parts infoS22
  go_enter Tryz.func9, Tryz.ntmps9
  go_wp2_with fail
  refine (iVmOk_any _ _ _ _ ts fs _ _ _ _ _ _ d _ hs (hst.mono hbA) (hfn.mono hbA) hx (hm.mono hbA)).mono ?_
  rintro e w1 ⟨hsay, hb1⟩
  obtain rfl := hsay.eq
  rw [pB_yes hgood]
  have hB1 := hbA.trans (hb1.mono hbA.size)
  have hV1 := block_kept hV0 hb1
  have hm1 := hm.mono hB1
  have HV1 : Hid (w1.heap[w.heap.size + 1]? = some (.cells #[.slice fa d.frames.length fc, .slice ha d.heap.length hcp, .int .i64 d.made, .slice oa d.out.length oc, .int .i64 d.status, .int .i64 d.trap, .int .i64 d.value.k, .int .i64 d.value.n, .string d.value.s, .int .i64 d.steps] 43 (0, 0))) := hV1
  have HM1 : Hid (VmAt w1 0 fa ha oa d) := hm1
  have HB1 : Hid (Below w.heap.size w w1) := hB1
  have HTB : Hid (TabP w1) := htab.below hB1
  have HP : Hid (HpOk w1 ha d.heap) := ⟨hx.heap, fun r hr => (hx.fields r hr).1, hm1.recs⟩
  have HSW : Hid (Calls Tryz.prog 26 #[.agg #[.slice fa d.frames.length fc, .slice ha d.heap.length hcp, .int .i64 d.made, .slice oa d.out.length oc, .int .i64 d.status, .int .i64 d.trap, .int .i64 d.value.k, .int .i64 d.value.n, .string d.value.s, .int .i64 d.steps]] w1 fun e w' => ∃ v, e = .returned v ∧ LineAt w' w1.heap.size v (stW d) ∧ Below w1.heap.size w1 w') := statusW_any fa ha oa fc hcp oc d w1 hT.val hT.trap HP.out HTB.out
  have HTX : Hid (∀ (l : List Vl) (a : Option Addr) (cap : Nat) (w' : World), l.length ≤ 1048576 → (∀ v ∈ l, VOk v) → ValsAt w' 0 a l → Below w1.heap.size w1 w' → Calls Tryz.prog 28 #[.slice a l.length cap, .slice ha d.heap.length hcp] w' fun e w'' => ∃ g cur, e = .returned (.slice (some ⟨g, 0, none⟩) l.length l.length) ∧ w''.heap[g]? = some (.cells cur 9 (0, 0)) ∧ w'.heap.size ≤ g ∧ cur.size = l.length ∧ (∀ j (h : j < l.length), cur[j]? = some (.string (vlT d.heap l[j]))) ∧ Below w'.heap.size w' w'') := fun l a cap w' h1 h2 h3 hb => textsOf_any a l cap ha d.heap hcp w' h1 h2 h3 (HP.out.mono hb) (HTB.out.below hb)
  have HIT : Hid (∀ (n : Int) (w' : World), -9000000000000000000 ≤ n → n ≤ 9000000000000000000 → Below w1.heap.size w1 w' → Calls Tryz.prog 27 #[.int .i64 n] w' fun e w'' => e = .returned (.string (numText n)) ∧ Below w'.heap.size w' w'') := fun n w' h0 h1 hb => itoa_any n w' (show _ ≤ _ by omega) (show _ ≤ _ by omega) (HTB.out.below hb)
  have HC1 : Hid (∀ w', Below w1.heap.size w1 w' → w'.cell? ⟨w.heap.size + 1, 0, none⟩ = some (.slice fa d.frames.length fc) ∧ w'.cell? ⟨w.heap.size + 1, 1, none⟩ = some (.slice ha d.heap.length hcp) ∧ w'.cell? ⟨w.heap.size + 1, 2, none⟩ = some (.int .i64 d.made) ∧ w'.cell? ⟨w.heap.size + 1, 3, none⟩ = some (.slice oa d.out.length oc)) := fun w' hb =>
    ⟨by rw [block_cell (block_kept HV1.out hb)]; rfl, by rw [block_cell (block_kept HV1.out hb)]; rfl, by rw [block_cell (block_kept HV1.out hb)]; rfl, by rw [block_cell (block_kept HV1.out hb)]; rfl⟩
  have v1 := block_cell hV1
  clear hbA hb1 hV0 hsay hm1 hB1 hV1 hst hfn hs hgood hm htab hx hT
  go_wp2_with fail
  refine HSW.out.mono ?_
  rintro e w2 ⟨v, rfl, hline, hb2⟩
  obtain ⟨g0, cap0, cur0, rfl, hg0, hr0⟩ := hline
  have hline : LineAt w2 0 (.slice (some ⟨g0, 0, none⟩) (stW d).length cap0) (stW d) := ⟨g0, cap0, cur0, rfl, Nat.zero_le _, hr0⟩
  have hbL : Below w2.heap.size w2 (w2.alloc (.cells #[.slice (some ⟨g0, 0, none⟩) (stW d).length cap0] 22)) := (Below.refl _ _).alloc (Nat.le_refl _) _
  have hLO : LinesO (w2.alloc (.cells #[.slice (some ⟨g0, 0, none⟩) (stW d).length cap0] 22)) w2.heap.size (.slice (some ⟨w2.heap.size, 0, none⟩) 1 1) [stW d] := by
    refine ⟨[.slice (some ⟨g0, 0, none⟩) (stW d).length cap0], World.ownsRow_lit w2 #[.slice (some ⟨g0, 0, none⟩) (stW d).length cap0] 1 (Nat.le_refl _) (by decide) rfl, ?_⟩
    intro j hj
    have : j = 0 := by simpa using hj
    subst this
    exact ⟨_, rfl, hline.mono hbL⟩
  obtain ⟨w3, hw3⟩ : ∃ w3, w3 = w2.alloc (.cells #[.slice (some ⟨g0, 0, none⟩) (stW d).length cap0] 22) := ⟨_, rfl⟩
  obtain ⟨B, HBE⟩ : ∃ B, Hid (B = w2.heap.size) := ⟨_, rfl⟩
  rw [← hw3, ← HBE.out] at hLO
  rw [← hw3] at hbL
  have hbB : Below w1.heap.size w1 w3 := hb2.trans (hbL.mono hb2.size)
  have hwB : w1.heap.size ≤ B := by rw [HBE.out]; exact hb2.size
  obtain ⟨v0, v1', -⟩ := HC1.out w2 hb2
  obtain ⟨u0, u1, -⟩ := HC1.out _ hbB
  rw [hw3] at u0
  clear hg0 hr0 hline hb2 v1 hbL
  go_wp2_with fail
  rw [← hw3, ← HBE.out]
  rw [← hw3] at u0
  clear hw3 v0 v1' u0 u1
  have HLO : Hid (LinesO w3 B (.slice (some ⟨B, 0, none⟩) 1 1) (stW d :: (d.frames.take 0).map (frW d.heap)) ∧ Below w1.heap.size w1 w3) := ⟨hLO, hbB⟩
  clear hLO hbB
  go_loopw [5, 19] (fun v i wr => ∃ k : Nat, k ≤ d.frames.length ∧ i = .int .i64 k ∧ LinesO wr B v (stW d :: (d.frames.take k).map (frW d.heap)) ∧ Below w1.heap.size w1 wr) (fun _ i _ => d.frames.length - (intOf i).toNat)
  case atStart => exact ⟨0, by omega, rfl, HLO.out.1, HLO.out.2⟩
  case round =>
    clear HLO
    obtain ⟨k, hk, rfl, hLO, hbr⟩ := hrel
    by_cases hlt : k < d.frames.length
    · obtain ⟨b, off, la, lc, sa, sc, rfl, -, e0, e1, e2, e3, hL, hS⟩ := (HM1.out.mono hbr).frs k hlt
      obtain ⟨t1, t2, t3, t4, t5⟩ := HT.out.fr _ (List.getElem_mem hlt)
      have HTK : Hid (stW d :: (d.frames.take (k + 1)).map (frW d.heap) = (stW d :: (d.frames.take k).map (frW d.heap)) ++ [frW d.heap d.frames[k]]) := by
        rw [List.take_succ_eq_append_getElem hlt, List.map_append]
        exact rfl
      have hlen : (stW d :: (d.frames.take k).map (frW d.heap)).length = k + 1 := by simp; omega
      have HLEN : Hid ((stW d :: (d.frames.take k).map (frW d.heap)).length = k + 1) := hlen
      clear hlen
      generalize d.frames[k] = f at *
      generalize stW d :: (d.frames.take k).map (frW d.heap) = lls at *
      obtain ⟨x, Hx⟩ : ∃ x, Hid (x = numText f.fn) := ⟨_, rfl⟩
      obtain ⟨y, Hy⟩ : ∃ y, Hid (y = numText f.pc) := ⟨_, rfl⟩
      have HFW : Hid (frW d.heap f = ⟨#[102, 114, 97, 109, 101]⟩ :: x :: y :: (f.locals.map (vlT d.heap) ++ (⟨#[124]⟩ :: f.stack.map (vlT d.heap)))) := by rw [Hx.out, Hy.out]; exact rfl
      have HI1 : Hid (∀ w', Below w1.heap.size w1 w' → Calls Tryz.prog 27 #[.int .i64 f.fn] w' fun e w'' => e = .returned (.string x) ∧ Below w'.heap.size w' w'') := fun w' hb => by rw [Hx.out]; exact HIT.out f.fn w' (by omega) (by omega) hb
      have HI2 : Hid (∀ w', Below w1.heap.size w1 w' → Calls Tryz.prog 27 #[.int .i64 f.pc] w' fun e w'' => e = .returned (.string y) ∧ Below w'.heap.size w' w'') := fun w' hb => by rw [Hy.out]; exact HIT.out f.pc w' (by omega) (by omega) hb
      have hFB := block_new wr #[.int .i64 f.fn, .int .i64 f.pc, .slice la f.locals.length lc, .slice sa f.stack.length sc] 58
      have hbA : Below wr.heap.size wr (wr.alloc (.cells #[.int .i64 f.fn, .int .i64 f.pc, .slice la f.locals.length lc, .slice sa f.stack.length sc] 58)) := (Below.refl _ _).alloc (Nat.le_refl _) _
      obtain ⟨wA, hwA⟩ : ∃ wA, wA = wr.alloc (.cells #[.int .i64 f.fn, .int .i64 f.pc, .slice la f.locals.length lc, .slice sa f.stack.length sc] 58) := ⟨_, rfl⟩
      rw [← hwA] at hFB hbA
      have hBA := hbr.trans (hbA.mono hbr.size)
      have HBA : Hid (Below w1.heap.size w1 wA) := hBA
      have HL : Hid (ValsAt wA 0 la f.locals) := hL.mono hbA
      have HST : Hid (ValsAt wA 0 sa f.stack) := hS.mono hbA
      have HLA : Hid (LinesO wA B u5 lls) := hLO.mono hbA
      have HBsz : Hid (B ≤ wA.heap.size) := by
        obtain ⟨vs, hvs, -⟩ := hLO.mono hbA
        obtain ⟨gg, cc, rfl, -⟩ := hvs.form (by rw [HLEN.out]; omega)
        have := hvs.lt gg rfl
        exact (show B ≤ wA.heap.size by omega)
      obtain ⟨F, HF⟩ : ∃ F, Hid (F = wr.heap.size) := ⟨_, rfl⟩
      have HC : Hid (∀ w', Below wA.heap.size wA w' → w'.cell? ⟨F, 0, none⟩ = some (.int .i64 f.fn) ∧ w'.cell? ⟨F, 1, none⟩ = some (.int .i64 f.pc) ∧ w'.cell? ⟨F, 2, none⟩ = some (.slice la f.locals.length lc) ∧ w'.cell? ⟨F, 3, none⟩ = some (.slice sa f.stack.length sc) ∧ w'.cell? ⟨w.heap.size + 1, 1, none⟩ = some (.slice ha d.heap.length hcp)) := by
        intro w' hb
        rw [HF.out]
        exact ⟨by rw [block_cell (block_kept hFB hb)]; rfl, by rw [block_cell (block_kept hFB hb)]; rfl, by rw [block_cell (block_kept hFB hb)]; rfl, by rw [block_cell (block_kept hFB hb)]; rfl, (HC1.out w' (hBA.trans (hb.mono hBA.size))).2.1⟩
      clear hL hS hFB hbA hBA hLO hbr
      go_wp2_with fail
      rw [← hwA, ← HF.out]
      clear hwA e0 e1 e2 e3
      obtain ⟨j0, j1, j2, j3, j4⟩ := HC.out wA (Below.refl _ _)
      have q : Below wA.heap.size wA wA.drew := (Below.refl _ _).drew
      go_cut [8] (fun s8 wx => ∃ g, s8 = .slice (some ⟨g, 0, none⟩) 3 3 ∧ wA.heap.size ≤ g ∧ wx.heap[g]? = some (.cells #[.string ⟨#[102, 114, 97, 109, 101]⟩, .string x, .string y] 9 (0, 0)) ∧ Below wA.heap.size wA wx)
      case first =>
        go_region_held3 (fun w' => w'.cell? ⟨F, 0, none⟩ = some (.int .i64 f.fn) ∧ w'.cell? ⟨F, 1, none⟩ = some (.int .i64 f.pc))
          (first | exact ⟨j0, j1⟩ | exact ⟨(HC.out _ q).1, (HC.out _ q).2.1⟩ | exact ⟨(HC.out _ (q.alloc q.size _)).1, (HC.out _ (q.alloc q.size _)).2.1⟩)
          (first
            | (go_at_call_of 27 f.fn; refine (HI1.out _ (HBA.out.trans (q.mono HBA.out.size))).mono ?_; rintro e wa ⟨rfl, kd⟩; have q := q.trans (kd.mono q.size))
            | (go_at_call_of 27 f.pc; refine (HI2.out _ (HBA.out.trans (q.mono HBA.out.size))).mono ?_; rintro e wb ⟨rfl, kd⟩; have q := q.trans (kd.mono q.size)))
        all_goals
          clear j0 j1 j2 j3 j4
          go_wp2_with fail
          go_meet
          case rel => exact ⟨_, rfl, q.size, block_new _ _ 9, q.alloc q.size _⟩
      case rest =>
        obtain ⟨g8, rfl, hg8, hblk8, q8⟩ := hcut
        have hown8 : wc.ownsRow wA.heap.size 9 1 (.slice (some ⟨g8, 0, none⟩) 3 3) 3 [.string ⟨#[102, 114, 97, 109, 101]⟩, .string x, .string y] := own_row hg8 hblk8 rfl (by decide)
        clear q j0 j1 j2 j3 j4 hg8 hblk8
        obtain ⟨j0, j1, j2, j3, j4⟩ := HC.out wc q8
        go_wp2_with fail
        clear j0 j1 j2 j3 j4
        refine (HTX.out f.locals la lc wc t3.1 t4 (HL.out.mono q8) (HBA.out.trans (q8.mono HBA.out.size))).mono ?_
        rintro e w9 ⟨g9, cur9, rfl, hblk9, -, hs9, hc9, hb9⟩
        have q9 := q8.trans (hb9.mono q8.size)
        have hown9 := own_below hown8 hb9
        have E9 : Hid (cur9.toList = (f.locals.map (vlT d.heap)).map Value.string) := cur_strs hs9 hc9
        have h19 : ∀ u ∈ cur9.toList, u.oneCell' = true := by rw [E9.out]; exact one_strs _
        have hs9' : cur9.toList.length = f.locals.length * 1 := by simp [hs9]
        clear hc9 hb9 hown8 q8 hs9
        go_upto_region 9 with (first | (at_builtin; refine wpList_append_own _ rfl _ _ 22 rfl wA.heap.size 9 i9 (.string ByteArray.empty) 1 16 Tryz.underlying22 hi9 hy0 hy1 hy2 rfl (by decide) _ _ _ rfl hown9 ⟨g9, 0, none⟩ _ _ cur9.toList rfl hs9' (World.news_of_block hblk9) h19 (by unfold maxLen; omega) (by omega) q9.size ?_; intro va wa hownA hgrowA hnilA))
        have qA := q9.trans ((Keeps.grown (ts := [9]) hown9 hgrowA (by decide)).toBelow q9.size)
        obtain ⟨ga, capa, rfl, -⟩ := hownA.form (by omega)
        clear hown9 hgrowA hnilA hblk9 h19 hs9' q9
        have hownB0 := World.ownsRow.alloc hownA (.cells #[.string ⟨#[124]⟩] 9)
        have hblkB := block_new wa #[.string ⟨#[124]⟩] 9
        have qB0 : Below wA.heap.size wA (wa.alloc (.cells #[.string ⟨#[124]⟩] 9)) := qA.alloc qA.size _
        clear hownA
        go_upto_region 10 with (first | (at_builtin; refine wpList_append_own _ rfl _ _ 22 rfl wA.heap.size 9 i9 (.string ByteArray.empty) 1 16 Tryz.underlying22 hi9 hy0 hy1 hy2 rfl (by decide) _ _ _ rfl hownB0 ⟨wa.heap.size, 0, none⟩ 1 1 [.string ⟨#[124]⟩] rfl rfl (World.news_of_block hblkB) (by simp [Value.oneCell']) (by unfold maxLen; omega) (by omega) qB0.size ?_; intro vb wb hownB hgrowB hnilB))
        have qB := qB0.trans ((Keeps.grown (ts := [9]) hownB0 hgrowB (by decide)).toBelow qB0.size)
        obtain ⟨gb, capb, rfl, -⟩ := hownB.form (by omega)
        clear hownB0 hgrowB hnilB hblkB qB0 qA
        obtain ⟨j0, j1, j2, j3, j4⟩ := HC.out wb qB
        go_wp2_with fail
        clear j0 j1 j2 j3 j4
        refine (HTX.out f.stack sa sc wb t3.2 t5 (HST.out.mono qB) (HBA.out.trans (qB.mono HBA.out.size))).mono ?_
        rintro e wd ⟨gd, curd, rfl, hblkd, -, hsd, hcd, hbd⟩
        have qD := qB.trans (hbd.mono qB.size)
        have hownD := own_below hownB hbd
        have ED : Hid (curd.toList = (f.stack.map (vlT d.heap)).map Value.string) := cur_strs hsd hcd
        have h1d : ∀ u ∈ curd.toList, u.oneCell' = true := by rw [ED.out]; exact one_strs _
        have hsd' : curd.toList.length = f.stack.length * 1 := by simp [hsd]
        have hln : lls.length ≤ 30 := by rw [HLEN.out]; omega
        have hWl : Hid ((frW d.heap f).length = 3 + f.locals.length + 1 + f.stack.length) := by rw [HFW.out]; show _ = _; simp; omega
        have hWx : Hid ((frW d.heap f).map Value.string = [.string ⟨#[102, 114, 97, 109, 101]⟩, .string x, .string y] ++ cur9.toList ++ [.string ⟨#[124]⟩] ++ curd.toList) := by rw [HFW.out, E9.out, ED.out]; show _ = _; simp
        clear hcd hbd hownB qB hsd
        go_upto_region 11 with (first
          | (at_builtin; refine wpList_append_own _ rfl _ _ 22 rfl wA.heap.size 9 i9 (.string ByteArray.empty) 1 16 Tryz.underlying22 hi9 hy0 hy1 hy2 rfl (by decide) _ _ _ rfl hownD ⟨gd, 0, none⟩ _ _ curd.toList rfl hsd' (World.news_of_block hblkd) h1d (by unfold maxLen; omega) (by omega) qD.size ?_; intro ve we hownE hgrowE hnilE; obtain ⟨ge, cape, rfl, -⟩ := hownE.form (by omega); have qE := qD.trans ((Keeps.grown (ts := [9]) hownD hgrowE (by decide)).toBelow qD.size); have hLE := HLA.out.mono qE; obtain ⟨vs, hvs, hev⟩ := hLE; have hbs : B ≤ (we.alloc (.cells #[.slice (some ⟨ge, 0, none⟩) (3 + f.locals.length + 1 + f.stack.length) cape] 22)).heap.size := (by have h1 := HBsz.out; have h2 := qE.size; rw [World.size_alloc]; omega))
          | (at_builtin; refine wpList_append_lies _ rfl _ _ 65 rfl B 22 i22 (.slice none 0 0) 1 24 Tryz.underlying65 hi22 hz0 hz1 hz2 rfl (by decide) _ _ _ rfl (World.ownsRow.alloc hvs _) ⟨we.heap.size, 0, none⟩ 1 1 [.slice (some ⟨ge, 0, none⟩) (3 + f.locals.length + 1 + f.stack.length) cape] rfl rfl (World.news_of_block (block_new we _ 22)) (by simp [Value.oneCell']) (by decide) (by unfold maxLen; omega) (by omega) hbs _ rfl ?_; intro gz capz wz hownZ hgrowZ hatZ hltZ))
        have hbe : Below we.heap.size we (we.alloc (.cells #[.slice (some ⟨ge, 0, none⟩) (3 + f.locals.length + 1 + f.stack.length) cape] 22)) := (Below.refl _ _).alloc (Nat.le_refl _) _
        have hkZ : Keeps B [22] (we.alloc (.cells #[.slice (some ⟨ge, 0, none⟩) (3 + f.locals.length + 1 + f.stack.length) cape] 22)) wz := Keeps.grown (World.ownsRow.alloc hvs _) hgrowZ (by decide)
        have hline : LineAt we wA.heap.size (.slice (some ⟨ge, 0, none⟩) (3 + f.locals.length + 1 + f.stack.length) cape) (frW d.heap f) := by
          refine LineAt.of_own ?_ (by rw [hWl.out]; omega)
          rw [hWl.out, hWx.out]
          exact hownE
        have hLZ : LinesO wz B (.slice (some ⟨gz, 0, none⟩) (lls.length + 1) capz) (lls ++ [frW d.heap f]) := by
          refine LinesO.add (w := we.alloc (.cells #[.slice (some ⟨ge, 0, none⟩) (3 + f.locals.length + 1 + f.stack.length) cape] 22)) (fun j hj => ?_) (by have := hvs.1; omega) hownZ hkZ ((hline.low (Nat.zero_le _)).mono hbe)
          obtain ⟨u, h3, h4⟩ := hev j hj
          exact ⟨u, h3, h4.mono hbe⟩
        have hbz : Below w1.heap.size w1 wz := by
          have h1 := HBA.out.trans (qE.mono HBA.out.size)
          have h2 := h1.trans (hbe.mono h1.size)
          exact h2.trans ((hkZ.toBelow hbs).mono hwB)
        have HZ : Hid (LinesO wz B (.slice (some ⟨gz, 0, none⟩) (lls.length + 1) capz) (lls ++ [frW d.heap f]) ∧ Below w1.heap.size w1 wz) := ⟨hLZ, hbz⟩
        clear hLZ hbz hline hkZ hbe hownZ hgrowZ hatZ hltZ hvs hev hownE hgrowE hnilE qE hownD hblkd h1d hsd' qD hbs
        go_wp2
        exact ⟨⟨k + 1, by omega, by go_num, by rw [HTK.out]; exact HZ.out.1, HZ.out.2⟩, by simp [intOf]; omega⟩
    · have hke : k = d.frames.length := by omega
      have hlen : (stW d :: (d.frames.take k).map (frW d.heap)).length ≤ 30 := by simp; omega
      have HVW : Hid (vmW d = (stW d :: (d.frames.take k).map (frW d.heap)) ++ [laW d]) := by rw [hke, List.take_length]; exact rfl
      have hm1 := HT.out.made
      have hm2 := HT.out.out
      obtain ⟨x, Hx⟩ : ∃ x, Hid (x = numText d.made) := ⟨_, rfl⟩
      obtain ⟨y, Hy⟩ : ∃ y, Hid (y = numText (d.out.length : Nat)) := ⟨_, rfl⟩
      have HLW : Hid (laW d = [⟨#[109, 97, 100, 101]⟩, x, ⟨#[111, 117, 116]⟩, y]) := by rw [Hx.out, Hy.out]; exact rfl
      have HI1 : Hid (∀ w', Below w1.heap.size w1 w' → Calls Tryz.prog 27 #[.int .i64 d.made] w' fun e w'' => e = .returned (.string x) ∧ Below w'.heap.size w' w'') := fun w' hb => by rw [Hx.out]; exact HIT.out d.made w' (by omega) (by omega) hb
      have HI2 : Hid (∀ w', Below w1.heap.size w1 w' → Calls Tryz.prog 27 #[.int .i64 (d.out.length : Nat)] w' fun e w'' => e = .returned (.string y) ∧ Below w'.heap.size w' w'') := fun w' hb => by rw [Hy.out]; exact HIT.out (d.out.length : Nat) w' (by omega) (by omega) hb
      have HBsz : Hid (B ≤ wr.heap.size) := by
        obtain ⟨vs, hvs, -⟩ := hLO
        obtain ⟨gg, cc, rfl, -⟩ := hvs.form (by simp)
        have := hvs.lt gg rfl
        exact (show B ≤ wr.heap.size by omega)
      have HLO : Hid (LinesO wr B u5 (stW d :: (d.frames.take k).map (frW d.heap))) := hLO
      clear hke hk hLO hm1 hm2
      generalize stW d :: (d.frames.take k).map (frW d.heap) = lls at *
      have HFIN : Hid (∀ (wb wz : World) (vs : List Value) (gz capz : Nat), Below wr.heap.size wr wb → wb.ownsRow B 22 1 u5 lls.length vs → (∀ j (h : j < lls.length), ∃ u, vs[j]? = some u ∧ LineAt wb 0 u lls[j]) → wz.ownsRow B 22 1 (.slice (some ⟨gz, 0, none⟩) (lls.length + 1) capz) (lls.length + 1) (vs ++ [.slice (some ⟨wb.heap.size, 0, none⟩) 4 4]) → World.grownBy ((wb.alloc (.cells #[.string ⟨#[109, 97, 100, 101]⟩, .string x, .string ⟨#[111, 117, 116]⟩, .string y] 9)).alloc (.cells #[.slice (some ⟨wb.heap.size, 0, none⟩) 4 4] 22)) wz u5.ownBlock → Calls Tryz.prog 29 #[.slice (some ⟨gz, 0, none⟩) (lls.length + 1) capz] wz fun e w' => e = .returned (.string R) ∧ Below w.heap.size w w') := by
        intro wb wz vs gz capz hbb hvs hev hownZ hgrowZ
        have hbe : Below wb.heap.size wb ((wb.alloc (.cells #[.string ⟨#[109, 97, 100, 101]⟩, .string x, .string ⟨#[111, 117, 116]⟩, .string y] 9)).alloc (.cells #[.slice (some ⟨wb.heap.size, 0, none⟩) 4 4] 22)) := ((Below.refl _ _).alloc (Nat.le_refl _) _).alloc (by simp) _
        have hblk := block_old (block_new wb #[.string ⟨#[109, 97, 100, 101]⟩, .string x, .string ⟨#[111, 117, 116]⟩, .string y] 9) (.cells #[.slice (some ⟨wb.heap.size, 0, none⟩) 4 4] 22)
        have hline : LineAt ((wb.alloc (.cells #[.string ⟨#[109, 97, 100, 101]⟩, .string x, .string ⟨#[111, 117, 116]⟩, .string y] 9)).alloc (.cells #[.slice (some ⟨wb.heap.size, 0, none⟩) 4 4] 22)) 0 (.slice (some ⟨wb.heap.size, 0, none⟩) 4 4) (laW d) := by
          rw [HLW.out]
          refine ⟨_, _, _, rfl, Nat.zero_le _, hblk, Nat.le_refl _, ?_⟩
          intro j z hz
          match j, hz with
          | 0, hz => cases hz; rfl
          | 1, hz => cases hz; rfl
          | 2, hz => cases hz; rfl
          | 3, hz => cases hz; rfl
        have hkZ : Keeps B [22] ((wb.alloc (.cells #[.string ⟨#[109, 97, 100, 101]⟩, .string x, .string ⟨#[111, 117, 116]⟩, .string y] 9)).alloc (.cells #[.slice (some ⟨wb.heap.size, 0, none⟩) 4 4] 22)) wz := Keeps.grown (World.ownsRow.alloc (World.ownsRow.alloc hvs _) _) hgrowZ (by decide)
        have hLZ : LinesO wz B (.slice (some ⟨gz, 0, none⟩) (lls.length + 1) capz) (lls ++ [laW d]) := by
          refine LinesO.add (w := (wb.alloc (.cells #[.string ⟨#[109, 97, 100, 101]⟩, .string x, .string ⟨#[111, 117, 116]⟩, .string y] 9)).alloc (.cells #[.slice (some ⟨wb.heap.size, 0, none⟩) 4 4] 22)) (fun j hj => ?_) (by have := hvs.1; omega) hownZ hkZ hline
          obtain ⟨u, h3, h4⟩ := hev j hj
          exact ⟨u, h3, h4.mono hbe⟩
        have hl2 : (lls ++ [laW d]).length = lls.length + 1 := by simp
        rw [← hl2] at hLZ
        have hB1 := HB1.out.trans (hbr.mono HB1.out.size)
        have hB2 := hB1.trans (hbb.mono hB1.size)
        have hB3 := hB2.trans (hbe.mono hB2.size)
        have hbs : B ≤ ((wb.alloc (.cells #[.string ⟨#[109, 97, 100, 101]⟩, .string x, .string ⟨#[111, 117, 116]⟩, .string y] 9)).alloc (.cells #[.slice (some ⟨wb.heap.size, 0, none⟩) 4 4] 22)).heap.size := by
          have h1 := HBsz.out
          have h2 := hbb.size
          rw [World.size_alloc, World.size_alloc]
          omega
        have hB4 := hB3.trans ((hkZ.toBelow hbs).mono (Nat.le_trans HB1.out.size hwB))
        have C := linesText_any (some ⟨gz, 0, none⟩) (lls ++ [laW d]) capz wz (by rw [hl2]; omega) (by rw [← HVW.out]; exact HWO.out) hLZ.rows
        rw [← HVW.out, HLL.out, HVW.out, hl2] at C
        refine C.mono ?_
        rintro e w' ⟨h1, h2⟩
        exact ⟨h1, hB4.trans (h2.mono hB4.size)⟩
      obtain ⟨v0, v1, v2, v3⟩ := HC1.out wr hbr
      have q : Below wr.heap.size wr wr.drew := (Below.refl _ _).drew
      go_wp2_with fail
      clear hlt
      have hB1 : Below w1.heap.size w1 wr.drew := hbr.drew
      go_region_law (first
        | (refine step_append_lies _ (by rfl) _ _ _ (by rfl) B 22 i22 (.slice none 0 0) 1 24 Tryz.underlying65 hi22 hz0 hz1 hz2 rfl (by decide) _ _ _ (by rfl) (World.ownsRow.alloc (World.ownsRow.alloc hvs _) _) ⟨wb.heap.size + 1, 0, none⟩ 1 1 [.slice (some ⟨wb.heap.size, 0, none⟩) 4 4] (by rfl) (by rfl) (World.news_of_block (block_new_at _ #[.slice (some ⟨wb.heap.size, 0, none⟩) 4 4] 22 (wb.heap.size + 1) (by simp))) (by simp [Value.oneCell']) (by decide) (by unfold maxLen; omega) (by omega) hbs _ (by rfl) ?_; intro gz capz wz hownZ hgrowZ hatZ hltZ)
        | (go_simp; go_at_call_of 27 d.made; refine (HI1.out _ hB1).mono ?_; rintro e wa ⟨rfl, kd⟩; have hBa := hB1.trans (kd.mono hB1.size); have qa : Below wr.heap.size wr wa := q.trans kd; obtain ⟨p0, p1, p2, p3⟩ := HC1.out wa hBa; clear kd)
        | (go_simp; go_at_call 27; refine (HI2.out _ hBa).mono ?_; rintro e wb ⟨rfl, kd⟩; have qb : Below wr.heap.size wr wb := qa.trans (kd.mono qa.size); obtain ⟨vs, hvs, hev⟩ := HLO.out.mono qb; have hbs : B ≤ ((wb.alloc (.cells #[.string ⟨#[109, 97, 100, 101]⟩, .string x, .string ⟨#[111, 117, 116]⟩, .string y] 9)).alloc (.cells #[.slice (some ⟨wb.heap.size, 0, none⟩) 4 4] 22)).heap.size := (by have h1 := HBsz.out; have h2 := qb.size; rw [World.size_alloc, World.size_alloc]; omega); clear kd)
        | (go_simp; go_at_call 29; refine (HFIN.out wb wz vs gz capz qb hvs hev hownZ hgrowZ).mono ?_; rintro e wy ⟨rfl, hby⟩))
      all_goals
        clear v0 v1 v2 v3
        go_wp2
        go_ret
        exact ⟨rfl, hby⟩
end Go.Proofs.YtfefbgemcakabaaGreatDoor
