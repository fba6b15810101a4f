/-
  impl's canonOf, walked.
-/
import Derived.Test.YtcfbahaokmhbkaaGreatKC26
import Derived.Test.YtcfbahaokmhbkaaGreatKC8
import Derived.Deep.CutRange
namespace Go.Proofs.YtcfbahaokmhbkaaGreat
open Go.RowKit

theorem own_low {w : World} {B B' e size n : Nat} {v : Value} {xs : List Value} (h : w.ownsRow B e size v n xs) (hB : B' ≤ B) : w.ownsRow B' e size v n xs := by
  refine ⟨h.1, ?_⟩
  rcases h.2 with ⟨e, hn⟩ | ⟨b, cap, cur, e, hb, r⟩
  · exact .inl ⟨e, hn⟩
  · exact .inr ⟨b, cap, cur, e, Nat.le_trans hB hb, r⟩

theorem CanIs.kept {w w' : World} {B F O hcp : Nat} {ha : Option Addr} {la sa rb : Nat → Nat} {d : VmD} (h : CanIs w B F ha hcp O la sa rb d) (hk : ∀ k c t, t ≠ 38 → B ≤ k → w.heap[k]? = some (.cells c t (0, 0)) → w'.heap[k]? = some (.cells c t (0, 0))) : CanIs w' B F ha hcp O la sa rb d := by
  obtain ⟨c1, a1, b1⟩ := h.fc
  obtain ⟨xs, a2, b2⟩ := h.hc
  obtain ⟨c3, a3, b3⟩ := h.oc
  refine ⟨⟨c1, hk _ _ _ (by decide) h.bf a1, b1⟩, h.fv.kept fun b vs hb hv => hk _ _ _ (by decide) hb hv, ⟨xs, ⟨a2.1, ?_⟩, b2⟩, h.hv.kept fun b vs hb hv => hk _ _ _ (by decide) hb hv, ⟨c3, hk _ _ _ (by decide) h.bo a3, b3⟩, h.bf, h.bo, h.fr⟩
  rcases a2.2 with ⟨e, hn⟩ | ⟨b, cap, cur, e, hb, hh, r⟩
  · exact .inl ⟨e, hn⟩
  · exact .inr ⟨b, cap, cur, e, hb, hk _ _ _ (by decide) hb hh, r⟩
theorem CanIs.low {w : World} {B B' F O hcp : Nat} {ha : Option Addr} {la sa rb : Nat → Nat} {d : VmD} (h : CanIs w B F ha hcp O la sa rb d) (hB : B' ≤ B) : CanIs w B' F ha hcp O la sa rb d := by
  obtain ⟨xs, a2, b2⟩ := h.hc
  exact ⟨h.fc, h.fv.low hB, ⟨xs, own_low a2 hB, b2⟩, h.hv.low hB, h.oc, Nat.le_trans hB h.bf, Nat.le_trans hB h.bo, h.fr⟩

theorem getD_at {ms : List Nat} {j : Nat} (h : j < ms.length) : ms.getD j 0 = ms[j] := by
  rw [List.getD_eq_getElem?_getD, List.getElem?_eq_getElem h]; rfl

theorem canIs_of {w1 w5 w6 : World} {B F Hb O nb mb lo k xc : Nat} {la sa rb : Nat → Nat} {d : VmD} {mv : Value} {xa : Option Addr} {ms : List Nat} {rs : List (List Vl)} (hO : OwnIs w1 B F Hb O la sa rb d) (hF : FrMet w6 la sa d.frames d.frames.length)
    (hI : NumInv w5 w6 lo Hb nb mb rb d.heap ms rs k mv (.slice xa k xc)) (hFc : ∀ o, w1.heap[F]? = some o → w6.heap[F]? = some o) (hOc : ∀ o, w1.heap[O]? = some o → w6.heap[O]? = some o) (hms : rIter d.heap (ms0 d) k = (ms, rs)) (hl : ms.length = k) (hB : B ≤ w5.heap.size) :
    CanIs w6 B F xa xc O la sa (fun j => rb (ms.getD j 0)) (canonD d) ∧ (canonD d).heap.length = k := by
  have hkH : k ≤ d.heap.length := by have := hI.met.le; omega
  have hh : (canonD d).heap = rs := by
    have := canon_heap (d := d) (i := k) (by rw [hms]; exact Nat.le_of_eq hl) hkH
    rw [this, hms]
  have hfl : (canonD d).frames.length = d.frames.length := fV_len [] d.frames
  have hrl := hI.len
  have hmd : ∀ j (h : j < ms.length), ms[j] < d.heap.length := fun j h => hI.met.lt _ (List.getElem_mem h)
  obtain ⟨c1, a1, b1⟩ := hO.fc
  obtain ⟨c3, a3, b3⟩ := hO.oc
  have hlen : (canonD d).heap.length = k := by rw [hh, hrl]
  refine ⟨⟨⟨c1, hFc _ a1, b1.canon⟩, hF.canon hO.fv, ?_, ?_, ⟨c3, hOc _ a3, b3⟩, hO.bf, hO.bo, ?_⟩, hlen⟩
  · refine ⟨_, by rw [hlen]; exact own_low hI.own hB, fun j hj => ?_⟩
    have hj' : j < ms.length := by omega
    have hj2 : j < rs.length := by omega
    have e1 : (canonD d).heap[j] = rs[j] := by simp only [hh]
    rw [e1, metRow, List.take_of_length_le (by omega), List.getElem?_map, List.getElem?_eq_getElem hj', getD_at hj']
    have e2 : (d.heap.getD ms[j] []).length = rs[j].length := by
      rw [hI.done.len j hj2 hj' (hmd j hj'), List.getD_eq_getElem?_getD, List.getElem?_eq_getElem (hmd j hj')]; rfl
    show some (Value.slice _ (d.heap.getD ms[j] []).length (d.heap.getD ms[j] []).length) = _
    rw [e2]
  · refine ⟨fun i hi _ => ?_, fun i hi => ?_, fun i j hi hj e => ?_⟩
    · have hi' : i < ms.length := by omega
      have e1 : (canonD d).heap[i] = rs[i]'(by omega) := by simp only [hh]
      rw [e1]
      show ValsIs w6 (rb (ms.getD i 0)) _
      rw [getD_at hi']
      exact hI.done.done i (by omega) hi'
    · show B ≤ rb (ms.getD i 0)
      rw [getD_at (by omega)]
      exact hO.hv.rob _ (hmd i (by omega))
    · have e : rb (ms.getD i 0) = rb (ms.getD j 0) := e
      rw [getD_at (by omega), getD_at (by omega)] at e
      exact (List.getElem_inj hI.met.once).1 (hO.hv.ri _ _ (hmd i (by omega)) (hmd j (by omega)) e)
  · intro i j hi hj
    show la i ≠ rb (ms.getD j 0) ∧ sa i ≠ rb (ms.getD j 0)
    rw [getD_at (by omega)]
    exact hO.fr i _ (by omega) (hmd j (by omega))

set_option maxHeartbeats 1000000 in
theorem newMeet_any (lo Hb : Nat) (w : World) (hl : lo ≤ w.heap.size) :
    Calls Tryz.prog 62 #[] w fun e w' => ∃ nb mb, e = .returned (.pointer (some ⟨nb, 0, none⟩)) ∧ NumAt w' lo Hb nb mb (.slice none 0 0) [] ∧ Below w.heap.size w w' := by
  have hmk : (Instr.makeMap 147 none).run Tryz.prog w = .ok (.map (some w.heap.size)) (w.alloc (.map #[] 0)) := rfl
  go_enter Tryz.func62, Tryz.ntmps62
  go_wp2
  go_ret
  have hM : ((w.alloc (.map #[] 0)).alloc (.cells #[.map (some w.heap.size), .slice none 0 0] 150)).heap[w.heap.size]? = some (.map #[] 0) := by
    rw [Below.heap_alloc _ _ _ (by simp)]
    exact heap_alloc_new w _
  exact ⟨w.heap.size + 1, w.heap.size, rfl, ⟨block_new_at _ _ _ _ (by simp), hM, World.ownsRow_nil _ _ _ _, hl, by omega⟩, ((Below.refl _ _).alloc (Nat.le_refl _) _).alloc (by simp) _⟩

/-- One of two comes up. -/
theorem wpAnyT_two {P : Program} {ops : Array Oper} {Q : Exit → Act → World → Prop} {md : Region.Mode} {R : Nat → World → World → Prop} {i j : Nat} {oi oj : Oper} {n : Nat} {listed : Array Bool} {a : Act} {w : World} (hr : Region.ready md ops listed = [i, j]) (hi : ops[i]? = some oi) (hj : ops[j]? = some oj)
    (h1 : ∀ K' : Act → World → Prop, Shut (∀ a w', R i w w' → wpAnyT P md ops Q R n (listed.setIfInBounds i true) a w' → K' a w') → if Region.wanted oi (yielded ops a.tmps) = true then Oper.wp P oi a w K' Q else K' (a.put oi.dst undef) w)
    (h2 : ∀ K' : Act → World → Prop, Shut (∀ a w', R j w w' → wpAnyT P md ops Q R n (listed.setIfInBounds j true) a w' → K' a w') → if Region.wanted oj (yielded ops a.tmps) = true then Oper.wp P oj a w K' Q else K' (a.put oj.dst undef) w) :
    wpAnyT P md ops Q R (n + 1) listed a w := by
  refine ⟨fun h0 => (by rw [hr] at h0; cases h0), fun q hq => ?_⟩
  rw [hr] at hq
  rcases List.mem_cons.1 hq with rfl | hq
  · exact wpOp_step hi (fun K' hK => h1 K' (fun a w hS hW => hK a w ⟨hS, hW⟩))
  · obtain rfl := List.mem_singleton.1 hq
    exact wpOp_step hj (fun K' hK => h2 K' (fun a w hS hW => hK a w ⟨hS, hW⟩))

/-- What stands when the numbering is new: its box, its meetings, the state. -/
structure NewN (w1 wx : World) (Hb H bx nb mb : Nat) (vc : Array Value) : Prop where
  box : wx.heap[bx]? = some (.cells #[.slice (some ⟨Hb, 0, none⟩) H H, .pointer (some ⟨nb, 0, none⟩)] 113 (0, 0))
  num : NumAt wx w1.heap.size Hb nb mb (.slice none 0 0) []
  own : wx.heap[w1.heap.size]? = some (.cells vc 38 (0, 0))
  bel : Below w1.heap.size w1 wx
  bxl : w1.heap.size < bx

/-- The store into the box. -/
theorem NewN.of {w1 wx : World} {Hb H bx nb mb : Nat} {vc : Array Value} (hb : wx.heap[bx]? = some (.cells #[.slice none 0 0, .pointer none] 113 (0, 0))) (hN : NumAt wx w1.heap.size Hb nb mb (.slice none 0 0) []) (hv : wx.heap[w1.heap.size]? = some (.cells vc 38 (0, 0))) (hB : Below w1.heap.size w1 wx) (hl : w1.heap.size < bx) :
    NewN w1 ((wx.setCell ⟨bx, 0, none⟩ (.slice (some ⟨Hb, 0, none⟩) H H)).setCell ⟨bx, 1, none⟩ (.pointer (some ⟨nb, 0, none⟩))) Hb H bx nb mb vc := by
  have h1 : nb ≠ bx := fun e => by have := hN.num; rw [e, hb] at this; cases this
  have h2 : mb ≠ bx := fun e => by have := hN.map; rw [e, hb] at this; cases this
  refine ⟨by simpa using block_set (i := 1) (block_set (i := 0) hb (.slice (some ⟨Hb, 0, none⟩) H H)) (.pointer (some ⟨nb, 0, none⟩)), ⟨?_, ?_, World.ownsRow_nil _ _ _ _, hN.lom, hN.mbn⟩, ?_, (hB.setCell (by show w1.heap.size ≤ bx; omega) _).setCell (by show w1.heap.size ≤ bx; omega) _, hl⟩
  · rw [Below.heap_setCell _ _ _ _ h1, Below.heap_setCell _ _ _ _ h1]; exact hN.num
  · rw [Below.heap_setCell _ _ _ _ h2, Below.heap_setCell _ _ _ _ h2]; exact hN.map
  · rw [Below.heap_setCell _ _ _ _ (by show w1.heap.size ≠ bx; omega), Below.heap_setCell _ _ _ _ (by show w1.heap.size ≠ bx; omega)]; exact hv

set_option maxRecDepth 100000 in
set_option maxHeartbeats 16000000 in
theorem canonOf_any (fa ha oa : Option Addr) (fc hcp oc : Nat) (d : VmD) (w : World) (hx : VmSmall d) (hm : VmAt w 0 fa ha oa d) (hA : AllNamed d) :
    Calls Tryz.prog 31 #[.agg (vmCells fa ha oa fc hcp oc d)] w fun e w' => ∃ F xa xc O la sa rb, e = .returned (.agg (vmCells (some ⟨F, 0, none⟩) xa (some ⟨O, 0, none⟩) d.frames.length xc d.out.length (canonD d))) ∧ CanIs w' w.heap.size F xa xc O la sa rb (canonD d) ∧ Below w.heap.size w w' := by
  have hbA : Below w.heap.size w ((w.alloc (.cells (vmCells fa ha oa fc hcp oc d) 38)).alloc (.cells #[.slice none 0 0, .slice none 0 0, .int .i64 0, .slice none 0 0, .int .i64 0, .int .i64 0, .int .i64 0, .int .i64 0, .string ⟨#[]⟩, .int .i64 0] 38)) := ((Below.refl _ _).alloc (Nat.le_refl _) _).alloc (by simp) _
  have hR0 := block_new_at (w.alloc (.cells (vmCells fa ha oa fc hcp oc d) 38)) #[.slice none 0 0, .slice none 0 0, .int .i64 0, .slice none 0 0, .int .i64 0, .int .i64 0, .int .i64 0, .int .i64 0, .string ⟨#[]⟩, .int .i64 0] 38 (w.heap.size + 1) (by simp)
  have hfl := hx.frames
  have hhl := hx.heap
  unfold vmCells at hbA hR0
  conv => arg 3; unfold vmCells
  go_enter Tryz.func31, Tryz.ntmps31
  go_wp2_with fail
  have hov := ownVm_any fa ha oa fc hcp oc d _ hx (hm.mono hbA)
  unfold vmCells at hov
  refine hov.mono ?_
  rintro e w1 ⟨F, Hb, O, la, sa, rb, rfl, hO, hb1⟩
  have hR1 := block_kept hR0 hb1
  have hB1 := hbA.trans (hb1.mono hbA.size)
  have hO : OwnIs w1 (w.heap.size + 2) F Hb O la sa rb d := by simpa using hO
  clear hov hbA hR0 hb1 hm
  have HO := hid hO
  have HR := hid hR1
  have HB := hid hB1
  obtain ⟨wV, hwV⟩ : ∃ wV, wV = w1.alloc (.cells #[.slice (some ⟨F, 0, none⟩) d.frames.length d.frames.length, .slice (some ⟨Hb, 0, none⟩) d.heap.length d.heap.length, .int .i64 d.made, .slice (some ⟨O, 0, none⟩) d.out.length d.out.length, .int .i64 d.status, .int .i64 d.trap, .int .i64 d.value.k, .int .i64 d.value.n, .string d.value.s, .int .i64 0] 38) := ⟨_, rfl⟩
  have hVV : wV.heap[w1.heap.size]? = some (.cells #[.slice (some ⟨F, 0, none⟩) d.frames.length d.frames.length, .slice (some ⟨Hb, 0, none⟩) d.heap.length d.heap.length, .int .i64 d.made, .slice (some ⟨O, 0, none⟩) d.out.length d.out.length, .int .i64 d.status, .int .i64 d.trap, .int .i64 d.value.k, .int .i64 d.value.n, .string d.value.s, .int .i64 0] 38 (0, 0)) := by rw [hwV]; exact block_new _ _ _
  have hbV : Below w1.heap.size w1 wV := by rw [hwV]; exact (Below.refl _ _).alloc (Nat.le_refl _) _
  have hbd : Below wV.heap.size wV wV.drew := (Below.refl _ _).drew
  have hVd := block_kept hVV hbd
  have hbD : Below w1.heap.size w1 wV.drew := hbV.trans (hbd.mono hbV.size)
  have HLV : Hid (w1.heap.size < wV.heap.size) := lt_block hVV
  have hh : (fun w' : World => w'.cell? ⟨w1.heap.size, 1, none⟩ = some (.slice (some ⟨Hb, 0, none⟩) d.heap.length d.heap.length)) wV.drew := by show _ = _; rw [block_cell hVd]; rfl
  clear hO hR1 hB1
  go_upto_region 3 with fail
  rw [← hwV]
  clear hwV
  go_cut [4] from 10 to 13 (fun s4 wx => ∃ bx nb mb, s4 = .pointer (some ⟨bx, 0, none⟩) ∧ NewN w1 wx Hb d.heap.length bx nb mb #[.slice (some ⟨F, 0, none⟩) d.frames.length d.frames.length, .slice (some ⟨Hb, 0, none⟩) d.heap.length d.heap.length, .int .i64 d.made, .slice (some ⟨O, 0, none⟩) d.out.length d.out.length, .int .i64 d.status, .int .i64 d.trap, .int .i64 d.value.k, .int .i64 d.value.n, .string d.value.s, .int .i64 0])
  case first =>
    refine wp_region_T (RS [] (fun w' : World => w'.cell? ⟨w1.heap.size, 1, none⟩ = some (.slice (some ⟨Hb, 0, none⟩) d.heap.length d.heap.length))) (by kernel_rfl) ?_
    refine tkP (i := 0) (v := ?_) rfl (by kernel_rfl) (fun _ _ _ h => h) ?_ ?_
    rotate_left
    · intro w'
      go_simp
      try with_reducible rfl
    simp only [Act.put, List.setIfInBounds_toArray]
    refine tkS (i := 1) [] (v := ?_) rfl (by kernel_rfl) (by kernel_rfl) (fun _ _ _ h => h) ?_ hh ?_
    rotate_left
    · intro w' hSw
      have y0 := hSw
      go_simp
      try with_reducible rfl
    simp only [Act.put]
    refine wpAnyT_two (i := 2) (j := 4) (by kernel_rfl) rfl rfl (fun Kq hK => ?_) (fun Kq hK => ?_)
    · go_simp
      refine (newMeet_any w1.heap.size Hb wV.drew (Nat.le_of_lt HLV.out)).mono ?_
      rintro e wN ⟨nb, mb, rfl, hNN, hbN⟩
      have hVN := block_kept hVd hbN
      have hBN : Below w1.heap.size w1 wN := hbD.trans (hbN.mono hbD.size)
      refine hK.out _ _ (.inr (fun _ => by show _ = _; rw [block_cell hVN]; rfl)) ?_
      clear hK Kq
      try simp only [Act.put]
      refine tkP (i := 3) (v := ?_) rfl (by kernel_rfl) (fun _ _ _ h => h) ?_ ?_
      rotate_left
      · intro w'
        go_simp
        try with_reducible rfl
      simp only [Act.put]
      refine wpAnyT_one (i := 4) (o := _) (by kernel_rfl) rfl (fun Kq hK => ?_)
      go_simp
      obtain ⟨wM, hwM⟩ : ∃ wM, wM = wN.alloc (.cells #[.slice none 0 0, .pointer none] 113) := ⟨_, rfl⟩
      obtain ⟨bx, hbx⟩ : ∃ bx, bx = wN.heap.size := ⟨_, rfl⟩
      have hbM : Below wN.heap.size wN wM := by rw [hwM]; exact (Below.refl _ _).alloc (Nat.le_refl _) _
      have hNM : wM.heap[bx]? = some (.cells #[.slice none 0 0, .pointer none] 113 (0, 0)) := by rw [hwM, hbx]; exact block_new _ _ _
      have hVM := block_kept hVN hbM
      have HE := hid (NewN.of (H := d.heap.length) hNM (hNN.mono hbM) hVM (hBN.trans (hbM.mono hBN.size)) (by rw [hbx]; exact lt_block hVN))
      rw [← hwM, ← hbx]
      clear hwM hbx
      refine hK.out _ _ (.inr (fun _ => by show _ = _; rw [block_cell hVM]; rfl)) ?_
      clear hK Kq
      try simp only [Act.put]
      have m1 := block_cell hNM
      have m2 := block_free hNM
      refine wpAnyT_one (i := 5) (o := _) (by kernel_rfl) rfl (fun Kq hK => ?_)
      go_simp
      refine hK.out _ _ (.inr (fun _ => by show _ = _; rw [block_cell HE.out.own]; rfl)) ?_
      clear hK Kq
      try simp only [Act.put]
      refine wpAnyT_done (by kernel_rfl) ?_ _
      go_wp2_with fail
      go_meet
      case rel => exact ⟨_, _, _, rfl, HE.out⟩
    · go_simp
      obtain ⟨wM, hwM⟩ : ∃ wM, wM = (wV.alloc (.cells #[.slice none 0 0, .pointer none] 113)).drew := ⟨_, rfl⟩
      obtain ⟨bx, hbx⟩ : ∃ bx, bx = wV.heap.size := ⟨_, rfl⟩
      have hbM : Below wV.drew.heap.size wV.drew wM := by rw [hwM]; show Below _ _ (wV.drew.alloc (.cells #[.slice none 0 0, .pointer none] 113)); exact (Below.refl _ _).alloc (Nat.le_refl _) _
      have hNM : wM.heap[bx]? = some (.cells #[.slice none 0 0, .pointer none] 113 (0, 0)) := by rw [hwM, hbx]; exact block_new wV.drew _ _
      have hbl : w1.heap.size < bx := by rw [hbx]; exact HLV.out
      rw [← hwM, ← hbx]
      clear hwM hbx
      have hVM := block_kept hVd hbM
      have hBM : Below w1.heap.size w1 wM := hbD.trans (hbM.mono hbD.size)
      refine hK.out _ _ (.inr (fun _ => by show _ = _; rw [block_cell hVM]; rfl)) ?_
      clear hK Kq
      try simp only [Act.put]
      refine wpAnyT_one (i := 2) (o := _) (by kernel_rfl) rfl (fun Kq hK => ?_)
      go_simp
      refine (newMeet_any w1.heap.size Hb wM hBM.size).mono ?_
      rintro e wN ⟨nb, mb, rfl, hNN, hbN⟩
      have hNM2 := block_kept hNM hbN
      have hVN := block_kept hVM hbN
      have hBN : Below w1.heap.size w1 wN := hBM.trans (hbN.mono hBM.size)
      have HE := hid (NewN.of (H := d.heap.length) hNM2 hNN hVN hBN hbl)
      refine hK.out _ _ (.inr (fun _ => by show _ = _; rw [block_cell hVN]; rfl)) ?_
      clear hK Kq
      try simp only [Act.put]
      refine tkP (i := 3) (v := ?_) rfl (by kernel_rfl) (fun _ _ _ h => h) ?_ ?_
      rotate_left
      · intro w'
        go_simp
        try with_reducible rfl
      simp only [Act.put]
      have m1 := block_cell hNM2
      have m2 := block_free hNM2
      refine wpAnyT_one (i := 5) (o := _) (by kernel_rfl) rfl (fun Kq hK => ?_)
      go_simp
      refine hK.out _ _ (.inr (fun _ => by show _ = _; rw [block_cell HE.out.own]; rfl)) ?_
      clear hK Kq
      try simp only [Act.put]
      refine wpAnyT_done (by kernel_rfl) ?_ _
      go_wp2_with fail
      go_meet
      case rel => exact ⟨_, _, _, rfl, HE.out⟩
  case rest =>
  obtain ⟨bx, nb, mb, rfl, hNW⟩ := hcut
  clear hVd hbd hVV hbV hh hbD HLV
  generalize wc = w2 at hNW ⊢
  have hV2 := hNW.own
  have hN2 := hNW.num
  have hNB := hNW.box
  have hb2 := hNW.bel
  have hbx := hNW.bxl
  clear hNW
  have vv2 := block_cell hV2
  go_wp2
  clear vv2
  have hAp := HO.out.apart
  have HAp := hid hAp
  go_loopw [17] (fun i wr => ∃ (k : Nat) (mv : Value), k ≤ d.frames.length ∧ i = .int .i64 k ∧ Hid (FrMet wr la sa d.frames k) ∧ Hid (NumAt wr w1.heap.size Hb nb mb mv (fS [] (d.frames.take k)))
      ∧ Hid (wr.heap[bx]? = some (.cells #[.slice (some ⟨Hb, 0, none⟩) d.heap.length d.heap.length, .pointer (some ⟨nb, 0, none⟩)] 113 (0, 0))) ∧ wr.heap[w1.heap.size]? = some (.cells #[.slice (some ⟨F, 0, none⟩) d.frames.length d.frames.length, .slice (some ⟨Hb, 0, none⟩) d.heap.length d.heap.length, .int .i64 d.made, .slice (some ⟨O, 0, none⟩) d.out.length d.out.length, .int .i64 d.status, .int .i64 d.trap, .int .i64 d.value.k, .int .i64 d.value.n, .string d.value.s, .int .i64 0] 38 (0, 0)) ∧ Hid (w1.heap.size ≤ wr.heap.size) ∧ Hid (wr.os = w1.os ∧ wr.tape = w1.tape ∧ wr.output = w1.output) ∧ Hid (∀ kk o, kk < w1.heap.size → (∀ i, i < d.frames.length → kk ≠ la i ∧ kk ≠ sa i) → w1.heap[kk]? = some o → wr.heap[kk]? = some o)) (fun i _ => d.frames.length - (intOf i).toNat)
  case atStart =>
    exact ⟨0, _, by omega, rfl, HO.out.met0.kept (fun b vs _ hv => hv.mono hb2), hN2, hNB, hV2, hb2.size, ⟨hb2.os, hb2.tape, hb2.output⟩, fun kk o _ _ ho => block_kept ho hb2⟩
  case round =>
    obtain ⟨k, mv, hk, rfl, HF, HN, HNB, hV, HZ, HT, HK⟩ := hrel
    clear hV2 hN2 hb2
    obtain ⟨cur, hFc, hFd⟩ := HO.out.fc
    have hFlt := lt_block hFc
    have hFn : ∀ i, i < d.frames.length → F ≠ la i ∧ F ≠ sa i := fun i hi => by
      have h1 := HO.out.fv.loc i hi hi
      have h2 := HO.out.fv.stk i hi hi
      unfold ValsIs at h1 h2
      constructor
      · intro e; rw [← e, hFc] at h1; cases h1
      · intro e; rw [← e, hFc] at h2; cases h2
    have hFr := HK.out _ _ hFlt hFn hFc
    by_cases hlt : k < d.frames.length
    · obtain ⟨d1, d2, d3, d4⟩ := hFd.2 k hlt hlt
      have c1 : wr.cell? ⟨F, k * 4, none⟩ = some (.int .i64 d.frames[k].fn) := by rw [block_cell hFr]; exact d1
      have c2 : wr.cell? ⟨F, k * 4 + 1, none⟩ = some (.int .i64 d.frames[k].pc) := by rw [block_cell hFr]; exact d2
      have c3 : wr.cell? ⟨F, k * 4 + 2, none⟩ = some (.slice (some ⟨la k, 0, none⟩) d.frames[k].locals.length d.frames[k].locals.length) := by rw [block_cell hFr]; exact d3
      have c4 : wr.cell? ⟨F, k * 4 + 3, none⟩ = some (.slice (some ⟨sa k, 0, none⟩) d.frames[k].stack.length d.frames[k].stack.length) := by rw [block_cell hFr]; exact d4
      obtain ⟨wA, hwA⟩ : ∃ wA, wA = wr.alloc (.cells #[.int .i64 d.frames[k].fn, .int .i64 d.frames[k].pc, .slice (some ⟨la k, 0, none⟩) d.frames[k].locals.length d.frames[k].locals.length, .slice (some ⟨sa k, 0, none⟩) d.frames[k].stack.length d.frames[k].stack.length] 90) := ⟨_, rfl⟩
      have hX : wA.heap[wr.heap.size]? = some (.cells #[.int .i64 d.frames[k].fn, .int .i64 d.frames[k].pc, .slice (some ⟨la k, 0, none⟩) d.frames[k].locals.length d.frames[k].locals.length, .slice (some ⟨sa k, 0, none⟩) d.frames[k].stack.length d.frames[k].stack.length] 90 (0, 0)) := by rw [hwA]; exact block_new _ _ _
      have hbA : Below wr.heap.size wr wA := by rw [hwA]; exact (Below.refl _ _).alloc (Nat.le_refl _) _
      obtain ⟨ms, hms⟩ : ∃ ms, ms = fS [] (d.frames.take k) := ⟨_, rfl⟩
      have hM : Met d.heap.length ms := by rw [hms]; exact (Met.nil _).fS fun f hf => hA.frames f (List.mem_of_mem_take hf)
      have hNA := HN.out.mono hbA
      rw [← hms] at hNA
      have hVL : ValsIs wA (la k) d.frames[k].locals := (HF.out.todoL k hlt (Nat.le_refl _)).mono hbA
      have hVS : ValsIs wA (sa k) d.frames[k].stack := (HF.out.todoS k hlt (Nat.le_refl _)).mono hbA
      have hmL := meetAll_any w1.heap.size Hb d.heap.length d.heap.length nb mb mv ms (la k) d.frames[k].locals.length d.frames[k].locals wA hNA hVL (hx.locals _ (List.getElem_mem hlt)).1 (hA.frames _ (List.getElem_mem hlt)).1 hhl hM
      have hVA := block_kept hV hbA
      have hBA := block_kept HNB.out hbA
      have nb1 := block_cell hBA
      have HbA := hid hbA
      have HMS := hid hms
      have HFD := hid hFd
      clear hFc hFlt hFn hFr d1 d2 d3 d4 hbA hNA hVL hms hFd
      go_upto_region 7 with fail
      rw [← hwA]
      clear hwA c1 c2 c3 c4 hV
      have xA := block_cell hX
      go_wp2_with fail
      clear xA nb1
      refine hmL.mono ?_
      rintro e w3 ⟨rfl, hK3, ⟨mv3, hN3⟩, hV3⟩
      have hla := HAp.out.llo k hlt
      have hsa := HAp.out.slo k hlt
      have hlsz := HZ.out
      have hX3 := hK3.kept hX (by omega) ⟨by decide, by decide⟩
      have hVA3 := hK3.kept hVA (by omega) ⟨by decide, by decide⟩
      have hBA3 := hK3.kept hBA (by omega) ⟨by decide, by decide⟩
      have nb3 := block_cell hBA3
      have hVS3 : ValsIs w3 (sa k) d.frames[k].stack := hK3.low hVS (fun e => HAp.out.ls k k hlt hlt e.symm) hsa
      have hmS := meetAll_any w1.heap.size Hb d.heap.length d.heap.length nb mb mv3 (lS ms d.frames[k].locals) (sa k) d.frames[k].stack.length d.frames[k].stack w3 hN3 hVS3 (hx.stack _ (List.getElem_mem hlt)).1 (hA.frames _ (List.getElem_mem hlt)).2 hhl (hM.lS (hA.frames _ (List.getElem_mem hlt)).1)
      have x3 := block_cell hX3
      have HK3 := hid hK3
      have HV3 := hid hV3
      clear hmL hX hVA hVS hN3 hVS3 hK3 hV3 hBA
      go_wp2_with fail
      refine hmS.mono ?_
      rintro e w4 ⟨rfl, hK4, ⟨mv4, hN4⟩, hV4⟩
      have hVA4 := hK4.kept hVA3 (by omega) ⟨by decide, by decide⟩
      have HBA4 := hid (hK4.kept hBA3 (by omega) ⟨by decide, by decide⟩)
      have HK4 := hid hK4
      have HV4 := hid hV4
      have HN4 := hid hN4
      clear hmS hX3 hVA3 x3 hK4 hV4 hN4 hBA3 nb3
      go_wp2
      go_roundw
      case rel =>
        have k3 := HK3.out
        have k4 := HK4.out
        refine ⟨k + 1, mv4, by omega, by go_num, ?_, ?_, HBA4, hVA4, Nat.le_trans HZ.out (Nat.le_trans HbA.out.size (Nat.le_trans k3.size k4.size)), ⟨k4.os.trans (k3.os.trans (HbA.out.os.trans HT.out.1)), k4.tape.trans (k3.tape.trans (HbA.out.tape.trans HT.out.2.1)), k4.output.trans (k3.output.trans (HbA.out.output.trans HT.out.2.2))⟩, ?_⟩
        · refine (HF.out.kept fun b vs _ hv => hv.mono HbA.out).step HAp.out hlt k3 ?_ k4 ?_
          · rw [← HMS.out]; exact HV3.out
          · rw [← HMS.out]; exact HV4.out
        · show NumAt _ _ _ _ _ _ _
          rw [fS_more hlt, ← HMS.out]
          exact HN4.out
        · intro kk o hkk hne ho
          exact k4.low (k3.low (block_kept (HK.out kk o hkk hne ho) HbA.out) (hne k hlt).1 hkk) (hne k hlt).2 hkk
      case measure => simp [intOf]; omega
    · have hkn : k = d.frames.length := by omega
      subst hkn
      have hN := HN.out
      rw [List.take_length] at hN
      have hml := (Met.nil d.heap.length).fS hA.frames
      have hmt := meet_any w1.heap.size Hb d.heap.length d.heap.length nb mb mv (fS [] d.frames) w1.heap.size 6 38 d.value _ wr hN hV ⟨by decide, by decide⟩ rfl rfl hA.value hhl hml
      have HFD := hid hFd
      have HFC := hid hFc
      have HFN := hid hFn
      have HFL := hid hFlt
      have hF1 := block_cell hFr
      have nbr := block_cell HNB.out
      clear hN hml hFc hFn hFr hFlt hFd
      go_wp2_with fail
      refine hmt.mono ?_
      rintro e w5 ⟨rfl, hK5, ⟨mv5, hN5⟩, hV5⟩
      have hV5 : w5.heap[w1.heap.size]? = some (.cells #[.slice (some ⟨F, 0, none⟩) d.frames.length d.frames.length, .slice (some ⟨Hb, 0, none⟩) d.heap.length d.heap.length, .int .i64 d.made, .slice (some ⟨O, 0, none⟩) d.out.length d.out.length, .int .i64 d.status, .int .i64 d.trap, .int .i64 d.value.k, .int .i64 (mV (fS [] d.frames) d.value).n, .string d.value.s, .int .i64 0] 38 (0, 0)) := by simpa using hV5
      have hN5 : NumAt w5 w1.heap.size Hb nb mb mv5 (ms0 d) := hN5
      have HB5 := hid (hK5.kept HNB.out (by omega) ⟨by decide, by decide⟩)
      have nb5 := block_cell HB5.out
      have hrbl : ∀ j, j < d.heap.length → rb j < w1.heap.size := fun j hj => lt_block (HO.out.hv.fld j hj hj)
      have hlow5 : ∀ kk o, kk < w1.heap.size → (∀ i, i < d.frames.length → kk ≠ la i ∧ kk ≠ sa i) → w1.heap[kk]? = some o → w5.heap[kk]? = some o := fun kk o hkk hne ho => hK5.low (HK.out kk o hkk hne ho) (by omega) hkk
      have hty : ∀ kk c t, t ≠ 36 → w1.heap[kk]? = some (.cells c t (0, 0)) → ∀ i, i < d.frames.length → kk ≠ la i ∧ kk ≠ sa i := fun kk c t ht ho i hi => by
        have h1 := HO.out.fv.loc i hi hi
        have h2 := HO.out.fv.stk i hi hi
        unfold ValsIs at h1 h2
        constructor
        · intro e; rw [← e, ho] at h1; cases h1; exact ht rfl
        · intro e; rw [← e, ho] at h2; cases h2; exact ht rfl
      have htr : ∀ kk c t, t ≠ 36 → w1.heap[kk]? = some (.cells c t (0, 0)) → ∀ j, j < d.heap.length → kk ≠ rb j := fun kk c t ht ho j hj e => by
        have h1 := HO.out.hv.fld j hj hj
        unfold ValsIs at h1
        rw [← e, ho] at h1; cases h1; exact ht rfl
      have hRR : RecRow w5 w1.heap.size Hb rb d.heap := by
        obtain ⟨c2, a2, b2⟩ := HO.out.hc
        exact HO.out.recRow fun o ho => hlow5 _ o (lt_block ho) (hty _ _ _ (by decide) a2) ho
      have hRD : RecDone w5 rb d.heap (ms0 d) [] 0 := ⟨fun j hj _ => hlow5 _ _ (hrbl j hj) (fun i hi => ⟨fun e => (HO.out.fr i j hi hj).1 e.symm, fun e => (HO.out.fr i j hi hj).2 e.symm⟩) (HO.out.hv.fld j hj hj), fun q hq => absurd hq (Nat.not_lt_zero _), fun q hq => absurd hq (Nat.not_lt_zero _)⟩
      have hnb := numbered_any w1.heap.size Hb d.heap.length nb mb mv5 rb d.heap (ms0 d) w5 hN5 hRR hRD hhl (fun r hr => (hx.fields r hr).1) hA.heap hA.ms0
      have HF5 : Hid (FrMet w5 la sa d.frames d.frames.length) := HF.out.kept fun b vs hb hv => hK5.low hv (by obtain ⟨i, hi, rfl | rfl⟩ := hb; have := HAp.out.llo i hi; omega; have := HAp.out.slo i hi; omega) (by obtain ⟨i, hi, rfl | rfl⟩ := hb; exact HAp.out.llo i hi; exact HAp.out.slo i hi)
      have HL5 := hid hlow5
      have HTY := hid hty
      have HTR := hid htr
      have HRL := hid hrbl
      have HZ5 : Hid (w1.heap.size < w5.heap.size) := lt_block hV5
      have HT5 : Hid (w5.os = w1.os ∧ w5.tape = w1.tape ∧ w5.output = w1.output) := ⟨hK5.os.trans HT.out.1, hK5.tape.trans HT.out.2.1, hK5.output.trans HT.out.2.2⟩
      clear hmt hK5 hN5 hlow5 hty htr hRR hRD hrbl hV hF1 nbr
      go_wp2_with fail
      refine hnb.mono ?_
      rintro e w6 ⟨k5, mv6, ho, rfl, hlen6, hI⟩
      obtain ⟨ms6, rs6, hrs⟩ : ∃ ms6 rs6, rIter d.heap (ms0 d) k5 = (ms6, rs6) := ⟨_, _, rfl⟩
      rw [hrs] at hI hlen6
      obtain ⟨xa, xc, rfl⟩ : ∃ xa xc, ho = .slice xa k5 xc := by
        rcases hI.own.2 with ⟨e, h0⟩ | ⟨b, cp, cu, e, -⟩
        · exact ⟨none, 0, by rw [e, h0]⟩
        · exact ⟨_, cp, e⟩
      have kp := hI.kept
      have hV6 : w6.heap[w1.heap.size]? = some (.cells #[.slice (some ⟨F, 0, none⟩) d.frames.length d.frames.length, .slice (some ⟨Hb, 0, none⟩) d.heap.length d.heap.length, .int .i64 d.made, .slice (some ⟨O, 0, none⟩) d.out.length d.out.length, .int .i64 d.status, .int .i64 d.trap, .int .i64 d.value.k, .int .i64 (mV (fS [] d.frames) d.value).n, .string d.value.s, .int .i64 0] 38 (0, 0)) := kp.block _ _ hV5 (fun j hj e => by have := HRL.out j hj; omega) (.inr ⟨⟨by decide, by decide⟩, by simp [ofTypes]⟩)
      have hlow6 : ∀ kk o, kk < w1.heap.size → (∀ i, i < d.frames.length → kk ≠ la i ∧ kk ≠ sa i) → (∀ j, j < d.heap.length → kk ≠ rb j) → w1.heap[kk]? = some o → w6.heap[kk]? = some o := fun kk o hkk h1 h2 ho => kp.block _ _ (HL5.out kk o hkk h1 ho) h2 (.inl hkk)
      have hR6 := hlow6 _ _ (lt_block HR.out) (HTY.out _ _ _ (by decide) HR.out) (HTR.out _ _ _ (by decide) HR.out) HR.out
      have hC6 := canIs_of (w6 := w6) HO.out (HF5.out.kept fun b vs hb hv => kp.block _ _ hv (fun j hj => by obtain ⟨i, hi, rfl | rfl⟩ := hb; exact (HO.out.fr i j hi hj).1; exact (HO.out.fr i j hi hj).2) (.inl (by obtain ⟨i, hi, rfl | rfl⟩ := hb; exact HAp.out.llo i hi; exact HAp.out.slo i hi))) hI
        (fun o ho => by obtain ⟨c, a, -⟩ := HO.out.fc; exact hlow6 _ o (lt_block a) (HTY.out _ _ _ (by decide) a) (HTR.out _ _ _ (by decide) a) ho) (fun o ho => by obtain ⟨c, a, -⟩ := HO.out.oc; exact hlow6 _ o (lt_block a) (HTY.out _ _ _ (by decide) a) (HTR.out _ _ _ (by decide) a) ho) hrs hlen6 (by have h1 := HO.out.bf; have h2 := HZ5.out; have h3 := HFL.out; omega)
      have HC := hid hC6
      have HB6 : Hid (Below w.heap.size w w6) := by
        refine HB.out.trans ⟨kp.os.trans HT5.out.1, kp.tape.trans HT5.out.2.1, kp.output.trans HT5.out.2.2, Nat.le_trans (Nat.le_of_lt HZ5.out) kp.size, fun kk hkk => ?_⟩
        have hz := HB.out.size
        have hlt : kk < w1.heap.size := by omega
        rw [Array.getElem?_eq_getElem hlt]
        refine hlow6 _ _ hlt (fun i hi => ?_) (fun j hj => ?_) (Array.getElem?_eq_getElem hlt)
        · have h1 := HO.out.fv.lob i hi
          have h2 := HO.out.fv.sob i hi
          omega
        · have h1 := HO.out.hv.rob j hj
          omega
      have HV6 := hid hV6
      have HR6 := hid hR6
      have v6 := block_cell hV6
      have f6 := block_free hV6
      have r6 := block_cell hR6
      have s6 := block_free hR6
      have hne : w.heap.size + 1 ≠ w1.heap.size := by have := lt_block HR.out; omega
      have HNE := hid hne
      clear nb5 hnb hI kp hlow6 hC6 hV6 hR6 hV5 hrs hlen6
      go_wp2
      refine bodyPost_ret (v := .agg #[.slice (some ⟨F, 0, none⟩) d.frames.length d.frames.length, .slice xa k5 xc, .int .i64 d.made, .slice (some ⟨O, 0, none⟩) d.out.length d.out.length, .int .i64 d.status, .int .i64 d.trap, .int .i64 d.value.k, .int .i64 (mV (fS [] d.frames) d.value).n, .string d.value.s, .int .i64 0]) (by simp [results, Tryz.results31, go_sem, r6]) rfl ⟨F, xa, xc, O, la, sa, _, ?_, (HC.out.1.kept fun kk c t ht hkk ho => ?_).low (by omega), ?_⟩
      · have e1 : (canonD d).frames.length = d.frames.length := fV_len [] d.frames
        unfold vmCells
        rw [e1, HC.out.2]
        have e2 : (canonD d).value.k = d.value.k := by show (mV _ _).k = _; unfold mV; split <;> rfl
        have e3 : (canonD d).value.s = d.value.s := by show (mV _ _).s = _; unfold mV; split <;> rfl
        rw [e2, e3]
        rfl
      · have h1 : kk ≠ w1.heap.size := fun e => by rw [e, HV6.out] at ho; cases ho; exact ht rfl
        have h2 : kk ≠ w.heap.size + 1 := fun e => by rw [e, HR6.out] at ho; cases ho; exact ht rfl
        iterate 10 (rw [Below.heap_setCell _ _ _ _ h2])
        rw [Below.heap_setCell _ _ _ _ h1]
        exact ho
      · iterate 10 (refine Below.setCell ?_ (by show w.heap.size ≤ w.heap.size + 1; omega) _)
        refine Below.setCell ?_ (by show w.heap.size ≤ w1.heap.size; exact HB.out.size) _
        exact HB6.out
end Go.Proofs.YtcfbahaokmhbkaaGreat
