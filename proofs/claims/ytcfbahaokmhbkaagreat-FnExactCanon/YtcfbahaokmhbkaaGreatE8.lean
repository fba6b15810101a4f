/-
  Exact marks in a state in blocks of its own, and what holds them.
-/
import Derived.Test.YtcfbahaokmhbkaaGreatKC30
namespace Go.Proofs.YtcfbahaokmhbkaaGreat
open Go.RowKit

set_option maxRecDepth 100000 in
set_option maxHeartbeats 2000000 in
theorem heldStringS_is (O n cap k0 : Nat) (w : World) (hn : n ≤ 1048576) (h0 : 0 < k0) (h1 : k0 ≤ 100000000000000) (hO : OMk w O n k0 n) :
    Calls Tryz.prog 43 #[.slice (some ⟨O, 0, none⟩) n cap, .int .i64 (k0 : Int)] w fun e w' => e = .returned (.int .i64 ((k0 + n : Nat) : Int)) ∧ Below w.heap.size w w' := by
  go_enter Tryz.func43, Tryz.ntmps43
  go_wp2
  go_loopw [1, 5] (fun q i wr => ∃ (k : Nat), k ≤ n ∧ i = .int .i64 k ∧ q = .int .i64 ((k0 + k : Nat) : Int) ∧ Below w.heap.size w wr) (fun _ i _ => n - (intOf i).toNat)
  case atStart => exact ⟨0, by omega, rfl, rfl, Below.refl _ _⟩
  case round =>
    obtain ⟨k, hkn, rfl, rfl, hb⟩ := hrel
    by_cases hlt : k < n
    · obtain ⟨cur, hC, -, hd⟩ := hO
      have c3 := cell_later hb (show w.cell? ⟨O, k, none⟩ = _ by rw [block_cell hC]; exact hd k hlt)
      clear hd
      obtain ⟨A0, hA0⟩ : ∃ A0 : Int, A0 = ((k0 + k : Nat) : Int) := ⟨_, rfl⟩
      have hA1 : Hid (A0 = ((k0 + k : Nat) : Int)) := hA0
      have hAlo : 0 ≤ A0 := by omega
      have hAhi : A0 ≤ 200000000000000 := by omega
      rw [← hA0]
      have hmt := fun W => markText_is (k0 + k) W (by omega) (by omega)
      rw [← hA0] at hmt
      have HMT : Hid (∀ W, Calls Tryz.prog 69 #[.int .i64 A0] W fun e w' => e = .returned (.string (mText (k0 + k))) ∧ Below W.heap.size W w') := hmt
      obtain ⟨T, hT⟩ : ∃ T, T = mText (k0 + k) := ⟨_, rfl⟩
      rw [← hT] at c3 HMT
      clear hA0 hmt hT
      have HSv : Hid (∀ w', Below wr.heap.size wr w' → w'.cell? ⟨O, k, none⟩ = some (.string T)) := fun w' hb' => cell_later hb' c3
      have q : Below wr.heap.size wr wr.drew := (Below.refl _ _).drew
      go_wp2
      go_region_held3 (fun w' => w'.cell? ⟨O, k, none⟩ = some (.string T))
        (first | exact c3 | exact HSv.out _ q)
        (first
          | (go_at_call 69; refine (HMT.out _).mono ?_; rintro e w5 ⟨rfl, kd⟩; have q := q.trans (kd.mono q.size)))
      have hB := hb.trans (q.mono hb.size)
      go_wp2
      go_roundw
      case rel => exact ⟨k + 1, by omega, by go_num, by rw [show ((k0 + (k + 1) : Nat) : Int) = A0 + 1 by have := hA1.out; omega], hB⟩
      case measure => simp [intOf]; omega
    · have hkn2 : k = n := by omega
      subst hkn2
      go_wp2
      go_ret
      exact ⟨rfl, hb⟩

theorem ValsIs.blk {w : World} {g : Nat} {vs : List Vl} (h : ValsIs w g vs) : ValsBlk w g vs.length := ⟨_, h, by simp [flat_len]⟩

/-- A state in blocks of its own, marked from k0 on. -/
structure VMk (w : World) (F : Nat) (ha : Option Addr) (O : Nat) (la sa rb : Nat → Nat) (d : VmD) (k0 : Nat) : Prop where
  frs : FMk w F la sa d.frames k0 d.frames.length
  recs : RMk w ha rb d.heap (k0 + fsz d.frames) d.heap.length
  out : OMk w O d.out.length (k0 + fsz d.frames + rsz d.heap) d.out.length
theorem FMk.mono {w w' : World} {F k0 m : Nat} {la sa : Nat → Nat} {fr : List Fr} (h : FMk w F la sa fr k0 m) (hb : Below w.heap.size w w') : FMk w' F la sa fr k0 m := h.kept fun _ _ _ ho => by rw [hb.block _ (lt_block ho)]; exact ho
theorem RMk.mono {w w' : World} {ha : Option Addr} {k0 m : Nat} {rb : Nat → Nat} {rs : List (List Vl)} (h : RMk w ha rb rs k0 m) (hb : Below w.heap.size w w') : RMk w' ha rb rs k0 m := h.kept fun _ _ _ _ ho => by rw [hb.block _ (lt_block ho)]; exact ho
theorem VMk.mono {w w' : World} {F O k0 : Nat} {ha : Option Addr} {la sa rb : Nat → Nat} {d : VmD} (h : VMk w F ha O la sa rb d k0) (hb : Below w.heap.size w w') : VMk w' F ha O la sa rb d k0 := ⟨h.frs.mono hb, h.recs.mono hb, h.out.mono hb⟩

set_option maxRecDepth 100000 in
set_option maxHeartbeats 2000000 in
theorem heldVm_is (F : Nat) (ha : Option Addr) (O fc hcp oc : Nat) (la sa rb : Nat → Nat) (d : VmD) (k0 : Nat) (w : World) (hx : VmSmall d) (h0 : 0 < k0) (h1 : k0 ≤ 1000000) (hV : VMk w F ha O la sa rb d k0) :
    Calls Tryz.prog 15 #[.agg (vmCells (some ⟨F, 0, none⟩) ha (some ⟨O, 0, none⟩) fc hcp oc d), .int .i64 (k0 : Int)] w fun e w' => e = .returned (.int .i64 ((k0 + fsz d.frames + rsz d.heap + d.out.length : Nat) : Int)) ∧ Below w.heap.size w w' := by
  conv => arg 3; unfold vmCells
  have hz1 := fsz_le (fr := d.frames) (fun f hf => ⟨(hx.locals f hf).1, (hx.stack f hf).1⟩) d.frames.length (Nat.le_refl _)
  have hz2 := rsz_le (rs := d.heap) (fun r hr => (hx.fields r hr).1) d.heap.length (Nat.le_refl _)
  rw [List.take_length] at hz1 hz2
  have hz3 := hx.frames
  have hz4 := hx.heap
  have hz5 := hx.out
  obtain ⟨wA, hwA⟩ : ∃ wA, wA = w.alloc (.cells #[.slice (some ⟨F, 0, none⟩) d.frames.length fc, .slice ha d.heap.length hcp, .int .i64 d.made, .slice (some ⟨O, 0, none⟩) d.out.length oc, .int .i64 d.status, .int .i64 d.trap, .int .i64 d.value.k, .int .i64 d.value.n, .string d.value.s, .int .i64 d.steps] 38) := ⟨_, rfl⟩
  have hbA : Below w.heap.size w wA := by rw [hwA]; exact (Below.refl _ _).alloc (Nat.le_refl _) _
  have hI : wA.heap[w.heap.size]? = some (.cells #[.slice (some ⟨F, 0, none⟩) d.frames.length fc, .slice ha d.heap.length hcp, .int .i64 d.made, .slice (some ⟨O, 0, none⟩) d.out.length oc, .int .i64 d.status, .int .i64 d.trap, .int .i64 d.value.k, .int .i64 d.value.n, .string d.value.s, .int .i64 d.steps] 38 (0, 0)) := by rw [hwA]; exact block_new _ _ _
  go_enter Tryz.func15, Tryz.ntmps15
  have hm1 := heldFrameS_is F fc k0 d.frames la sa wA hx.frames (fun f hf => ⟨(hx.locals f hf).1, (hx.stack f hf).1⟩) h0 (by omega) (hV.frs.mono hbA)
  obtain ⟨K1, hK1⟩ : ∃ K1, K1 = k0 + fsz d.frames := ⟨_, rfl⟩
  have hV2 := hV.recs
  have hV3 := hV.out
  rw [← hK1] at hm1 hV2 hV3
  have HE1 := hid hK1
  have hK1z : K1 ≤ 9000000000000 := by omega
  have hK10 : 0 < K1 := by omega
  go_wp2_with fail
  rw [← hwA]
  refine hm1.mono ?_
  rintro e w1 ⟨rfl, hb1⟩
  have hI1 := block_kept hI hb1
  have hB1 := hbA.trans (hb1.mono hbA.size)
  clear hm1 hwA hbA hI hb1 hK1
  have i1 := block_cell hI1
  have hm2 := heldRecS_is ha hcp K1 d.heap rb w1 hx.heap (fun r hr => (hx.fields r hr).1) hK10 (by omega) (hV2.mono hB1)
  obtain ⟨K2, hK2⟩ : ∃ K2, K2 = K1 + rsz d.heap := ⟨_, rfl⟩
  rw [← hK2] at hm2 hV3
  have HE2 := hid hK2
  have hK2z : K2 ≤ 20000000000000 := by omega
  have hK20 : 0 < K2 := by omega
  go_wp2_with fail
  refine hm2.mono ?_
  rintro e w2 ⟨rfl, hb2⟩
  have hI2 := block_kept hI1 hb2
  have hB2 := hB1.trans (hb2.mono hB1.size)
  clear hm2 hI1 hB1 hb2 i1 hK2
  have i1 := block_cell hI2
  have hm3 := heldStringS_is O d.out.length oc K2 w2 hx.out hK20 (by omega) (hV3.mono hB2)
  obtain ⟨K3, hK3⟩ : ∃ K3, K3 = K2 + d.out.length := ⟨_, rfl⟩
  rw [← hK3] at hm3
  have HE3 := hid hK3
  have hK3z : K3 ≤ 40000000000000 := by omega
  clear hK3
  go_wp2_with fail
  refine hm3.mono ?_
  rintro e w3 ⟨rfl, hb3⟩
  have hB3 := hB2.trans (hb3.mono hB2.size)
  clear hm3 hI2 hB2 hb3 i1
  go_wp2
  go_ret
  exact ⟨(by rw [← HE1.out, ← HE2.out, ← HE3.out]; rfl), hB3⟩

/-- The blocks of a state. -/
def Own (F O : Nat) (la sa rb : Nat → Nat) (d : VmD) (b : Nat) : Prop := b = F ∨ (∃ i, i < d.frames.length ∧ (b = la i ∨ b = sa i)) ∨ (∃ i, i < d.heap.length ∧ b = rb i) ∨ b = O

set_option maxRecDepth 100000 in
set_option maxHeartbeats 2000000 in
theorem markVm_is (B F : Nat) (ha : Option Addr) (O fc hcp oc : Nat) (la sa rb : Nat → Nat) (d : VmD) (k0 : Nat) (w : World) (hx : VmSmall d) (h0 : 0 < k0) (h1 : k0 ≤ 1000000) (hV : CanIs w B F ha hcp O la sa rb d) :
    Calls Tryz.prog 14 #[.agg (vmCells (some ⟨F, 0, none⟩) ha (some ⟨O, 0, none⟩) fc hcp oc d), .int .i64 (k0 : Int)] w fun e w' => e = .returned (.int .i64 ((k0 + fsz d.frames + rsz d.heap + d.out.length : Nat) : Int)) ∧ Only (Own F O la sa rb d) w w' ∧ VMk w' F ha O la sa rb d k0 := by
  conv => arg 3; unfold vmCells
  have hz1 := fsz_le (fr := d.frames) (fun f hf => ⟨(hx.locals f hf).1, (hx.stack f hf).1⟩) d.frames.length (Nat.le_refl _)
  have hz2 := rsz_le (rs := d.heap) (fun r hr => (hx.fields r hr).1) d.heap.length (Nat.le_refl _)
  rw [List.take_length] at hz1 hz2
  have hz3 := hx.frames
  have hz4 := hx.heap
  have hz5 := hx.out
  obtain ⟨wA, hwA⟩ : ∃ wA, wA = w.alloc (.cells #[.slice (some ⟨F, 0, none⟩) d.frames.length fc, .slice ha d.heap.length hcp, .int .i64 d.made, .slice (some ⟨O, 0, none⟩) d.out.length oc, .int .i64 d.status, .int .i64 d.trap, .int .i64 d.value.k, .int .i64 d.value.n, .string d.value.s, .int .i64 d.steps] 38) := ⟨_, rfl⟩
  have hbA : Below w.heap.size w wA := by rw [hwA]; exact (Below.refl _ _).alloc (Nat.le_refl _) _
  have hI : wA.heap[w.heap.size]? = some (.cells #[.slice (some ⟨F, 0, none⟩) d.frames.length fc, .slice ha d.heap.length hcp, .int .i64 d.made, .slice (some ⟨O, 0, none⟩) d.out.length oc, .int .i64 d.status, .int .i64 d.trap, .int .i64 d.value.k, .int .i64 d.value.n, .string d.value.s, .int .i64 d.steps] 38 (0, 0)) := by rw [hwA]; exact block_new _ _ _
  have hT36 : ∀ i, i < d.frames.length → (∃ c, w.heap[la i]? = some (.cells c 36 (0, 0))) ∧ (∃ c, w.heap[sa i]? = some (.cells c 36 (0, 0))) := fun i hi => by
    obtain ⟨c, h2, -⟩ := ValsIs.blk (hV.fv.loc i hi hi)
    obtain ⟨c', h3, -⟩ := ValsIs.blk (hV.fv.stk i hi hi)
    exact ⟨⟨c, h2⟩, ⟨c', h3⟩⟩
  have hR36 : ∀ i, i < d.heap.length → ∃ c, w.heap[rb i]? = some (.cells c 36 (0, 0)) := fun i hi => by
    obtain ⟨c, h2, -⟩ := ValsIs.blk (hV.hv.fld i hi hi)
    exact ⟨c, h2⟩
  obtain ⟨cF, hF, hFd⟩ := hV.fc
  obtain ⟨cO, hO, hOs, -⟩ := hV.oc
  have hFM : FMk w F la sa d.frames k0 0 := ⟨cF, hF, hFd.1, fun j hj => ⟨(hFd.2 j hj hj).2.2.1, (hFd.2 j hj hj).2.2.2, fun e => by omega, fun _ => ⟨ValsIs.blk (hV.fv.loc j hj hj), ValsIs.blk (hV.fv.stk j hj hj)⟩⟩⟩
  have hRM : RMk w ha rb d.heap (k0 + fsz d.frames) 0 := by
    obtain ⟨xs, ho, hd⟩ := hV.hc
    refine ⟨fun j hj => ?_, fun j hj e => by omega, fun j hj _ => ValsIs.blk (hV.hv.fld j hj hj)⟩
    rcases ho.2 with ⟨e, h0⟩ | ⟨b, cp, cu, e, hb', hh, -⟩
    · omega
    · cases e
      refine ⟨b, cu, rfl, hh, ?_⟩
      rw [← hd j hj, ← ho.cellAt j (by omega), block_cell hh]
  have hFA : FAp d.frames.length la sa := ⟨hV.fv.li, hV.fv.si, hV.fv.ls⟩
  have HT := hid hT36
  have HR36 := hid hR36
  have HF := hid hF
  have HO := hid hO
  have HFR := hid hV.fr
  go_enter Tryz.func14, Tryz.ntmps14
  have i1 := block_cell hI
  have hm1 := markFrameS_is (fun b => b = F ∨ ∃ i, i < d.frames.length ∧ (b = la i ∨ b = sa i)) F fc k0 d.frames la sa wA hx.frames (fun f hf => ⟨(hx.locals f hf).1, (hx.stack f hf).1⟩) (by omega) hFA (.inl rfl) (fun i hi => ⟨.inr ⟨i, hi, .inl rfl⟩, .inr ⟨i, hi, .inr rfl⟩⟩) (hFM.mono hbA)
  obtain ⟨K1, hK1⟩ : ∃ K1, K1 = k0 + fsz d.frames := ⟨_, rfl⟩
  rw [← hK1] at hm1 hRM
  have HE1 := hid hK1
  have hK1z : K1 ≤ 9000000000000 := by omega
  have hK10 : 0 < K1 := by omega
  clear hT36 hR36 hF hO hFM hK1
  go_wp2_with fail
  rw [← hwA]
  refine hm1.mono ?_
  rintro e w1 ⟨rfl, ho1, hf1⟩
  have hN1 : ∀ b c t, w.heap[b]? = some (.cells c t (0, 0)) → t ≠ 90 → (t = 36 → ∃ i, i < d.heap.length ∧ b = rb i) → w1.heap[b]? = some (.cells c t (0, 0)) := fun b c t hb h90 h36 => by
    refine ho1.kept (block_kept hb hbA) ?_
    rintro (e | ⟨i, hi, e⟩)
    · rw [e, HF.out] at hb; cases hb; exact h90 rfl
    · have ht : t = 36 := by
        obtain ⟨⟨c1, t1⟩, ⟨c2, t2⟩⟩ := HT.out i hi
        rcases e with e | e
        · rw [e, t1] at hb; cases hb; rfl
        · rw [e, t2] at hb; cases hb; rfl
      obtain ⟨j, hj, ej⟩ := h36 ht
      have := HFR.out i j hi hj
      rcases e with e | e
      · exact this.1 (by rw [← e, ej])
      · exact this.2 (by rw [← e, ej])
  have hI1 : w1.heap[w.heap.size]? = some (.cells #[.slice (some ⟨F, 0, none⟩) d.frames.length fc, .slice ha d.heap.length hcp, .int .i64 d.made, .slice (some ⟨O, 0, none⟩) d.out.length oc, .int .i64 d.status, .int .i64 d.trap, .int .i64 d.value.k, .int .i64 d.value.n, .string d.value.s, .int .i64 d.steps] 38 (0, 0)) := by
    refine ho1.kept hI ?_
    rintro (e | ⟨i, hi, e⟩)
    · have := lt_block HF.out; omega
    · obtain ⟨⟨c1, t1⟩, ⟨c2, t2⟩⟩ := HT.out i hi
      have := lt_block t1
      have := lt_block t2
      omega
  have hR1 : RMk w1 ha rb d.heap K1 0 := hRM.kept fun b c t ht hb => hN1 b c t hb (by rcases ht with rfl | ⟨rfl, -⟩ <;> decide) (fun e => by rcases ht with h | h; exact absurd (h.symm.trans e) (by decide); exact h.2)
  have hO1 : w1.heap[O]? = some (.cells cO 9 (0, 0)) := hN1 O cO 9 HO.out (by decide) (fun e => absurd e (by decide))
  have hOn1 : Only (Own F O la sa rb d) w w1 := (Only.of hbA).trans (ho1.wide fun b hb => hb.elim .inl fun h => .inr (.inl h))
  have HO1 := hid ho1
  have HF1 := hid hf1
  clear hm1 hwA hI i1 ho1 hf1 hN1 hRM
  have i1 := block_cell hI1
  have hm2 := markRecS_is (fun b => ∃ i, i < d.heap.length ∧ b = rb i) ha hcp K1 d.heap rb w1 hx.heap (fun r hr => (hx.fields r hr).1) (by omega) hV.hv.ri (fun i hi => ⟨i, hi, rfl⟩) hR1
  obtain ⟨K2, hK2⟩ : ∃ K2, K2 = K1 + rsz d.heap := ⟨_, rfl⟩
  rw [← hK2] at hm2
  have HE2 := hid hK2
  have hK2z : K2 ≤ 20000000000000 := by omega
  have hK20 : 0 < K2 := by omega
  have hr36 : ∀ i, i < d.heap.length → ∃ c, w1.heap[rb i]? = some (.cells c 36 (0, 0)) := fun i hi => by
    obtain ⟨c, h2, -⟩ := hR1.todo i hi (Nat.zero_le _)
    exact ⟨c, h2⟩
  have HR1 := hid hr36
  clear hK2 hr36
  go_wp2_with fail
  refine hm2.mono ?_
  rintro e w2 ⟨rfl, ho2, hr2⟩
  have hI2 : w2.heap[w.heap.size]? = some (.cells #[.slice (some ⟨F, 0, none⟩) d.frames.length fc, .slice ha d.heap.length hcp, .int .i64 d.made, .slice (some ⟨O, 0, none⟩) d.out.length oc, .int .i64 d.status, .int .i64 d.trap, .int .i64 d.value.k, .int .i64 d.value.n, .string d.value.s, .int .i64 d.steps] 38 (0, 0)) := by
    refine ho2.kept hI1 ?_
    rintro ⟨i, hi, e⟩
    obtain ⟨c1, t1⟩ := HR1.out i hi
    rw [← e, hI1] at t1
    cases t1
  have hO2 : w2.heap[O]? = some (.cells cO 9 (0, 0)) := by
    refine ho2.kept hO1 ?_
    rintro ⟨i, hi, e⟩
    obtain ⟨c1, t1⟩ := HR1.out i hi
    rw [← e, hO1] at t1
    cases t1
  have hF2 : FMk w2 F la sa d.frames k0 d.frames.length := HF1.out.kept fun b o hb hbo => by
    refine ho2.kept hbo ?_
    rintro ⟨j, hj, e⟩
    rcases hb with hb | ⟨i, hi, hb⟩
    · obtain ⟨c1, t1⟩ := HR36.out j hj
      rw [← e, hb, HF.out] at t1
      cases t1
    · have := HFR.out i j hi hj
      rcases hb with hb | hb
      · exact this.1 (by rw [← hb, e])
      · exact this.2 (by rw [← hb, e])
  have hOn2 : Only (Own F O la sa rb d) w w2 := hOn1.trans (ho2.wide fun b hb => .inr (.inr (.inl hb)))
  have HR2 := hid hr2
  have HF2 := hid hF2
  clear hm2 hI1 hO1 hOn1 i1 ho2 hr2 hR1 hF2 HR1
  have i1 := block_cell hI2
  have hm3 := markStringS_is O d.out.length oc K2 w2 hx.out hK20 (by omega) ⟨cO, hO2, hOs⟩
  obtain ⟨K3, hK3⟩ : ∃ K3, K3 = K2 + d.out.length := ⟨_, rfl⟩
  rw [← hK3] at hm3
  have HE3 := hid hK3
  have hK3z : K3 ≤ 40000000000000 := by omega
  clear hK3
  go_wp2_with fail
  refine hm3.mono ?_
  rintro e w3 ⟨rfl, hj3, ht3⟩
  have hF3 : FMk w3 F la sa d.frames k0 d.frames.length := HF2.out.kept fun b o hb hbo => by
    refine hj3.kept hbo ?_
    intro e
    rcases hb with hb | ⟨i, hi, hb⟩
    · have h9 := HF.out
      rw [← hb, e, HO.out] at h9
      cases h9
    · obtain ⟨⟨c1, t1⟩, ⟨c2, t2⟩⟩ := HT.out i hi
      rcases hb with hb | hb
      · rw [← hb, e, HO.out] at t1; cases t1
      · rw [← hb, e, HO.out] at t2; cases t2
  have hR3 : RMk w3 ha rb d.heap K1 d.heap.length := HR2.out.kept fun b c t ht hbo => by
    refine hj3.kept hbo ?_
    intro e
    rw [e, hO2] at hbo
    cases hbo
    rcases ht with h | h
    · exact absurd h (by decide)
    · exact absurd h.1 (by decide)
  have hOn3 : Only (Own F O la sa rb d) w w3 := hOn2.trans (Only.just hj3 (.inr (.inr (.inr rfl))))
  have HF3 := hid hF3
  have HR3 := hid hR3
  have HT3 := hid ht3
  clear hm3 hI2 hO2 hOn2 i1 hj3 ht3 hF3 hR3
  go_wp2
  go_ret
  exact ⟨(by rw [← HE1.out, ← HE2.out, ← HE3.out]; rfl), hOn3, HF3.out, by rw [← HE1.out]; exact HR3.out, by rw [← HE1.out, ← HE2.out]; exact HT3.out⟩
end Go.Proofs.YtcfbahaokmhbkaaGreat
