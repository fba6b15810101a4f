/-
  What impl.roomOk, heapOk, valuesOk return.
-/
import Derived.Test.YtfefbgemcakabaaGreatDoorVQ12
namespace Go.Proofs.YtfefbgemcakabaaGreatDoor
open Go.RowKit

def Room1 (d : VmD) : Prop := (d.heap.length : Int) ≤ d.made ∧ d.made ≤ 120 ∧ d.out.length ≤ 200 ∧ 0 ≤ d.steps ∧ d.steps ≤ 50000 ∧ d.out.all textB = true
def Vals1 (nf : Nat) (d : VmD) : Prop := d.frames.all (frVals nf d.heap.length) = true ∧ okB nf d.heap.length d.value = true
/-- A record of a heap of so many. -/
def recB (nf hl : Nat) (r : List Vl) : Bool := decide (r.length ≤ 6) && valsB r nf hl
def HeapP (nf : Nat) (rs : List (List Vl)) : Prop := rs.length ≤ 120 ∧ rs.all (recB nf rs.length) = true
theorem vm_parts {fs : List Fn} {d : VmD} : (Room1 d ∧ Frames fs d ∧ HeapP fs.length d.heap ∧ Vals1 fs.length d) ↔ (Room d ∧ Frames fs d ∧ Vals fs.length d) := by
  unfold Room1 Room HeapP Vals1 Vals
  have e : d.heap.all (recB fs.length d.heap.length) = true ↔ d.heap.all fewB = true ∧ d.heap.all (reVals fs.length d.heap.length) = true := by
    simp only [List.all_eq_true, recB, fewB, reVals, Bool.and_eq_true]
    exact ⟨fun q => ⟨fun x hx => (q x hx).1, fun x hx => (q x hx).2⟩, fun q x hx => ⟨q.1 x hx, q.2 x hx⟩⟩
  rw [e]
  constructor
  · rintro ⟨⟨h1, h2, h3, h4, h5, h6⟩, hf, ⟨-, k1, k2⟩, v1, v2⟩
    exact ⟨⟨h1, h2, k1, h3, h4, h5, h6⟩, hf, v1, k2, v2⟩
  · rintro ⟨⟨h1, h2, k1, h3, h4, h5, h6⟩, hf, v1, k2, v2⟩
    exact ⟨⟨h1, h2, h3, h4, h5, h6⟩, hf, ⟨by omega, k1, k2⟩, v1, v2⟩

set_option maxRecDepth 100000 in
set_option maxHeartbeats 2000000 in
theorem roomOk_any (fa ha oa : Option Addr) (fc hcp oc : Nat) (d : VmD) (w : World) (hx : VmSmall d) (hm : VmAt w 0 fa ha oa d) :
    Calls Tryz.prog 45 #[.agg (vmCells fa ha oa fc hcp oc d)] w fun e w' => Says (Room1 d) e ∧ Below w.heap.size w w' := by
  have hbA : Below w.heap.size w (w.alloc (.cells #[.slice fa d.frames.length fc, .slice ha d.heap.length hcp, .int .i64 d.made, .slice oa d.out.length oc, .int .i64 d.status, .int .i64 d.trap, .int .i64 d.value.k, .int .i64 d.value.n, .string d.value.s, .int .i64 d.steps] 43)) := (Below.refl _ _).alloc (Nat.le_refl _) _
  have hV0 := block_new w #[.slice fa d.frames.length fc, .slice ha d.heap.length hcp, .int .i64 d.made, .slice oa d.out.length oc, .int .i64 d.status, .int .i64 d.trap, .int .i64 d.value.k, .int .i64 d.value.n, .string d.value.s, .int .i64 d.steps] 43
  have hhl := hx.heap
  have hol := hx.out
  unfold vmCells
  by_cases h1 : d.made < (d.heap.length : Int)
  · go_enter Tryz.func45, Tryz.ntmps45
    go_wp2
    go_ret
    exact ⟨Says.no rfl (fun h => by have := h.1; omega), hbA⟩
  by_cases h2 : 120 < d.made
  · go_enter Tryz.func45, Tryz.ntmps45
    go_wp2
    go_ret
    exact ⟨Says.no rfl (fun h => by have := h.2.1; omega), hbA⟩
  go_enter Tryz.func45, Tryz.ntmps45
  have v1 := block_cell hV0
  have H1 : Hid ((d.heap.length : Int) ≤ d.made) := by show (d.heap.length : Int) ≤ d.made; omega
  have H2 : Hid (d.made ≤ 120) := by show d.made ≤ 120; omega
  by_cases h3 : 200 < d.out.length
  · have h3I : (200 : Int) < (d.out.length : Int) := by omega
    go_wp2
    go_ret
    exact ⟨Says.no rfl (fun h => by have := h.2.2.1; omega), hbA⟩
  have h3I : ¬ (200 : Int) < (d.out.length : Int) := by omega
  by_cases h4 : d.steps < 0
  · go_wp2
    go_ret
    exact ⟨Says.no rfl (fun h => by have := h.2.2.2.1; omega), hbA⟩
  by_cases h5 : 50000 < d.steps
  · go_wp2
    go_ret
    exact ⟨Says.no rfl (fun h => by have := h.2.2.2.2.1; omega), hbA⟩
  go_wp2_with fail
  refine (hasBadT_any _ d.out _ _ hx.out hx.text (hm.out.mono hbA)).mono ?_
  rintro e w1 ⟨rfl, hb1⟩
  clear v1
  go_wp2
  go_ret
  refine ⟨⟨_, rfl, ?_⟩, hbA.trans (hb1.mono hbA.size)⟩
  constructor
  · intro h
    exact ⟨H1.out, H2.out, by omega, by omega, by omega, by simpa using h⟩
  · intro h
    simpa using h.2.2.2.2.2
set_option maxRecDepth 100000 in
set_option maxHeartbeats 1000000 in
theorem litR_any (ca : Option Addr) (cc : Nat) (r : List Vl) (a1 a2 ha : Option Addr) (nt c1 nf c2 hl hcp Mb Rb : Nat) (w : World) (hs : ValsSmall r) (hm : ValsAt w 0 ca r) (hM : w.heap[Mb]? = some (.cells #[.slice a1 nt c1, .slice a2 nf c2] 37 (0, 0))) (hR : w.heap[Rb]? = some (.cells #[.slice ha hl hcp] 40 (0, 0))) :
    Calls Tryz.prog 76 #[.agg #[.slice ca r.length cc], .pointer (some ⟨Mb, 0, none⟩), .pointer (some ⟨Rb, 0, none⟩)] w fun e w' => e = .returned (.bool (!recB nf hl r)) ∧ Below w.heap.size w w' := by
  have hbA : Below w.heap.size w (w.alloc (.cells #[.slice ca r.length cc] 87)) := (Below.refl _ _).alloc (Nat.le_refl _) _
  have x0 := block_cell (block_new w #[.slice ca r.length cc] 87)
  have x1 := block_cell (block_old hM (.cells #[.slice ca r.length cc] 87))
  have x2 := block_cell (block_old hR (.cells #[.slice ca r.length cc] 87))
  have hrl := hs.1
  by_cases h6 : 6 < r.length
  · have g6 : (6 : Int) < (r.length : Int) := by omega
    have HO : Hid (6 < r.length) := h6
    clear h6
    go_enter Tryz.func76, Tryz.ntmps76
    go_wp2
    go_ret
    exact ⟨ret_bool (by unfold recB; rw [show decide (r.length ≤ 6) = false by have := HO.out; simpa using this]; rfl), hbA⟩
  · have g6 : ¬ (6 : Int) < (r.length : Int) := by omega
    have HO : Hid (¬ 6 < r.length) := h6
    clear h6
    go_enter Tryz.func76, Tryz.ntmps76
    go_wp2_with fail
    refine (allIn_any _ _ _ _ _ _ _ _ _ _ _ hs (hm.mono hbA)).mono ?_
    rintro e w1 ⟨rfl, hb⟩
    clear x0 x1 x2
    go_wp2
    go_ret
    exact ⟨ret_bool (by unfold recB; rw [show decide (r.length ≤ 6) = true by have := HO.out; simpa using this]; rfl), hbA.trans (hb.mono hbA.size)⟩

set_option maxRecDepth 100000 in
set_option maxHeartbeats 1000000 in
theorem firstBadR_any (a : Option Addr) (rs : List (List Vl)) (cap : Nat) (a1 a2 ha : Option Addr) (nt c1 nf c2 hl hcp Mb Rb : Nat) (w : World) (hn : rs.length ≤ 1048576) (hc : ∀ r ∈ rs, ValsSmall r) (hm : RecsAt w 0 a rs) (hM : w.heap[Mb]? = some (.cells #[.slice a1 nt c1, .slice a2 nf c2] 37 (0, 0))) (hR : w.heap[Rb]? = some (.cells #[.slice ha hl hcp] 40 (0, 0))) :
    Calls Tryz.prog 98 #[.slice a rs.length cap, .func (.func 76) #[] #[.pointer (some ⟨Mb, 0, none⟩), .pointer (some ⟨Rb, 0, none⟩)]] w fun e w' => IxPost (rs.all (recB nf hl)) e ∧ Below w.heap.size w w' := by
  go_enter Tryz.func98, Tryz.ntmps98
  go_wp2
  go_loopw [8] (fun i wr => ∃ (k : Nat), k ≤ rs.length ∧ i = .int .i64 k ∧ Hid ((rs.take k).all (recB nf hl) = true) ∧ Below w.heap.size w wr) (fun i _ => rs.length - (intOf i).toNat)
  case atStart => exact ⟨0, by omega, rfl, rfl, Below.refl _ _⟩
  case round =>
    obtain ⟨k, hk, rfl, hall, hb⟩ := hrel
    by_cases hlt : k < rs.length
    · obtain ⟨b, off, ca, cc, rfl, -, d1, d2⟩ := hm k hlt
      have d1' := cell_later hb d1
      clear d1
      have hck := hc rs[k] (List.getElem_mem hlt)
      have hMk := block_kept hM hb
      have hRk := block_kept hR hb
      go_wp2_with fail
      refine (litR_any ca cc rs[k] a1 a2 ha nt c1 nf c2 hl hcp Mb Rb _ hck (d2.mono hb) hMk hRk).mono ?_
      rintro e w1 ⟨rfl, hb1⟩
      have hB := hb.trans (hb1.mono hb.size)
      clear d1' hMk hRk hb1
      by_cases ho : recB nf hl rs[k] = true
      · have HO : Hid (recB nf hl rs[k] = true) := ho
        go_wp2
        go_roundw
        case rel => exact ⟨k + 1, by omega, by go_num, all_take hlt hall.out HO.out, hB⟩
        case measure => simp [intOf]; omega
      · have ho' : recB nf hl rs[k] = false := by simpa using ho
        have HO : Hid (recB nf hl rs[k] = false) := ho'
        clear ho
        go_wp2
        go_ret
        exact ⟨⟨(k : Int), rfl, by rw [show rs.all (recB nf hl) = false from all_no hlt HO.out]; simp⟩, hB⟩
    · go_wp2
      go_ret
      exact ⟨⟨-1, rfl, by rw [show rs.all (recB nf hl) = true from all_end (by omega) hall.out]; simp⟩, hb⟩

set_option maxRecDepth 100000 in
set_option maxHeartbeats 1000000 in
theorem hasBadR_any (a : Option Addr) (rs : List (List Vl)) (cap : Nat) (a1 a2 ha : Option Addr) (nt c1 nf c2 hl hcp Mb Rb : Nat) (w : World) (hn : rs.length ≤ 1048576) (hc : ∀ r ∈ rs, ValsSmall r) (hm : RecsAt w 0 a rs) (hM : w.heap[Mb]? = some (.cells #[.slice a1 nt c1, .slice a2 nf c2] 37 (0, 0))) (hR : w.heap[Rb]? = some (.cells #[.slice ha hl hcp] 40 (0, 0))) :
    Calls Tryz.prog 75 #[.slice a rs.length cap, .func (.func 76) #[] #[.pointer (some ⟨Mb, 0, none⟩), .pointer (some ⟨Rb, 0, none⟩)]] w fun e w' => e = .returned (.bool (!rs.all (recB nf hl))) ∧ Below w.heap.size w w' := by
  go_enter Tryz.func75, Tryz.ntmps75
  go_wp2_with fail
  refine (firstBadR_any a rs cap a1 a2 ha nt c1 nf c2 hl hcp Mb Rb _ hn hc hm hM hR).mono ?_
  rintro e w1 ⟨⟨i, rfl, hi⟩, hb⟩
  have HI : Hid (0 ≤ i ↔ rs.all (recB nf hl) = false) := hi
  clear hi
  go_wp2
  go_ret
  exact ⟨ret_bool (by rw [Bool.eq_iff_iff]; simpa using HI.out), hb⟩

set_option maxRecDepth 100000 in
set_option maxHeartbeats 1000000 in
theorem heapOk_any (a1 a2 : Option Addr) (nt c1 nf c2 : Nat) (ha : Option Addr) (rs : List (List Vl)) (hcp : Nat) (w : World) (hn : rs.length ≤ 1048576) (hc : ∀ r ∈ rs, ValsSmall r) (hm : RecsAt w 0 ha rs) :
    Calls Tryz.prog 47 #[.agg #[.slice a1 nt c1, .slice a2 nf c2], .slice ha rs.length hcp] w fun e w' => e = .returned (.bool (pB (HeapP nf rs))) ∧ Below w.heap.size w w' := by
  have hbA : Below w.heap.size w ((w.alloc (.cells #[.slice a1 nt c1, .slice a2 nf c2] 37)).alloc (.cells #[.slice ha rs.length hcp] 40)) := ((Below.refl _ _).alloc (Nat.le_refl _) _).alloc (by simp) _
  have hM0 := block_old (block_new w #[.slice a1 nt c1, .slice a2 nf c2] 37) (.cells #[.slice ha rs.length hcp] 40)
  have hR0 := block_new_at (w.alloc (.cells #[.slice a1 nt c1, .slice a2 nf c2] 37)) #[.slice ha rs.length hcp] 40 (w.heap.size + 1) (by simp)
  have r0 := block_cell hR0
  have hmf : ∀ (fn : Go.Fn) (first cap : Array Value) (w : World), (Instr.makeFunc fn first cap).run Tryz.prog w = .ok (.func fn first cap) w := fun _ _ _ _ => rfl
  by_cases h : rs.length ≤ 120
  case neg =>
    have g : ¬ (rs.length : Int) ≤ 120 := by omega
    have HN : Hid (¬ HeapP nf rs) := fun q => h q.1
    clear h
    go_enter Tryz.func47, Tryz.ntmps47
    go_wp2
    go_ret
    exact ⟨ret_bool (pB_no HN.out).symm, hbA⟩
  have g : (rs.length : Int) ≤ 120 := by omega
  have H : Hid (rs.length ≤ 120) := h
  clear h
  go_enter Tryz.func47, Tryz.ntmps47
  go_wp2_with fail
  refine (hasBadR_any ha rs hcp a1 a2 ha nt c1 nf c2 rs.length hcp _ _ _ hn hc (hm.mono hbA) hM0 hR0).mono ?_
  rintro e w1 ⟨rfl, hb⟩
  clear r0
  go_wp2
  go_ret
  exact ⟨ret_pB (by first | exact ⟨fun q => ⟨H.out, q⟩, fun q => q.2⟩ | (rw [Bool.not_not]; exact ⟨fun q => ⟨H.out, q⟩, fun q => q.2⟩)), hbA.trans (hb.mono hbA.size)⟩

set_option maxRecDepth 100000 in
set_option maxHeartbeats 4000000 in
theorem valuesOk_any (a1 a2 : Option Addr) (nt c1 nf c2 : Nat) (fa ha oa : Option Addr) (fc hcp oc : Nat) (d : VmD) (w : World) (hx : VmSmall d) (hm : VmAt w 0 fa ha oa d) :
    Calls Tryz.prog 48 #[.agg #[.slice a1 nt c1, .slice a2 nf c2], .agg (vmCells fa ha oa fc hcp oc d)] w fun e w' => Says (Vals1 nf d) e ∧ Below w.heap.size w w' := by
  have hbA : Below w.heap.size w ((w.alloc (.cells #[.slice a1 nt c1, .slice a2 nf c2] 37)).alloc (.cells #[.slice fa d.frames.length fc, .slice ha d.heap.length hcp, .int .i64 d.made, .slice oa d.out.length oc, .int .i64 d.status, .int .i64 d.trap, .int .i64 d.value.k, .int .i64 d.value.n, .string d.value.s, .int .i64 d.steps] 43)) := ((Below.refl _ _).alloc (Nat.le_refl _) _).alloc (by simp) _
  have hM0 := block_old (block_new w #[.slice a1 nt c1, .slice a2 nf c2] 37) (.cells #[.slice fa d.frames.length fc, .slice ha d.heap.length hcp, .int .i64 d.made, .slice oa d.out.length oc, .int .i64 d.status, .int .i64 d.trap, .int .i64 d.value.k, .int .i64 d.value.n, .string d.value.s, .int .i64 d.steps] 43)
  have hV0 := block_new_at (w.alloc (.cells #[.slice a1 nt c1, .slice a2 nf c2] 37)) #[.slice fa d.frames.length fc, .slice ha d.heap.length hcp, .int .i64 d.made, .slice oa d.out.length oc, .int .i64 d.status, .int .i64 d.trap, .int .i64 d.value.k, .int .i64 d.value.n, .string d.value.s, .int .i64 d.steps] 43 (w.heap.size + 1) (by simp)
  have hhl := hx.heap
  have hfl := hx.frames
  unfold vmCells
  go_enter Tryz.func48, Tryz.ntmps48
  go_wp2
  go_loopw [14] (fun i wr => ∃ (k : Nat), k ≤ d.frames.length ∧ i = .int .i64 k ∧ Hid ((d.frames.take k).all (frVals nf d.heap.length) = true) ∧ wr.heap[w.heap.size]? = some (.cells #[.slice a1 nt c1, .slice a2 nf c2] 37 (0, 0)) ∧ wr.heap[w.heap.size + 1]? = some (.cells #[.slice fa d.frames.length fc, .slice ha d.heap.length hcp, .int .i64 d.made, .slice oa d.out.length oc, .int .i64 d.status, .int .i64 d.trap, .int .i64 d.value.k, .int .i64 d.value.n, .string d.value.s, .int .i64 d.steps] 43 (0, 0)) ∧ Below w.heap.size w wr) (fun i _ => d.frames.length - (intOf i).toNat)
  case atStart => exact ⟨0, by omega, rfl, rfl, hM0, hV0, hbA⟩
  case round =>
    obtain ⟨k, hk, rfl, hall, hM, hV, hb⟩ := hrel
    clear hV0 hbA hM0
    by_cases hlt : k < d.frames.length
    · obtain ⟨b, off, la, lc, sa, sc, rfl, -, e1, e2, e3, e4, e5, e6⟩ := hm.frs k hlt
      have e1' := cell_later hb e1
      have e2' := cell_later hb e2
      have e3' := cell_later hb e3
      have e4' := cell_later hb e4
      clear e1 e2 e3 e4
      have hsl := hx.locals _ (List.getElem_mem hlt)
      have hss := hx.stack _ (List.getElem_mem hlt)
      have hMn := block_old hM (.cells #[.int .i64 d.frames[k].fn, .int .i64 d.frames[k].pc, .slice la d.frames[k].locals.length lc, .slice sa d.frames[k].stack.length sc] 58)
      have hVn := block_old hV (.cells #[.int .i64 d.frames[k].fn, .int .i64 d.frames[k].pc, .slice la d.frames[k].locals.length lc, .slice sa d.frames[k].stack.length sc] 58)
      have hXn := block_new wr #[.int .i64 d.frames[k].fn, .int .i64 d.frames[k].pc, .slice la d.frames[k].locals.length lc, .slice sa d.frames[k].stack.length sc] 58
      have hBn := hb.alloc hb.size (.cells #[.int .i64 d.frames[k].fn, .int .i64 d.frames[k].pc, .slice la d.frames[k].locals.length lc, .slice sa d.frames[k].stack.length sc] 58)
      have m1 := block_cell hMn
      go_wp2_with fail
      refine (allIn_any _ _ _ _ _ _ _ _ _ _ _ hsl (e5.mono hBn)).mono ?_
      rintro e w1 ⟨rfl, hb1⟩
      have hM1 := block_kept hMn hb1
      have hV1 := block_kept hVn hb1
      have hX1 := block_kept hXn hb1
      have hB1 := hBn.trans (hb1.mono hBn.size)
      clear e1' e2' e3' e4' hMn hVn hXn hBn m1 hb1 hM hV hb
      by_cases ho : valsB d.frames[k].locals nf d.heap.length = true
      case neg =>
        have ho' : valsB d.frames[k].locals nf d.heap.length = false := by simpa using ho
        have HO : Hid (valsB d.frames[k].locals nf d.heap.length = false) := ho'
        clear ho
        go_wp2
        go_ret
        exact ⟨Says.no rfl (fun h => by
          have h1 := h.1
          rw [all_no hlt (show frVals nf d.heap.length d.frames[k] = false by unfold frVals; rw [HO.out]; rfl)] at h1
          cases h1), hB1⟩
      have HO : Hid (valsB d.frames[k].locals nf d.heap.length = true) := ho
      have m1 := block_cell hM1
      have x1 := block_cell hX1
      go_wp2_with fail
      refine (allIn_any _ _ _ _ _ _ _ _ _ _ _ hss (e6.mono hB1)).mono ?_
      rintro e w2 ⟨rfl, hb2⟩
      have hM2 := block_kept hM1 hb2
      have hV2 := block_kept hV1 hb2
      have hB2 := hB1.trans (hb2.mono hB1.size)
      clear m1 x1 hM1 hV1 hX1 hB1 hb2 ho
      by_cases hu : valsB d.frames[k].stack nf d.heap.length = true
      · have HU : Hid (valsB d.frames[k].stack nf d.heap.length = true) := hu
        go_wp2
        go_roundw
        case rel => exact ⟨k + 1, by omega, by go_num, all_take hlt hall.out (by unfold frVals; rw [HO.out, HU.out]; rfl), hM2, hV2, hB2⟩
        case measure => simp [intOf]; omega
      · have hu' : valsB d.frames[k].stack nf d.heap.length = false := by simpa using hu
        have HU : Hid (valsB d.frames[k].stack nf d.heap.length = false) := hu'
        clear hu
        go_wp2
        go_ret
        exact ⟨Says.no rfl (fun h => by
          have h1 := h.1
          rw [all_no hlt (show frVals nf d.heap.length d.frames[k] = false by unfold frVals; rw [HU.out, Bool.and_false])] at h1
          cases h1), hB2⟩
    · have HF : Hid (d.frames.all (frVals nf d.heap.length) = true) := all_end (by omega) hall.out
      have v2 := block_cell hV
      have m2 := block_cell hM
      go_wp2_with fail
      refine (iIn_any _ _ _ _ _ _ _ _ _ _ _ hx.value).mono ?_
      rintro e w1 ⟨rfl, hb1⟩
      clear v2 m2
      go_wp2
      go_ret
      exact ⟨⟨_, rfl, ⟨fun h => ⟨HF.out, h⟩, fun h => h.2⟩⟩, hb.trans (hb1.mono hb.size)⟩
end Go.Proofs.YtfefbgemcakabaaGreatDoor
