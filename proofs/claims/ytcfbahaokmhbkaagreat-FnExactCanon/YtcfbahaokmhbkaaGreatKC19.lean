/-
  What impl.roomOk, heapOk, valuesOk return.
  What impl.troubleAt returns: the trouble at an instruction, heights being known.
-/
import Derived.Test.YtcfbahaokmhbkaaGreatKC18
import Derived.Test.YtcfbahaokmhbkaaGreatKC11
namespace Go.Proofs.YtcfbahaokmhbkaaGreat
open Go.RowKit

def Room1 (d : VmD) : Prop := (d.heap.length : Int) ≤ d.made ∧ d.made ≤ 120 ∧ d.out.length ≤ 200 ∧ 0 ≤ d.steps ∧ d.steps ≤ 50000 ∧ d.out.all textB = true
def Vals1 (nf : Nat) (d : VmD) : Prop := d.frames.all (frVals nf d.heap.length) = true ∧ okB nf d.heap.length d.value = true
/-- A record of a heap of so many. -/
def recB (nf hl : Nat) (r : List Vl) : Bool := decide (r.length ≤ 6) && valsB r nf hl
def HeapP (nf : Nat) (rs : List (List Vl)) : Prop := rs.length ≤ 120 ∧ rs.all (recB nf rs.length) = true
theorem vm_parts {fs : List Fn} {d : VmD} : (Room1 d ∧ Frames fs d ∧ HeapP fs.length d.heap ∧ Vals1 fs.length d) ↔ (Room d ∧ Frames fs d ∧ Vals fs.length d) := by
  unfold Room1 Room HeapP Vals1 Vals
  have e : d.heap.all (recB fs.length d.heap.length) = true ↔ d.heap.all fewB = true ∧ d.heap.all (reVals fs.length d.heap.length) = true := by
    simp only [List.all_eq_true, recB, fewB, reVals, Bool.and_eq_true]
    exact ⟨fun q => ⟨fun x hx => (q x hx).1, fun x hx => (q x hx).2⟩, fun q x hx => ⟨q.1 x hx, q.2 x hx⟩⟩
  rw [e]
  constructor
  · rintro ⟨⟨h1, h2, h3, h4, h5, h6⟩, hf, ⟨-, k1, k2⟩, v1, v2⟩
    exact ⟨⟨h1, h2, k1, h3, h4, h5, h6⟩, hf, v1, k2, v2⟩
  · rintro ⟨⟨h1, h2, k1, h3, h4, h5, h6⟩, hf, v1, k2, v2⟩
    exact ⟨⟨h1, h2, h3, h4, h5, h6⟩, hf, ⟨by omega, k1, k2⟩, v1, v2⟩

set_option maxRecDepth 100000 in
set_option maxHeartbeats 2000000 in
theorem roomOk_any (fa ha oa : Option Addr) (fc hcp oc : Nat) (d : VmD) (w : World) (hx : VmSmall d) (hm : VmAt w 0 fa ha oa d) :
    Calls Tryz.prog 57 #[.agg (vmCells fa ha oa fc hcp oc d)] w fun e w' => Says (Room1 d) e ∧ Below w.heap.size w w' := by
  have hbA : Below w.heap.size w (w.alloc (.cells #[.slice fa d.frames.length fc, .slice ha d.heap.length hcp, .int .i64 d.made, .slice oa d.out.length oc, .int .i64 d.status, .int .i64 d.trap, .int .i64 d.value.k, .int .i64 d.value.n, .string d.value.s, .int .i64 d.steps] 38)) := (Below.refl _ _).alloc (Nat.le_refl _) _
  have hV0 := block_new w #[.slice fa d.frames.length fc, .slice ha d.heap.length hcp, .int .i64 d.made, .slice oa d.out.length oc, .int .i64 d.status, .int .i64 d.trap, .int .i64 d.value.k, .int .i64 d.value.n, .string d.value.s, .int .i64 d.steps] 38
  have hhl := hx.heap
  have hol := hx.out
  unfold vmCells
  by_cases h1 : d.made < (d.heap.length : Int)
  · go_enter Tryz.func57, Tryz.ntmps57
    go_wp2
    go_ret
    exact ⟨Says.no rfl (fun h => by have := h.1; omega), hbA⟩
  by_cases h2 : 120 < d.made
  · go_enter Tryz.func57, Tryz.ntmps57
    go_wp2
    go_ret
    exact ⟨Says.no rfl (fun h => by have := h.2.1; omega), hbA⟩
  go_enter Tryz.func57, Tryz.ntmps57
  have v1 := block_cell hV0
  have H1 : Hid ((d.heap.length : Int) ≤ d.made) := by show (d.heap.length : Int) ≤ d.made; omega
  have H2 : Hid (d.made ≤ 120) := by show d.made ≤ 120; omega
  by_cases h3 : 200 < d.out.length
  · have h3I : (200 : Int) < (d.out.length : Int) := by omega
    go_wp2
    go_ret
    exact ⟨Says.no rfl (fun h => by have := h.2.2.1; omega), hbA⟩
  have h3I : ¬ (200 : Int) < (d.out.length : Int) := by omega
  by_cases h4 : d.steps < 0
  · go_wp2
    go_ret
    exact ⟨Says.no rfl (fun h => by have := h.2.2.2.1; omega), hbA⟩
  by_cases h5 : 50000 < d.steps
  · go_wp2
    go_ret
    exact ⟨Says.no rfl (fun h => by have := h.2.2.2.2.1; omega), hbA⟩
  go_wp2_with fail
  refine (hasBadT_any _ d.out _ _ hx.out hx.text (hm.out.mono hbA)).mono ?_
  rintro e w1 ⟨rfl, hb1⟩
  clear v1
  go_wp2
  go_ret
  refine ⟨⟨_, rfl, ?_⟩, hbA.trans (hb1.mono hbA.size)⟩
  constructor
  · intro h
    exact ⟨H1.out, H2.out, by omega, by omega, by omega, by simpa using h⟩
  · intro h
    simpa using h.2.2.2.2.2
set_option maxRecDepth 100000 in
set_option maxHeartbeats 1000000 in
theorem litR_any (ca : Option Addr) (cc : Nat) (r : List Vl) (a1 a2 ha : Option Addr) (nt c1 nf c2 hl hcp Mb Rb : Nat) (w : World) (hs : ValsSmall r) (hm : ValsAt w 0 ca r) (hM : w.heap[Mb]? = some (.cells #[.slice a1 nt c1, .slice a2 nf c2] 42 (0, 0))) (hR : w.heap[Rb]? = some (.cells #[.slice ha hl hcp] 35 (0, 0))) :
    Calls Tryz.prog 97 #[.agg #[.slice ca r.length cc], .pointer (some ⟨Mb, 0, none⟩), .pointer (some ⟨Rb, 0, none⟩)] w fun e w' => e = .returned (.bool (!recB nf hl r)) ∧ Below w.heap.size w w' := by
  have hbA : Below w.heap.size w (w.alloc (.cells #[.slice ca r.length cc] 94)) := (Below.refl _ _).alloc (Nat.le_refl _) _
  have x0 := block_cell (block_new w #[.slice ca r.length cc] 94)
  have x1 := block_cell (block_old hM (.cells #[.slice ca r.length cc] 94))
  have x2 := block_cell (block_old hR (.cells #[.slice ca r.length cc] 94))
  have hrl := hs.1
  by_cases h6 : 6 < r.length
  · have g6 : (6 : Int) < (r.length : Int) := by omega
    have HO : Hid (6 < r.length) := h6
    clear h6
    go_enter Tryz.func97, Tryz.ntmps97
    go_wp2
    go_ret
    exact ⟨ret_bool (by unfold recB; rw [show decide (r.length ≤ 6) = false by have := HO.out; simpa using this]; rfl), hbA⟩
  · have g6 : ¬ (6 : Int) < (r.length : Int) := by omega
    have HO : Hid (¬ 6 < r.length) := h6
    clear h6
    go_enter Tryz.func97, Tryz.ntmps97
    go_wp2_with fail
    refine (allIn_any _ _ _ _ _ _ _ _ _ _ _ hs (hm.mono hbA)).mono ?_
    rintro e w1 ⟨rfl, hb⟩
    clear x0 x1 x2
    go_wp2
    go_ret
    exact ⟨ret_bool (by unfold recB; rw [show decide (r.length ≤ 6) = true by have := HO.out; simpa using this]; rfl), hbA.trans (hb.mono hbA.size)⟩

set_option maxRecDepth 100000 in
set_option maxHeartbeats 1000000 in
theorem firstBadR_any (a : Option Addr) (rs : List (List Vl)) (cap : Nat) (a1 a2 ha : Option Addr) (nt c1 nf c2 hl hcp Mb Rb : Nat) (w : World) (hn : rs.length ≤ 1048576) (hc : ∀ r ∈ rs, ValsSmall r) (hm : RecsAt w 0 a rs) (hM : w.heap[Mb]? = some (.cells #[.slice a1 nt c1, .slice a2 nf c2] 42 (0, 0))) (hR : w.heap[Rb]? = some (.cells #[.slice ha hl hcp] 35 (0, 0))) :
    Calls Tryz.prog 125 #[.slice a rs.length cap, .func (.func 97) #[] #[.pointer (some ⟨Mb, 0, none⟩), .pointer (some ⟨Rb, 0, none⟩)]] w fun e w' => IxPost (rs.all (recB nf hl)) e ∧ Below w.heap.size w w' := by
  go_enter Tryz.func125, Tryz.ntmps125
  go_wp2
  go_loopw [8] (fun i wr => ∃ (k : Nat), k ≤ rs.length ∧ i = .int .i64 k ∧ Hid ((rs.take k).all (recB nf hl) = true) ∧ Below w.heap.size w wr) (fun i _ => rs.length - (intOf i).toNat)
  case atStart => exact ⟨0, by omega, rfl, rfl, Below.refl _ _⟩
  case round =>
    obtain ⟨k, hk, rfl, hall, hb⟩ := hrel
    by_cases hlt : k < rs.length
    · obtain ⟨b, off, ca, cc, rfl, -, d1, d2⟩ := hm k hlt
      have d1' := cell_later hb d1
      clear d1
      have hck := hc rs[k] (List.getElem_mem hlt)
      have hMk := block_kept hM hb
      have hRk := block_kept hR hb
      go_wp2_with fail
      refine (litR_any ca cc rs[k] a1 a2 ha nt c1 nf c2 hl hcp Mb Rb _ hck (d2.mono hb) hMk hRk).mono ?_
      rintro e w1 ⟨rfl, hb1⟩
      have hB := hb.trans (hb1.mono hb.size)
      clear d1' hMk hRk hb1
      by_cases ho : recB nf hl rs[k] = true
      · have HO : Hid (recB nf hl rs[k] = true) := ho
        go_wp2
        go_roundw
        case rel => exact ⟨k + 1, by omega, by go_num, all_take hlt hall.out HO.out, hB⟩
        case measure => simp [intOf]; omega
      · have ho' : recB nf hl rs[k] = false := by simpa using ho
        have HO : Hid (recB nf hl rs[k] = false) := ho'
        clear ho
        go_wp2
        go_ret
        exact ⟨⟨(k : Int), rfl, by rw [show rs.all (recB nf hl) = false from all_no hlt HO.out]; simp⟩, hB⟩
    · go_wp2
      go_ret
      exact ⟨⟨-1, rfl, by rw [show rs.all (recB nf hl) = true from all_end (by omega) hall.out]; simp⟩, hb⟩

set_option maxRecDepth 100000 in
set_option maxHeartbeats 1000000 in
theorem hasBadR_any (a : Option Addr) (rs : List (List Vl)) (cap : Nat) (a1 a2 ha : Option Addr) (nt c1 nf c2 hl hcp Mb Rb : Nat) (w : World) (hn : rs.length ≤ 1048576) (hc : ∀ r ∈ rs, ValsSmall r) (hm : RecsAt w 0 a rs) (hM : w.heap[Mb]? = some (.cells #[.slice a1 nt c1, .slice a2 nf c2] 42 (0, 0))) (hR : w.heap[Rb]? = some (.cells #[.slice ha hl hcp] 35 (0, 0))) :
    Calls Tryz.prog 96 #[.slice a rs.length cap, .func (.func 97) #[] #[.pointer (some ⟨Mb, 0, none⟩), .pointer (some ⟨Rb, 0, none⟩)]] w fun e w' => e = .returned (.bool (!rs.all (recB nf hl))) ∧ Below w.heap.size w w' := by
  go_enter Tryz.func96, Tryz.ntmps96
  go_wp2_with fail
  refine (firstBadR_any a rs cap a1 a2 ha nt c1 nf c2 hl hcp Mb Rb _ hn hc hm hM hR).mono ?_
  rintro e w1 ⟨⟨i, rfl, hi⟩, hb⟩
  have HI : Hid (0 ≤ i ↔ rs.all (recB nf hl) = false) := hi
  clear hi
  go_wp2
  go_ret
  exact ⟨ret_bool (by rw [Bool.eq_iff_iff]; simpa using HI.out), hb⟩

set_option maxRecDepth 100000 in
set_option maxHeartbeats 1000000 in
theorem heapOk_any (a1 a2 : Option Addr) (nt c1 nf c2 : Nat) (ha : Option Addr) (rs : List (List Vl)) (hcp : Nat) (w : World) (hn : rs.length ≤ 1048576) (hc : ∀ r ∈ rs, ValsSmall r) (hm : RecsAt w 0 ha rs) :
    Calls Tryz.prog 59 #[.agg #[.slice a1 nt c1, .slice a2 nf c2], .slice ha rs.length hcp] w fun e w' => e = .returned (.bool (pB (HeapP nf rs))) ∧ Below w.heap.size w w' := by
  have hbA : Below w.heap.size w ((w.alloc (.cells #[.slice a1 nt c1, .slice a2 nf c2] 42)).alloc (.cells #[.slice ha rs.length hcp] 35)) := ((Below.refl _ _).alloc (Nat.le_refl _) _).alloc (by simp) _
  have hM0 := block_old (block_new w #[.slice a1 nt c1, .slice a2 nf c2] 42) (.cells #[.slice ha rs.length hcp] 35)
  have hR0 := block_new_at (w.alloc (.cells #[.slice a1 nt c1, .slice a2 nf c2] 42)) #[.slice ha rs.length hcp] 35 (w.heap.size + 1) (by simp)
  have r0 := block_cell hR0
  have hmf : ∀ (fn : Go.Fn) (first cap : Array Value) (w : World), (Instr.makeFunc fn first cap).run Tryz.prog w = .ok (.func fn first cap) w := fun _ _ _ _ => rfl
  by_cases h : rs.length ≤ 120
  case neg =>
    have g : ¬ (rs.length : Int) ≤ 120 := by omega
    have HN : Hid (¬ HeapP nf rs) := fun q => h q.1
    clear h
    go_enter Tryz.func59, Tryz.ntmps59
    go_wp2
    go_ret
    exact ⟨ret_bool (pB_no HN.out).symm, hbA⟩
  have g : (rs.length : Int) ≤ 120 := by omega
  have H : Hid (rs.length ≤ 120) := h
  clear h
  go_enter Tryz.func59, Tryz.ntmps59
  go_wp2_with fail
  refine (hasBadR_any ha rs hcp a1 a2 ha nt c1 nf c2 rs.length hcp _ _ _ hn hc (hm.mono hbA) hM0 hR0).mono ?_
  rintro e w1 ⟨rfl, hb⟩
  clear r0
  go_wp2
  go_ret
  exact ⟨ret_pB (by first | exact ⟨fun q => ⟨H.out, q⟩, fun q => q.2⟩ | (rw [Bool.not_not]; exact ⟨fun q => ⟨H.out, q⟩, fun q => q.2⟩)), hbA.trans (hb.mono hbA.size)⟩

set_option maxRecDepth 100000 in
set_option maxHeartbeats 4000000 in
theorem valuesOk_any (a1 a2 : Option Addr) (nt c1 nf c2 : Nat) (fa ha oa : Option Addr) (fc hcp oc : Nat) (d : VmD) (w : World) (hx : VmSmall d) (hm : VmAt w 0 fa ha oa d) :
    Calls Tryz.prog 60 #[.agg #[.slice a1 nt c1, .slice a2 nf c2], .agg (vmCells fa ha oa fc hcp oc d)] w fun e w' => Says (Vals1 nf d) e ∧ Below w.heap.size w w' := by
  have hbA : Below w.heap.size w ((w.alloc (.cells #[.slice a1 nt c1, .slice a2 nf c2] 42)).alloc (.cells #[.slice fa d.frames.length fc, .slice ha d.heap.length hcp, .int .i64 d.made, .slice oa d.out.length oc, .int .i64 d.status, .int .i64 d.trap, .int .i64 d.value.k, .int .i64 d.value.n, .string d.value.s, .int .i64 d.steps] 38)) := ((Below.refl _ _).alloc (Nat.le_refl _) _).alloc (by simp) _
  have hM0 := block_old (block_new w #[.slice a1 nt c1, .slice a2 nf c2] 42) (.cells #[.slice fa d.frames.length fc, .slice ha d.heap.length hcp, .int .i64 d.made, .slice oa d.out.length oc, .int .i64 d.status, .int .i64 d.trap, .int .i64 d.value.k, .int .i64 d.value.n, .string d.value.s, .int .i64 d.steps] 38)
  have hV0 := block_new_at (w.alloc (.cells #[.slice a1 nt c1, .slice a2 nf c2] 42)) #[.slice fa d.frames.length fc, .slice ha d.heap.length hcp, .int .i64 d.made, .slice oa d.out.length oc, .int .i64 d.status, .int .i64 d.trap, .int .i64 d.value.k, .int .i64 d.value.n, .string d.value.s, .int .i64 d.steps] 38 (w.heap.size + 1) (by simp)
  have hhl := hx.heap
  have hfl := hx.frames
  unfold vmCells
  go_enter Tryz.func60, Tryz.ntmps60
  go_wp2
  go_loopw [14] (fun i wr => ∃ (k : Nat), k ≤ d.frames.length ∧ i = .int .i64 k ∧ Hid ((d.frames.take k).all (frVals nf d.heap.length) = true) ∧ wr.heap[w.heap.size]? = some (.cells #[.slice a1 nt c1, .slice a2 nf c2] 42 (0, 0)) ∧ wr.heap[w.heap.size + 1]? = some (.cells #[.slice fa d.frames.length fc, .slice ha d.heap.length hcp, .int .i64 d.made, .slice oa d.out.length oc, .int .i64 d.status, .int .i64 d.trap, .int .i64 d.value.k, .int .i64 d.value.n, .string d.value.s, .int .i64 d.steps] 38 (0, 0)) ∧ Below w.heap.size w wr) (fun i _ => d.frames.length - (intOf i).toNat)
  case atStart => exact ⟨0, by omega, rfl, rfl, hM0, hV0, hbA⟩
  case round =>
    obtain ⟨k, hk, rfl, hall, hM, hV, hb⟩ := hrel
    clear hV0 hbA hM0
    by_cases hlt : k < d.frames.length
    · obtain ⟨b, off, la, lc, sa, sc, rfl, -, e1, e2, e3, e4, e5, e6⟩ := hm.frs k hlt
      have e1' := cell_later hb e1
      have e2' := cell_later hb e2
      have e3' := cell_later hb e3
      have e4' := cell_later hb e4
      clear e1 e2 e3 e4
      have hsl := hx.locals _ (List.getElem_mem hlt)
      have hss := hx.stack _ (List.getElem_mem hlt)
      have hMn := block_old hM (.cells #[.int .i64 d.frames[k].fn, .int .i64 d.frames[k].pc, .slice la d.frames[k].locals.length lc, .slice sa d.frames[k].stack.length sc] 90)
      have hVn := block_old hV (.cells #[.int .i64 d.frames[k].fn, .int .i64 d.frames[k].pc, .slice la d.frames[k].locals.length lc, .slice sa d.frames[k].stack.length sc] 90)
      have hXn := block_new wr #[.int .i64 d.frames[k].fn, .int .i64 d.frames[k].pc, .slice la d.frames[k].locals.length lc, .slice sa d.frames[k].stack.length sc] 90
      have hBn := hb.alloc hb.size (.cells #[.int .i64 d.frames[k].fn, .int .i64 d.frames[k].pc, .slice la d.frames[k].locals.length lc, .slice sa d.frames[k].stack.length sc] 90)
      have m1 := block_cell hMn
      go_wp2_with fail
      refine (allIn_any _ _ _ _ _ _ _ _ _ _ _ hsl (e5.mono hBn)).mono ?_
      rintro e w1 ⟨rfl, hb1⟩
      have hM1 := block_kept hMn hb1
      have hV1 := block_kept hVn hb1
      have hX1 := block_kept hXn hb1
      have hB1 := hBn.trans (hb1.mono hBn.size)
      clear e1' e2' e3' e4' hMn hVn hXn hBn m1 hb1 hM hV hb
      by_cases ho : valsB d.frames[k].locals nf d.heap.length = true
      case neg =>
        have ho' : valsB d.frames[k].locals nf d.heap.length = false := by simpa using ho
        have HO : Hid (valsB d.frames[k].locals nf d.heap.length = false) := ho'
        clear ho
        go_wp2
        go_ret
        exact ⟨Says.no rfl (fun h => by
          have h1 := h.1
          rw [all_no hlt (show frVals nf d.heap.length d.frames[k] = false by unfold frVals; rw [HO.out]; rfl)] at h1
          cases h1), hB1⟩
      have HO : Hid (valsB d.frames[k].locals nf d.heap.length = true) := ho
      have m1 := block_cell hM1
      have x1 := block_cell hX1
      go_wp2_with fail
      refine (allIn_any _ _ _ _ _ _ _ _ _ _ _ hss (e6.mono hB1)).mono ?_
      rintro e w2 ⟨rfl, hb2⟩
      have hM2 := block_kept hM1 hb2
      have hV2 := block_kept hV1 hb2
      have hB2 := hB1.trans (hb2.mono hB1.size)
      clear m1 x1 hM1 hV1 hX1 hB1 hb2 ho
      by_cases hu : valsB d.frames[k].stack nf d.heap.length = true
      · have HU : Hid (valsB d.frames[k].stack nf d.heap.length = true) := hu
        go_wp2
        go_roundw
        case rel => exact ⟨k + 1, by omega, by go_num, all_take hlt hall.out (by unfold frVals; rw [HO.out, HU.out]; rfl), hM2, hV2, hB2⟩
        case measure => simp [intOf]; omega
      · have hu' : valsB d.frames[k].stack nf d.heap.length = false := by simpa using hu
        have HU : Hid (valsB d.frames[k].stack nf d.heap.length = false) := hu'
        clear hu
        go_wp2
        go_ret
        exact ⟨Says.no rfl (fun h => by
          have h1 := h.1
          rw [all_no hlt (show frVals nf d.heap.length d.frames[k] = false by unfold frVals; rw [HU.out, Bool.and_false])] at h1
          cases h1), hB2⟩
    · have HF : Hid (d.frames.all (frVals nf d.heap.length) = true) := all_end (by omega) hall.out
      have v2 := block_cell hV
      have m2 := block_cell hM
      go_wp2_with fail
      refine (iIn_any _ _ _ _ _ _ _ _ _ _ _ hx.value).mono ?_
      rintro e w1 ⟨rfl, hb1⟩
      clear v2 m2
      go_wp2
      go_ret
      exact ⟨⟨_, rfl, ⟨fun h => ⟨HF.out, h⟩, fun h => h.2⟩⟩, hb.trans (hb1.mono hb.size)⟩
end Go.Proofs.YtcfbahaokmhbkaaGreat

namespace Go.Proofs.YtcfbahaokmhbkaaGreat
open Go.RowKit

section
variable {fs : List Fn} {code : List (Int × Int)} {d : List Int} {pc : Nat} {z t l : Int}

theorem trouble_none (hk : pc < code.length) (hz : d.getD pc (-1) = z) (h : z < 0) : troubleB fs code d pc = 0 := by
  unfold troubleB
  simp only [getD_code hk, hz]
  rw [if_pos h]
theorem trouble_stack (hk : pc < code.length) (hz : d.getD pc (-1) = z) (ht : (usesB fs code[pc].1 code[pc].2).1 = t) (hl : (usesB fs code[pc].1 code[pc].2).2 = l) (h : ¬ z < 0) (hc : z < t ∨ 16 < z - t + l) : troubleB fs code d pc = 2 := by
  unfold troubleB
  simp only [getD_code hk, hz, ht, hl]
  rw [if_neg h, if_pos hc]
theorem trouble_end (hk : pc < code.length) (hz : d.getD pc (-1) = z) (ht : (usesB fs code[pc].1 code[pc].2).1 = t) (hl : (usesB fs code[pc].1 code[pc].2).2 = l) (h : ¬ z < 0) (hc : ¬ (z < t ∨ 16 < z - t + l))
    (hn : (nextB code[pc].1 code[pc].2 pc).any (fun nx => decide ((code.length : Int) ≤ nx)) = true) : troubleB fs code d pc = 3 := by
  unfold troubleB
  simp only [getD_code hk, hz, ht, hl]
  rw [if_neg h, if_neg hc, if_pos hn]
theorem trouble_join (hk : pc < code.length) (hz : d.getD pc (-1) = z) (ht : (usesB fs code[pc].1 code[pc].2).1 = t) (hl : (usesB fs code[pc].1 code[pc].2).2 = l) (h : ¬ z < 0) (hc : ¬ (z < t ∨ 16 < z - t + l))
    (hn : (nextB code[pc].1 code[pc].2 pc).any (fun nx => decide ((code.length : Int) ≤ nx)) = false) (hj : (nextB code[pc].1 code[pc].2 pc).any (fun nx => decide (d.getD nx.toNat (-1) ≠ z - t + l)) = true) : troubleB fs code d pc = 4 := by
  unfold troubleB
  simp only [getD_code hk, hz, ht, hl]
  rw [if_neg h, if_neg hc, if_neg (by rw [hn]; simp), if_pos hj]
theorem trouble_fine (hk : pc < code.length) (hz : d.getD pc (-1) = z) (ht : (usesB fs code[pc].1 code[pc].2).1 = t) (hl : (usesB fs code[pc].1 code[pc].2).2 = l) (h : ¬ z < 0) (hc : ¬ (z < t ∨ 16 < z - t + l))
    (hn : (nextB code[pc].1 code[pc].2 pc).any (fun nx => decide ((code.length : Int) ≤ nx)) = false) (hj : (nextB code[pc].1 code[pc].2 pc).any (fun nx => decide (d.getD nx.toNat (-1) ≠ z - t + l)) = false) : troubleB fs code d pc = 0 := by
  unfold troubleB
  simp only [getD_code hk, hz, ht, hl]
  rw [if_neg h, if_neg hc, if_neg (by rw [hn]; simp), if_neg (by rw [hj]; simp)]
end

theorem any_take_no {α : Type} {p : α → Bool} {l : List α} {k : Nat} (hk : k < l.length) (h : (l.take k).any p = false) (hx : p l[k] = false) : (l.take (k + 1)).any p = false := by
  rw [List.take_succ_eq_append_getElem hk, List.any_append, h]
  simp [hx]
theorem any_yes {α : Type} {p : α → Bool} {l : List α} {k : Nat} (hk : k < l.length) (hx : p l[k] = true) : l.any p = true := by
  rw [List.any_eq_true]
  exact ⟨l[k], List.getElem_mem hk, hx⟩
theorem any_end {α : Type} {p : α → Bool} {l : List α} {k : Nat} (hk : l.length ≤ k) (h : (l.take k).any p = false) : l.any p = false := by
  rwa [List.take_of_length_le hk] at h

/-- The last one is behind the code just where one of them is it. -/
theorem any_ends {n : Int} {l : List Int} (h : ∀ x ∈ l, x ≤ n) : l.any (fun x => decide (x = n)) = l.any (fun x => decide (n ≤ x)) := by
  rw [Bool.eq_iff_iff, List.any_eq_true, List.any_eq_true]
  constructor
  · rintro ⟨x, hx, he⟩
    exact ⟨x, hx, by simp at he ⊢; omega⟩
  · rintro ⟨x, hx, he⟩
    have := h x hx
    exact ⟨x, hx, by simp at he ⊢; omega⟩

set_option maxRecDepth 100000 in
set_option maxHeartbeats 2000000 in
theorem trouble_any (a1 a2 ca : Option Addr) (nt c1 c2 cc : Nat) (fs : List Fn) (code : List (Int × Int)) (d : List Int) (g cap pc : Nat) (w : World) (hm : FnsAt w 0 a2 fs) (d4 : CodeAt w 0 ca code) (F : Fine fs code) (P : Hts code.length d) (hH : Ht w g cap d) (hlt : pc < code.length) :
    Calls Tryz.prog 91 #[.agg #[.slice a1 nt c1, .slice a2 fs.length c2], .slice ca code.length cc, .slice (some ⟨g, 0, none⟩) code.length cap, .int .i64 pc] w fun e w' => e = .returned (.int .i64 (troubleB fs code d pc)) ∧ Below w.heap.size w w' := by
  have hmost := F.most
  have hbA : Below w.heap.size w (w.alloc (.cells #[.slice a1 nt c1, .slice a2 fs.length c2] 42)) := (Below.refl _ _).alloc (Nat.le_refl _) _
  have hM0 := block_new w #[.slice a1 nt c1, .slice a2 fs.length c2] 42
  have hlen : pc < d.length := by rw [P.len]; exact hlt
  have HZ : Hid (d.getD pc (-1) = d[pc]) := P.get hlt
  have z0 := P.low pc hlen
  have z1 := P.high pc hlen
  have hcl := cell_later hbA (hH.cell hlen)
  have hH0 := hH.mono hbA
  obtain ⟨cb, co, rfl, -, e1, e2⟩ := d4 pc hlt
  have e1' := cell_later hbA e1
  have e2' := cell_later hbA e2
  have y1 := block_cell hM0
  obtain ⟨u0, u1, u2, u3⟩ := usesB_ok F.params code[pc].1 code[pc].2
  clear e1 e2
  by_cases hneg : d[pc] < 0
  · have hb : (d[pc] == -1) = true := by rw [beq_iff_eq]; omega
    have HT : Hid (troubleB fs code d pc = 0) := trouble_none hlt HZ.out hneg
    clear hneg
    go_enter Tryz.func91, Tryz.ntmps91
    go_wp2
    go_ret
    exact ⟨ret_int HT.out.symm, hbA⟩
  have hb : (d[pc] == -1) = false := by rw [beq_eq_false_iff_ne]; omega
  have HNN : Hid (¬ d[pc] < 0) := hneg
  obtain ⟨wx, hwx⟩ : ∃ wx, wx = w.alloc (.cells #[.slice a1 nt c1, .slice a2 fs.length c2] 42) := ⟨_, rfl⟩
  have HWX : Hid (wx = w.alloc (.cells #[.slice a1 nt c1, .slice a2 fs.length c2] 42)) := hwx
  by_cases hfit : d[pc] < (usesB fs code[pc].1 code[pc].2).1 ∨ 16 < d[pc] - (usesB fs code[pc].1 code[pc].2).1 + (usesB fs code[pc].1 code[pc].2).2
  · have HT : Hid (troubleB fs code d pc = 2) := trouble_stack hlt HZ.out rfl rfl hneg hfit
    have HF : Hid (d[pc] < (usesB fs code[pc].1 code[pc].2).1 ∨ 16 < d[pc] - (usesB fs code[pc].1 code[pc].2).1 + (usesB fs code[pc].1 code[pc].2).2) := hfit
    clear hfit hneg hwx
    go_enter Tryz.func91, Tryz.ntmps91
    go_wp2
    rw [← HWX.out] at hbA hM0 hcl hH0 e1' e2' y1 ⊢
    go_region_held3 (fun w' => w'.cell? ⟨w.heap.size, 0, none⟩ = some (.slice a1 nt c1) ∧ w'.cell? ⟨w.heap.size, 1, none⟩ = some (.slice a2 fs.length c2) ∧ w'.cell? ⟨cb, co + pc * 2, none⟩ = some (.int .i64 code[pc].1) ∧ w'.cell? ⟨cb, co + pc * 2 + 1, none⟩ = some (.int .i64 code[pc].2) ∧ w'.cell? ⟨g, pc, none⟩ = some (.int .i64 d[pc]))
      (first | exact ⟨(y1 0).trans rfl, (y1 1).trans rfl, e1', e2', hcl⟩ | exact ⟨by rw [block_cell (block_kept hM0 k6)]; rfl, by rw [block_cell (block_kept hM0 k6)]; rfl, cell_later k6 e1', cell_later k6 e2', cell_later k6 hcl⟩)
      (first | (go_at_call 120; refine (iLeft_any _ _ _ _ _ fs code[pc].1 code[pc].2 d[pc] _ (by exact hm.mono hbA.drew) F.params (by exact z0) (by exact z1)).mono ?_; rintro e w4 ⟨hL, k6d⟩; have k6 := below_undraw k6d; obtain ⟨qq, rfl⟩ := hL.no HF.out))
    go_wp2
    go_ret
    exact ⟨ret_int HT.out.symm, hbA.trans (k6.mono hbA.size)⟩
  obtain ⟨left, hleft⟩ : ∃ left, left = d[pc] - (usesB fs code[pc].1 code[pc].2).1 + (usesB fs code[pc].1 code[pc].2).2 := ⟨_, rfl⟩
  have HL : Hid (left = d[pc] - (usesB fs code[pc].1 code[pc].2).1 + (usesB fs code[pc].1 code[pc].2).2) := hleft
  have HF : Hid (¬ (d[pc] < (usesB fs code[pc].1 code[pc].2).1 ∨ 16 < d[pc] - (usesB fs code[pc].1 code[pc].2).1 + (usesB fs code[pc].1 code[pc].2).2)) := hfit
  have hnx := next_in F hlt
  clear hfit hneg hwx hleft
  go_enter Tryz.func91, Tryz.ntmps91
  go_wp2
  rw [← HWX.out] at hbA hM0 hcl hH0 e1' e2' y1 ⊢
  go_region_held3 (fun w' => w'.cell? ⟨w.heap.size, 0, none⟩ = some (.slice a1 nt c1) ∧ w'.cell? ⟨w.heap.size, 1, none⟩ = some (.slice a2 fs.length c2) ∧ w'.cell? ⟨cb, co + pc * 2, none⟩ = some (.int .i64 code[pc].1) ∧ w'.cell? ⟨cb, co + pc * 2 + 1, none⟩ = some (.int .i64 code[pc].2) ∧ w'.cell? ⟨g, pc, none⟩ = some (.int .i64 d[pc]))
    (first | exact ⟨(y1 0).trans rfl, (y1 1).trans rfl, e1', e2', hcl⟩ | exact ⟨by rw [block_cell (block_kept hM0 k6)]; rfl, by rw [block_cell (block_kept hM0 k6)]; rfl, cell_later k6 e1', cell_later k6 e2', cell_later k6 hcl⟩)
    (first | (go_at_call 120; refine (iLeft_any _ _ _ _ _ fs code[pc].1 code[pc].2 d[pc] _ (by exact hm.mono hbA.drew) F.params (by exact z0) (by exact z1)).mono ?_; rintro e w4 ⟨hL, k6d⟩; have k6 := below_undraw k6d; obtain rfl := hL.yes HF.out; rw [← HL.out]))
  have hH4 := hH0.mono k6
  have hb4 : Below w.heap.size w w4 := hbA.trans (k6.mono hbA.size)
  have e14 := cell_later k6 e1'
  have e24 := cell_later k6 e2'
  clear hbA hM0 hcl hH0 e1' e2' y1 k6 k6d HWX
  go_wp2_with fail
  refine (iNext_any code[pc].1 code[pc].2 pc _ (by omega)).mono ?_
  rintro e w5 ⟨ad, ncap, rfl, hI, k7⟩
  have hH5 := hH4.mono k7
  have hb5 : Below w.heap.size w w5 := hb4.trans (k7.mono hb4.size)
  obtain ⟨nx, hnxe⟩ : ∃ nx, nx = nextB code[pc].1 code[pc].2 pc := ⟨_, rfl⟩
  have HX : Hid (nx = nextB code[pc].1 code[pc].2 pc) := hnxe
  rw [← hnxe] at hI hnx ⊢
  have hnl : nx.length ≤ 2 := by rw [hnxe]; exact next_len _ _ _
  have HE : Hid (nx.any (fun x => decide (x = (code.length : Int))) = nx.any (fun x => decide ((code.length : Int) ≤ x))) := any_ends fun x hx => (hnx x hx).2
  clear hH4 hb4 k7 e14 e24 hnxe
  go_wp2_with fail
  refine (contains_any ad nx ncap (code.length : Int) _ (by omega) (hI.low (Nat.zero_le _))).mono ?_
  rintro e w6 ⟨rfl, hw6⟩
  rw [hw6]
  clear hw6 w6
  by_cases hend : nx.any (fun x => decide (x = (code.length : Int))) = true
  · have HT : Hid (troubleB fs code d pc = 3) := by
      refine trouble_end hlt HZ.out rfl rfl (by have := HNN.out; omega) (by have := HF.out; omega) ?_
      rw [← HX.out, ← HE.out]; exact hend
    go_wp2
    go_ret
    exact ⟨ret_int HT.out.symm, hb5⟩
  have hend' : nx.any (fun x => decide (x = (code.length : Int))) = false := by rw [Bool.eq_false_iff]; exact hend
  have HN : Hid (nx.any (fun x => decide ((code.length : Int) ≤ x)) = false) := by show _ = _; rw [← HE.out]; exact hend'
  clear hend
  go_wp2
  clear hend'
  go_loop [46] (fun i => ∃ (q : Nat), q ≤ nx.length ∧ i = .int .i64 q ∧ Hid ((nx.take q).any (fun x => decide (d.getD x.toNat (-1) ≠ left)) = false)) (fun i => nx.length - (intOf i).toNat)
  case atStart => exact ⟨0, by omega, rfl, by show _ = _; simp⟩
  case round =>
    obtain ⟨q, hq, rfl, hno⟩ := hrel
    by_cases hlq : q < nx.length
    · obtain ⟨v0, v1⟩ := hnx nx[q] (List.getElem_mem hlq)
      obtain ⟨nb, no, rfl, hnb, m1⟩ := hI q hlq
      obtain ⟨nk, hnk⟩ : ∃ nk : Nat, nx[q] = (nk : Int) := ⟨nx[q].toNat, by omega⟩
      have hin : nk < code.length := by
        rcases Nat.lt_or_ge nk code.length with h | h
        · exact h
        · have := any_yes (p := fun x => decide ((code.length : Int) ≤ x)) hlq (by simp; omega)
          rw [HN.out] at this
          cases this
      rw [hnk] at m1
      have hkl : nk < d.length := by rw [P.len]; exact hin
      have m2 := hH5.cell hkl
      have hget : d.getD nx[q].toNat (-1) = d[nk] := by rw [hnk, Int.toNat_natCast]; exact P.get hin
      by_cases he : d[nk] = left
      · have HQ : Hid ((nx.take (q + 1)).any (fun x => decide (d.getD x.toNat (-1) ≠ left)) = false) := any_take_no hlq hno.out (by simp only [hget, he]; simp)
        have b1 : (d[nk] != left) = false := by simp [he]
        clear hno hget hnk he
        go_wp2
        go_round
        case rel => exact ⟨q + 1, by omega, by go_num, HQ⟩
        case measure => simp [intOf]; omega
      · have HT : Hid (troubleB fs code d pc = 4) := by
          refine trouble_join hlt HZ.out rfl rfl (by have := HNN.out; omega) (by have := HF.out; omega) (by rw [← HX.out]; exact HN.out) ?_
          rw [← HX.out, ← HL.out]
          exact any_yes (p := fun x => decide (d.getD x.toNat (-1) ≠ left)) hlq (by simp only [hget]; simpa using he)
        have b1 : (d[nk] != left) = true := by simpa using he
        clear hno hget hnk he
        go_wp2
        go_ret
        exact ⟨ret_int HT.out.symm, hb5⟩
    · have HT : Hid (troubleB fs code d pc = 0) := by
        refine trouble_fine hlt HZ.out rfl rfl (by have := HNN.out; omega) (by have := HF.out; omega) (by rw [← HX.out]; exact HN.out) ?_
        rw [← HX.out, ← HL.out]
        exact any_end (by omega) hno.out
      clear hno
      go_wp2
      go_ret
      exact ⟨ret_int HT.out.symm, hb5⟩
end Go.Proofs.YtcfbahaokmhbkaaGreat
