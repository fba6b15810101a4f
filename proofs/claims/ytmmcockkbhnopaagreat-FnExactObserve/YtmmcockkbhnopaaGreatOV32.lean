/-
  What is so, as a bool.
  What impl.roomOk, heapOk, valuesOk return.
  What the size functions of the laws return of lists of values, frames, records, and of states.
  What szVm returns.
-/
import Derived.Test.YtmmcockkbhnopaaGreatOV31
import Derived.Test.YtmmcockkbhnopaaGreatOV11
import Derived.Test.YtmmcockkbhnopaaGreatOV29
import Derived.Test.YtmmcockkbhnopaaGreatOV21
namespace Go.Proofs.YtmmcockkbhnopaaGreat
open Go.RowKit

open Classical in
theorem Says.eq {P : Prop} {e : Ending} (h : Says P e) : e = .returned (.bool (pB P)) := by
  obtain ⟨b, rfl, hb⟩ := h
  rw [show b = pB P by rw [Bool.eq_iff_iff, hb]; simp [pB]]
end Go.Proofs.YtmmcockkbhnopaaGreat

namespace Go.Proofs.YtmmcockkbhnopaaGreat
open Go.RowKit

def Room1 (d : VmD) : Prop := (d.heap.length : Int) ≤ d.made ∧ d.made ≤ 120 ∧ d.out.length ≤ 200 ∧ 0 ≤ d.steps ∧ d.steps ≤ 50000 ∧ d.out.all textB = true
def Vals1 (nf : Nat) (d : VmD) : Prop := d.frames.all (frVals nf d.heap.length) = true ∧ okB nf d.heap.length d.value = true
/-- A record of a heap of so many. -/
def recB (nf hl : Nat) (r : List Vl) : Bool := decide (r.length ≤ 6) && valsB r nf hl
def HeapP (nf : Nat) (rs : List (List Vl)) : Prop := rs.length ≤ 120 ∧ rs.all (recB nf rs.length) = true
theorem vm_parts {fs : List Fn} {d : VmD} : (Room1 d ∧ Frames fs d ∧ HeapP fs.length d.heap ∧ Vals1 fs.length d) ↔ (Room d ∧ Frames fs d ∧ Vals fs.length d) := by
  unfold Room1 Room HeapP Vals1 Vals
  have e : d.heap.all (recB fs.length d.heap.length) = true ↔ d.heap.all fewB = true ∧ d.heap.all (reVals fs.length d.heap.length) = true := by
    simp only [List.all_eq_true, recB, fewB, reVals, Bool.and_eq_true]
    exact ⟨fun q => ⟨fun x hx => (q x hx).1, fun x hx => (q x hx).2⟩, fun q x hx => ⟨q.1 x hx, q.2 x hx⟩⟩
  rw [e]
  constructor
  · rintro ⟨⟨h1, h2, h3, h4, h5, h6⟩, hf, ⟨-, k1, k2⟩, v1, v2⟩
    exact ⟨⟨h1, h2, k1, h3, h4, h5, h6⟩, hf, v1, k2, v2⟩
  · rintro ⟨⟨h1, h2, k1, h3, h4, h5, h6⟩, hf, v1, k2, v2⟩
    exact ⟨⟨h1, h2, h3, h4, h5, h6⟩, hf, ⟨by omega, k1, k2⟩, v1, v2⟩

set_option maxRecDepth 100000 in
set_option maxHeartbeats 2000000 in
theorem roomOk_any (fa ha oa : Option Addr) (fc hcp oc : Nat) (d : VmD) (w : World) (hx : VmSmall d) (hm : VmAt w 0 fa ha oa d) :
    Calls Tryz.prog 70 #[.agg (vmCells fa ha oa fc hcp oc d)] w fun e w' => Says (Room1 d) e ∧ Below w.heap.size w w' := by
  have hbA : Below w.heap.size w (w.alloc (.cells #[.slice fa d.frames.length fc, .slice ha d.heap.length hcp, .int .i64 d.made, .slice oa d.out.length oc, .int .i64 d.status, .int .i64 d.trap, .int .i64 d.value.k, .int .i64 d.value.n, .string d.value.s, .int .i64 d.steps] 47)) := (Below.refl _ _).alloc (Nat.le_refl _) _
  have hV0 := block_new w #[.slice fa d.frames.length fc, .slice ha d.heap.length hcp, .int .i64 d.made, .slice oa d.out.length oc, .int .i64 d.status, .int .i64 d.trap, .int .i64 d.value.k, .int .i64 d.value.n, .string d.value.s, .int .i64 d.steps] 47
  have hhl := hx.heap
  have hol := hx.out
  unfold vmCells
  by_cases h1 : d.made < (d.heap.length : Int)
  · go_enter Tryz.func70, Tryz.ntmps70
    go_wp2
    go_ret
    exact ⟨Says.no rfl (fun h => by have := h.1; omega), hbA⟩
  by_cases h2 : 120 < d.made
  · go_enter Tryz.func70, Tryz.ntmps70
    go_wp2
    go_ret
    exact ⟨Says.no rfl (fun h => by have := h.2.1; omega), hbA⟩
  go_enter Tryz.func70, Tryz.ntmps70
  have v1 := block_cell hV0
  have H1 : Hid ((d.heap.length : Int) ≤ d.made) := by show (d.heap.length : Int) ≤ d.made; omega
  have H2 : Hid (d.made ≤ 120) := by show d.made ≤ 120; omega
  by_cases h3 : 200 < d.out.length
  · have h3I : (200 : Int) < (d.out.length : Int) := by omega
    go_wp2
    go_ret
    exact ⟨Says.no rfl (fun h => by have := h.2.2.1; omega), hbA⟩
  have h3I : ¬ (200 : Int) < (d.out.length : Int) := by omega
  by_cases h4 : d.steps < 0
  · go_wp2
    go_ret
    exact ⟨Says.no rfl (fun h => by have := h.2.2.2.1; omega), hbA⟩
  by_cases h5 : 50000 < d.steps
  · go_wp2
    go_ret
    exact ⟨Says.no rfl (fun h => by have := h.2.2.2.2.1; omega), hbA⟩
  go_wp2_with fail
  refine (hasBadT_any _ d.out _ _ hx.out hx.text (hm.out.mono hbA)).mono ?_
  rintro e w1 ⟨rfl, hb1⟩
  clear v1
  go_wp2
  go_ret
  refine ⟨⟨_, rfl, ?_⟩, hbA.trans (hb1.mono hbA.size)⟩
  constructor
  · intro h
    exact ⟨H1.out, H2.out, by omega, by omega, by omega, by simpa using h⟩
  · intro h
    simpa using h.2.2.2.2.2
set_option maxRecDepth 100000 in
set_option maxHeartbeats 1000000 in
theorem litR_any (ca : Option Addr) (cc : Nat) (r : List Vl) (a1 a2 ha : Option Addr) (nt c1 nf c2 hl hcp Mb Rb : Nat) (w : World) (hs : ValsSmall r) (hm : ValsAt w 0 ca r) (hM : w.heap[Mb]? = some (.cells #[.slice a1 nt c1, .slice a2 nf c2] 40 (0, 0))) (hR : w.heap[Rb]? = some (.cells #[.slice ha hl hcp] 44 (0, 0))) :
    Calls Tryz.prog 106 #[.agg #[.slice ca r.length cc], .pointer (some ⟨Mb, 0, none⟩), .pointer (some ⟨Rb, 0, none⟩)] w fun e w' => e = .returned (.bool (!recB nf hl r)) ∧ Below w.heap.size w w' := by
  have hbA : Below w.heap.size w (w.alloc (.cells #[.slice ca r.length cc] 105)) := (Below.refl _ _).alloc (Nat.le_refl _) _
  have x0 := block_cell (block_new w #[.slice ca r.length cc] 105)
  have x1 := block_cell (block_old hM (.cells #[.slice ca r.length cc] 105))
  have x2 := block_cell (block_old hR (.cells #[.slice ca r.length cc] 105))
  have hrl := hs.1
  by_cases h6 : 6 < r.length
  · have g6 : (6 : Int) < (r.length : Int) := by omega
    have HO : Hid (6 < r.length) := h6
    clear h6
    go_enter Tryz.func106, Tryz.ntmps106
    go_wp2
    go_ret
    exact ⟨ret_bool (by unfold recB; rw [show decide (r.length ≤ 6) = false by have := HO.out; simpa using this]; rfl), hbA⟩
  · have g6 : ¬ (6 : Int) < (r.length : Int) := by omega
    have HO : Hid (¬ 6 < r.length) := h6
    clear h6
    go_enter Tryz.func106, Tryz.ntmps106
    go_wp2_with fail
    refine (allIn_any _ _ _ _ _ _ _ _ _ _ _ hs (hm.mono hbA)).mono ?_
    rintro e w1 ⟨rfl, hb⟩
    clear x0 x1 x2
    go_wp2
    go_ret
    exact ⟨ret_bool (by unfold recB; rw [show decide (r.length ≤ 6) = true by have := HO.out; simpa using this]; rfl), hbA.trans (hb.mono hbA.size)⟩

set_option maxRecDepth 100000 in
set_option maxHeartbeats 1000000 in
theorem firstBadR_any (a : Option Addr) (rs : List (List Vl)) (cap : Nat) (a1 a2 ha : Option Addr) (nt c1 nf c2 hl hcp Mb Rb : Nat) (w : World) (hn : rs.length ≤ 1048576) (hc : ∀ r ∈ rs, ValsSmall r) (hm : RecsAt w 0 a rs) (hM : w.heap[Mb]? = some (.cells #[.slice a1 nt c1, .slice a2 nf c2] 40 (0, 0))) (hR : w.heap[Rb]? = some (.cells #[.slice ha hl hcp] 44 (0, 0))) :
    Calls Tryz.prog 130 #[.slice a rs.length cap, .func (.func 106) #[] #[.pointer (some ⟨Mb, 0, none⟩), .pointer (some ⟨Rb, 0, none⟩)]] w fun e w' => IxPost (rs.all (recB nf hl)) e ∧ Below w.heap.size w w' := by
  go_enter Tryz.func130, Tryz.ntmps130
  go_wp2
  go_loopw [8] (fun i wr => ∃ (k : Nat), k ≤ rs.length ∧ i = .int .i64 k ∧ Hid ((rs.take k).all (recB nf hl) = true) ∧ Below w.heap.size w wr) (fun i _ => rs.length - (intOf i).toNat)
  case atStart => exact ⟨0, by omega, rfl, rfl, Below.refl _ _⟩
  case round =>
    obtain ⟨k, hk, rfl, hall, hb⟩ := hrel
    by_cases hlt : k < rs.length
    · obtain ⟨b, off, ca, cc, rfl, -, d1, d2⟩ := hm k hlt
      have d1' := cell_later hb d1
      clear d1
      have hck := hc rs[k] (List.getElem_mem hlt)
      have hMk := block_kept hM hb
      have hRk := block_kept hR hb
      go_wp2_with fail
      refine (litR_any ca cc rs[k] a1 a2 ha nt c1 nf c2 hl hcp Mb Rb _ hck (d2.mono hb) hMk hRk).mono ?_
      rintro e w1 ⟨rfl, hb1⟩
      have hB := hb.trans (hb1.mono hb.size)
      clear d1' hMk hRk hb1
      by_cases ho : recB nf hl rs[k] = true
      · have HO : Hid (recB nf hl rs[k] = true) := ho
        go_wp2
        go_roundw
        case rel => exact ⟨k + 1, by omega, by go_num, all_take hlt hall.out HO.out, hB⟩
        case measure => simp [intOf]; omega
      · have ho' : recB nf hl rs[k] = false := by simpa using ho
        have HO : Hid (recB nf hl rs[k] = false) := ho'
        clear ho
        go_wp2
        go_ret
        exact ⟨⟨(k : Int), rfl, by rw [show rs.all (recB nf hl) = false from all_no hlt HO.out]; simp⟩, hB⟩
    · go_wp2
      go_ret
      exact ⟨⟨-1, rfl, by rw [show rs.all (recB nf hl) = true from all_end (by omega) hall.out]; simp⟩, hb⟩

set_option maxRecDepth 100000 in
set_option maxHeartbeats 1000000 in
theorem hasBadR_any (a : Option Addr) (rs : List (List Vl)) (cap : Nat) (a1 a2 ha : Option Addr) (nt c1 nf c2 hl hcp Mb Rb : Nat) (w : World) (hn : rs.length ≤ 1048576) (hc : ∀ r ∈ rs, ValsSmall r) (hm : RecsAt w 0 a rs) (hM : w.heap[Mb]? = some (.cells #[.slice a1 nt c1, .slice a2 nf c2] 40 (0, 0))) (hR : w.heap[Rb]? = some (.cells #[.slice ha hl hcp] 44 (0, 0))) :
    Calls Tryz.prog 105 #[.slice a rs.length cap, .func (.func 106) #[] #[.pointer (some ⟨Mb, 0, none⟩), .pointer (some ⟨Rb, 0, none⟩)]] w fun e w' => e = .returned (.bool (!rs.all (recB nf hl))) ∧ Below w.heap.size w w' := by
  go_enter Tryz.func105, Tryz.ntmps105
  go_wp2_with fail
  refine (firstBadR_any a rs cap a1 a2 ha nt c1 nf c2 hl hcp Mb Rb _ hn hc hm hM hR).mono ?_
  rintro e w1 ⟨⟨i, rfl, hi⟩, hb⟩
  have HI : Hid (0 ≤ i ↔ rs.all (recB nf hl) = false) := hi
  clear hi
  go_wp2
  go_ret
  exact ⟨ret_bool (by rw [Bool.eq_iff_iff]; simpa using HI.out), hb⟩

set_option maxRecDepth 100000 in
set_option maxHeartbeats 1000000 in
theorem heapOk_any (a1 a2 : Option Addr) (nt c1 nf c2 : Nat) (ha : Option Addr) (rs : List (List Vl)) (hcp : Nat) (w : World) (hn : rs.length ≤ 1048576) (hc : ∀ r ∈ rs, ValsSmall r) (hm : RecsAt w 0 ha rs) :
    Calls Tryz.prog 72 #[.agg #[.slice a1 nt c1, .slice a2 nf c2], .slice ha rs.length hcp] w fun e w' => e = .returned (.bool (pB (HeapP nf rs))) ∧ Below w.heap.size w w' := by
  have hbA : Below w.heap.size w ((w.alloc (.cells #[.slice a1 nt c1, .slice a2 nf c2] 40)).alloc (.cells #[.slice ha rs.length hcp] 44)) := ((Below.refl _ _).alloc (Nat.le_refl _) _).alloc (by simp) _
  have hM0 := block_old (block_new w #[.slice a1 nt c1, .slice a2 nf c2] 40) (.cells #[.slice ha rs.length hcp] 44)
  have hR0 := block_new_at (w.alloc (.cells #[.slice a1 nt c1, .slice a2 nf c2] 40)) #[.slice ha rs.length hcp] 44 (w.heap.size + 1) (by simp)
  have r0 := block_cell hR0
  have hmf : ∀ (fn : Go.Fn) (first cap : Array Value) (w : World), (Instr.makeFunc fn first cap).run Tryz.prog w = .ok (.func fn first cap) w := fun _ _ _ _ => rfl
  by_cases h : rs.length ≤ 120
  case neg =>
    have g : ¬ (rs.length : Int) ≤ 120 := by omega
    have HN : Hid (¬ HeapP nf rs) := fun q => h q.1
    clear h
    go_enter Tryz.func72, Tryz.ntmps72
    go_wp2
    go_ret
    exact ⟨ret_bool (pB_no HN.out).symm, hbA⟩
  have g : (rs.length : Int) ≤ 120 := by omega
  have H : Hid (rs.length ≤ 120) := h
  clear h
  go_enter Tryz.func72, Tryz.ntmps72
  go_wp2_with fail
  refine (hasBadR_any ha rs hcp a1 a2 ha nt c1 nf c2 rs.length hcp _ _ _ hn hc (hm.mono hbA) hM0 hR0).mono ?_
  rintro e w1 ⟨rfl, hb⟩
  clear r0
  go_wp2
  go_ret
  exact ⟨ret_pB (by first | exact ⟨fun q => ⟨H.out, q⟩, fun q => q.2⟩ | (rw [Bool.not_not]; exact ⟨fun q => ⟨H.out, q⟩, fun q => q.2⟩)), hbA.trans (hb.mono hbA.size)⟩

set_option maxRecDepth 100000 in
set_option maxHeartbeats 4000000 in
theorem valuesOk_any (a1 a2 : Option Addr) (nt c1 nf c2 : Nat) (fa ha oa : Option Addr) (fc hcp oc : Nat) (d : VmD) (w : World) (hx : VmSmall d) (hm : VmAt w 0 fa ha oa d) :
    Calls Tryz.prog 73 #[.agg #[.slice a1 nt c1, .slice a2 nf c2], .agg (vmCells fa ha oa fc hcp oc d)] w fun e w' => Says (Vals1 nf d) e ∧ Below w.heap.size w w' := by
  have hbA : Below w.heap.size w ((w.alloc (.cells #[.slice a1 nt c1, .slice a2 nf c2] 40)).alloc (.cells #[.slice fa d.frames.length fc, .slice ha d.heap.length hcp, .int .i64 d.made, .slice oa d.out.length oc, .int .i64 d.status, .int .i64 d.trap, .int .i64 d.value.k, .int .i64 d.value.n, .string d.value.s, .int .i64 d.steps] 47)) := ((Below.refl _ _).alloc (Nat.le_refl _) _).alloc (by simp) _
  have hM0 := block_old (block_new w #[.slice a1 nt c1, .slice a2 nf c2] 40) (.cells #[.slice fa d.frames.length fc, .slice ha d.heap.length hcp, .int .i64 d.made, .slice oa d.out.length oc, .int .i64 d.status, .int .i64 d.trap, .int .i64 d.value.k, .int .i64 d.value.n, .string d.value.s, .int .i64 d.steps] 47)
  have hV0 := block_new_at (w.alloc (.cells #[.slice a1 nt c1, .slice a2 nf c2] 40)) #[.slice fa d.frames.length fc, .slice ha d.heap.length hcp, .int .i64 d.made, .slice oa d.out.length oc, .int .i64 d.status, .int .i64 d.trap, .int .i64 d.value.k, .int .i64 d.value.n, .string d.value.s, .int .i64 d.steps] 47 (w.heap.size + 1) (by simp)
  have hhl := hx.heap
  have hfl := hx.frames
  unfold vmCells
  go_enter Tryz.func73, Tryz.ntmps73
  go_wp2
  go_loopw [14] (fun i wr => ∃ (k : Nat), k ≤ d.frames.length ∧ i = .int .i64 k ∧ Hid ((d.frames.take k).all (frVals nf d.heap.length) = true) ∧ wr.heap[w.heap.size]? = some (.cells #[.slice a1 nt c1, .slice a2 nf c2] 40 (0, 0)) ∧ wr.heap[w.heap.size + 1]? = some (.cells #[.slice fa d.frames.length fc, .slice ha d.heap.length hcp, .int .i64 d.made, .slice oa d.out.length oc, .int .i64 d.status, .int .i64 d.trap, .int .i64 d.value.k, .int .i64 d.value.n, .string d.value.s, .int .i64 d.steps] 47 (0, 0)) ∧ Below w.heap.size w wr) (fun i _ => d.frames.length - (intOf i).toNat)
  case atStart => exact ⟨0, by omega, rfl, rfl, hM0, hV0, hbA⟩
  case round =>
    obtain ⟨k, hk, rfl, hall, hM, hV, hb⟩ := hrel
    clear hV0 hbA hM0
    by_cases hlt : k < d.frames.length
    · obtain ⟨b, off, la, lc, sa, sc, rfl, -, e1, e2, e3, e4, e5, e6⟩ := hm.frs k hlt
      have e1' := cell_later hb e1
      have e2' := cell_later hb e2
      have e3' := cell_later hb e3
      have e4' := cell_later hb e4
      clear e1 e2 e3 e4
      have hsl := hx.locals _ (List.getElem_mem hlt)
      have hss := hx.stack _ (List.getElem_mem hlt)
      have hMn := block_old hM (.cells #[.int .i64 d.frames[k].fn, .int .i64 d.frames[k].pc, .slice la d.frames[k].locals.length lc, .slice sa d.frames[k].stack.length sc] 110)
      have hVn := block_old hV (.cells #[.int .i64 d.frames[k].fn, .int .i64 d.frames[k].pc, .slice la d.frames[k].locals.length lc, .slice sa d.frames[k].stack.length sc] 110)
      have hXn := block_new wr #[.int .i64 d.frames[k].fn, .int .i64 d.frames[k].pc, .slice la d.frames[k].locals.length lc, .slice sa d.frames[k].stack.length sc] 110
      have hBn := hb.alloc hb.size (.cells #[.int .i64 d.frames[k].fn, .int .i64 d.frames[k].pc, .slice la d.frames[k].locals.length lc, .slice sa d.frames[k].stack.length sc] 110)
      have m1 := block_cell hMn
      go_wp2_with fail
      refine (allIn_any _ _ _ _ _ _ _ _ _ _ _ hsl (e5.mono hBn)).mono ?_
      rintro e w1 ⟨rfl, hb1⟩
      have hM1 := block_kept hMn hb1
      have hV1 := block_kept hVn hb1
      have hX1 := block_kept hXn hb1
      have hB1 := hBn.trans (hb1.mono hBn.size)
      clear e1' e2' e3' e4' hMn hVn hXn hBn m1 hb1 hM hV hb
      by_cases ho : valsB d.frames[k].locals nf d.heap.length = true
      case neg =>
        have ho' : valsB d.frames[k].locals nf d.heap.length = false := by simpa using ho
        have HO : Hid (valsB d.frames[k].locals nf d.heap.length = false) := ho'
        clear ho
        go_wp2
        go_ret
        exact ⟨Says.no rfl (fun h => by
          have h1 := h.1
          rw [all_no hlt (show frVals nf d.heap.length d.frames[k] = false by unfold frVals; rw [HO.out]; rfl)] at h1
          cases h1), hB1⟩
      have HO : Hid (valsB d.frames[k].locals nf d.heap.length = true) := ho
      have m1 := block_cell hM1
      have x1 := block_cell hX1
      go_wp2_with fail
      refine (allIn_any _ _ _ _ _ _ _ _ _ _ _ hss (e6.mono hB1)).mono ?_
      rintro e w2 ⟨rfl, hb2⟩
      have hM2 := block_kept hM1 hb2
      have hV2 := block_kept hV1 hb2
      have hB2 := hB1.trans (hb2.mono hB1.size)
      clear m1 x1 hM1 hV1 hX1 hB1 hb2 ho
      by_cases hu : valsB d.frames[k].stack nf d.heap.length = true
      · have HU : Hid (valsB d.frames[k].stack nf d.heap.length = true) := hu
        go_wp2
        go_roundw
        case rel => exact ⟨k + 1, by omega, by go_num, all_take hlt hall.out (by unfold frVals; rw [HO.out, HU.out]; rfl), hM2, hV2, hB2⟩
        case measure => simp [intOf]; omega
      · have hu' : valsB d.frames[k].stack nf d.heap.length = false := by simpa using hu
        have HU : Hid (valsB d.frames[k].stack nf d.heap.length = false) := hu'
        clear hu
        go_wp2
        go_ret
        exact ⟨Says.no rfl (fun h => by
          have h1 := h.1
          rw [all_no hlt (show frVals nf d.heap.length d.frames[k] = false by unfold frVals; rw [HU.out, Bool.and_false])] at h1
          cases h1), hB2⟩
    · have HF : Hid (d.frames.all (frVals nf d.heap.length) = true) := all_end (by omega) hall.out
      have v2 := block_cell hV
      have m2 := block_cell hM
      go_wp2_with fail
      refine (iIn_any _ _ _ _ _ _ _ _ _ _ _ hx.value).mono ?_
      rintro e w1 ⟨rfl, hb1⟩
      clear v2 m2
      go_wp2
      go_ret
      exact ⟨⟨_, rfl, ⟨fun h => ⟨HF.out, h⟩, fun h => h.2⟩⟩, hb.trans (hb1.mono hb.size)⟩
end Go.Proofs.YtmmcockkbhnopaaGreat

namespace Go.Proofs.YtmmcockkbhnopaaGreat
open Go.RowKit

set_option maxHeartbeats 400000 in
theorem szValueS_any (a : Option Addr) (vs : List Vl) (cap : Nat) (left : Int) (w : World) (h0 : 0 ≤ left) (h1 : left ≤ 1048576) (hx : ValsMax vs) (hm : ValsAt w 0 a vs) :
    Calls Tryz.prog 89 #[.slice a vs.length cap, .int .i64 left] w fun e w' => ∃ r : Int, e = .returned (.int .i64 r) ∧ r ≤ left ∧ (0 ≤ r → ValsSmall vs) ∧ Below w.heap.size w w' := by
  obtain ⟨hn, hc⟩ := hx
  have hn' := hn
  unfold maxLen at hn
  by_cases h : left < vs.length
  · go_enter Tryz.func89, Tryz.ntmps89
    go_wp2
    go_ret
    exact ⟨-1, rfl, by omega, by omega, Below.refl _ _⟩
  · go_enter Tryz.func89, Tryz.ntmps89
    go_wp2
    go_loopw [1, 5] (fun l i wr => ∃ (k : Nat) (q : Int), k ≤ vs.length ∧ i = .int .i64 k ∧ l = .int .i64 q ∧ 0 ≤ q ∧ q ≤ left - vs.length ∧ (∀ f ∈ vs.take k, f.s.size ≤ 1048576) ∧ Below w.heap.size w wr) (fun _ i _ => vs.length - (intOf i).toNat)
    case atStart => exact ⟨0, _, by omega, rfl, rfl, by omega, by omega, by simp, Below.refl _ _⟩
    case round =>
      obtain ⟨k, q, hk, rfl, rfl, hq0, hq1, hall, hb⟩ := hrel
      by_cases hlt : k < vs.length
      · obtain ⟨b, off, rfl, -, c1, c2, c3⟩ := hm k hlt
        have c1' := cell_later hb c1
        have c2' := cell_later hb c2
        have c3' := cell_later hb c3
        clear c1 c2 c3
        have hck := hc vs[k] (List.getElem_mem hlt)
        by_cases hs : q < vs[k].s.size
        · go_wp2_with (go_at_call 26; refine (szVal_any _ _ _ _ _ hq0 (by omega) hck).mono ?_; rintro e w' ⟨rfl, hb'⟩)
          go_ret
          exact ⟨_, rfl, by omega, by omega, hb.trans (hb'.mono hb.size)⟩
        · go_wp2_with (go_at_call 26; refine (szVal_any _ _ _ _ _ hq0 (by omega) hck).mono ?_; rintro e w' ⟨rfl, hb'⟩)
          go_roundw
          case rel => exact ⟨k + 1, q - vs[k].s.size, by omega, by go_num, by rw [if_neg (by omega)], by omega, by omega, take_succ_mem hlt hall (by omega), hb.trans (hb'.mono hb.size)⟩
          case measure => simp [intOf]; omega
      · go_wp2
        go_ret
        exact ⟨q, rfl, by omega, fun _ => ⟨by omega, by rwa [List.take_of_length_le (by omega)] at hall⟩, hb⟩

set_option maxHeartbeats 400000 in
theorem szRec_any (a : Option Addr) (vs : List Vl) (cap : Nat) (left : Int) (w : World) (h0 : 0 ≤ left) (h1 : left ≤ 1048576) (hx : ValsMax vs) (hm : ValsAt w 0 a vs) :
    Calls Tryz.prog 54 #[.agg #[.slice a vs.length cap], .int .i64 left] w fun e w' => ∃ r : Int, e = .returned (.int .i64 r) ∧ r ≤ left ∧ (0 ≤ r → ValsSmall vs) ∧ Below w.heap.size w w' := by
  have hbA : Below w.heap.size w (w.alloc (.cells #[.slice a vs.length cap] 99)) := (Below.refl _ _).alloc (Nat.le_refl _) _
  go_enter Tryz.func54, Tryz.ntmps54
  go_wp2_with fail
  refine (szValueS_any a vs cap left _ h0 h1 hx (hm.mono hbA)).mono ?_
  rintro e w1 ⟨r, rfl, hr, hs, hb⟩
  have hB := hbA.trans (hb.mono hbA.size)
  by_cases hr0 : r < 0
  · go_wp2
    go_ret
    exact ⟨-1, rfl, by omega, by omega, hB⟩
  · go_wp2
    go_ret
    exact ⟨r, rfl, hr, hs, hB⟩

set_option maxHeartbeats 400000 in
theorem szFrame_any (f p : Int) (a a2 : Option Addr) (vs us : List Vl) (cap cap2 : Nat) (left : Int) (w : World) (h0 : 0 ≤ left) (h1 : left ≤ 1048576) (hx : ValsMax vs) (hx2 : ValsMax us) (hm : ValsAt w 0 a vs) (hm2 : ValsAt w 0 a2 us) :
    Calls Tryz.prog 53 #[.agg #[.int .i64 f, .int .i64 p, .slice a vs.length cap, .slice a2 us.length cap2], .int .i64 left] w fun e w' => ∃ r : Int, e = .returned (.int .i64 r) ∧ r ≤ left ∧ (0 ≤ r → ValsSmall vs ∧ ValsSmall us) ∧ Below w.heap.size w w' := by
  have hbA : Below w.heap.size w (w.alloc (.cells #[.int .i64 f, .int .i64 p, .slice a vs.length cap, .slice a2 us.length cap2] 96)) := (Below.refl _ _).alloc (Nat.le_refl _) _
  have hM0 := block_new w #[.int .i64 f, .int .i64 p, .slice a vs.length cap, .slice a2 us.length cap2] 96
  go_enter Tryz.func53, Tryz.ntmps53
  go_wp2_with fail
  refine (szValueS_any a vs cap left _ h0 h1 hx (hm.mono hbA)).mono ?_
  rintro e w1 ⟨r, rfl, hr, hs, hb⟩
  have hB := hbA.trans (hb.mono hbA.size)
  by_cases hr0 : r < 0
  · go_wp2
    go_ret
    exact ⟨-1, rfl, by omega, by omega, hB⟩
  · have y := block_cell (block_kept hM0 hb)
    go_wp2_with fail
    refine (szValueS_any a2 us cap2 r _ (by omega) (by omega) hx2 (hm2.mono hB)).mono ?_
    rintro e w2 ⟨r2, rfl, hr2, hs2, hb2⟩
    have hB2 := hB.trans (hb2.mono hB.size)
    clear y
    by_cases hr0 : r2 < 0
    · go_wp2
      go_ret
      exact ⟨-1, rfl, by omega, by omega, hB2⟩
    · go_wp2
      go_ret
      exact ⟨r2, rfl, by omega, fun _ => ⟨hs (by omega), hs2 (by omega)⟩, hB2⟩

set_option maxHeartbeats 400000 in
theorem szRecS_any (a : Option Addr) (rs : List (List Vl)) (cap : Nat) (left : Int) (w : World) (h0 : 0 ≤ left) (h1 : left ≤ 1048576) (hn : rs.length ≤ maxLen) (hc : ∀ r ∈ rs, ValsMax r) (hm : RecsAt w 0 a rs) :
    Calls Tryz.prog 25 #[.slice a rs.length cap, .int .i64 left] w fun e w' => ∃ r : Int, e = .returned (.int .i64 r) ∧ r ≤ left ∧ (0 ≤ r → rs.length ≤ 1048576 ∧ ∀ r ∈ rs, ValsSmall r) ∧ Below w.heap.size w w' := by
  unfold maxLen at hn
  by_cases h : left < rs.length
  · go_enter Tryz.func25, Tryz.ntmps25
    go_wp2
    go_ret
    exact ⟨-1, rfl, by omega, by omega, Below.refl _ _⟩
  · go_enter Tryz.func25, Tryz.ntmps25
    go_wp2
    go_loopw [1, 5] (fun l i wr => ∃ (k : Nat) (q : Int), k ≤ rs.length ∧ i = .int .i64 k ∧ l = .int .i64 q ∧ 0 ≤ q ∧ q ≤ left - rs.length ∧ Hid (∀ f ∈ rs.take k, ValsSmall f) ∧ Below w.heap.size w wr) (fun _ i _ => rs.length - (intOf i).toNat)
    case atStart => exact ⟨0, _, by omega, rfl, rfl, by omega, by omega, by intro f hf; simp at hf, Below.refl _ _⟩
    case round =>
      obtain ⟨k, q, hk, rfl, rfl, hq0, hq1, hall, hb⟩ := hrel
      by_cases hlt : k < rs.length
      · obtain ⟨b, off, fa, fc, rfl, -, c1, c2⟩ := hm k hlt
        have c1' := cell_later hb c1
        clear c1
        have hck := hc rs[k] (List.getElem_mem hlt)
        go_wp2_with fail
        refine (szRec_any _ _ _ _ _ hq0 (by omega) hck (c2.mono hb)).mono ?_
        rintro e w2 ⟨r, rfl, hr, hs, hb'⟩
        have hB := hb.trans (hb'.mono hb.size)
        clear c1' hb' c2
        by_cases hr0 : r < 0
        · go_wp2
          go_ret
          exact ⟨-1, rfl, by omega, by omega, hB⟩
        · go_wp2
          go_roundw
          case rel => exact ⟨k + 1, r, by omega, by go_num, rfl, by omega, by omega, take_succ_mem hlt hall.out (hs (by omega)), hB⟩
          case measure => simp [intOf]; omega
      · go_wp2
        go_ret
        exact ⟨q, rfl, by omega, fun _ => ⟨by omega, by have := hall.out; rwa [List.take_of_length_le (by omega)] at this⟩, hb⟩

set_option maxHeartbeats 400000 in
theorem szFrameS_any (a : Option Addr) (fr : List Fr) (cap : Nat) (left : Int) (w : World) (h0 : 0 ≤ left) (h1 : left ≤ 1048576) (hn : fr.length ≤ maxLen) (hc : ∀ f ∈ fr, ValsMax f.locals) (hc2 : ∀ f ∈ fr, ValsMax f.stack) (hm : FrsAt w 0 a fr) :
    Calls Tryz.prog 24 #[.slice a fr.length cap, .int .i64 left] w fun e w' => ∃ r : Int, e = .returned (.int .i64 r) ∧ r ≤ left ∧ (0 ≤ r → fr.length ≤ 1048576 ∧ ∀ f ∈ fr, ValsSmall f.locals ∧ ValsSmall f.stack) ∧ Below w.heap.size w w' := by
  unfold maxLen at hn
  by_cases h : left < fr.length
  · go_enter Tryz.func24, Tryz.ntmps24
    go_wp2
    go_ret
    exact ⟨-1, rfl, by omega, by omega, Below.refl _ _⟩
  · go_enter Tryz.func24, Tryz.ntmps24
    go_wp2
    go_loopw [1, 5] (fun l i wr => ∃ (k : Nat) (q : Int), k ≤ fr.length ∧ i = .int .i64 k ∧ l = .int .i64 q ∧ 0 ≤ q ∧ q ≤ left - fr.length ∧ Hid (∀ f ∈ fr.take k, ValsSmall f.locals ∧ ValsSmall f.stack) ∧ Below w.heap.size w wr) (fun _ i _ => fr.length - (intOf i).toNat)
    case atStart => exact ⟨0, _, by omega, rfl, rfl, by omega, by omega, by intro f hf; simp at hf, Below.refl _ _⟩
    case round =>
      obtain ⟨k, q, hk, rfl, rfl, hq0, hq1, hall, hb⟩ := hrel
      by_cases hlt : k < fr.length
      · obtain ⟨b, off, la, lc, sa, sc, rfl, -, c1, c2, c3, c4, c5, c6⟩ := hm k hlt
        have c1' := cell_later hb c1
        have c2' := cell_later hb c2
        have c3' := cell_later hb c3
        have c4' := cell_later hb c4
        clear c1 c2 c3 c4
        have hck := hc fr[k] (List.getElem_mem hlt)
        have hck2 := hc2 fr[k] (List.getElem_mem hlt)
        go_wp2_with fail
        refine (szFrame_any _ _ _ _ _ _ _ _ _ _ hq0 (by omega) hck hck2 (c5.mono hb) (c6.mono hb)).mono ?_
        rintro e w2 ⟨r, rfl, hr, hs, hb'⟩
        have hB := hb.trans (hb'.mono hb.size)
        clear c1' c2' c3' c4' hb' c5 c6
        by_cases hr0 : r < 0
        · go_wp2
          go_ret
          exact ⟨-1, rfl, by omega, by omega, hB⟩
        · go_wp2
          go_roundw
          case rel => exact ⟨k + 1, r, by omega, by go_num, rfl, by omega, by omega, take_succ_mem (p := fun f => ValsSmall f.locals ∧ ValsSmall f.stack) hlt hall.out (hs (by omega)), hB⟩
          case measure => simp [intOf]; omega
      · go_wp2
        go_ret
        exact ⟨q, rfl, by omega, fun _ => ⟨by omega, by have := hall.out; rwa [List.take_of_length_le (by omega)] at this⟩, hb⟩
end Go.Proofs.YtmmcockkbhnopaaGreat
namespace Go.Proofs.YtmmcockkbhnopaaGreat
open Go.RowKit

set_option maxRecDepth 100000 in
set_option maxHeartbeats 1000000 in
theorem szVm_any (fa ha oa : Option Addr) (fc hcp oc : Nat) (d : VmD) (left : Int) (w : World) (h0 : 0 ≤ left) (h1 : left ≤ 1048576) (hx : VmMax d) (hf : FrsAt w 0 fa d.frames) (hh : RecsAt w 0 ha d.heap) (ho : StrsAt w 0 oa d.out) :
    Calls Tryz.prog 7 #[.agg #[.slice fa d.frames.length fc, .slice ha d.heap.length hcp, .int .i64 d.made, .slice oa d.out.length oc, .int .i64 d.status, .int .i64 d.trap, .int .i64 d.value.k, .int .i64 d.value.n, .string d.value.s, .int .i64 d.steps], .int .i64 left] w fun e w' => ∃ r : Int, e = .returned (.int .i64 r) ∧ r ≤ left ∧ (0 ≤ r → VmSmall d) ∧ Below w.heap.size w w' := by
  have hbA : Below w.heap.size w (w.alloc (.cells #[.slice fa d.frames.length fc, .slice ha d.heap.length hcp, .int .i64 d.made, .slice oa d.out.length oc, .int .i64 d.status, .int .i64 d.trap, .int .i64 d.value.k, .int .i64 d.value.n, .string d.value.s, .int .i64 d.steps] 32)) := (Below.refl _ _).alloc (Nat.le_refl _) _
  have hM0 := block_new w #[.slice fa d.frames.length fc, .slice ha d.heap.length hcp, .int .i64 d.made, .slice oa d.out.length oc, .int .i64 d.status, .int .i64 d.trap, .int .i64 d.value.k, .int .i64 d.value.n, .string d.value.s, .int .i64 d.steps] 32
  go_enter Tryz.func7, Tryz.ntmps7
  go_wp2_with fail
  refine (szFrameS_any fa d.frames fc left _ h0 h1 hx.frames hx.locals hx.stack (hf.mono hbA)).mono ?_
  rintro e w1 ⟨r1, rfl, hr1, hs1, hb1⟩
  have hB1 := hbA.trans (hb1.mono hbA.size)
  have hM1 := block_kept hM0 hb1
  clear hM0 hb1 hbA
  by_cases hn1 : r1 < 0
  · go_wp2
    go_ret
    exact ⟨-1, rfl, by omega, by omega, hB1⟩
  have y1 := block_cell hM1
  go_wp2_with fail
  refine (szRecS_any ha d.heap hcp r1 _ (by omega) (by omega) hx.heap hx.fields (hh.mono hB1)).mono ?_
  rintro e w2 ⟨r2, rfl, hr2, hs2, hb2⟩
  have hB2 := hB1.trans (hb2.mono hB1.size)
  have hM2 := block_kept hM1 hb2
  clear hM1 hb2 hB1 y1
  by_cases hn2 : r2 < 0
  · go_wp2
    go_ret
    exact ⟨-1, rfl, by omega, by omega, hB2⟩
  have y2 := block_cell hM2
  go_wp2_with fail
  refine (szStringS_any oa d.out oc r2 _ (by omega) (by omega) hx.out hx.text (ho.mono hB2)).mono ?_
  rintro e w3 ⟨r3, rfl, hr3, hs3, hb3⟩
  have hB3 := hB2.trans (hb3.mono hB2.size)
  have hM3 := block_kept hM2 hb3
  clear hM2 hb3 hB2 y2
  by_cases hn3 : r3 < 0
  · go_wp2
    go_ret
    exact ⟨-1, rfl, by omega, by omega, hB3⟩
  have y3 := block_cell hM3
  go_wp2_with fail
  refine (szVal_any _ _ _ _ _ (by omega) (by omega) hx.value).mono ?_
  rintro e w4 ⟨rfl, hb4⟩
  have hB4 := hB3.trans (hb4.mono hB3.size)
  clear hM3 hb4 hB3 y3
  by_cases hn4 : r3 < (d.value.s.size : Int)
  · rw [if_pos hn4]
    go_wp2
    go_ret
    exact ⟨-1, rfl, by omega, by omega, hB4⟩
  · rw [if_neg hn4]
    have hn5 : ¬ (r3 - (d.value.s.size : Int)) < 0 := by omega
    go_wp2
    go_ret
    exact ⟨_, rfl, by omega, fun _ => ⟨(hs1 (by omega)).1, fun f hf => ((hs1 (by omega)).2 f hf).1, fun f hf => ((hs1 (by omega)).2 f hf).2, (hs2 (by omega)).1, (hs2 (by omega)).2, (hs3 (by omega)).1, (hs3 (by omega)).2, by omega⟩, hB4⟩
end Go.Proofs.YtmmcockkbhnopaaGreat
