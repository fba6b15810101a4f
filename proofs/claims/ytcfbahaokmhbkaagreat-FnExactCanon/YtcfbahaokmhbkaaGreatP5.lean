/-
  Whether two states are the same: the document's l06Same.
-/
import Derived.Test.YtcfbahaokmhbkaaGreatKC24
import Derived.Deep.RegionHeld3
namespace Go.Proofs.YtcfbahaokmhbkaaGreat
open Go.RowKit

set_option maxRecDepth 100000 in
set_option maxHeartbeats 4000000 in
theorem sSame_any (x y : VmD) (fa ha oa fb hb ob : Option Addr) (fc hc oc fd hd od : Nat) (w : World) (hx : VmSmall x) (hm1 : VmAt w 0 fa ha oa x) (hm2 : VmAt w 0 fb hb ob y) :
    Calls Tryz.prog 73 #[.agg (vmCells fa ha oa fc hc oc x), .agg (vmCells fb hb ob fd hd od y)] w fun e w' => e = .returned (.bool (pB (x = y))) ∧ Below w.heap.size w w' := by
  obtain ⟨P, hP⟩ : ∃ P : Prop, (x = y) = P := ⟨_, rfl⟩
  rw [hP]
  have HE : Hid (P ↔ x.made = y.made ∧ x.status = y.status ∧ x.trap = y.trap ∧ x.value = y.value ∧ x.steps = y.steps ∧ x.frames = y.frames ∧ x.heap = y.heap ∧ x.out = y.out) := by
    show _ ↔ _
    rw [← hP]
    exact vm_eq
  clear hP
  unfold vmCells
  have hb2 : ∀ a b, Below w.heap.size w ((w.alloc a).alloc b) := fun a b => ((Below.refl _ _).alloc (Nat.le_refl _) _).alloc (by simp) _
  have hg36 := guard36
  have e36 := eqIn36 x.value y.value
  obtain ⟨m1, hm1e⟩ : ∃ m, m = x.made := ⟨_, rfl⟩
  obtain ⟨m2, hm2e⟩ : ∃ m, m = y.made := ⟨_, rfl⟩
  obtain ⟨s1, hs1e⟩ : ∃ m, m = x.status := ⟨_, rfl⟩
  obtain ⟨s2, hs2e⟩ : ∃ m, m = y.status := ⟨_, rfl⟩
  obtain ⟨t1, ht1e⟩ : ∃ m, m = x.trap := ⟨_, rfl⟩
  obtain ⟨t2, ht2e⟩ : ∃ m, m = y.trap := ⟨_, rfl⟩
  obtain ⟨z1, hz1e⟩ : ∃ m, m = x.steps := ⟨_, rfl⟩
  obtain ⟨z2, hz2e⟩ : ∃ m, m = y.steps := ⟨_, rfl⟩
  rw [← hm1e, ← hm2e, ← hs1e, ← hs2e, ← ht1e, ← ht2e, ← hz1e, ← hz2e] at HE ⊢
  clear hm1e hm2e hs1e hs2e ht1e ht2e hz1e hz2e
  by_cases q1 : m1 = m2
  case neg =>
    have Q := hid q1
    go_enter Tryz.func73, Tryz.ntmps73
    go_wp2
    go_ret
    exact ⟨by rw [pB_no (fun h => Q.out (HE.out.1 h).1)]; rfl, hb2 _ _⟩
  subst q1
  by_cases q2 : s1 = s2
  case neg =>
    have Q := hid q2
    go_enter Tryz.func73, Tryz.ntmps73
    go_wp2
    go_ret
    exact ⟨by rw [pB_no (fun h => Q.out (HE.out.1 h).2.1)]; rfl, hb2 _ _⟩
  subst q2
  by_cases q3 : t1 = t2
  case neg =>
    have Q := hid q3
    go_enter Tryz.func73, Tryz.ntmps73
    go_wp2
    go_ret
    exact ⟨by rw [pB_no (fun h => Q.out (HE.out.1 h).2.2.1)]; rfl, hb2 _ _⟩
  subst q3
  by_cases q4 : x.value = y.value
  case neg =>
    have Q := hid q4
    rw [pB_no q4] at e36
    clear q4
    go_enter Tryz.func73, Tryz.ntmps73
    go_wp2
    go_ret
    exact ⟨by rw [pB_no (fun h => Q.out (HE.out.1 h).2.2.2.1)]; rfl, hb2 _ _⟩
  have Q4 := hid q4
  rw [pB_yes q4] at e36
  clear q4
  by_cases q5 : z1 = z2
  case neg =>
    have Q := hid q5
    go_enter Tryz.func73, Tryz.ntmps73
    go_wp2
    go_ret
    exact ⟨by rw [pB_no (fun h => Q.out (HE.out.1 h).2.2.2.2.1)]; rfl, hb2 _ _⟩
  subst q5
  have hol := hx.out
  have hhl := hx.heap
  have hfl := hx.frames
  by_cases q6 : x.out.length = y.out.length
  case neg =>
    have Q := hid q6
    have hl' : ¬ ((x.out.length : Nat) : Int) = ((y.out.length : Nat) : Int) := by omega
    clear q6
    go_enter Tryz.func73, Tryz.ntmps73
    go_wp2
    go_ret
    exact ⟨by rw [pB_no (fun h => Q.out (by rw [(HE.out.1 h).2.2.2.2.2.2.2]))]; rfl, hb2 _ _⟩
  by_cases q7 : x.heap.length = y.heap.length
  case neg =>
    have Q := hid q7
    have hl0 : ((x.out.length : Nat) : Int) = ((y.out.length : Nat) : Int) := by omega
    have hl' : ¬ ((x.heap.length : Nat) : Int) = ((y.heap.length : Nat) : Int) := by omega
    clear q6 q7
    go_enter Tryz.func73, Tryz.ntmps73
    go_wp2
    go_ret
    exact ⟨by rw [pB_no (fun h => Q.out (by rw [(HE.out.1 h).2.2.2.2.2.2.1]))]; rfl, hb2 _ _⟩
  by_cases q8 : x.frames.length = y.frames.length
  case neg =>
    have Q := hid q8
    have hl0 : ((x.out.length : Nat) : Int) = ((y.out.length : Nat) : Int) := by omega
    have hl1 : ((x.heap.length : Nat) : Int) = ((y.heap.length : Nat) : Int) := by omega
    have hl' : ¬ ((x.frames.length : Nat) : Int) = ((y.frames.length : Nat) : Int) := by omega
    clear q6 q7 q8
    go_enter Tryz.func73, Tryz.ntmps73
    go_wp2
    go_ret
    exact ⟨by rw [pB_no (fun h => Q.out (by rw [(HE.out.1 h).2.2.2.2.2.1]))]; rfl, hb2 _ _⟩
  have Q6 := hid q6
  have Q7 := hid q7
  have Q8 := hid q8
  have hl0 : ((x.out.length : Nat) : Int) = ((y.out.length : Nat) : Int) := by omega
  have hl1 : ((x.heap.length : Nat) : Int) = ((y.heap.length : Nat) : Int) := by omega
  have hl2 : ((x.frames.length : Nat) : Int) = ((y.frames.length : Nat) : Int) := by omega
  obtain ⟨wA, hwA⟩ : ∃ wA, wA = (w.alloc (.cells #[.slice fa x.frames.length fc, .slice ha x.heap.length hc, .int .i64 m1, .slice oa x.out.length oc, .int .i64 s1, .int .i64 t1, .int .i64 x.value.k, .int .i64 x.value.n, .string x.value.s, .int .i64 z1] 38)).alloc (.cells #[.slice fb y.frames.length fd, .slice hb y.heap.length hd, .int .i64 m1, .slice ob y.out.length od, .int .i64 s1, .int .i64 t1, .int .i64 y.value.k, .int .i64 y.value.n, .string y.value.s, .int .i64 z1] 38) := ⟨_, rfl⟩
  have hbA : Below w.heap.size w wA := by rw [hwA]; exact hb2 _ _
  have hX : wA.heap[w.heap.size]? = some (.cells #[.slice fa x.frames.length fc, .slice ha x.heap.length hc, .int .i64 m1, .slice oa x.out.length oc, .int .i64 s1, .int .i64 t1, .int .i64 x.value.k, .int .i64 x.value.n, .string x.value.s, .int .i64 z1] 38 (0, 0)) := by rw [hwA]; exact block_old (block_new _ _ _) _
  have hY : wA.heap[w.heap.size + 1]? = some (.cells #[.slice fb y.frames.length fd, .slice hb y.heap.length hd, .int .i64 m1, .slice ob y.out.length od, .int .i64 s1, .int .i64 t1, .int .i64 y.value.k, .int .i64 y.value.n, .string y.value.s, .int .i64 z1] 38 (0, 0)) := by rw [hwA]; exact block_new_at _ _ _ _ (by simp)
  go_enter Tryz.func73, Tryz.ntmps73
  clear q6 q7 q8
  go_wp2
  rw [← hwA]
  clear hwA hl0 hl1 hl2 e36 hg36 hb2
  go_loopw [5] (fun i wr => ∃ (k : Nat), k ≤ x.out.length ∧ i = .int .i64 k ∧ Hid (x.out.take k = y.out.take k) ∧ wr.heap[w.heap.size]? = some (.cells #[.slice fa x.frames.length fc, .slice ha x.heap.length hc, .int .i64 m1, .slice oa x.out.length oc, .int .i64 s1, .int .i64 t1, .int .i64 x.value.k, .int .i64 x.value.n, .string x.value.s, .int .i64 z1] 38 (0, 0)) ∧ wr.heap[w.heap.size + 1]? = some (.cells #[.slice fb y.frames.length fd, .slice hb y.heap.length hd, .int .i64 m1, .slice ob y.out.length od, .int .i64 s1, .int .i64 t1, .int .i64 y.value.k, .int .i64 y.value.n, .string y.value.s, .int .i64 z1] 38 (0, 0)) ∧ Below w.heap.size w wr) (fun i _ => x.out.length - (intOf i).toNat)
  case atStart => exact ⟨0, by omega, rfl, rfl, hX, hY, hbA⟩
  case round =>
    obtain ⟨k, hk, rfl, HT, hXr, hYr, hbr⟩ := hrel
    clear hX hY hbA
    have x1 := block_cell hXr
    have y1 := block_cell hYr
    by_cases hlt : k < x.out.length
    · have hlt2 : k < y.out.length := by have := Q6.out; omega
      obtain ⟨b, off, rfl, -, d1⟩ := hm1.out k hlt
      obtain ⟨b2, off2, rfl, -, g1⟩ := hm2.out k hlt2
      have d1' := cell_later hbr d1
      have g1' := cell_later hbr g1
      clear d1 g1
      by_cases he : x.out[k] = y.out[k]
      · have HE2 := hid he
        have hq : (x.out[k].toList == y.out[k].toList) = true := by rw [bytes_eq, pB_yes he]
        clear he
        go_wp2
        go_quiet (fail)
        have hbd : Below wr.heap.size wr (wr.drewN nq) := below_drewN (Below.refl _ _) nq
        go_wp2
        go_roundw
        case rel => exact ⟨k + 1, by omega, by go_num, take_eq hlt hlt2 HT.out HE2.out, block_kept hXr hbd, block_kept hYr hbd, hbr.trans (hbd.mono hbr.size)⟩
        case measure => simp [intOf]; omega
      · have HE2 := hid he
        have hq : (x.out[k].toList == y.out[k].toList) = false := by rw [bytes_eq, pB_no he]
        clear he
        go_wp2
        go_quiet (fail)
        have hbq := below_drewN hbr nq
        go_wp2
        go_ret
        exact ⟨by rw [pB_no (fun h => at_ne hlt hlt2 HE2.out (HE.out.1 h).2.2.2.2.2.2.2)]; rfl, hbq⟩
    · have QO : Hid (x.out = y.out) := take_all (by omega) (by have := Q6.out; omega) HT.out
      clear HT
      go_wp2
      go_loopw [6] (fun i wr => ∃ (k : Nat), k ≤ x.heap.length ∧ i = .int .i64 k ∧ Hid (x.heap.take k = y.heap.take k) ∧ wr.heap[w.heap.size]? = some (.cells #[.slice fa x.frames.length fc, .slice ha x.heap.length hc, .int .i64 m1, .slice oa x.out.length oc, .int .i64 s1, .int .i64 t1, .int .i64 x.value.k, .int .i64 x.value.n, .string x.value.s, .int .i64 z1] 38 (0, 0)) ∧ wr.heap[w.heap.size + 1]? = some (.cells #[.slice fb y.frames.length fd, .slice hb y.heap.length hd, .int .i64 m1, .slice ob y.out.length od, .int .i64 s1, .int .i64 t1, .int .i64 y.value.k, .int .i64 y.value.n, .string y.value.s, .int .i64 z1] 38 (0, 0)) ∧ Below w.heap.size w wr) (fun i _ => x.heap.length - (intOf i).toNat)
      case atStart => exact ⟨0, by omega, rfl, rfl, hXr, hYr, hbr⟩
      case round =>
        obtain ⟨k2, hk2, rfl, HT2, hXs, hYs, hbs⟩ := hrel
        clear hXr hYr hbr x1 y1
        have x1 := block_cell hXs
        have y1 := block_cell hYs
        by_cases hlt : k2 < x.heap.length
        · have hlt2 : k2 < y.heap.length := by have := Q7.out; omega
          obtain ⟨b, off, pa, pc, rfl, -, d1, hvp⟩ := hm1.recs k2 hlt
          obtain ⟨b2, off2, qa, qc, rfl, -, g1, hvq⟩ := hm2.recs k2 hlt2
          obtain ⟨wz, hwz⟩ : ∃ wz, wz = wr := ⟨_, rfl⟩
          subst hwz
          have hS : ∀ w', Below wz.heap.size wz w' → w'.cell? ⟨w.heap.size, 1, none⟩ = some (.slice (some ⟨b, off, none⟩) x.heap.length hc) ∧ w'.cell? ⟨b, off + k2, none⟩ = some (.slice pa x.heap[k2].length pc) ∧ w'.cell? ⟨w.heap.size + 1, 1, none⟩ = some (.slice (some ⟨b2, off2, none⟩) y.heap.length hd) ∧ w'.cell? ⟨b2, off2 + k2, none⟩ = some (.slice qa y.heap[k2].length qc) := fun w' q => ⟨by rw [block_cell (block_kept hXs q)]; rfl, cell_later (hbs.trans (q.mono hbs.size)) d1, by rw [block_cell (block_kept hYs q)]; rfl, cell_later (hbs.trans (q.mono hbs.size)) g1⟩
          have HS := hid hS
          obtain ⟨j0, j1, j2, j3⟩ := hS wz (Below.refl _ _)
          have HXs := hid hXs
          have HYs := hid hYs
          have HBs := hid hbs
          have HVP := hid hvp
          have HVQ := hid hvq
          have hsz := (hx.fields _ (List.getElem_mem hlt)).1
          clear hS d1 g1 hvp hvq hXs hYs hbs x1 y1
          have q : Below wz.heap.size wz wz.drew := (Below.refl _ _).drew
          by_cases he : x.heap[k2] = y.heap[k2]
          · have HE2 := hid he
            have p1 : pB (x.heap[k2] = y.heap[k2]) = true := pB_yes he
            have p2 : (!pB (x.heap[k2] = y.heap[k2])) = false := by rw [p1]; rfl
            clear he
            go_wp2
            go_region_held3 (fun w' => w'.cell? ⟨w.heap.size, 1, none⟩ = some (.slice (some ⟨b, off, none⟩) x.heap.length hc) ∧ w'.cell? ⟨b, off + k2, none⟩ = some (.slice pa x.heap[k2].length pc) ∧ w'.cell? ⟨w.heap.size + 1, 1, none⟩ = some (.slice (some ⟨b2, off2, none⟩) y.heap.length hd) ∧ w'.cell? ⟨b2, off2 + k2, none⟩ = some (.slice qa y.heap[k2].length qc))
              (first | exact ⟨j0, j1, j2, j3⟩ | exact HS.out _ q)
              (first
                | (go_at_call 110; refine (sVals_any pa qa x.heap[k2] y.heap[k2] pc qc _ hsz (HVP.out.mono (HBs.out.trans (q.mono HBs.out.size))) (HVQ.out.mono (HBs.out.trans (q.mono HBs.out.size)))).mono ?_; rintro e w5 ⟨rfl, kd⟩; have q := q.trans (kd.mono q.size)))
            have hbz := HBs.out.trans (q.mono HBs.out.size)
            have hX5 := block_kept HXs.out q
            have hY5 := block_kept HYs.out q
            clear HS j0 j1 j2 j3 p1 p2
            go_wp2
            go_roundw
            case rel => exact ⟨k2 + 1, by omega, by go_num, take_eq hlt hlt2 HT2.out HE2.out, hX5, hY5, hbz⟩
            case measure => simp [intOf]; omega
          · have HE2 := hid he
            have p1 : pB (x.heap[k2] = y.heap[k2]) = false := pB_no he
            have p2 : (!pB (x.heap[k2] = y.heap[k2])) = true := by rw [p1]; rfl
            clear he
            go_wp2
            go_region_held3 (fun w' => w'.cell? ⟨w.heap.size, 1, none⟩ = some (.slice (some ⟨b, off, none⟩) x.heap.length hc) ∧ w'.cell? ⟨b, off + k2, none⟩ = some (.slice pa x.heap[k2].length pc) ∧ w'.cell? ⟨w.heap.size + 1, 1, none⟩ = some (.slice (some ⟨b2, off2, none⟩) y.heap.length hd) ∧ w'.cell? ⟨b2, off2 + k2, none⟩ = some (.slice qa y.heap[k2].length qc))
              (first | exact ⟨j0, j1, j2, j3⟩ | exact HS.out _ q)
              (first
                | (go_at_call 110; refine (sVals_any pa qa x.heap[k2] y.heap[k2] pc qc _ hsz (HVP.out.mono (HBs.out.trans (q.mono HBs.out.size))) (HVQ.out.mono (HBs.out.trans (q.mono HBs.out.size)))).mono ?_; rintro e w5 ⟨rfl, kd⟩; have q := q.trans (kd.mono q.size)))
            have hbz := HBs.out.trans (q.mono HBs.out.size)
            clear HS j0 j1 j2 j3 p1 p2
            go_wp2
            go_ret
            exact ⟨by rw [pB_no (fun h => at_ne hlt hlt2 HE2.out (HE.out.1 h).2.2.2.2.2.2.1)]; rfl, hbz⟩
        · have QH : Hid (x.heap = y.heap) := take_all (by omega) (by have := Q7.out; omega) HT2.out
          clear HT2
          go_wp2
          go_loopw [7] (fun i wr => ∃ (k : Nat), k ≤ x.frames.length ∧ i = .int .i64 k ∧ Hid (x.frames.take k = y.frames.take k) ∧ wr.heap[w.heap.size]? = some (.cells #[.slice fa x.frames.length fc, .slice ha x.heap.length hc, .int .i64 m1, .slice oa x.out.length oc, .int .i64 s1, .int .i64 t1, .int .i64 x.value.k, .int .i64 x.value.n, .string x.value.s, .int .i64 z1] 38 (0, 0)) ∧ wr.heap[w.heap.size + 1]? = some (.cells #[.slice fb y.frames.length fd, .slice hb y.heap.length hd, .int .i64 m1, .slice ob y.out.length od, .int .i64 s1, .int .i64 t1, .int .i64 y.value.k, .int .i64 y.value.n, .string y.value.s, .int .i64 z1] 38 (0, 0)) ∧ Below w.heap.size w wr) (fun i _ => x.frames.length - (intOf i).toNat)
          case atStart => exact ⟨0, by omega, rfl, rfl, hXs, hYs, hbs⟩
          case round =>
            obtain ⟨k3, hk3, rfl, HT3, hXt, hYt, hbt⟩ := hrel
            clear hXs hYs hbs x1 y1
            have x1 := block_cell hXt
            have y1 := block_cell hYt
            by_cases hlt : k3 < x.frames.length
            · have hlt2 : k3 < y.frames.length := by have := Q8.out; omega
              obtain ⟨b, off, pa, pc, pb, pd, rfl, -, d1, d2, d3, d4, hvp, hvp2⟩ := hm1.frs k3 hlt
              obtain ⟨b2, off2, qa, qc, qb, qd, rfl, -, g1, g2, g3, g4, hvq, hvq2⟩ := hm2.frs k3 hlt2
              have hsl := (hx.locals _ (List.getElem_mem hlt)).1
              have hss := (hx.stack _ (List.getElem_mem hlt)).1
              obtain ⟨u1, hu1⟩ : ∃ u, u = x.frames[k3].fn := ⟨_, rfl⟩
              obtain ⟨u2, hu2⟩ : ∃ u, u = y.frames[k3].fn := ⟨_, rfl⟩
              obtain ⟨v1, hv1⟩ : ∃ u, u = x.frames[k3].pc := ⟨_, rfl⟩
              obtain ⟨v2, hv2⟩ : ∃ u, u = y.frames[k3].pc := ⟨_, rfl⟩
              have HF : Hid (x.frames[k3] = y.frames[k3] ↔ u1 = u2 ∧ v1 = v2 ∧ x.frames[k3].locals = y.frames[k3].locals ∧ x.frames[k3].stack = y.frames[k3].stack) := by
                show _ ↔ _
                rw [hu1, hu2, hv1, hv2]
                exact fr_eq
              rw [← hu1] at d1
              rw [← hu2] at g1
              rw [← hv1] at d2
              rw [← hv2] at g2
              have d1' := cell_later hbt d1
              have d2' := cell_later hbt d2
              have d3' := cell_later hbt d3
              have d4' := cell_later hbt d4
              obtain ⟨wC, hwC⟩ : ∃ wC, wC = wr.alloc (.cells #[.int .i64 u1, .int .i64 v1, .slice pa x.frames[k3].locals.length pc, .slice pb x.frames[k3].stack.length pd] 90) := ⟨_, rfl⟩
              have hbC : Below wr.heap.size wr wC := by rw [hwC]; exact (Below.refl _ _).alloc (Nat.le_refl _) _
              have hBC := hbt.trans (hbC.mono hbt.size)
              have hXC := block_kept hXt hbC
              have hYC := block_kept hYt hbC
              have hFC : wC.heap[wr.heap.size]? = some (.cells #[.int .i64 u1, .int .i64 v1, .slice pa x.frames[k3].locals.length pc, .slice pb x.frames[k3].stack.length pd] 90 (0, 0)) := by rw [hwC]; exact block_new _ _ _
              have yA := block_cell (block_old hYt (.cells #[.int .i64 u1, .int .i64 v1, .slice pa x.frames[k3].locals.length pc, .slice pb x.frames[k3].stack.length pd] 90))
              have g1A := cell_later (hbt.alloc hbt.size (.cells #[.int .i64 u1, .int .i64 v1, .slice pa x.frames[k3].locals.length pc, .slice pb x.frames[k3].stack.length pd] 90)) g1
              have g2A := cell_later (hbt.alloc hbt.size (.cells #[.int .i64 u1, .int .i64 v1, .slice pa x.frames[k3].locals.length pc, .slice pb x.frames[k3].stack.length pd] 90)) g2
              have g3A := cell_later (hbt.alloc hbt.size (.cells #[.int .i64 u1, .int .i64 v1, .slice pa x.frames[k3].locals.length pc, .slice pb x.frames[k3].stack.length pd] 90)) g3
              have g4A := cell_later (hbt.alloc hbt.size (.cells #[.int .i64 u1, .int .i64 v1, .slice pa x.frames[k3].locals.length pc, .slice pb x.frames[k3].stack.length pd] 90)) g4
              obtain ⟨wD, hwD⟩ : ∃ wD, wD = wC.alloc (.cells #[.int .i64 u2, .int .i64 v2, .slice qa y.frames[k3].locals.length qc, .slice qb y.frames[k3].stack.length qd] 90) := ⟨_, rfl⟩
              have hbD : Below wC.heap.size wC wD := by rw [hwD]; exact (Below.refl _ _).alloc (Nat.le_refl _) _
              have hBD := hBC.trans (hbD.mono hBC.size)
              have hXD := block_kept hXC hbD
              have hYD := block_kept hYC hbD
              have hFD := block_kept hFC hbD
              have hsC : wC.heap.size = wr.heap.size + 1 := by rw [hwC]; simp
              have hGD : wD.heap[wr.heap.size + 1]? = some (.cells #[.int .i64 u2, .int .i64 v2, .slice qa y.frames[k3].locals.length qc, .slice qb y.frames[k3].stack.length qd] 90 (0, 0)) := by rw [hwD, ← hsC]; exact block_new _ _ _
              have HXD := hid hXD
              have HYD := hid hYD
              have HBD := hid hBD
              have hwE : (wr.alloc (.cells #[.int .i64 u1, .int .i64 v1, .slice pa x.frames[k3].locals.length pc, .slice pb x.frames[k3].stack.length pd] 90)).alloc (.cells #[.int .i64 u2, .int .i64 v2, .slice qa y.frames[k3].locals.length qc, .slice qb y.frames[k3].stack.length qd] 90) = wD := by rw [hwD, hwC]
              have HWE := hid hwE
              clear d1 d2 d3 d4 g1 g2 g3 g4 hwC hwD hbC hBC hXC hYC hFC hbD hBD hXD hYD hsC hu1 hu2 hv1 hv2 hwE
              by_cases c1 : u1 = u2
              case neg =>
                have Q := hid c1
                go_wp2
                go_ret
                exact ⟨by rw [pB_no (fun h => at_ne hlt hlt2 (fun e => Q.out (HF.out.1 e).1) (HE.out.1 h).2.2.2.2.2.1)]; rfl, by rw [HWE.out]; exact HBD.out⟩
              subst c1
              by_cases c2 : v1 = v2
              case neg =>
                have Q := hid c2
                go_wp2
                go_ret
                exact ⟨by rw [pB_no (fun h => at_ne hlt hlt2 (fun e => Q.out (HF.out.1 e).2.1) (HE.out.1 h).2.2.2.2.2.1)]; rfl, by rw [HWE.out]; exact HBD.out⟩
              subst c2
              have hc1 := sVals_any pa qa x.frames[k3].locals y.frames[k3].locals pc qc wD hsl (hvp.mono HBD.out) (hvq.mono HBD.out)
              go_wp2_with fail
              rw [HWE.out]
              clear HWE d1' d2' d3' d4' g1A g2A g3A g4A yA x1 y1
              refine hc1.mono ?_
              rintro e w5 ⟨rfl, kd5⟩
              have hB5 := HBD.out.trans (kd5.mono HBD.out.size)
              have hX5 := block_kept HXD.out kd5
              have hY5 := block_kept HYD.out kd5
              have f5 := block_cell (block_kept hFD kd5)
              have g5 := block_cell (block_kept hGD kd5)
              by_cases c3 : x.frames[k3].locals = y.frames[k3].locals
              case neg =>
                have Q := hid c3
                rw [pB_no c3]
                clear c3 hc1
                go_wp2
                go_ret
                exact ⟨by rw [pB_no (fun h => at_ne hlt hlt2 (fun e => Q.out (HF.out.1 e).2.2.1) (HE.out.1 h).2.2.2.2.2.1)]; rfl, hB5⟩
              have Q3 := hid c3
              rw [pB_yes c3]
              have hc2 := sVals_any pb qb x.frames[k3].stack y.frames[k3].stack pd qd w5 hss (hvp2.mono hB5) (hvq2.mono hB5)
              clear c3 hc1
              go_wp2_with fail
              refine hc2.mono ?_
              rintro e w6 ⟨rfl, kd6⟩
              have hB6 := hB5.trans (kd6.mono hB5.size)
              have hX6 := block_kept hX5 kd6
              have hY6 := block_kept hY5 kd6
              clear f5 g5 hFD hGD
              by_cases c4 : x.frames[k3].stack = y.frames[k3].stack
              case neg =>
                have Q := hid c4
                rw [pB_no c4]
                clear c4 hc2
                go_wp2
                go_ret
                exact ⟨by rw [pB_no (fun h => at_ne hlt hlt2 (fun e => Q.out (HF.out.1 e).2.2.2) (HE.out.1 h).2.2.2.2.2.1)]; rfl, hB6⟩
              have HE2 : Hid (x.frames[k3] = y.frames[k3]) := HF.out.2 ⟨by trivial, by trivial, Q3.out, c4⟩
              rw [pB_yes c4]
              clear c4 hc2
              go_wp2
              go_roundw
              case rel => exact ⟨k3 + 1, by omega, by go_num, take_eq hlt hlt2 HT3.out HE2.out, hX6, hY6, hB6⟩
              case measure => simp [intOf]; omega
            · have QF : Hid (x.frames = y.frames) := take_all (by omega) (by have := Q8.out; omega) HT3.out
              clear HT3
              go_wp2
              go_ret
              refine ⟨?_, hbt⟩
              rw [pB_yes (HE.out.2 ⟨by trivial, by trivial, by trivial, Q4.out, by trivial, QF.out, QH.out, QO.out⟩)]
              rfl
end Go.Proofs.YtcfbahaokmhbkaaGreat
