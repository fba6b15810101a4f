/-
  Whether two records, two frames, lists of records, lists of frames are the same: the program's side.
  Whether two states are the same: impl.sameStates.
-/
import Derived.Test.YtcfbahaokmhbkaaGreatKC23
namespace Go.Proofs.YtcfbahaokmhbkaaGreat
open Go.RowKit

set_option maxRecDepth 100000 in
set_option maxHeartbeats 1000000 in
theorem sameRecs_any (a1 a2 : Option Addr) (vs us : List Vl) (c1 c2 : Nat) (w : World) (h1 : vs.length ≤ 1048576) (hm1 : ValsAt w 0 a1 vs) (hm2 : ValsAt w 0 a2 us) :
    Calls Tryz.prog 77 #[.agg #[.slice a1 vs.length c1], .agg #[.slice a2 us.length c2]] w fun e w' => e = .returned (.bool (pB (vs = us))) ∧ Below w.heap.size w w' := by
  have hbA : Below w.heap.size w ((w.alloc (.cells #[.slice a1 vs.length c1] 94)).alloc (.cells #[.slice a2 us.length c2] 94)) := ((Below.refl _ _).alloc (Nat.le_refl _) _).alloc (by simp) _
  go_enter Tryz.func77, Tryz.ntmps77
  go_wp2_with fail
  refine (eqVals_any a1 a2 vs us c1 c2 _ h1 (hm1.mono hbA) (hm2.mono hbA)).mono ?_
  rintro e w1 ⟨rfl, hb⟩
  go_wp2
  go_ret
  exact ⟨rfl, hbA.trans (hb.mono hbA.size)⟩

theorem fr_eq {f g : Fr} : f = g ↔ f.fn = g.fn ∧ f.pc = g.pc ∧ f.locals = g.locals ∧ f.stack = g.stack := by
  cases f; cases g; simp

set_option maxRecDepth 100000 in
set_option maxHeartbeats 2000000 in
theorem sameFrames_any (f g : Fr) (a1 a2 b1 b2 : Option Addr) (c1 c2 e1 e2 : Nat) (w : World) (h1 : f.locals.length ≤ 1048576) (h2 : f.stack.length ≤ 1048576) (hm1 : ValsAt w 0 a1 f.locals) (hm2 : ValsAt w 0 a2 g.locals) (hn1 : ValsAt w 0 b1 f.stack) (hn2 : ValsAt w 0 b2 g.stack) :
    Calls Tryz.prog 75 #[.agg #[.int .i64 f.fn, .int .i64 f.pc, .slice a1 f.locals.length c1, .slice b1 f.stack.length e1], .agg #[.int .i64 g.fn, .int .i64 g.pc, .slice a2 g.locals.length c2, .slice b2 g.stack.length e2]] w fun e w' => e = .returned (.bool (pB (f = g))) ∧ Below w.heap.size w w' := by
  obtain ⟨P, hP⟩ : ∃ P : Prop, (f = g) = P := ⟨_, rfl⟩
  rw [hP]
  obtain ⟨f1, p1, l1, s1⟩ := f
  obtain ⟨f2, p2, l2, s2⟩ := g
  have HE : Hid (P ↔ f1 = f2 ∧ p1 = p2 ∧ l1 = l2 ∧ s1 = s2) := by
    show _ ↔ _
    rw [← hP]
    simp
  clear hP
  simp only at h1 h2 hm1 hm2 hn1 hn2 ⊢
  have hb2 : ∀ a b, Below w.heap.size w ((w.alloc a).alloc b) := fun a b => ((Below.refl _ _).alloc (Nat.le_refl _) _).alloc (by simp) _
  by_cases q1 : f1 = f2
  · subst q1
    by_cases q2 : p1 = p2
    · subst q2
      obtain ⟨wA, hwA⟩ : ∃ wA, wA = (w.alloc (.cells #[.int .i64 f1, .int .i64 p1, .slice a1 l1.length c1, .slice b1 s1.length e1] 90)).alloc (.cells #[.int .i64 f1, .int .i64 p1, .slice a2 l2.length c2, .slice b2 s2.length e2] 90) := ⟨_, rfl⟩
      have hbA : Below w.heap.size w wA := by rw [hwA]; exact ((Below.refl _ _).alloc (Nat.le_refl _) _).alloc (by simp) _
      have hX : wA.heap[w.heap.size]? = some (.cells #[.int .i64 f1, .int .i64 p1, .slice a1 l1.length c1, .slice b1 s1.length e1] 90 (0, 0)) := by rw [hwA]; exact block_old (block_new _ _ _) _
      have hY : wA.heap[w.heap.size + 1]? = some (.cells #[.int .i64 f1, .int .i64 p1, .slice a2 l2.length c2, .slice b2 s2.length e2] 90 (0, 0)) := by rw [hwA]; exact block_new_at _ _ _ _ (by simp)
      clear hb2
      go_enter Tryz.func75, Tryz.ntmps75
      go_wp2_with fail
      rw [← hwA]
      clear hwA
      refine (eqVals_any a1 a2 l1 l2 c1 c2 _ h1 (hm1.mono hbA) (hm2.mono hbA)).mono ?_
      rintro e w1 ⟨rfl, hb1⟩
      have hX1 := block_kept hX hb1
      have hY1 := block_kept hY hb1
      have hB1 := hbA.trans (hb1.mono hbA.size)
      have x1 := block_cell hX1
      have y1 := block_cell hY1
      clear hbA hX hY hb1
      by_cases q3 : l1 = l2
      · have Q3 := hid q3
        have p3 := pB_yes q3
        rw [p3]
        clear q3 p3
        go_wp2_with fail
        refine (eqVals_any b1 b2 s1 s2 e1 e2 _ h2 (hn1.mono hB1) (hn2.mono hB1)).mono ?_
        rintro e w2 ⟨rfl, hb2⟩
        go_wp2
        go_ret
        refine ⟨?_, hB1.trans (hb2.mono hB1.size)⟩
        rw [show P = (s1 = s2) from propext ⟨fun h => (HE.out.1 h).2.2.2, fun h => HE.out.2 ⟨by trivial, by trivial, Q3.out, h⟩⟩]
        rfl
      · have Q3 := hid q3
        have p3 := pB_no q3
        rw [p3]
        clear q3 p3
        go_wp2
        go_ret
        exact ⟨by rw [pB_no (fun h => Q3.out (HE.out.1 h).2.2.1)]; rfl, hB1⟩
    · have Q2 := hid q2
      go_enter Tryz.func75, Tryz.ntmps75
      go_wp2
      go_ret
      exact ⟨by rw [pB_no (fun h => Q2.out (HE.out.1 h).2.1)]; rfl, hb2 _ _⟩
  · have Q1 := hid q1
    go_enter Tryz.func75, Tryz.ntmps75
    go_wp2
    go_ret
    exact ⟨by rw [pB_no (fun h => Q1.out (HE.out.1 h).1)]; rfl, hb2 _ _⟩

set_option maxRecDepth 100000 in
set_option maxHeartbeats 2000000 in
theorem eqRecs_any (a1 a2 : Option Addr) (xs ys : List (List Vl)) (c1 c2 : Nat) (w : World) (h1 : xs.length ≤ 1048576) (hs : ∀ r ∈ xs, r.length ≤ 1048576) (hm1 : RecsAt w 0 a1 xs) (hm2 : RecsAt w 0 a2 ys) :
    Calls Tryz.prog 76 #[.slice a1 xs.length c1, .slice a2 ys.length c2, .func (.func 77) #[] #[]] w fun e w' => e = .returned (.bool (pB (xs = ys))) ∧ Below w.heap.size w w' := by
  by_cases hl : xs.length = ys.length
  · have HL := hid hl
    have hl' : ((xs.length : Nat) : Int) = ((ys.length : Nat) : Int) := by omega
    go_enter Tryz.func76, Tryz.ntmps76
    go_wp2
    clear hl'
    go_loopw [17] (fun i wr => ∃ (k : Nat), k ≤ xs.length ∧ i = .int .i64 k ∧ Hid (xs.take k = ys.take k) ∧ Below w.heap.size w wr) (fun i _ => xs.length - (intOf i).toNat)
    case atStart => exact ⟨0, by omega, rfl, rfl, Below.refl _ _⟩
    case round =>
      obtain ⟨k, hk, rfl, HT, hb⟩ := hrel
      by_cases hlt : k < xs.length
      · have hlt2 : k < ys.length := by omega
        obtain ⟨b, off, pa, pc, rfl, -, d1, hvp⟩ := hm1 k hlt
        obtain ⟨b2, off2, qa, qc, rfl, -, g1, hvq⟩ := hm2 k hlt2
        have d1' := cell_later hb d1
        have g1' := cell_later hb g1
        have g1A := cell_later (hb.alloc hb.size (.cells #[.slice pa xs[k].length pc] 94)) g1
        obtain ⟨wB, hwB⟩ : ∃ wB, wB = (wr.alloc (.cells #[.slice pa xs[k].length pc] 94)).alloc (.cells #[.slice qa ys[k].length qc] 94) := ⟨_, rfl⟩
        have hbB : Below w.heap.size w wB := by rw [hwB]; exact (hb.alloc hb.size _).alloc (by have := hb.size; simp; omega) _
        have hcall := sameRecs_any pa qa xs[k] ys[k] pc qc wB (hs _ (List.getElem_mem hlt)) (hvp.mono hbB) (hvq.mono hbB)
        clear d1 g1 hl
        go_wp2_with fail
        rw [← hwB]
        clear hwB d1' g1' g1A
        refine hcall.mono ?_
        rintro e w2 ⟨rfl, hb2⟩
        have hb3 := hbB.trans (hb2.mono hbB.size)
        clear hcall hb2 hbB
        by_cases he : xs[k] = ys[k]
        · have HE := hid he
          rw [pB_yes he]
          clear he
          go_wp2
          go_roundw
          case rel => exact ⟨k + 1, by omega, by go_num, take_eq hlt hlt2 HT.out HE.out, hb3⟩
          case measure => simp [intOf]; omega
        · have HE := hid he
          rw [pB_no he]
          clear he
          go_wp2
          go_ret
          exact ⟨by rw [pB_no (at_ne hlt hlt2 HE.out)]; rfl, hb3⟩
      · have hl2 : ys.length ≤ k := by have := HL.out; omega
        clear hl
        go_wp2
        go_ret
        exact ⟨by rw [pB_yes (take_all (by omega) hl2 HT.out)]; rfl, hb⟩
  · have hl' : ¬ ((xs.length : Nat) : Int) = ((ys.length : Nat) : Int) := by omega
    go_enter Tryz.func76, Tryz.ntmps76
    go_wp2
    go_ret
    exact ⟨by rw [pB_no (len_ne hl)]; rfl, Below.refl _ _⟩

set_option maxRecDepth 100000 in
set_option maxHeartbeats 2000000 in
theorem eqFrs_any (a1 a2 : Option Addr) (xs ys : List Fr) (c1 c2 : Nat) (w : World) (h1 : xs.length ≤ 1048576) (hs : ∀ f ∈ xs, f.locals.length ≤ 1048576 ∧ f.stack.length ≤ 1048576) (hm1 : FrsAt w 0 a1 xs) (hm2 : FrsAt w 0 a2 ys) :
    Calls Tryz.prog 74 #[.slice a1 xs.length c1, .slice a2 ys.length c2, .func (.func 75) #[] #[]] w fun e w' => e = .returned (.bool (pB (xs = ys))) ∧ Below w.heap.size w w' := by
  by_cases hl : xs.length = ys.length
  · have HL := hid hl
    have hl' : ((xs.length : Nat) : Int) = ((ys.length : Nat) : Int) := by omega
    go_enter Tryz.func74, Tryz.ntmps74
    go_wp2
    clear hl'
    go_loopw [17] (fun i wr => ∃ (k : Nat), k ≤ xs.length ∧ i = .int .i64 k ∧ Hid (xs.take k = ys.take k) ∧ Below w.heap.size w wr) (fun i _ => xs.length - (intOf i).toNat)
    case atStart => exact ⟨0, by omega, rfl, rfl, Below.refl _ _⟩
    case round =>
      obtain ⟨k, hk, rfl, HT, hb⟩ := hrel
      by_cases hlt : k < xs.length
      · have hlt2 : k < ys.length := by omega
        obtain ⟨b, off, pa, pc, pb, pd, rfl, -, d1, d2, d3, d4, hvp, hvp2⟩ := hm1 k hlt
        obtain ⟨b2, off2, qa, qc, qb, qd, rfl, -, g1, g2, g3, g4, hvq, hvq2⟩ := hm2 k hlt2
        have d1' := cell_later hb d1
        have d2' := cell_later hb d2
        have d3' := cell_later hb d3
        have d4' := cell_later hb d4
        have g1' := cell_later hb g1
        have g2' := cell_later hb g2
        have g3' := cell_later hb g3
        have g4' := cell_later hb g4
        have g1A := cell_later (hb.alloc hb.size (.cells #[.int .i64 xs[k].fn, .int .i64 xs[k].pc, .slice pa xs[k].locals.length pc, .slice pb xs[k].stack.length pd] 90)) g1
        have g2A := cell_later (hb.alloc hb.size (.cells #[.int .i64 xs[k].fn, .int .i64 xs[k].pc, .slice pa xs[k].locals.length pc, .slice pb xs[k].stack.length pd] 90)) g2
        have g3A := cell_later (hb.alloc hb.size (.cells #[.int .i64 xs[k].fn, .int .i64 xs[k].pc, .slice pa xs[k].locals.length pc, .slice pb xs[k].stack.length pd] 90)) g3
        have g4A := cell_later (hb.alloc hb.size (.cells #[.int .i64 xs[k].fn, .int .i64 xs[k].pc, .slice pa xs[k].locals.length pc, .slice pb xs[k].stack.length pd] 90)) g4
        obtain ⟨wB, hwB⟩ : ∃ wB, wB = (wr.alloc (.cells #[.int .i64 xs[k].fn, .int .i64 xs[k].pc, .slice pa xs[k].locals.length pc, .slice pb xs[k].stack.length pd] 90)).alloc (.cells #[.int .i64 ys[k].fn, .int .i64 ys[k].pc, .slice qa ys[k].locals.length qc, .slice qb ys[k].stack.length qd] 90) := ⟨_, rfl⟩
        have hbB : Below w.heap.size w wB := by rw [hwB]; exact (hb.alloc hb.size _).alloc (by have := hb.size; simp; omega) _
        have hcall := sameFrames_any xs[k] ys[k] pa qa pb qb pc qc pd qd wB (hs _ (List.getElem_mem hlt)).1 (hs _ (List.getElem_mem hlt)).2 (hvp.mono hbB) (hvq.mono hbB) (hvp2.mono hbB) (hvq2.mono hbB)
        clear d1 d2 d3 d4 g1 g2 g3 g4 hl
        go_wp2_with fail
        rw [← hwB]
        clear hwB d1' d2' d3' d4' g1' g2' g3' g4' g1A g2A g3A g4A
        refine hcall.mono ?_
        rintro e w2 ⟨rfl, hb2⟩
        have hb3 := hbB.trans (hb2.mono hbB.size)
        clear hcall hb2 hbB
        by_cases he : xs[k] = ys[k]
        · have HE := hid he
          rw [pB_yes he]
          clear he
          go_wp2
          go_roundw
          case rel => exact ⟨k + 1, by omega, by go_num, take_eq hlt hlt2 HT.out HE.out, hb3⟩
          case measure => simp [intOf]; omega
        · have HE := hid he
          rw [pB_no he]
          clear he
          go_wp2
          go_ret
          exact ⟨by rw [pB_no (at_ne hlt hlt2 HE.out)]; rfl, hb3⟩
      · have hl2 : ys.length ≤ k := by have := HL.out; omega
        clear hl
        go_wp2
        go_ret
        exact ⟨by rw [pB_yes (take_all (by omega) hl2 HT.out)]; rfl, hb⟩
  · have hl' : ¬ ((xs.length : Nat) : Int) = ((ys.length : Nat) : Int) := by omega
    go_enter Tryz.func74, Tryz.ntmps74
    go_wp2
    go_ret
    exact ⟨by rw [pB_no (len_ne hl)]; rfl, Below.refl _ _⟩
end Go.Proofs.YtcfbahaokmhbkaaGreat

namespace Go.Proofs.YtcfbahaokmhbkaaGreat
open Go.RowKit

theorem vm_eq {x y : VmD} : x = y ↔ x.made = y.made ∧ x.status = y.status ∧ x.trap = y.trap ∧ x.value = y.value ∧ x.steps = y.steps ∧ x.frames = y.frames ∧ x.heap = y.heap ∧ x.out = y.out := by
  cases x; cases y; simp; constructor
  · rintro ⟨h1, h2, h3, h4, h5, h6, h7, h8⟩; exact ⟨h3, h5, h6, h7, h8, h1, h2, h4⟩
  · rintro ⟨h3, h5, h6, h7, h8, h1, h2, h4⟩; exact ⟨h1, h2, h3, h4, h5, h6, h7, h8⟩

set_option maxRecDepth 100000 in
set_option maxHeartbeats 4000000 in
theorem sameStates_any (x y : VmD) (fa ha oa fb hb ob : Option Addr) (fc hc oc fd hd od : Nat) (w : World) (hx : VmSmall x) (hm1 : VmAt w 0 fa ha oa x) (hm2 : VmAt w 0 fb hb ob y) :
    Calls Tryz.prog 45 #[.agg (vmCells fa ha oa fc hc oc x), .agg (vmCells fb hb ob fd hd od y)] w fun e w' => e = .returned (.bool (pB (x = y))) ∧ Below w.heap.size w w' := by
  obtain ⟨P, hP⟩ : ∃ P : Prop, (x = y) = P := ⟨_, rfl⟩
  rw [hP]
  have HE : Hid (P ↔ x.made = y.made ∧ x.status = y.status ∧ x.trap = y.trap ∧ x.value = y.value ∧ x.steps = y.steps ∧ x.frames = y.frames ∧ x.heap = y.heap ∧ x.out = y.out) := by
    show _ ↔ _
    rw [← hP]
    exact vm_eq
  clear hP
  unfold vmCells
  have hb2 : ∀ a b, Below w.heap.size w ((w.alloc a).alloc b) := fun a b => ((Below.refl _ _).alloc (Nat.le_refl _) _).alloc (by simp) _
  have hg36 := guard36
  have e36 := eqIn36 x.value y.value
  obtain ⟨m1, hm1e⟩ : ∃ m, m = x.made := ⟨_, rfl⟩
  obtain ⟨m2, hm2e⟩ : ∃ m, m = y.made := ⟨_, rfl⟩
  obtain ⟨s1, hs1e⟩ : ∃ m, m = x.status := ⟨_, rfl⟩
  obtain ⟨s2, hs2e⟩ : ∃ m, m = y.status := ⟨_, rfl⟩
  obtain ⟨t1, ht1e⟩ : ∃ m, m = x.trap := ⟨_, rfl⟩
  obtain ⟨t2, ht2e⟩ : ∃ m, m = y.trap := ⟨_, rfl⟩
  obtain ⟨z1, hz1e⟩ : ∃ m, m = x.steps := ⟨_, rfl⟩
  obtain ⟨z2, hz2e⟩ : ∃ m, m = y.steps := ⟨_, rfl⟩
  rw [← hm1e, ← hm2e, ← hs1e, ← hs2e, ← ht1e, ← ht2e, ← hz1e, ← hz2e] at HE ⊢
  clear hm1e hm2e hs1e hs2e ht1e ht2e hz1e hz2e
  by_cases q1 : m1 = m2
  case neg =>
    have Q := hid q1
    go_enter Tryz.func45, Tryz.ntmps45
    go_wp2
    go_ret
    exact ⟨by rw [pB_no (fun h => Q.out (HE.out.1 h).1)]; rfl, hb2 _ _⟩
  subst q1
  by_cases q2 : s1 = s2
  case neg =>
    have Q := hid q2
    go_enter Tryz.func45, Tryz.ntmps45
    go_wp2
    go_ret
    exact ⟨by rw [pB_no (fun h => Q.out (HE.out.1 h).2.1)]; rfl, hb2 _ _⟩
  subst q2
  by_cases q3 : t1 = t2
  case neg =>
    have Q := hid q3
    go_enter Tryz.func45, Tryz.ntmps45
    go_wp2
    go_ret
    exact ⟨by rw [pB_no (fun h => Q.out (HE.out.1 h).2.2.1)]; rfl, hb2 _ _⟩
  subst q3
  by_cases q4 : x.value = y.value
  case neg =>
    have Q := hid q4
    rw [pB_no q4] at e36
    clear q4
    go_enter Tryz.func45, Tryz.ntmps45
    go_wp2
    go_ret
    exact ⟨by rw [pB_no (fun h => Q.out (HE.out.1 h).2.2.2.1)]; rfl, hb2 _ _⟩
  have Q4 := hid q4
  rw [pB_yes q4] at e36
  clear q4
  by_cases q5 : z1 = z2
  case neg =>
    have Q := hid q5
    go_enter Tryz.func45, Tryz.ntmps45
    go_wp2
    go_ret
    exact ⟨by rw [pB_no (fun h => Q.out (HE.out.1 h).2.2.2.2.1)]; rfl, hb2 _ _⟩
  subst q5
  obtain ⟨wA, hwA⟩ : ∃ wA, wA = (w.alloc (.cells #[.slice fa x.frames.length fc, .slice ha x.heap.length hc, .int .i64 m1, .slice oa x.out.length oc, .int .i64 s1, .int .i64 t1, .int .i64 x.value.k, .int .i64 x.value.n, .string x.value.s, .int .i64 z1] 38)).alloc (.cells #[.slice fb y.frames.length fd, .slice hb y.heap.length hd, .int .i64 m1, .slice ob y.out.length od, .int .i64 s1, .int .i64 t1, .int .i64 y.value.k, .int .i64 y.value.n, .string y.value.s, .int .i64 z1] 38) := ⟨_, rfl⟩
  have hbA : Below w.heap.size w wA := by rw [hwA]; exact hb2 _ _
  have hX : wA.heap[w.heap.size]? = some (.cells #[.slice fa x.frames.length fc, .slice ha x.heap.length hc, .int .i64 m1, .slice oa x.out.length oc, .int .i64 s1, .int .i64 t1, .int .i64 x.value.k, .int .i64 x.value.n, .string x.value.s, .int .i64 z1] 38 (0, 0)) := by rw [hwA]; exact block_old (block_new _ _ _) _
  have hY : wA.heap[w.heap.size + 1]? = some (.cells #[.slice fb y.frames.length fd, .slice hb y.heap.length hd, .int .i64 m1, .slice ob y.out.length od, .int .i64 s1, .int .i64 t1, .int .i64 y.value.k, .int .i64 y.value.n, .string y.value.s, .int .i64 z1] 38 (0, 0)) := by rw [hwA]; exact block_new_at _ _ _ _ (by simp)
  have hM1 := hm1.mono hbA
  have hM2 := hm2.mono hbA
  go_enter Tryz.func45, Tryz.ntmps45
  go_wp2_with fail
  rw [← hwA]
  clear hwA
  refine (eqFrs_any fa fb x.frames y.frames fc fd _ hx.frames (fun f hf => ⟨(hx.locals f hf).1, (hx.stack f hf).1⟩) hM1.frs hM2.frs).mono ?_
  rintro e w1 ⟨rfl, hb1⟩
  have hX1 := block_kept hX hb1
  have hY1 := block_kept hY hb1
  have hB1 := hbA.trans (hb1.mono hbA.size)
  have hN1 := hM1.mono hb1
  have hN2 := hM2.mono hb1
  clear hX hY hbA hb1 hM1 hM2
  by_cases q6 : x.frames = y.frames
  case neg =>
    have Q := hid q6
    rw [pB_no q6]
    clear q6
    go_wp2
    go_ret
    exact ⟨by rw [pB_no (fun h => Q.out (HE.out.1 h).2.2.2.2.2.1)]; rfl, hB1⟩
  have Q6 := hid q6
  rw [pB_yes q6]
  clear q6
  have x1 := block_cell hX1
  have y1 := block_cell hY1
  go_wp2_with fail
  clear x1 y1
  refine (eqRecs_any ha hb x.heap y.heap hc hd _ hx.heap (fun r hr => (hx.fields r hr).1) hN1.recs hN2.recs).mono ?_
  rintro e w2 ⟨rfl, hb3⟩
  have hX2 := block_kept hX1 hb3
  have hY2 := block_kept hY1 hb3
  have hB2 := hB1.trans (hb3.mono hB1.size)
  have hO1 := hN1.mono hb3
  have hO2 := hN2.mono hb3
  clear hX1 hY1 hB1 hb3 hN1 hN2
  by_cases q7 : x.heap = y.heap
  case neg =>
    have Q := hid q7
    rw [pB_no q7]
    clear q7
    go_wp2
    go_ret
    exact ⟨by rw [pB_no (fun h => Q.out (HE.out.1 h).2.2.2.2.2.2.1)]; rfl, hB2⟩
  have Q7 := hid q7
  rw [pB_yes q7]
  clear q7
  have x1 := block_cell hX2
  have y1 := block_cell hY2
  go_wp2_with fail
  clear x1 y1
  refine (eqStrs_any oa ob x.out y.out oc od _ hx.out hO1.out hO2.out).mono ?_
  rintro e w3 ⟨rfl, hb4⟩
  go_wp2
  go_ret
  refine ⟨?_, hB2.trans (hb4.mono hB2.size)⟩
  rw [show P = (x.out = y.out) from propext ⟨fun h => (HE.out.1 h).2.2.2.2.2.2.2, fun h => HE.out.2 ⟨by trivial, by trivial, by trivial, Q4.out, by trivial, Q6.out, Q7.out, h⟩⟩]
  rfl
end Go.Proofs.YtcfbahaokmhbkaaGreat
