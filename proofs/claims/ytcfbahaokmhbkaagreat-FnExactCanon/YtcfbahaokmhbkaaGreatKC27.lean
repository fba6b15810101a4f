/-
  The canon of a small state is small.
  impl.Alike.
-/
import Derived.Test.YtcfbahaokmhbkaaGreatC9
import Derived.Test.YtcfbahaokmhbkaaGreatKC24
import Derived.Deep.RegionWith
import Derived.Deep.RegionHeld3
namespace Go.Proofs.YtcfbahaokmhbkaaGreat
open Go.RowKit

theorem mV_s (ms : List Nat) (v : Vl) : (mV ms v).s = v.s := by unfold mV; split <;> rfl
theorem lV_s {n : Nat} (vs : List Vl) : ∀ ms : List Nat, (∀ v ∈ vs, v.s.size ≤ n) → ∀ v ∈ lV ms vs, v.s.size ≤ n := by
  induction vs with
  | nil => intro ms _ v hv; simp [lV] at hv
  | cons u vs ih =>
    intro ms h v hv
    rw [lV, List.mem_cons] at hv
    rcases hv with rfl | hv
    · rw [mV_s]; exact h u (by simp)
    · exact ih (mS ms u) (fun x hx => h x (by simp [hx])) v hv
theorem vals_small {vs : List Vl} (h : ValsSmall vs) (ms : List Nat) : ValsSmall (lV ms vs) := ⟨by rw [lV_len]; exact h.1, lV_s vs ms h.2⟩
theorem fV_small (fr : List Fr) : ∀ ms : List Nat, (∀ f ∈ fr, ValsSmall f.locals ∧ ValsSmall f.stack) → ∀ f ∈ fV ms fr, ValsSmall f.locals ∧ ValsSmall f.stack := by
  induction fr with
  | nil => intro ms _ f hf; simp [fV] at hf
  | cons g fr ih =>
    intro ms h f hf
    rw [fV, List.mem_cons] at hf
    rcases hf with rfl | hf
    · exact ⟨vals_small (h g (by simp)).1 _, vals_small (h g (by simp)).2 _⟩
    · exact ih _ (fun x hx => h x (by simp [hx])) f hf
theorem rIter_small {hp : List (List Vl)} {ms0 : List Nat} (h : ∀ r ∈ hp, ValsSmall r) : ∀ i, (rIter hp ms0 i).2.length ≤ i ∧ ∀ r ∈ (rIter hp ms0 i).2, ValsSmall r
  | 0 => ⟨Nat.le_refl _, fun r hr => by simp [rIter] at hr⟩
  | i + 1 => by
    obtain ⟨h1, h2⟩ := rIter_small (ms0 := ms0) h i
    rw [rIter]
    split
    · refine ⟨by simpa using h1, fun r hr => ?_⟩
      simp only [List.mem_append, List.mem_singleton] at hr
      rcases hr with hr | rfl
      · exact h2 r hr
      · refine vals_small ?_ _
        rw [List.getD_eq_getElem?_getD]
        cases hq : hp[(rIter hp ms0 i).1.getD i 0]? with
        | none => exact ⟨by simp, fun v hv => by simp at hv⟩
        | some r => exact h r (List.mem_of_getElem? hq)
    · exact ⟨by omega, h2⟩
theorem VmSmall.canon {d : VmD} (h : VmSmall d) : VmSmall (canonD d) := by
  have hf := fV_small d.frames [] (fun f hf => ⟨h.locals f hf, h.stack f hf⟩)
  have hr := rIter_small (ms0 := ms0 d) h.fields d.heap.length
  exact ⟨by show (fV [] d.frames).length ≤ _; rw [fV_len]; exact h.frames, fun f hx => (hf f hx).1, fun f hx => (hf f hx).2, Nat.le_trans hr.1 h.heap, hr.2, h.out, h.text, by show (mV _ _).s.size ≤ _; rw [mV_s]; exact h.value⟩
end Go.Proofs.YtcfbahaokmhbkaaGreat

namespace Go.Proofs.YtcfbahaokmhbkaaGreat
open Go.RowKit

/-- Both states are ok, and their canons are the same. -/
def AlikeP (ts : List ByteArray) (fs : List Fn) (x y : VmD) : Prop := VmGood ts fs x ∧ VmGood ts fs y ∧ canonD x = canonD y

set_option maxRecDepth 100000 in
set_option maxHeartbeats 8000000 in
theorem iAlike_any (a1 a2 : Option Addr) (c1 c2 : Nat) (ts : List ByteArray) (fs : List Fn) (x y : VmD) (fa ha oa fb hb ob : Option Addr) (fc hc oc fd hd od : Nat) (w : World) (hsm : Small ts fs) (hst : StrsAt w 0 a1 ts) (hfn : FnsAt w 0 a2 fs) (hxx : VmSmall x) (hxy : VmSmall y) (hm1 : VmAt w 0 fa ha oa x) (hm2 : VmAt w 0 fb hb ob y) :
    Calls Tryz.prog 17 #[.agg #[.slice a1 ts.length c1, .slice a2 fs.length c2], .agg (vmCells fa ha oa fc hc oc x), .agg (vmCells fb hb ob fd hd od y)] w fun e w' => e = .returned (.bool (pB (AlikeP ts fs x y))) ∧ Below w.heap.size w w' := by
  conv => arg 3; unfold vmCells
  obtain ⟨wA, hwA⟩ : ∃ wA, wA = ((w.alloc (.cells #[.slice a1 ts.length c1, .slice a2 fs.length c2] 42)).alloc (.cells #[.slice fa x.frames.length fc, .slice ha x.heap.length hc, .int .i64 x.made, .slice oa x.out.length oc, .int .i64 x.status, .int .i64 x.trap, .int .i64 x.value.k, .int .i64 x.value.n, .string x.value.s, .int .i64 x.steps] 38)).alloc (.cells #[.slice fb y.frames.length fd, .slice hb y.heap.length hd, .int .i64 y.made, .slice ob y.out.length od, .int .i64 y.status, .int .i64 y.trap, .int .i64 y.value.k, .int .i64 y.value.n, .string y.value.s, .int .i64 y.steps] 38) := ⟨_, rfl⟩
  have hbA : Below w.heap.size w wA := by rw [hwA]; exact (((Below.refl _ _).alloc (Nat.le_refl _) _).alloc (by simp) _).alloc (by simp; omega) _
  have hM : wA.heap[w.heap.size]? = some (.cells #[.slice a1 ts.length c1, .slice a2 fs.length c2] 42 (0, 0)) := by rw [hwA]; exact block_old (block_old (block_new _ _ _) _) _
  have hX : wA.heap[w.heap.size + 1]? = some (.cells #[.slice fa x.frames.length fc, .slice ha x.heap.length hc, .int .i64 x.made, .slice oa x.out.length oc, .int .i64 x.status, .int .i64 x.trap, .int .i64 x.value.k, .int .i64 x.value.n, .string x.value.s, .int .i64 x.steps] 38 (0, 0)) := by rw [hwA]; exact block_old (block_new_at _ _ _ _ (by simp)) _
  have hY : wA.heap[w.heap.size + 1 + 1]? = some (.cells #[.slice fb y.frames.length fd, .slice hb y.heap.length hd, .int .i64 y.made, .slice ob y.out.length od, .int .i64 y.status, .int .i64 y.trap, .int .i64 y.value.k, .int .i64 y.value.n, .string y.value.s, .int .i64 y.steps] 38 (0, 0)) := by rw [hwA]; exact block_new_at _ _ _ _ (by simp)
  have hS : ∀ w', Below wA.heap.size wA w' → w'.cell? ⟨w.heap.size, 0, none⟩ = some (.slice a1 ts.length c1) ∧ w'.cell? ⟨w.heap.size, 1, none⟩ = some (.slice a2 fs.length c2) ∧ w'.cell? ⟨w.heap.size + 1, 0, none⟩ = some (.slice fa x.frames.length fc) ∧ w'.cell? ⟨w.heap.size + 1, 1, none⟩ = some (.slice ha x.heap.length hc) ∧ w'.cell? ⟨w.heap.size + 1, 2, none⟩ = some (.int .i64 x.made) ∧ w'.cell? ⟨w.heap.size + 1, 3, none⟩ = some (.slice oa x.out.length oc) ∧ w'.cell? ⟨w.heap.size + 1, 4, none⟩ = some (.int .i64 x.status) ∧ w'.cell? ⟨w.heap.size + 1, 5, none⟩ = some (.int .i64 x.trap) ∧ w'.cell? ⟨w.heap.size + 1, 6, none⟩ = some (.int .i64 x.value.k) ∧ w'.cell? ⟨w.heap.size + 1, 7, none⟩ = some (.int .i64 x.value.n) ∧ w'.cell? ⟨w.heap.size + 1, 8, none⟩ = some (.string x.value.s) ∧ w'.cell? ⟨w.heap.size + 1, 9, none⟩ = some (.int .i64 x.steps) ∧ w'.cell? ⟨w.heap.size + 1 + 1, 0, none⟩ = some (.slice fb y.frames.length fd) ∧ w'.cell? ⟨w.heap.size + 1 + 1, 1, none⟩ = some (.slice hb y.heap.length hd) ∧ w'.cell? ⟨w.heap.size + 1 + 1, 2, none⟩ = some (.int .i64 y.made) ∧ w'.cell? ⟨w.heap.size + 1 + 1, 3, none⟩ = some (.slice ob y.out.length od) ∧ w'.cell? ⟨w.heap.size + 1 + 1, 4, none⟩ = some (.int .i64 y.status) ∧ w'.cell? ⟨w.heap.size + 1 + 1, 5, none⟩ = some (.int .i64 y.trap) ∧ w'.cell? ⟨w.heap.size + 1 + 1, 6, none⟩ = some (.int .i64 y.value.k) ∧ w'.cell? ⟨w.heap.size + 1 + 1, 7, none⟩ = some (.int .i64 y.value.n) ∧ w'.cell? ⟨w.heap.size + 1 + 1, 8, none⟩ = some (.string y.value.s) ∧ w'.cell? ⟨w.heap.size + 1 + 1, 9, none⟩ = some (.int .i64 y.steps) := fun w' q => ⟨by rw [block_cell (block_kept hM q)]; rfl, by rw [block_cell (block_kept hM q)]; rfl, by rw [block_cell (block_kept hX q)]; rfl, by rw [block_cell (block_kept hX q)]; rfl, by rw [block_cell (block_kept hX q)]; rfl, by rw [block_cell (block_kept hX q)]; rfl, by rw [block_cell (block_kept hX q)]; rfl, by rw [block_cell (block_kept hX q)]; rfl, by rw [block_cell (block_kept hX q)]; rfl, by rw [block_cell (block_kept hX q)]; rfl, by rw [block_cell (block_kept hX q)]; rfl, by rw [block_cell (block_kept hX q)]; rfl, by rw [block_cell (block_kept hY q)]; rfl, by rw [block_cell (block_kept hY q)]; rfl, by rw [block_cell (block_kept hY q)]; rfl, by rw [block_cell (block_kept hY q)]; rfl, by rw [block_cell (block_kept hY q)]; rfl, by rw [block_cell (block_kept hY q)]; rfl, by rw [block_cell (block_kept hY q)]; rfl, by rw [block_cell (block_kept hY q)]; rfl, by rw [block_cell (block_kept hY q)]; rfl, by rw [block_cell (block_kept hY q)]; rfl⟩
  have HS := hid hS
  obtain ⟨j0, j1, j2, j3, j4, j5, j6, j7, j8, j9, j10, j11, j12, j13, j14, j15, j16, j17, j18, j19, j20, j21⟩ := hS wA (Below.refl _ _)
  have HB := hid hbA
  have HST := hid (hst.mono hbA)
  have HFN := hid (hfn.mono hbA)
  have HMX := hid (hm1.mono hbA)
  have HMY := hid (hm2.mono hbA)
  clear hS hM hX hY hbA hst hfn hm1 hm2
  have q : Below wA.heap.size wA wA.drew := (Below.refl _ _).drew
  by_cases g1 : VmGood ts fs x
  · have G1 := hid g1
    have p1 : pB (VmGood ts fs x) = true := pB_yes g1
    have HAX := hid (AllNamed.of g1.2.2.2)
    clear g1
    by_cases g2 : VmGood ts fs y
    · have G2 := hid g2
      have p2 : pB (VmGood ts fs y) = true := pB_yes g2
      have HAY := hid (AllNamed.of g2.2.2.2)
      clear g2
      go_enter Tryz.func17, Tryz.ntmps17
      go_wp2
      rw [← hwA]
      clear hwA
      go_region_held3 (fun w' => w'.cell? ⟨w.heap.size, 0, none⟩ = some (.slice a1 ts.length c1) ∧ w'.cell? ⟨w.heap.size, 1, none⟩ = some (.slice a2 fs.length c2) ∧ w'.cell? ⟨w.heap.size + 1, 0, none⟩ = some (.slice fa x.frames.length fc) ∧ w'.cell? ⟨w.heap.size + 1, 1, none⟩ = some (.slice ha x.heap.length hc) ∧ w'.cell? ⟨w.heap.size + 1, 2, none⟩ = some (.int .i64 x.made) ∧ w'.cell? ⟨w.heap.size + 1, 3, none⟩ = some (.slice oa x.out.length oc) ∧ w'.cell? ⟨w.heap.size + 1, 4, none⟩ = some (.int .i64 x.status) ∧ w'.cell? ⟨w.heap.size + 1, 5, none⟩ = some (.int .i64 x.trap) ∧ w'.cell? ⟨w.heap.size + 1, 6, none⟩ = some (.int .i64 x.value.k) ∧ w'.cell? ⟨w.heap.size + 1, 7, none⟩ = some (.int .i64 x.value.n) ∧ w'.cell? ⟨w.heap.size + 1, 8, none⟩ = some (.string x.value.s) ∧ w'.cell? ⟨w.heap.size + 1, 9, none⟩ = some (.int .i64 x.steps) ∧ w'.cell? ⟨w.heap.size + 1 + 1, 0, none⟩ = some (.slice fb y.frames.length fd) ∧ w'.cell? ⟨w.heap.size + 1 + 1, 1, none⟩ = some (.slice hb y.heap.length hd) ∧ w'.cell? ⟨w.heap.size + 1 + 1, 2, none⟩ = some (.int .i64 y.made) ∧ w'.cell? ⟨w.heap.size + 1 + 1, 3, none⟩ = some (.slice ob y.out.length od) ∧ w'.cell? ⟨w.heap.size + 1 + 1, 4, none⟩ = some (.int .i64 y.status) ∧ w'.cell? ⟨w.heap.size + 1 + 1, 5, none⟩ = some (.int .i64 y.trap) ∧ w'.cell? ⟨w.heap.size + 1 + 1, 6, none⟩ = some (.int .i64 y.value.k) ∧ w'.cell? ⟨w.heap.size + 1 + 1, 7, none⟩ = some (.int .i64 y.value.n) ∧ w'.cell? ⟨w.heap.size + 1 + 1, 8, none⟩ = some (.string y.value.s) ∧ w'.cell? ⟨w.heap.size + 1 + 1, 9, none⟩ = some (.int .i64 y.steps))
        (first | exact ⟨j0, j1, j2, j3, j4, j5, j6, j7, j8, j9, j10, j11, j12, j13, j14, j15, j16, j17, j18, j19, j20, j21⟩ | exact HS.out _ q)
        (first
          | (go_at_call_of 30 fa; refine (iVmOk_any a1 a2 c1 c2 ts fs fa ha oa fc hc oc x _ hsm (HST.out.mono q) (HFN.out.mono q) hxx (HMX.out.mono q)).mono ?_; rintro e wa ⟨hsay, kd⟩; obtain rfl := hsay.eq; clear hsay; have q := q.trans (kd.mono q.size))
          | (go_at_call_of 30 fb; refine (iVmOk_any a1 a2 c1 c2 ts fs fb hb ob fd hd od y _ hsm (HST.out.mono q) (HFN.out.mono q) hxy (HMY.out.mono q)).mono ?_; rintro e wb ⟨hsay, kd⟩; obtain rfl := hsay.eq; clear hsay; have q := q.trans (kd.mono q.size))
          | (go_at_call_of 31 fa; refine (canonOf_any fa ha oa fc hc oc x _ hxx (HMX.out.mono q) HAX.out).mono ?_; rintro e wca ⟨Fa, xa, ya, Oa, la, sa, ra, rfl, hca, kd⟩; have hva := (hca.at).low (Nat.zero_le _); have q := q.trans (kd.mono q.size))
          | (go_at_call_of 31 fb; refine (canonOf_any fb hb ob fd hd od y _ hxy (HMY.out.mono q) HAY.out).mono ?_; rintro e wcb ⟨Fb, xb, yb, Ob, lb, sb, rb, rfl, hcb, kd⟩; have hvb := (hcb.at).low (Nat.zero_le _); have hva := hva.mono kd; have q := q.trans (kd.mono q.size))
          | (go_at_call 45; refine (sameStates_any (canonD x) (canonD y) _ _ _ _ _ _ _ _ _ _ _ _ _ hxx.canon hva hvb).mono ?_; rintro e w9 ⟨rfl, kd⟩; have q := q.trans (kd.mono q.size)))
      all_goals
        go_wp2
        go_ret
        refine ⟨?_, HB.out.trans (q.mono HB.out.size)⟩
        rw [show AlikeP ts fs x y = (canonD x = canonD y) from propext ⟨fun h => h.2.2, fun h => ⟨G1.out, G2.out, h⟩⟩]
        rfl
    · have G2 := hid g2
      have p2 : pB (VmGood ts fs y) = false := pB_no g2
      clear g2
      go_enter Tryz.func17, Tryz.ntmps17
      go_wp2
      rw [← hwA]
      clear hwA
      first | (go_region_with (first
          | (go_at_call_of 30 fa; refine (iVmOk_any a1 a2 c1 c2 ts fs fa ha oa fc hc oc x _ hsm (HST.out.mono q) (HFN.out.mono q) hxx (HMX.out.mono q)).mono ?_; rintro e wa ⟨hsay, kd⟩; obtain rfl := hsay.eq; clear hsay; have q := q.trans (kd.mono q.size); obtain ⟨j0, j1, j2, j3, j4, j5, j6, j7, j8, j9, j10, j11, j12, j13, j14, j15, j16, j17, j18, j19, j20, j21⟩ := HS.out _ q)
          | (go_at_call_of 30 fb; refine (iVmOk_any a1 a2 c1 c2 ts fs fb hb ob fd hd od y _ hsm (HST.out.mono q) (HFN.out.mono q) hxy (HMY.out.mono q)).mono ?_; rintro e wb ⟨hsay, kd⟩; obtain rfl := hsay.eq; clear hsay; have q := q.trans (kd.mono q.size); obtain ⟨j0, j1, j2, j3, j4, j5, j6, j7, j8, j9, j10, j11, j12, j13, j14, j15, j16, j17, j18, j19, j20, j21⟩ := HS.out _ q))) | fail
      all_goals
        go_wp2
        go_ret
        exact ⟨by rw [pB_no (fun h => G2.out h.2.1)]; rfl, HB.out.trans (q.mono HB.out.size)⟩
  · have G1 := hid g1
    have p1 : pB (VmGood ts fs x) = false := pB_no g1
    clear g1
    go_enter Tryz.func17, Tryz.ntmps17
    go_wp2
    rw [← hwA]
    clear hwA
    first | (go_region_with (first
        | (go_at_call_of 30 fa; refine (iVmOk_any a1 a2 c1 c2 ts fs fa ha oa fc hc oc x _ hsm (HST.out.mono q) (HFN.out.mono q) hxx (HMX.out.mono q)).mono ?_; rintro e wa ⟨hsay, kd⟩; obtain rfl := hsay.eq; clear hsay; have q := q.trans (kd.mono q.size); obtain ⟨j0, j1, j2, j3, j4, j5, j6, j7, j8, j9, j10, j11, j12, j13, j14, j15, j16, j17, j18, j19, j20, j21⟩ := HS.out _ q))) | fail
    all_goals
      go_wp2
      go_ret
      exact ⟨by rw [pB_no (fun h => G1.out h.1)]; rfl, HB.out.trans (q.mono HB.out.size)⟩
end Go.Proofs.YtcfbahaokmhbkaaGreat
