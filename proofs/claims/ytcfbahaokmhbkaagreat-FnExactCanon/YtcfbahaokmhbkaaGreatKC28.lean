/-
  The document's l06Alike and Alike.
  Canon of both sides.
-/
import Derived.Test.YtcfbahaokmhbkaaGreatG5
import Derived.Test.YtcfbahaokmhbkaaGreatP5
import Derived.Test.YtcfbahaokmhbkaaGreatKC27
import Derived.Test.YtcfbahaokmhbkaaGreatKC23
import Derived.Test.YtcfbahaokmhbkaaGreatC9
namespace Go.Proofs.YtcfbahaokmhbkaaGreat
open Go.RowKit

set_option maxRecDepth 100000 in
set_option maxHeartbeats 4000000 in
theorem sAlike6_any (x y : VmD) (fa ha oa fb hb ob : Option Addr) (fc hc oc fd hd od : Nat) (w : World) (hxx : VmSmall x) (hxy : VmSmall y) (hAx : AllNamed x) (hAy : AllNamed y) (hm1 : VmAt w 0 fa ha oa x) (hm2 : VmAt w 0 fb hb ob y) :
    Calls Tryz.prog 44 #[.agg (vmCells fa ha oa fc hc oc x), .agg (vmCells fb hb ob fd hd od y)] w fun e w' => e = .returned (.bool (pB (canonD x = canonD y))) ∧ Below w.heap.size w w' := by
  conv => arg 3; unfold vmCells
  obtain ⟨wA, hwA⟩ : ∃ wA, wA = (w.alloc (.cells #[.slice fa x.frames.length fc, .slice ha x.heap.length hc, .int .i64 x.made, .slice oa x.out.length oc, .int .i64 x.status, .int .i64 x.trap, .int .i64 x.value.k, .int .i64 x.value.n, .string x.value.s, .int .i64 x.steps] 38)).alloc (.cells #[.slice fb y.frames.length fd, .slice hb y.heap.length hd, .int .i64 y.made, .slice ob y.out.length od, .int .i64 y.status, .int .i64 y.trap, .int .i64 y.value.k, .int .i64 y.value.n, .string y.value.s, .int .i64 y.steps] 38) := ⟨_, rfl⟩
  have hbA : Below w.heap.size w wA := by rw [hwA]; exact ((Below.refl _ _).alloc (Nat.le_refl _) _).alloc (by simp) _
  have hX : wA.heap[w.heap.size]? = some (.cells #[.slice fa x.frames.length fc, .slice ha x.heap.length hc, .int .i64 x.made, .slice oa x.out.length oc, .int .i64 x.status, .int .i64 x.trap, .int .i64 x.value.k, .int .i64 x.value.n, .string x.value.s, .int .i64 x.steps] 38 (0, 0)) := by rw [hwA]; exact block_old (block_new _ _ _) _
  have hY : wA.heap[w.heap.size + 1]? = some (.cells #[.slice fb y.frames.length fd, .slice hb y.heap.length hd, .int .i64 y.made, .slice ob y.out.length od, .int .i64 y.status, .int .i64 y.trap, .int .i64 y.value.k, .int .i64 y.value.n, .string y.value.s, .int .i64 y.steps] 38 (0, 0)) := by rw [hwA]; exact block_new_at _ _ _ _ (by simp)
  have hS : ∀ w', Below wA.heap.size wA w' → w'.cell? ⟨w.heap.size, 0, none⟩ = some (.slice fa x.frames.length fc) ∧ w'.cell? ⟨w.heap.size, 1, none⟩ = some (.slice ha x.heap.length hc) ∧ w'.cell? ⟨w.heap.size, 2, none⟩ = some (.int .i64 x.made) ∧ w'.cell? ⟨w.heap.size, 3, none⟩ = some (.slice oa x.out.length oc) ∧ w'.cell? ⟨w.heap.size, 4, none⟩ = some (.int .i64 x.status) ∧ w'.cell? ⟨w.heap.size, 5, none⟩ = some (.int .i64 x.trap) ∧ w'.cell? ⟨w.heap.size, 6, none⟩ = some (.int .i64 x.value.k) ∧ w'.cell? ⟨w.heap.size, 7, none⟩ = some (.int .i64 x.value.n) ∧ w'.cell? ⟨w.heap.size, 8, none⟩ = some (.string x.value.s) ∧ w'.cell? ⟨w.heap.size, 9, none⟩ = some (.int .i64 x.steps) ∧ w'.cell? ⟨w.heap.size + 1, 0, none⟩ = some (.slice fb y.frames.length fd) ∧ w'.cell? ⟨w.heap.size + 1, 1, none⟩ = some (.slice hb y.heap.length hd) ∧ w'.cell? ⟨w.heap.size + 1, 2, none⟩ = some (.int .i64 y.made) ∧ w'.cell? ⟨w.heap.size + 1, 3, none⟩ = some (.slice ob y.out.length od) ∧ w'.cell? ⟨w.heap.size + 1, 4, none⟩ = some (.int .i64 y.status) ∧ w'.cell? ⟨w.heap.size + 1, 5, none⟩ = some (.int .i64 y.trap) ∧ w'.cell? ⟨w.heap.size + 1, 6, none⟩ = some (.int .i64 y.value.k) ∧ w'.cell? ⟨w.heap.size + 1, 7, none⟩ = some (.int .i64 y.value.n) ∧ w'.cell? ⟨w.heap.size + 1, 8, none⟩ = some (.string y.value.s) ∧ w'.cell? ⟨w.heap.size + 1, 9, none⟩ = some (.int .i64 y.steps) := fun w' q => ⟨by rw [block_cell (block_kept hX q)]; rfl, by rw [block_cell (block_kept hX q)]; rfl, by rw [block_cell (block_kept hX q)]; rfl, by rw [block_cell (block_kept hX q)]; rfl, by rw [block_cell (block_kept hX q)]; rfl, by rw [block_cell (block_kept hX q)]; rfl, by rw [block_cell (block_kept hX q)]; rfl, by rw [block_cell (block_kept hX q)]; rfl, by rw [block_cell (block_kept hX q)]; rfl, by rw [block_cell (block_kept hX q)]; rfl, by rw [block_cell (block_kept hY q)]; rfl, by rw [block_cell (block_kept hY q)]; rfl, by rw [block_cell (block_kept hY q)]; rfl, by rw [block_cell (block_kept hY q)]; rfl, by rw [block_cell (block_kept hY q)]; rfl, by rw [block_cell (block_kept hY q)]; rfl, by rw [block_cell (block_kept hY q)]; rfl, by rw [block_cell (block_kept hY q)]; rfl, by rw [block_cell (block_kept hY q)]; rfl, by rw [block_cell (block_kept hY q)]; rfl⟩
  have HS := hid hS
  obtain ⟨j0, j1, j2, j3, j4, j5, j6, j7, j8, j9, j10, j11, j12, j13, j14, j15, j16, j17, j18, j19⟩ := hS wA (Below.refl _ _)
  have HB := hid hbA
  have HMX := hid (hm1.mono hbA)
  have HMY := hid (hm2.mono hbA)
  clear hS hX hY hbA hm1 hm2
  have q : Below wA.heap.size wA wA.drew := (Below.refl _ _).drew
  go_enter Tryz.func44, Tryz.ntmps44
  go_wp2
  rw [← hwA]
  clear hwA
  go_region_held3 (fun w' => w'.cell? ⟨w.heap.size, 0, none⟩ = some (.slice fa x.frames.length fc) ∧ w'.cell? ⟨w.heap.size, 1, none⟩ = some (.slice ha x.heap.length hc) ∧ w'.cell? ⟨w.heap.size, 2, none⟩ = some (.int .i64 x.made) ∧ w'.cell? ⟨w.heap.size, 3, none⟩ = some (.slice oa x.out.length oc) ∧ w'.cell? ⟨w.heap.size, 4, none⟩ = some (.int .i64 x.status) ∧ w'.cell? ⟨w.heap.size, 5, none⟩ = some (.int .i64 x.trap) ∧ w'.cell? ⟨w.heap.size, 6, none⟩ = some (.int .i64 x.value.k) ∧ w'.cell? ⟨w.heap.size, 7, none⟩ = some (.int .i64 x.value.n) ∧ w'.cell? ⟨w.heap.size, 8, none⟩ = some (.string x.value.s) ∧ w'.cell? ⟨w.heap.size, 9, none⟩ = some (.int .i64 x.steps) ∧ w'.cell? ⟨w.heap.size + 1, 0, none⟩ = some (.slice fb y.frames.length fd) ∧ w'.cell? ⟨w.heap.size + 1, 1, none⟩ = some (.slice hb y.heap.length hd) ∧ w'.cell? ⟨w.heap.size + 1, 2, none⟩ = some (.int .i64 y.made) ∧ w'.cell? ⟨w.heap.size + 1, 3, none⟩ = some (.slice ob y.out.length od) ∧ w'.cell? ⟨w.heap.size + 1, 4, none⟩ = some (.int .i64 y.status) ∧ w'.cell? ⟨w.heap.size + 1, 5, none⟩ = some (.int .i64 y.trap) ∧ w'.cell? ⟨w.heap.size + 1, 6, none⟩ = some (.int .i64 y.value.k) ∧ w'.cell? ⟨w.heap.size + 1, 7, none⟩ = some (.int .i64 y.value.n) ∧ w'.cell? ⟨w.heap.size + 1, 8, none⟩ = some (.string y.value.s) ∧ w'.cell? ⟨w.heap.size + 1, 9, none⟩ = some (.int .i64 y.steps))
    (first | exact ⟨j0, j1, j2, j3, j4, j5, j6, j7, j8, j9, j10, j11, j12, j13, j14, j15, j16, j17, j18, j19⟩ | exact HS.out _ q)
    (first
      | (go_at_call_of 24 fa; refine (sCanon_any fa ha oa fc hc oc x _ hxx (HMX.out.mono q) hAx).mono ?_; rintro e wca ⟨xaa, xca, yaa, yca, zaa, zca, rfl, hca, kd⟩; have hva := hca.low (Nat.zero_le _); have q := q.trans (kd.mono q.size))
      | (go_at_call_of 24 fb; refine (sCanon_any fb hb ob fd hd od y _ hxy (HMY.out.mono q) hAy).mono ?_; rintro e wcb ⟨xab, xcb, yab, ycb, zab, zcb, rfl, hcb, kd⟩; have hvb := hcb.low (Nat.zero_le _); have hva := hva.mono kd; have q := q.trans (kd.mono q.size))
      | (go_at_call 73; refine (sSame_any (canonD x) (canonD y) _ _ _ _ _ _ _ _ _ _ _ _ _ hxx.canon hva hvb).mono ?_; rintro e w9 ⟨rfl, kd⟩; have q := q.trans (kd.mono q.size)))
  all_goals
    go_wp2
    go_ret
    exact ⟨rfl, HB.out.trans (q.mono HB.out.size)⟩

set_option maxRecDepth 100000 in
set_option maxHeartbeats 4000000 in
theorem sAlike_any (a1 a2 : Option Addr) (c1 c2 : Nat) (ts : List ByteArray) (fs : List Fn) (x y : VmD) (fa ha oa fb hb ob : Option Addr) (fc hc oc fd hd od : Nat) (w : World) (hsm : Small ts fs) (hst : StrsAt w 0 a1 ts) (hfn : FnsAt w 0 a2 fs) (hxx : VmSmall x) (hxy : VmSmall y) (hm1 : VmAt w 0 fa ha oa x) (hm2 : VmAt w 0 fb hb ob y) :
    Calls Tryz.prog 16 #[.agg #[.slice a1 ts.length c1, .slice a2 fs.length c2], .agg (vmCells fa ha oa fc hc oc x), .agg (vmCells fb hb ob fd hd od y)] w fun e w' => e = .returned (.bool (pB (AlikeP ts fs x y))) ∧ Below w.heap.size w w' := by
  conv => arg 3; unfold vmCells
  obtain ⟨wA, hwA⟩ : ∃ wA, wA = ((w.alloc (.cells #[.slice a1 ts.length c1, .slice a2 fs.length c2] 42)).alloc (.cells #[.slice fa x.frames.length fc, .slice ha x.heap.length hc, .int .i64 x.made, .slice oa x.out.length oc, .int .i64 x.status, .int .i64 x.trap, .int .i64 x.value.k, .int .i64 x.value.n, .string x.value.s, .int .i64 x.steps] 38)).alloc (.cells #[.slice fb y.frames.length fd, .slice hb y.heap.length hd, .int .i64 y.made, .slice ob y.out.length od, .int .i64 y.status, .int .i64 y.trap, .int .i64 y.value.k, .int .i64 y.value.n, .string y.value.s, .int .i64 y.steps] 38) := ⟨_, rfl⟩
  have hbA : Below w.heap.size w wA := by rw [hwA]; exact (((Below.refl _ _).alloc (Nat.le_refl _) _).alloc (by simp) _).alloc (by simp; omega) _
  have hM : wA.heap[w.heap.size]? = some (.cells #[.slice a1 ts.length c1, .slice a2 fs.length c2] 42 (0, 0)) := by rw [hwA]; exact block_old (block_old (block_new _ _ _) _) _
  have hX : wA.heap[w.heap.size + 1]? = some (.cells #[.slice fa x.frames.length fc, .slice ha x.heap.length hc, .int .i64 x.made, .slice oa x.out.length oc, .int .i64 x.status, .int .i64 x.trap, .int .i64 x.value.k, .int .i64 x.value.n, .string x.value.s, .int .i64 x.steps] 38 (0, 0)) := by rw [hwA]; exact block_old (block_new_at _ _ _ _ (by simp)) _
  have hY : wA.heap[w.heap.size + 1 + 1]? = some (.cells #[.slice fb y.frames.length fd, .slice hb y.heap.length hd, .int .i64 y.made, .slice ob y.out.length od, .int .i64 y.status, .int .i64 y.trap, .int .i64 y.value.k, .int .i64 y.value.n, .string y.value.s, .int .i64 y.steps] 38 (0, 0)) := by rw [hwA]; exact block_new_at _ _ _ _ (by simp)
  go_enter Tryz.func16, Tryz.ntmps16
  go_wp2_with fail
  rw [← hwA]
  clear hwA
  refine (sVmOk_any a1 a2 c1 c2 ts fs fa ha oa fc hc oc x wA hsm (hst.mono hbA) (hfn.mono hbA) hxx (hm1.mono hbA)).mono ?_
  rintro e w1 ⟨hsay, hb1⟩
  obtain rfl := hsay.eq
  clear hsay
  have hB1 := hbA.trans (hb1.mono hbA.size)
  have hM1 := block_kept hM hb1
  have hX1 := block_kept hX hb1
  have hY1 := block_kept hY hb1
  clear hM hX hY hbA hb1
  by_cases g1 : VmGood ts fs x
  case neg =>
    have G := hid g1
    rw [pB_no g1]
    clear g1
    go_wp2
    go_ret
    exact ⟨by rw [pB_no (fun h => G.out h.1)]; rfl, hB1⟩
  have G1 := hid g1
  rw [pB_yes g1]
  clear g1
  have m1 := block_cell hM1
  have y1 := block_cell hY1
  go_wp2_with fail
  clear m1 y1
  refine (sVmOk_any a1 a2 c1 c2 ts fs fb hb ob fd hd od y w1 hsm (hst.mono hB1) (hfn.mono hB1) hxy (hm2.mono hB1)).mono ?_
  rintro e w2 ⟨hsay, hb2⟩
  obtain rfl := hsay.eq
  clear hsay
  have hB2 := hB1.trans (hb2.mono hB1.size)
  have hX2 := block_kept hX1 hb2
  have hY2 := block_kept hY1 hb2
  clear hM1 hX1 hY1 hB1 hb2
  by_cases g2 : VmGood ts fs y
  case neg =>
    have G := hid g2
    rw [pB_no g2]
    clear g2
    go_wp2
    go_ret
    exact ⟨by rw [pB_no (fun h => G.out h.2.1)]; rfl, hB2⟩
  have G2 := hid g2
  rw [pB_yes g2]
  clear g2
  have x1 := block_cell hX2
  have y1 := block_cell hY2
  go_wp2_with fail
  clear x1 y1
  refine (sAlike6_any x y fa ha oa fb hb ob fc hc oc fd hd od w2 hxx hxy (AllNamed.of G1.out.2.2.2) (AllNamed.of G2.out.2.2.2) (hm1.mono hB2) (hm2.mono hB2)).mono ?_
  rintro e w3 ⟨rfl, hb3⟩
  go_wp2
  go_ret
  refine ⟨?_, hB2.trans (hb3.mono hB2.size)⟩
  rw [show AlikeP ts fs x y = (canonD x = canonD y) from propext ⟨fun h => h.2.2, fun h => ⟨G1.out, G2.out, h⟩⟩]
  rfl
end Go.Proofs.YtcfbahaokmhbkaaGreat

namespace Go.Proofs.YtcfbahaokmhbkaaGreat
open Go.RowKit

/-- The zero state for one that is not ok, else the canon, in blocks of its own. -/
def ICanon (ts : List ByteArray) (fs : List Fn) (x : VmD) (w : World) (e : Ending) (w' : World) : Prop :=
  (¬ VmGood ts fs x ∧ e = .returned (.agg #[.slice none 0 0, .slice none 0 0, .int .i64 0, .slice none 0 0, .int .i64 0, .int .i64 0, .int .i64 0, .int .i64 0, .string ⟨#[]⟩, .int .i64 0]) ∧ Below w.heap.size w w') ∨
  (VmGood ts fs x ∧ ∃ F xa xc O la sa rb, e = .returned (.agg (vmCells (some ⟨F, 0, none⟩) xa (some ⟨O, 0, none⟩) x.frames.length xc x.out.length (canonD x))) ∧ CanIs w' w.heap.size F xa xc O la sa rb (canonD x) ∧ Below w.heap.size w w')
/-- The same of the document's. -/
def SCanon (ts : List ByteArray) (fs : List Fn) (x : VmD) (w : World) (e : Ending) (w' : World) : Prop :=
  (¬ VmGood ts fs x ∧ e = .returned (.agg #[.slice none 0 0, .slice none 0 0, .int .i64 0, .slice none 0 0, .int .i64 0, .int .i64 0, .int .i64 0, .int .i64 0, .string ⟨#[]⟩, .int .i64 0]) ∧ Below w.heap.size w w') ∨
  (VmGood ts fs x ∧ ∃ xa xc ya yc za zc, e = .returned (.agg (vmCells xa ya za xc yc zc (canonD x))) ∧ VmAt w' w.heap.size xa ya za (canonD x) ∧ Below w.heap.size w w')

set_option maxRecDepth 100000 in
set_option maxHeartbeats 4000000 in
theorem iCanon_any (a1 a2 : Option Addr) (c1 c2 : Nat) (ts : List ByteArray) (fs : List Fn) (x : VmD) (fa ha oa : Option Addr) (fc hc oc : Nat) (w : World) (hsm : Small ts fs) (hst : StrsAt w 0 a1 ts) (hfn : FnsAt w 0 a2 fs) (hxx : VmSmall x) (hm1 : VmAt w 0 fa ha oa x) :
    Calls Tryz.prog 10 #[.agg #[.slice a1 ts.length c1, .slice a2 fs.length c2], .agg (vmCells fa ha oa fc hc oc x)] w (ICanon ts fs x w) := by
  conv => arg 3; unfold vmCells
  obtain ⟨wA, hwA⟩ : ∃ wA, wA = ((w.alloc (.cells #[.slice a1 ts.length c1, .slice a2 fs.length c2] 42)).alloc (.cells #[.slice fa x.frames.length fc, .slice ha x.heap.length hc, .int .i64 x.made, .slice oa x.out.length oc, .int .i64 x.status, .int .i64 x.trap, .int .i64 x.value.k, .int .i64 x.value.n, .string x.value.s, .int .i64 x.steps] 38)).alloc (.cells #[.slice none 0 0, .slice none 0 0, .int .i64 0, .slice none 0 0, .int .i64 0, .int .i64 0, .int .i64 0, .int .i64 0, .string ⟨#[]⟩, .int .i64 0] 38) := ⟨_, rfl⟩
  have hbA : Below w.heap.size w wA := by rw [hwA]; exact (((Below.refl _ _).alloc (Nat.le_refl _) _).alloc (by simp) _).alloc (by simp; omega) _
  have hM : wA.heap[w.heap.size]? = some (.cells #[.slice a1 ts.length c1, .slice a2 fs.length c2] 42 (0, 0)) := by rw [hwA]; exact block_old (block_old (block_new _ _ _) _) _
  have hX : wA.heap[w.heap.size + 1]? = some (.cells #[.slice fa x.frames.length fc, .slice ha x.heap.length hc, .int .i64 x.made, .slice oa x.out.length oc, .int .i64 x.status, .int .i64 x.trap, .int .i64 x.value.k, .int .i64 x.value.n, .string x.value.s, .int .i64 x.steps] 38 (0, 0)) := by rw [hwA]; exact block_old (block_new_at _ _ _ _ (by simp)) _
  have hR : wA.heap[w.heap.size + 1 + 1]? = some (.cells #[.slice none 0 0, .slice none 0 0, .int .i64 0, .slice none 0 0, .int .i64 0, .int .i64 0, .int .i64 0, .int .i64 0, .string ⟨#[]⟩, .int .i64 0] 38 (0, 0)) := by rw [hwA]; exact block_new_at _ _ _ _ (by simp)
  go_enter Tryz.func10, Tryz.ntmps10
  go_wp2_with fail
  rw [← hwA]
  clear hwA
  refine (iVmOk_any a1 a2 c1 c2 ts fs fa ha oa fc hc oc x wA hsm (hst.mono hbA) (hfn.mono hbA) hxx (hm1.mono hbA)).mono ?_
  rintro e w1 ⟨hsay, hb1⟩
  obtain rfl := hsay.eq
  clear hsay
  have hB1 := hbA.trans (hb1.mono hbA.size)
  have hX1 := block_kept hX hb1
  have hR1 := block_kept hR hb1
  clear hM hX hR hbA hb1
  by_cases g1 : VmGood ts fs x
  case neg =>
    have G := hid g1
    rw [pB_no g1]
    clear g1
    have r1 := block_cell hR1
    have r2 := block_free hR1
    go_wp2
    refine bodyPost_ret (v := .agg #[.slice none 0 0, .slice none 0 0, .int .i64 0, .slice none 0 0, .int .i64 0, .int .i64 0, .int .i64 0, .int .i64 0, .string ⟨#[]⟩, .int .i64 0]) (by simp [results, Tryz.results10, go_sem, r1]) rfl (.inl ⟨G.out, rfl, ?_⟩)
    exact put10_below hB1 (by omega) _ _ _ _ _ _ _ _ _ _
  have G1 := hid g1
  rw [pB_yes g1]
  clear g1
  have x1 := block_cell hX1
  go_wp2_with fail
  clear x1
  have hcn := canonOf_any fa ha oa fc hc oc x w1 hxx (hm1.mono hB1) (AllNamed.of G1.out.2.2.2)
  unfold vmCells at hcn
  refine hcn.mono ?_
  rintro e w2 ⟨F, xa, xc, O, la, sa, rb, rfl, hci, hb2⟩
  have hR2 := block_kept hR1 hb2
  have hB2 := hB1.trans (hb2.mono hB1.size)
  have r1 := block_cell hR2
  have r2 := block_free hR2
  have HC := hid hci
  have HR2 := hid hR2
  clear hcn hci
  go_wp2
  refine bodyPost_ret (v := .agg (vmCells (some ⟨F, 0, none⟩) xa (some ⟨O, 0, none⟩) x.frames.length xc x.out.length (canonD x))) (by unfold vmCells; simp [results, Tryz.results10, go_sem, r1]) rfl (.inr ⟨G1.out, F, xa, xc, O, la, sa, rb, rfl, ?_, ?_⟩)
  · refine (HC.out.kept fun kk c t ht hkk ho => ?_).low hB1.size
    have h1 : kk ≠ w.heap.size + 1 + 1 := fun e => by rw [e, HR2.out] at ho; cases ho; exact ht rfl
    iterate 10 (rw [Below.heap_setCell _ _ _ _ h1])
    exact ho
  · exact put10_below hB2 (by omega) _ _ _ _ _ _ _ _ _ _

set_option maxRecDepth 100000 in
set_option maxHeartbeats 4000000 in
theorem sCanonF_any (a1 a2 : Option Addr) (c1 c2 : Nat) (ts : List ByteArray) (fs : List Fn) (x : VmD) (fa ha oa : Option Addr) (fc hc oc : Nat) (w : World) (hsm : Small ts fs) (hst : StrsAt w 0 a1 ts) (hfn : FnsAt w 0 a2 fs) (hxx : VmSmall x) (hm1 : VmAt w 0 fa ha oa x) :
    Calls Tryz.prog 7 #[.agg #[.slice a1 ts.length c1, .slice a2 fs.length c2], .agg (vmCells fa ha oa fc hc oc x)] w (SCanon ts fs x w) := by
  conv => arg 3; unfold vmCells
  obtain ⟨wA, hwA⟩ : ∃ wA, wA = ((w.alloc (.cells #[.slice a1 ts.length c1, .slice a2 fs.length c2] 42)).alloc (.cells #[.slice fa x.frames.length fc, .slice ha x.heap.length hc, .int .i64 x.made, .slice oa x.out.length oc, .int .i64 x.status, .int .i64 x.trap, .int .i64 x.value.k, .int .i64 x.value.n, .string x.value.s, .int .i64 x.steps] 38)).alloc (.cells #[.slice none 0 0, .slice none 0 0, .int .i64 0, .slice none 0 0, .int .i64 0, .int .i64 0, .int .i64 0, .int .i64 0, .string ⟨#[]⟩, .int .i64 0] 38) := ⟨_, rfl⟩
  have hbA : Below w.heap.size w wA := by rw [hwA]; exact (((Below.refl _ _).alloc (Nat.le_refl _) _).alloc (by simp) _).alloc (by simp; omega) _
  have hM : wA.heap[w.heap.size]? = some (.cells #[.slice a1 ts.length c1, .slice a2 fs.length c2] 42 (0, 0)) := by rw [hwA]; exact block_old (block_old (block_new _ _ _) _) _
  have hX : wA.heap[w.heap.size + 1]? = some (.cells #[.slice fa x.frames.length fc, .slice ha x.heap.length hc, .int .i64 x.made, .slice oa x.out.length oc, .int .i64 x.status, .int .i64 x.trap, .int .i64 x.value.k, .int .i64 x.value.n, .string x.value.s, .int .i64 x.steps] 38 (0, 0)) := by rw [hwA]; exact block_old (block_new_at _ _ _ _ (by simp)) _
  have hR : wA.heap[w.heap.size + 1 + 1]? = some (.cells #[.slice none 0 0, .slice none 0 0, .int .i64 0, .slice none 0 0, .int .i64 0, .int .i64 0, .int .i64 0, .int .i64 0, .string ⟨#[]⟩, .int .i64 0] 38 (0, 0)) := by rw [hwA]; exact block_new_at _ _ _ _ (by simp)
  go_enter Tryz.func7, Tryz.ntmps7
  go_wp2_with fail
  rw [← hwA]
  clear hwA
  refine (sVmOk_any a1 a2 c1 c2 ts fs fa ha oa fc hc oc x wA hsm (hst.mono hbA) (hfn.mono hbA) hxx (hm1.mono hbA)).mono ?_
  rintro e w1 ⟨hsay, hb1⟩
  obtain rfl := hsay.eq
  clear hsay
  have hB1 := hbA.trans (hb1.mono hbA.size)
  have hX1 := block_kept hX hb1
  have hR1 := block_kept hR hb1
  clear hM hX hR hbA hb1
  by_cases g1 : VmGood ts fs x
  case neg =>
    have G := hid g1
    rw [pB_no g1]
    clear g1
    have r1 := block_cell hR1
    have r2 := block_free hR1
    go_wp2
    refine bodyPost_ret (v := .agg #[.slice none 0 0, .slice none 0 0, .int .i64 0, .slice none 0 0, .int .i64 0, .int .i64 0, .int .i64 0, .int .i64 0, .string ⟨#[]⟩, .int .i64 0]) (by simp [results, Tryz.results7, go_sem, r1]) rfl (.inl ⟨G.out, rfl, ?_⟩)
    exact put10_below hB1 (by omega) _ _ _ _ _ _ _ _ _ _
  have G1 := hid g1
  rw [pB_yes g1]
  clear g1
  have x1 := block_cell hX1
  go_wp2_with fail
  clear x1
  have hcn := sCanon_any fa ha oa fc hc oc x w1 hxx (hm1.mono hB1) (AllNamed.of G1.out.2.2.2)
  unfold vmCells at hcn
  refine hcn.mono ?_
  rintro e w2 ⟨xa, xc, ya, yc, za, zc, rfl, hvm, hb2⟩
  unfold vmCells
  have hR2 := block_kept hR1 hb2
  have hB2 := hB1.trans (hb2.mono hB1.size)
  have r1 := block_cell hR2
  have r2 := block_free hR2
  have HC := hid hvm
  have hlo := hB1.size
  have hRlt := lt_block hR1
  clear hcn hvm
  go_wp2
  refine bodyPost_ret (v := .agg (vmCells xa ya za xc yc zc (canonD x))) (by unfold vmCells; simp [results, Tryz.results7, go_sem, r1]) rfl (.inr ⟨G1.out, xa, xc, ya, yc, za, zc, rfl, ?_, ?_⟩)
  · refine VmAt.low (lo := w1.heap.size) ?_ hlo
    have hab : ∀ u v : World, Above w1.heap.size u v → VmAt u w1.heap.size xa ya za (canonD x) → VmAt v w1.heap.size xa ya za (canonD x) := fun u v h hv => ⟨hv.frs.above h, hv.recs.above h, hv.out.above h⟩
    refine hab w2 _ ?_ HC.out
    iterate 10 (refine Above.setCell ?_ (by show w.heap.size + 1 + 1 < w1.heap.size; exact hRlt) _)
    exact Above.refl _ _
  · exact put10_below hB2 (by omega) _ _ _ _ _ _ _ _ _ _
end Go.Proofs.YtcfbahaokmhbkaaGreat
