/-
  The document's l06Alike and Alike.
  Canon of both sides.
  Copies of states, and which blocks hold them.
  Marks in a copy of a state: what they may write.
  Marks in a copy of a state: records, texts, and the state.
  Marks in a copy of a state: the state.
  Exact marks in a state that lies in blocks of its own: frames.
  Exact marks in frames, and what holds them.
  Exact marks in records, and what holds them.
  Exact marks in a state in blocks of its own, and what holds them.
  Marks of a module: only blocks of its own are written.
  What Canon answers, of both sides, as ten cells; how it is compared, marked and held.
  The law laws.FnExactCanon, walked.
  The law laws.FnExactCanon, as it was translated from the landed commit, returns true at every argument and leaves the arguments as they were. No condition.
-/
import Derived.Test.YtcebgbcgkkfedaaGreatG5
import Derived.Test.YtcebgbcgkkfedaaGreatZB
import Derived.Test.YtcebgbcgkkfedaaGreatZA
import Derived.Test.YtcebgbcgkkfedaaGreatM3
import Derived.Test.YtcebgbcgkkfedaaGreatW2m
import Derived.Test.YtcebgbcgkkfedaaGreatN5
import Derived.Test.YtcebgbcgkkfedaaGreatS5
import Derived.Test.YtcebgbcgkkfedaaGreatC5
import Derived.Deep.CutRange
import Derived.Test.YtcebgbcgkkfedaaGreatRows
import Derived.WalkKit
import Derived.ProofKit
import Derived.OpenShut
import Derived.ShutString
import Derived.ChangeOld
import Derived.Below
import Derived.Lib.SmallJoins
namespace Go.Proofs.YtcebgbcgkkfedaaGreat
open Go.RowKit

set_option maxRecDepth 100000 in
set_option maxHeartbeats 4000000 in
theorem sAlike6_any (x y : VmD) (fa ha oa fb hb ob : Option Addr) (fc hc oc fd hd od : Nat) (w : World) (hxx : VmSmall x) (hxy : VmSmall y) (hAx : AllNamed x) (hAy : AllNamed y) (hm1 : VmAt w 0 fa ha oa x) (hm2 : VmAt w 0 fb hb ob y) :
    Calls Tryz.prog 44 #[.agg (vmCells fa ha oa fc hc oc x), .agg (vmCells fb hb ob fd hd od y)] w fun e w' => e = .returned (.bool (pB (canonD x = canonD y))) ∧ Below w.heap.size w w' := by
  conv => arg 3; unfold vmCells
  obtain ⟨wA, hwA⟩ : ∃ wA, wA = (w.alloc (.cells #[.slice fa x.frames.length fc, .slice ha x.heap.length hc, .int .i64 x.made, .slice oa x.out.length oc, .int .i64 x.status, .int .i64 x.trap, .int .i64 x.value.k, .int .i64 x.value.n, .string x.value.s, .int .i64 x.steps] 38)).alloc (.cells #[.slice fb y.frames.length fd, .slice hb y.heap.length hd, .int .i64 y.made, .slice ob y.out.length od, .int .i64 y.status, .int .i64 y.trap, .int .i64 y.value.k, .int .i64 y.value.n, .string y.value.s, .int .i64 y.steps] 38) := ⟨_, rfl⟩
  have hbA : Below w.heap.size w wA := by rw [hwA]; exact ((Below.refl _ _).alloc (Nat.le_refl _) _).alloc (by simp) _
  have hX : wA.heap[w.heap.size]? = some (.cells #[.slice fa x.frames.length fc, .slice ha x.heap.length hc, .int .i64 x.made, .slice oa x.out.length oc, .int .i64 x.status, .int .i64 x.trap, .int .i64 x.value.k, .int .i64 x.value.n, .string x.value.s, .int .i64 x.steps] 38 (0, 0)) := by rw [hwA]; exact block_old (block_new _ _ _) _
  have hY : wA.heap[w.heap.size + 1]? = some (.cells #[.slice fb y.frames.length fd, .slice hb y.heap.length hd, .int .i64 y.made, .slice ob y.out.length od, .int .i64 y.status, .int .i64 y.trap, .int .i64 y.value.k, .int .i64 y.value.n, .string y.value.s, .int .i64 y.steps] 38 (0, 0)) := by rw [hwA]; exact block_new_at _ _ _ _ (by simp)
  have hS : ∀ w', Below wA.heap.size wA w' → w'.cell? ⟨w.heap.size, 0, none⟩ = some (.slice fa x.frames.length fc) ∧ w'.cell? ⟨w.heap.size, 1, none⟩ = some (.slice ha x.heap.length hc) ∧ w'.cell? ⟨w.heap.size, 2, none⟩ = some (.int .i64 x.made) ∧ w'.cell? ⟨w.heap.size, 3, none⟩ = some (.slice oa x.out.length oc) ∧ w'.cell? ⟨w.heap.size, 4, none⟩ = some (.int .i64 x.status) ∧ w'.cell? ⟨w.heap.size, 5, none⟩ = some (.int .i64 x.trap) ∧ w'.cell? ⟨w.heap.size, 6, none⟩ = some (.int .i64 x.value.k) ∧ w'.cell? ⟨w.heap.size, 7, none⟩ = some (.int .i64 x.value.n) ∧ w'.cell? ⟨w.heap.size, 8, none⟩ = some (.string x.value.s) ∧ w'.cell? ⟨w.heap.size, 9, none⟩ = some (.int .i64 x.steps) ∧ w'.cell? ⟨w.heap.size + 1, 0, none⟩ = some (.slice fb y.frames.length fd) ∧ w'.cell? ⟨w.heap.size + 1, 1, none⟩ = some (.slice hb y.heap.length hd) ∧ w'.cell? ⟨w.heap.size + 1, 2, none⟩ = some (.int .i64 y.made) ∧ w'.cell? ⟨w.heap.size + 1, 3, none⟩ = some (.slice ob y.out.length od) ∧ w'.cell? ⟨w.heap.size + 1, 4, none⟩ = some (.int .i64 y.status) ∧ w'.cell? ⟨w.heap.size + 1, 5, none⟩ = some (.int .i64 y.trap) ∧ w'.cell? ⟨w.heap.size + 1, 6, none⟩ = some (.int .i64 y.value.k) ∧ w'.cell? ⟨w.heap.size + 1, 7, none⟩ = some (.int .i64 y.value.n) ∧ w'.cell? ⟨w.heap.size + 1, 8, none⟩ = some (.string y.value.s) ∧ w'.cell? ⟨w.heap.size + 1, 9, none⟩ = some (.int .i64 y.steps) := fun w' q => ⟨by rw [block_cell (block_kept hX q)]; rfl, by rw [block_cell (block_kept hX q)]; rfl, by rw [block_cell (block_kept hX q)]; rfl, by rw [block_cell (block_kept hX q)]; rfl, by rw [block_cell (block_kept hX q)]; rfl, by rw [block_cell (block_kept hX q)]; rfl, by rw [block_cell (block_kept hX q)]; rfl, by rw [block_cell (block_kept hX q)]; rfl, by rw [block_cell (block_kept hX q)]; rfl, by rw [block_cell (block_kept hX q)]; rfl, by rw [block_cell (block_kept hY q)]; rfl, by rw [block_cell (block_kept hY q)]; rfl, by rw [block_cell (block_kept hY q)]; rfl, by rw [block_cell (block_kept hY q)]; rfl, by rw [block_cell (block_kept hY q)]; rfl, by rw [block_cell (block_kept hY q)]; rfl, by rw [block_cell (block_kept hY q)]; rfl, by rw [block_cell (block_kept hY q)]; rfl, by rw [block_cell (block_kept hY q)]; rfl, by rw [block_cell (block_kept hY q)]; rfl⟩
  have HS := hid hS
  obtain ⟨j0, j1, j2, j3, j4, j5, j6, j7, j8, j9, j10, j11, j12, j13, j14, j15, j16, j17, j18, j19⟩ := hS wA (Below.refl _ _)
  have HB := hid hbA
  have HMX := hid (hm1.mono hbA)
  have HMY := hid (hm2.mono hbA)
  clear hS hX hY hbA hm1 hm2
  have q : Below wA.heap.size wA wA.drew := (Below.refl _ _).drew
  go_enter Tryz.func44, Tryz.ntmps44
  go_wp2
  rw [← hwA]
  clear hwA
  go_region_held3 (fun w' => w'.cell? ⟨w.heap.size, 0, none⟩ = some (.slice fa x.frames.length fc) ∧ w'.cell? ⟨w.heap.size, 1, none⟩ = some (.slice ha x.heap.length hc) ∧ w'.cell? ⟨w.heap.size, 2, none⟩ = some (.int .i64 x.made) ∧ w'.cell? ⟨w.heap.size, 3, none⟩ = some (.slice oa x.out.length oc) ∧ w'.cell? ⟨w.heap.size, 4, none⟩ = some (.int .i64 x.status) ∧ w'.cell? ⟨w.heap.size, 5, none⟩ = some (.int .i64 x.trap) ∧ w'.cell? ⟨w.heap.size, 6, none⟩ = some (.int .i64 x.value.k) ∧ w'.cell? ⟨w.heap.size, 7, none⟩ = some (.int .i64 x.value.n) ∧ w'.cell? ⟨w.heap.size, 8, none⟩ = some (.string x.value.s) ∧ w'.cell? ⟨w.heap.size, 9, none⟩ = some (.int .i64 x.steps) ∧ w'.cell? ⟨w.heap.size + 1, 0, none⟩ = some (.slice fb y.frames.length fd) ∧ w'.cell? ⟨w.heap.size + 1, 1, none⟩ = some (.slice hb y.heap.length hd) ∧ w'.cell? ⟨w.heap.size + 1, 2, none⟩ = some (.int .i64 y.made) ∧ w'.cell? ⟨w.heap.size + 1, 3, none⟩ = some (.slice ob y.out.length od) ∧ w'.cell? ⟨w.heap.size + 1, 4, none⟩ = some (.int .i64 y.status) ∧ w'.cell? ⟨w.heap.size + 1, 5, none⟩ = some (.int .i64 y.trap) ∧ w'.cell? ⟨w.heap.size + 1, 6, none⟩ = some (.int .i64 y.value.k) ∧ w'.cell? ⟨w.heap.size + 1, 7, none⟩ = some (.int .i64 y.value.n) ∧ w'.cell? ⟨w.heap.size + 1, 8, none⟩ = some (.string y.value.s) ∧ w'.cell? ⟨w.heap.size + 1, 9, none⟩ = some (.int .i64 y.steps))
    (first | exact ⟨j0, j1, j2, j3, j4, j5, j6, j7, j8, j9, j10, j11, j12, j13, j14, j15, j16, j17, j18, j19⟩ | exact HS.out _ q)
    (first
      | (go_at_call_of 24 fa; refine (sCanon_any fa ha oa fc hc oc x _ hxx (HMX.out.mono q) hAx).mono ?_; rintro e wca ⟨xaa, xca, yaa, yca, zaa, zca, rfl, hca, kd⟩; have hva := hca.low (Nat.zero_le _); have q := q.trans (kd.mono q.size))
      | (go_at_call_of 24 fb; refine (sCanon_any fb hb ob fd hd od y _ hxy (HMY.out.mono q) hAy).mono ?_; rintro e wcb ⟨xab, xcb, yab, ycb, zab, zcb, rfl, hcb, kd⟩; have hvb := hcb.low (Nat.zero_le _); have hva := hva.mono kd; have q := q.trans (kd.mono q.size))
      | (go_at_call 71; refine (sSame_any (canonD x) (canonD y) _ _ _ _ _ _ _ _ _ _ _ _ _ hxx.canon hva hvb).mono ?_; rintro e w9 ⟨rfl, kd⟩; have q := q.trans (kd.mono q.size)))
  all_goals
    go_wp2
    go_ret
    exact ⟨rfl, HB.out.trans (q.mono HB.out.size)⟩

set_option maxRecDepth 100000 in
set_option maxHeartbeats 4000000 in
theorem sAlike_any (a1 a2 : Option Addr) (c1 c2 : Nat) (ts : List ByteArray) (fs : List Fn) (x y : VmD) (fa ha oa fb hb ob : Option Addr) (fc hc oc fd hd od : Nat) (w : World) (hsm : Small ts fs) (hst : StrsAt w 0 a1 ts) (hfn : FnsAt w 0 a2 fs) (hxx : VmSmall x) (hxy : VmSmall y) (hm1 : VmAt w 0 fa ha oa x) (hm2 : VmAt w 0 fb hb ob y) :
    Calls Tryz.prog 16 #[.agg #[.slice a1 ts.length c1, .slice a2 fs.length c2], .agg (vmCells fa ha oa fc hc oc x), .agg (vmCells fb hb ob fd hd od y)] w fun e w' => e = .returned (.bool (pB (AlikeP ts fs x y))) ∧ Below w.heap.size w w' := by
  conv => arg 3; unfold vmCells
  obtain ⟨wA, hwA⟩ : ∃ wA, wA = ((w.alloc (.cells #[.slice a1 ts.length c1, .slice a2 fs.length c2] 42)).alloc (.cells #[.slice fa x.frames.length fc, .slice ha x.heap.length hc, .int .i64 x.made, .slice oa x.out.length oc, .int .i64 x.status, .int .i64 x.trap, .int .i64 x.value.k, .int .i64 x.value.n, .string x.value.s, .int .i64 x.steps] 38)).alloc (.cells #[.slice fb y.frames.length fd, .slice hb y.heap.length hd, .int .i64 y.made, .slice ob y.out.length od, .int .i64 y.status, .int .i64 y.trap, .int .i64 y.value.k, .int .i64 y.value.n, .string y.value.s, .int .i64 y.steps] 38) := ⟨_, rfl⟩
  have hbA : Below w.heap.size w wA := by rw [hwA]; exact (((Below.refl _ _).alloc (Nat.le_refl _) _).alloc (by simp) _).alloc (by simp; omega) _
  have hM : wA.heap[w.heap.size]? = some (.cells #[.slice a1 ts.length c1, .slice a2 fs.length c2] 42 (0, 0)) := by rw [hwA]; exact block_old (block_old (block_new _ _ _) _) _
  have hX : wA.heap[w.heap.size + 1]? = some (.cells #[.slice fa x.frames.length fc, .slice ha x.heap.length hc, .int .i64 x.made, .slice oa x.out.length oc, .int .i64 x.status, .int .i64 x.trap, .int .i64 x.value.k, .int .i64 x.value.n, .string x.value.s, .int .i64 x.steps] 38 (0, 0)) := by rw [hwA]; exact block_old (block_new_at _ _ _ _ (by simp)) _
  have hY : wA.heap[w.heap.size + 1 + 1]? = some (.cells #[.slice fb y.frames.length fd, .slice hb y.heap.length hd, .int .i64 y.made, .slice ob y.out.length od, .int .i64 y.status, .int .i64 y.trap, .int .i64 y.value.k, .int .i64 y.value.n, .string y.value.s, .int .i64 y.steps] 38 (0, 0)) := by rw [hwA]; exact block_new_at _ _ _ _ (by simp)
  go_enter Tryz.func16, Tryz.ntmps16
  go_wp2_with fail
  rw [← hwA]
  clear hwA
  refine (sVmOk_any a1 a2 c1 c2 ts fs fa ha oa fc hc oc x wA hsm (hst.mono hbA) (hfn.mono hbA) hxx (hm1.mono hbA)).mono ?_
  rintro e w1 ⟨hsay, hb1⟩
  obtain rfl := hsay.eq
  clear hsay
  have hB1 := hbA.trans (hb1.mono hbA.size)
  have hM1 := block_kept hM hb1
  have hX1 := block_kept hX hb1
  have hY1 := block_kept hY hb1
  clear hM hX hY hbA hb1
  by_cases g1 : VmGood ts fs x
  case neg =>
    have G := hid g1
    rw [pB_no g1]
    clear g1
    go_wp2
    go_ret
    exact ⟨by rw [pB_no (fun h => G.out h.1)]; rfl, hB1⟩
  have G1 := hid g1
  rw [pB_yes g1]
  clear g1
  have m1 := block_cell hM1
  have y1 := block_cell hY1
  go_wp2_with fail
  clear m1 y1
  refine (sVmOk_any a1 a2 c1 c2 ts fs fb hb ob fd hd od y w1 hsm (hst.mono hB1) (hfn.mono hB1) hxy (hm2.mono hB1)).mono ?_
  rintro e w2 ⟨hsay, hb2⟩
  obtain rfl := hsay.eq
  clear hsay
  have hB2 := hB1.trans (hb2.mono hB1.size)
  have hX2 := block_kept hX1 hb2
  have hY2 := block_kept hY1 hb2
  clear hM1 hX1 hY1 hB1 hb2
  by_cases g2 : VmGood ts fs y
  case neg =>
    have G := hid g2
    rw [pB_no g2]
    clear g2
    go_wp2
    go_ret
    exact ⟨by rw [pB_no (fun h => G.out h.2.1)]; rfl, hB2⟩
  have G2 := hid g2
  rw [pB_yes g2]
  clear g2
  have x1 := block_cell hX2
  have y1 := block_cell hY2
  go_wp2_with fail
  clear x1 y1
  refine (sAlike6_any x y fa ha oa fb hb ob fc hc oc fd hd od w2 hxx hxy (AllNamed.of G1.out.2.2.2) (AllNamed.of G2.out.2.2.2) (hm1.mono hB2) (hm2.mono hB2)).mono ?_
  rintro e w3 ⟨rfl, hb3⟩
  go_wp2
  go_ret
  refine ⟨?_, hB2.trans (hb3.mono hB2.size)⟩
  rw [show AlikeP ts fs x y = (canonD x = canonD y) from propext ⟨fun h => h.2.2, fun h => ⟨G1.out, G2.out, h⟩⟩]
  rfl
end Go.Proofs.YtcebgbcgkkfedaaGreat

namespace Go.Proofs.YtcebgbcgkkfedaaGreat
open Go.RowKit

/-- The zero state for one that is not ok, else the canon, in blocks of its own. -/
def ICanon (ts : List ByteArray) (fs : List Fn) (x : VmD) (w : World) (e : Ending) (w' : World) : Prop :=
  (¬ VmGood ts fs x ∧ e = .returned (.agg #[.slice none 0 0, .slice none 0 0, .int .i64 0, .slice none 0 0, .int .i64 0, .int .i64 0, .int .i64 0, .int .i64 0, .string ⟨#[]⟩, .int .i64 0]) ∧ Below w.heap.size w w') ∨
  (VmGood ts fs x ∧ ∃ F xa xc O la sa rb, e = .returned (.agg (vmCells (some ⟨F, 0, none⟩) xa (some ⟨O, 0, none⟩) x.frames.length xc x.out.length (canonD x))) ∧ CanIs w' w.heap.size F xa xc O la sa rb (canonD x) ∧ Below w.heap.size w w')
/-- The same of the document's. -/
def SCanon (ts : List ByteArray) (fs : List Fn) (x : VmD) (w : World) (e : Ending) (w' : World) : Prop :=
  (¬ VmGood ts fs x ∧ e = .returned (.agg #[.slice none 0 0, .slice none 0 0, .int .i64 0, .slice none 0 0, .int .i64 0, .int .i64 0, .int .i64 0, .int .i64 0, .string ⟨#[]⟩, .int .i64 0]) ∧ Below w.heap.size w w') ∨
  (VmGood ts fs x ∧ ∃ xa xc ya yc za zc, e = .returned (.agg (vmCells xa ya za xc yc zc (canonD x))) ∧ VmAt w' w.heap.size xa ya za (canonD x) ∧ Below w.heap.size w w')

set_option maxRecDepth 100000 in
set_option maxHeartbeats 4000000 in
theorem iCanon_any (a1 a2 : Option Addr) (c1 c2 : Nat) (ts : List ByteArray) (fs : List Fn) (x : VmD) (fa ha oa : Option Addr) (fc hc oc : Nat) (w : World) (hsm : Small ts fs) (hst : StrsAt w 0 a1 ts) (hfn : FnsAt w 0 a2 fs) (hxx : VmSmall x) (hm1 : VmAt w 0 fa ha oa x) :
    Calls Tryz.prog 10 #[.agg #[.slice a1 ts.length c1, .slice a2 fs.length c2], .agg (vmCells fa ha oa fc hc oc x)] w (ICanon ts fs x w) := by
  conv => arg 3; unfold vmCells
  obtain ⟨wA, hwA⟩ : ∃ wA, wA = ((w.alloc (.cells #[.slice a1 ts.length c1, .slice a2 fs.length c2] 42)).alloc (.cells #[.slice fa x.frames.length fc, .slice ha x.heap.length hc, .int .i64 x.made, .slice oa x.out.length oc, .int .i64 x.status, .int .i64 x.trap, .int .i64 x.value.k, .int .i64 x.value.n, .string x.value.s, .int .i64 x.steps] 38)).alloc (.cells #[.slice none 0 0, .slice none 0 0, .int .i64 0, .slice none 0 0, .int .i64 0, .int .i64 0, .int .i64 0, .int .i64 0, .string ⟨#[]⟩, .int .i64 0] 38) := ⟨_, rfl⟩
  have hbA : Below w.heap.size w wA := by rw [hwA]; exact (((Below.refl _ _).alloc (Nat.le_refl _) _).alloc (by simp) _).alloc (by simp; omega) _
  have hM : wA.heap[w.heap.size]? = some (.cells #[.slice a1 ts.length c1, .slice a2 fs.length c2] 42 (0, 0)) := by rw [hwA]; exact block_old (block_old (block_new _ _ _) _) _
  have hX : wA.heap[w.heap.size + 1]? = some (.cells #[.slice fa x.frames.length fc, .slice ha x.heap.length hc, .int .i64 x.made, .slice oa x.out.length oc, .int .i64 x.status, .int .i64 x.trap, .int .i64 x.value.k, .int .i64 x.value.n, .string x.value.s, .int .i64 x.steps] 38 (0, 0)) := by rw [hwA]; exact block_old (block_new_at _ _ _ _ (by simp)) _
  have hR : wA.heap[w.heap.size + 1 + 1]? = some (.cells #[.slice none 0 0, .slice none 0 0, .int .i64 0, .slice none 0 0, .int .i64 0, .int .i64 0, .int .i64 0, .int .i64 0, .string ⟨#[]⟩, .int .i64 0] 38 (0, 0)) := by rw [hwA]; exact block_new_at _ _ _ _ (by simp)
  go_enter Tryz.func10, Tryz.ntmps10
  go_wp2_with fail
  rw [← hwA]
  clear hwA
  refine (iVmOk_any a1 a2 c1 c2 ts fs fa ha oa fc hc oc x wA hsm (hst.mono hbA) (hfn.mono hbA) hxx (hm1.mono hbA)).mono ?_
  rintro e w1 ⟨hsay, hb1⟩
  obtain rfl := hsay.eq
  clear hsay
  have hB1 := hbA.trans (hb1.mono hbA.size)
  have hX1 := block_kept hX hb1
  have hR1 := block_kept hR hb1
  clear hM hX hR hbA hb1
  by_cases g1 : VmGood ts fs x
  case neg =>
    have G := hid g1
    rw [pB_no g1]
    clear g1
    have r1 := block_cell hR1
    have r2 := block_free hR1
    go_wp2
    refine bodyPost_ret (v := .agg #[.slice none 0 0, .slice none 0 0, .int .i64 0, .slice none 0 0, .int .i64 0, .int .i64 0, .int .i64 0, .int .i64 0, .string ⟨#[]⟩, .int .i64 0]) (by simp [results, Tryz.results10, go_sem, r1]) rfl (.inl ⟨G.out, rfl, ?_⟩)
    exact put10_below hB1 (by omega) _ _ _ _ _ _ _ _ _ _
  have G1 := hid g1
  rw [pB_yes g1]
  clear g1
  have x1 := block_cell hX1
  go_wp2_with fail
  clear x1
  have hcn := canonOf_any fa ha oa fc hc oc x w1 hxx (hm1.mono hB1) (AllNamed.of G1.out.2.2.2)
  unfold vmCells at hcn
  refine hcn.mono ?_
  rintro e w2 ⟨F, xa, xc, O, la, sa, rb, rfl, hci, hb2⟩
  have hR2 := block_kept hR1 hb2
  have hB2 := hB1.trans (hb2.mono hB1.size)
  have r1 := block_cell hR2
  have r2 := block_free hR2
  have HC := hid hci
  have HR2 := hid hR2
  clear hcn hci
  go_wp2
  refine bodyPost_ret (v := .agg (vmCells (some ⟨F, 0, none⟩) xa (some ⟨O, 0, none⟩) x.frames.length xc x.out.length (canonD x))) (by unfold vmCells; simp [results, Tryz.results10, go_sem, r1]) rfl (.inr ⟨G1.out, F, xa, xc, O, la, sa, rb, rfl, ?_, ?_⟩)
  · refine (HC.out.kept fun kk c t ht hkk ho => ?_).low hB1.size
    have h1 : kk ≠ w.heap.size + 1 + 1 := fun e => by rw [e, HR2.out] at ho; cases ho; exact ht rfl
    iterate 10 (rw [Below.heap_setCell _ _ _ _ h1])
    exact ho
  · exact put10_below hB2 (by omega) _ _ _ _ _ _ _ _ _ _

set_option maxRecDepth 100000 in
set_option maxHeartbeats 4000000 in
theorem sCanonF_any (a1 a2 : Option Addr) (c1 c2 : Nat) (ts : List ByteArray) (fs : List Fn) (x : VmD) (fa ha oa : Option Addr) (fc hc oc : Nat) (w : World) (hsm : Small ts fs) (hst : StrsAt w 0 a1 ts) (hfn : FnsAt w 0 a2 fs) (hxx : VmSmall x) (hm1 : VmAt w 0 fa ha oa x) :
    Calls Tryz.prog 7 #[.agg #[.slice a1 ts.length c1, .slice a2 fs.length c2], .agg (vmCells fa ha oa fc hc oc x)] w (SCanon ts fs x w) := by
  conv => arg 3; unfold vmCells
  obtain ⟨wA, hwA⟩ : ∃ wA, wA = ((w.alloc (.cells #[.slice a1 ts.length c1, .slice a2 fs.length c2] 42)).alloc (.cells #[.slice fa x.frames.length fc, .slice ha x.heap.length hc, .int .i64 x.made, .slice oa x.out.length oc, .int .i64 x.status, .int .i64 x.trap, .int .i64 x.value.k, .int .i64 x.value.n, .string x.value.s, .int .i64 x.steps] 38)).alloc (.cells #[.slice none 0 0, .slice none 0 0, .int .i64 0, .slice none 0 0, .int .i64 0, .int .i64 0, .int .i64 0, .int .i64 0, .string ⟨#[]⟩, .int .i64 0] 38) := ⟨_, rfl⟩
  have hbA : Below w.heap.size w wA := by rw [hwA]; exact (((Below.refl _ _).alloc (Nat.le_refl _) _).alloc (by simp) _).alloc (by simp; omega) _
  have hM : wA.heap[w.heap.size]? = some (.cells #[.slice a1 ts.length c1, .slice a2 fs.length c2] 42 (0, 0)) := by rw [hwA]; exact block_old (block_old (block_new _ _ _) _) _
  have hX : wA.heap[w.heap.size + 1]? = some (.cells #[.slice fa x.frames.length fc, .slice ha x.heap.length hc, .int .i64 x.made, .slice oa x.out.length oc, .int .i64 x.status, .int .i64 x.trap, .int .i64 x.value.k, .int .i64 x.value.n, .string x.value.s, .int .i64 x.steps] 38 (0, 0)) := by rw [hwA]; exact block_old (block_new_at _ _ _ _ (by simp)) _
  have hR : wA.heap[w.heap.size + 1 + 1]? = some (.cells #[.slice none 0 0, .slice none 0 0, .int .i64 0, .slice none 0 0, .int .i64 0, .int .i64 0, .int .i64 0, .int .i64 0, .string ⟨#[]⟩, .int .i64 0] 38 (0, 0)) := by rw [hwA]; exact block_new_at _ _ _ _ (by simp)
  go_enter Tryz.func7, Tryz.ntmps7
  go_wp2_with fail
  rw [← hwA]
  clear hwA
  refine (sVmOk_any a1 a2 c1 c2 ts fs fa ha oa fc hc oc x wA hsm (hst.mono hbA) (hfn.mono hbA) hxx (hm1.mono hbA)).mono ?_
  rintro e w1 ⟨hsay, hb1⟩
  obtain rfl := hsay.eq
  clear hsay
  have hB1 := hbA.trans (hb1.mono hbA.size)
  have hX1 := block_kept hX hb1
  have hR1 := block_kept hR hb1
  clear hM hX hR hbA hb1
  by_cases g1 : VmGood ts fs x
  case neg =>
    have G := hid g1
    rw [pB_no g1]
    clear g1
    have r1 := block_cell hR1
    have r2 := block_free hR1
    go_wp2
    refine bodyPost_ret (v := .agg #[.slice none 0 0, .slice none 0 0, .int .i64 0, .slice none 0 0, .int .i64 0, .int .i64 0, .int .i64 0, .int .i64 0, .string ⟨#[]⟩, .int .i64 0]) (by simp [results, Tryz.results7, go_sem, r1]) rfl (.inl ⟨G.out, rfl, ?_⟩)
    exact put10_below hB1 (by omega) _ _ _ _ _ _ _ _ _ _
  have G1 := hid g1
  rw [pB_yes g1]
  clear g1
  have x1 := block_cell hX1
  go_wp2_with fail
  clear x1
  have hcn := sCanon_any fa ha oa fc hc oc x w1 hxx (hm1.mono hB1) (AllNamed.of G1.out.2.2.2)
  unfold vmCells at hcn
  refine hcn.mono ?_
  rintro e w2 ⟨xa, xc, ya, yc, za, zc, rfl, hvm, hb2⟩
  unfold vmCells
  have hR2 := block_kept hR1 hb2
  have hB2 := hB1.trans (hb2.mono hB1.size)
  have r1 := block_cell hR2
  have r2 := block_free hR2
  have HC := hid hvm
  have hlo := hB1.size
  have hRlt := lt_block hR1
  clear hcn hvm
  go_wp2
  refine bodyPost_ret (v := .agg (vmCells xa ya za xc yc zc (canonD x))) (by unfold vmCells; simp [results, Tryz.results7, go_sem, r1]) rfl (.inr ⟨G1.out, xa, xc, ya, yc, za, zc, rfl, ?_, ?_⟩)
  · refine VmAt.low (lo := w1.heap.size) ?_ hlo
    have hab : ∀ u v : World, Above w1.heap.size u v → VmAt u w1.heap.size xa ya za (canonD x) → VmAt v w1.heap.size xa ya za (canonD x) := fun u v h hv => ⟨hv.frs.above h, hv.recs.above h, hv.out.above h⟩
    refine hab w2 _ ?_ HC.out
    iterate 10 (refine Above.setCell ?_ (by show w.heap.size + 1 + 1 < w1.heap.size; exact hRlt) _)
    exact Above.refl _ _
  · exact put10_below hB2 (by omega) _ _ _ _ _ _ _ _ _ _
end Go.Proofs.YtcebgbcgkkfedaaGreat

namespace Go.Proofs.YtcebgbcgkkfedaaGreat
open Go.RowKit

/-- Values in a block from lo on. -/
def VB (w : World) (lo : Nat) (a : Option Addr) (vs : List Vl) : Prop := ValsAt w lo a vs ∧ ∃ g, a = some ⟨g, 0, none⟩ ∧ lo ≤ g ∧ ValsBlk w g vs.length
theorem ValsBlk.above {w w' : World} {lo g n : Nat} (h : ValsBlk w g n) (hb : Above lo w w') (hg : lo ≤ g) : ValsBlk w' g n := by
  obtain ⟨c, h1, h2⟩ := h
  exact ⟨c, block_above hb hg h1, h2⟩
theorem VB.mono {w w' : World} {lo : Nat} {a : Option Addr} {vs : List Vl} (h : VB w lo a vs) (hb : Below w.heap.size w w') : VB w' lo a vs := by
  obtain ⟨h1, g, h2, h3, h4⟩ := h
  exact ⟨h1.mono hb, g, h2, h3, h4.mono hb⟩
theorem VB.above {w w' : World} {lo : Nat} {a : Option Addr} {vs : List Vl} (h : VB w lo a vs) (hb : Above lo w w') : VB w' lo a vs := by
  obtain ⟨h1, g, h2, h3, h4⟩ := h
  exact ⟨h1.above hb, g, h2, h3, h4.above hb h3⟩
theorem VB.low {w : World} {lo lo' : Nat} {a : Option Addr} {vs : List Vl} (h : VB w lo a vs) (hl : lo' ≤ lo) : VB w lo' a vs := by
  obtain ⟨h1, g, h2, h3, h4⟩ := h
  exact ⟨h1.low hl, g, h2, Nat.le_trans hl h3, h4⟩

/-- Frames in a block, and their values. -/
def FB (w : World) (lo : Nat) (a : Option Addr) (fr : List Fr) : Prop := ∃ F cur, a = some ⟨F, 0, none⟩ ∧ lo ≤ F ∧ w.heap[F]? = some (.cells cur 90 (0, 0)) ∧ cur.size = fr.length * 4 ∧
  ∀ j (hj : j < fr.length), cur[j * 4]? = some (.int .i64 fr[j].fn) ∧ cur[j * 4 + 1]? = some (.int .i64 fr[j].pc) ∧ ∃ g g2, cur[j * 4 + 2]? = some (.slice (some ⟨g, 0, none⟩) fr[j].locals.length fr[j].locals.length) ∧ cur[j * 4 + 3]? = some (.slice (some ⟨g2, 0, none⟩) fr[j].stack.length fr[j].stack.length) ∧ VB w lo (some ⟨g, 0, none⟩) fr[j].locals ∧ VB w lo (some ⟨g2, 0, none⟩) fr[j].stack
def RB (w : World) (lo : Nat) (a : Option Addr) (rs : List (List Vl)) : Prop := ∃ R cur, a = some ⟨R, 0, none⟩ ∧ lo ≤ R ∧ w.heap[R]? = some (.cells cur 94 (0, 0)) ∧ cur.size = rs.length * 1 ∧
  ∀ j (hj : j < rs.length), ∃ g, cur[j]? = some (.slice (some ⟨g, 0, none⟩) rs[j].length rs[j].length) ∧ VB w lo (some ⟨g, 0, none⟩) rs[j]
def OB (w : World) (lo : Nat) (a : Option Addr) (ss : List ByteArray) : Prop := StrsAt w lo a ss ∧ ∃ g, a = some ⟨g, 0, none⟩ ∧ lo ≤ g ∧ TextBlk w g ss.length
theorem FB.mono {w w' : World} {lo : Nat} {a : Option Addr} {fr : List Fr} (h : FB w lo a fr) (hb : Below w.heap.size w w') : FB w' lo a fr := by
  obtain ⟨F, cur, h1, h2, h3, h4, h5⟩ := h
  refine ⟨F, cur, h1, h2, block_kept h3 hb, h4, fun j hj => ?_⟩
  obtain ⟨d1, d2, g, g2, d3, d4, d5, d6⟩ := h5 j hj
  exact ⟨d1, d2, g, g2, d3, d4, d5.mono hb, d6.mono hb⟩
theorem FB.above {w w' : World} {lo : Nat} {a : Option Addr} {fr : List Fr} (h : FB w lo a fr) (hb : Above lo w w') : FB w' lo a fr := by
  obtain ⟨F, cur, h1, h2, h3, h4, h5⟩ := h
  refine ⟨F, cur, h1, h2, block_above hb h2 h3, h4, fun j hj => ?_⟩
  obtain ⟨d1, d2, g, g2, d3, d4, d5, d6⟩ := h5 j hj
  exact ⟨d1, d2, g, g2, d3, d4, d5.above hb, d6.above hb⟩
theorem FB.low {w : World} {lo lo' : Nat} {a : Option Addr} {fr : List Fr} (h : FB w lo a fr) (hl : lo' ≤ lo) : FB w lo' a fr := by
  obtain ⟨F, cur, h1, h2, h3, h4, h5⟩ := h
  refine ⟨F, cur, h1, Nat.le_trans hl h2, h3, h4, fun j hj => ?_⟩
  obtain ⟨d1, d2, g, g2, d3, d4, d5, d6⟩ := h5 j hj
  exact ⟨d1, d2, g, g2, d3, d4, d5.low hl, d6.low hl⟩
theorem RB.mono {w w' : World} {lo : Nat} {a : Option Addr} {rs : List (List Vl)} (h : RB w lo a rs) (hb : Below w.heap.size w w') : RB w' lo a rs := by
  obtain ⟨F, cur, h1, h2, h3, h4, h5⟩ := h
  refine ⟨F, cur, h1, h2, block_kept h3 hb, h4, fun j hj => ?_⟩
  obtain ⟨g, d1, d2⟩ := h5 j hj
  exact ⟨g, d1, d2.mono hb⟩
theorem RB.above {w w' : World} {lo : Nat} {a : Option Addr} {rs : List (List Vl)} (h : RB w lo a rs) (hb : Above lo w w') : RB w' lo a rs := by
  obtain ⟨F, cur, h1, h2, h3, h4, h5⟩ := h
  refine ⟨F, cur, h1, h2, block_above hb h2 h3, h4, fun j hj => ?_⟩
  obtain ⟨g, d1, d2⟩ := h5 j hj
  exact ⟨g, d1, d2.above hb⟩
theorem RB.low {w : World} {lo lo' : Nat} {a : Option Addr} {rs : List (List Vl)} (h : RB w lo a rs) (hl : lo' ≤ lo) : RB w lo' a rs := by
  obtain ⟨F, cur, h1, h2, h3, h4, h5⟩ := h
  refine ⟨F, cur, h1, Nat.le_trans hl h2, h3, h4, fun j hj => ?_⟩
  obtain ⟨g, d1, d2⟩ := h5 j hj
  exact ⟨g, d1, d2.low hl⟩
theorem OB.mono {w w' : World} {lo : Nat} {a : Option Addr} {ss : List ByteArray} (h : OB w lo a ss) (hb : Below w.heap.size w w') : OB w' lo a ss := by
  obtain ⟨h1, g, h2, h3, h4⟩ := h
  exact ⟨h1.mono hb, g, h2, h3, h4.mono hb⟩
theorem OB.above {w w' : World} {lo : Nat} {a : Option Addr} {ss : List ByteArray} (h : OB w lo a ss) (hb : Above lo w w') : OB w' lo a ss := by
  obtain ⟨h1, g, h2, h3, h4⟩ := h
  exact ⟨h1.above hb, g, h2, h3, h4.above hb h3⟩
theorem OB.low {w : World} {lo lo' : Nat} {a : Option Addr} {ss : List ByteArray} (h : OB w lo a ss) (hl : lo' ≤ lo) : OB w lo' a ss := by
  obtain ⟨h1, g, h2, h3, h4⟩ := h
  exact ⟨h1.low hl, g, h2, Nat.le_trans hl h3, h4⟩
structure VmB (w : World) (lo : Nat) (fa ha oa : Option Addr) (d : VmD) : Prop where
  frs : FB w lo fa d.frames
  recs : RB w lo ha d.heap
  out : OB w lo oa d.out
theorem VmB.mono {w w' : World} {lo : Nat} {fa ha oa : Option Addr} {d : VmD} (h : VmB w lo fa ha oa d) (hb : Below w.heap.size w w') : VmB w' lo fa ha oa d := ⟨h.frs.mono hb, h.recs.mono hb, h.out.mono hb⟩
theorem VmB.above {w w' : World} {lo : Nat} {fa ha oa : Option Addr} {d : VmD} (h : VmB w lo fa ha oa d) (hb : Above lo w w') : VmB w' lo fa ha oa d := ⟨h.frs.above hb, h.recs.above hb, h.out.above hb⟩
theorem VmB.low {w : World} {lo lo' : Nat} {fa ha oa : Option Addr} {d : VmD} (h : VmB w lo fa ha oa d) (hl : lo' ≤ lo) : VmB w lo' fa ha oa d := ⟨h.frs.low hl, h.recs.low hl, h.out.low hl⟩
theorem VmB.at {w : World} {lo : Nat} {fa ha oa : Option Addr} {d : VmD} (h : VmB w lo fa ha oa d) : VmAt w lo fa ha oa d := by
  refine ⟨fun i hi => ?_, fun i hi => ?_, h.out.1⟩
  · obtain ⟨F, cur, rfl, h2, h3, h4, h5⟩ := h.frs
    obtain ⟨d1, d2, g, g2, d3, d4, d5, d6⟩ := h5 i hi
    exact ⟨F, 0, _, _, _, _, rfl, h2, by rw [block_cell h3, Nat.zero_add]; exact d1, by rw [block_cell h3, Nat.zero_add]; exact d2, by rw [block_cell h3, Nat.zero_add]; exact d3, by rw [block_cell h3, Nat.zero_add]; exact d4, d5.1, d6.1⟩
  · obtain ⟨F, cur, rfl, h2, h3, h4, h5⟩ := h.recs
    obtain ⟨g, d1, d2⟩ := h5 i hi
    exact ⟨F, 0, _, _, rfl, h2, by rw [block_cell h3, Nat.zero_add]; exact d1, d2.1⟩

set_option maxHeartbeats 400000 in
theorem toRec_b (a : Option Addr) (vs : List Vl) (cap : Nat) (w : World) (hn : vs.length ≤ 1048576) (hm : ValsAt w 0 a vs) :
    Calls Tryz.prog 55 #[.agg #[.slice a vs.length cap]] w fun e w' => ∃ g, w.heap.size ≤ g ∧ e = .returned (.agg #[.slice (some ⟨g, 0, none⟩) vs.length vs.length]) ∧ VB w' w.heap.size (some ⟨g, 0, none⟩) vs ∧ Below w.heap.size w w' := by
  go_enter Tryz.func55, Tryz.ntmps55
  go_wp2_with fail
  have hbA : Below w.heap.size w (((w.alloc (.cells #[.slice a vs.length cap] 82)).alloc (.cells #[.slice none 0 0] 94)).alloc (.cells #[.slice none 0 0] 94)) :=
    (((Below.refl _ _).alloc (Nat.le_refl _) _).alloc (by simp) _).alloc (by simp; omega) _
  refine (toValueS_any a vs cap _ hn (hm.mono hbA)).mono ?_
  rintro e w1 ⟨rfl, hv0, hvb, hb⟩
  have hv : VB w1 _ _ vs := ⟨hv0, _, rfl, Nat.le_refl _, hvb⟩
  clear hv0 hvb
  have hR := block_kept (block_old (block_new (w.alloc (.cells #[.slice a vs.length cap] 82)) #[.slice none 0 0] 94) (.cells #[.slice none 0 0] 94)) hb
  have hO := block_kept (block_new ((w.alloc (.cells #[.slice a vs.length cap] 82)).alloc (.cells #[.slice none 0 0] 94)) #[.slice none 0 0] 94) hb
  simp only [World.size_alloc] at hR hO hv
  have r1 := block_cell hR
  have r2 := block_free hR
  have o1 := block_cell hO
  have o2 := block_free hO
  have hb1 : Below w.heap.size w w1 := hbA.trans (hb.mono (by simp; omega))
  go_wp2
  refine bodyPost_ret (v := .agg #[.slice (some ⟨w.heap.size + 1 + 1 + 1, 0, none⟩) vs.length vs.length]) (by simp [results, Tryz.results55, go_sem, r1]) rfl ⟨_, by omega, rfl, ?_, ?_⟩
  · exact (hv.above (((Above.refl _ _).setCell (by simp) _).setCell (by simp) _)).low (by omega)
  · exact (hb1.setCell (by simp; omega) _).setCell (by simp) _


set_option maxHeartbeats 1000000 in
theorem toFrame_b (f p : Int) (a a2 : Option Addr) (vs us : List Vl) (cap cap2 : Nat) (w : World) (hn : vs.length ≤ 1048576) (hn2 : us.length ≤ 1048576) (hm : ValsAt w 0 a vs) (hm2 : ValsAt w 0 a2 us) :
    Calls Tryz.prog 54 #[.agg #[.int .i64 f, .int .i64 p, .slice a vs.length cap, .slice a2 us.length cap2]] w fun e w' => ∃ g g2, w.heap.size ≤ g ∧ w.heap.size ≤ g2 ∧ e = .returned (.agg #[.int .i64 f, .int .i64 p, .slice (some ⟨g, 0, none⟩) vs.length vs.length, .slice (some ⟨g2, 0, none⟩) us.length us.length]) ∧ VB w' w.heap.size (some ⟨g, 0, none⟩) vs ∧ VB w' w.heap.size (some ⟨g2, 0, none⟩) us ∧ Below w.heap.size w w' := by
  go_enter Tryz.func54, Tryz.ntmps54
  go_wp2_with fail
  have hbA : Below w.heap.size w (((w.alloc (.cells #[.int .i64 f, .int .i64 p, .slice a vs.length cap, .slice a2 us.length cap2] 79)).alloc (.cells #[.int .i64 0, .int .i64 0, .slice none 0 0, .slice none 0 0] 90)).alloc (.cells #[.int .i64 f, .int .i64 p, .slice none 0 0, .slice none 0 0] 90)) :=
    (((Below.refl _ _).alloc (Nat.le_refl _) _).alloc (by simp) _).alloc (by simp; omega) _
  refine (toValueS_any a vs cap _ hn (hm.mono hbA)).mono ?_
  rintro e w1 ⟨rfl, hv0, hvb, hb⟩
  have hv : VB w1 _ _ vs := ⟨hv0, _, rfl, Nat.le_refl _, hvb⟩
  clear hv0 hvb
  have hI := block_kept (block_old (block_old (block_new w #[.int .i64 f, .int .i64 p, .slice a vs.length cap, .slice a2 us.length cap2] 79) (.cells #[.int .i64 0, .int .i64 0, .slice none 0 0, .slice none 0 0] 90)) (.cells #[.int .i64 f, .int .i64 p, .slice none 0 0, .slice none 0 0] 90)) hb
  have hR := block_kept (block_old (block_new (w.alloc (.cells #[.int .i64 f, .int .i64 p, .slice a vs.length cap, .slice a2 us.length cap2] 79)) #[.int .i64 0, .int .i64 0, .slice none 0 0, .slice none 0 0] 90) (.cells #[.int .i64 f, .int .i64 p, .slice none 0 0, .slice none 0 0] 90)) hb
  have hO := block_kept (block_new ((w.alloc (.cells #[.int .i64 f, .int .i64 p, .slice a vs.length cap, .slice a2 us.length cap2] 79)).alloc (.cells #[.int .i64 0, .int .i64 0, .slice none 0 0, .slice none 0 0] 90)) #[.int .i64 f, .int .i64 p, .slice none 0 0, .slice none 0 0] 90) hb
  simp only [World.size_alloc] at hI hR hO hv
  have hb1 : Below w.heap.size w w1 := hbA.trans (hb.mono (by simp; omega))
  have hz : w.heap.size + 1 + 1 < w1.heap.size := lt_block hO
  obtain ⟨wx, hwx⟩ : ∃ wx, wx = w1.setCell ⟨w.heap.size + 1 + 1, 2, none⟩ (.slice (some ⟨w.heap.size + 1 + 1 + 1, 0, none⟩) vs.length vs.length) := ⟨_, rfl⟩
  have hO' : wx.heap[w.heap.size + 1 + 1]? = some (.cells #[.int .i64 f, .int .i64 p, .slice (some ⟨w.heap.size + 1 + 1 + 1, 0, none⟩) vs.length vs.length, .slice none 0 0] 90 (0, 0)) := by
    rw [hwx]; simpa using block_set (i := 2) hO (.slice (some ⟨w.heap.size + 1 + 1 + 1, 0, none⟩) vs.length vs.length)
  have hR' : wx.heap[w.heap.size + 1]? = some (.cells #[.int .i64 0, .int .i64 0, .slice none 0 0, .slice none 0 0] 90 (0, 0)) := by
    rw [hwx, Below.heap_setCell _ _ _ _ (by simp)]; exact hR
  have hb2 : Below w.heap.size w wx := by rw [hwx]; exact hb1.setCell (by simp; omega) _
  have hv2 : VB wx (w.heap.size + 1 + 1 + 1) (some ⟨w.heap.size + 1 + 1 + 1, 0, none⟩) vs := by rw [hwx]; exact hv.above ((Above.refl _ _).setCell (by simp) _)
  have hsz : wx.heap.size = w1.heap.size := by rw [hwx]; simp
  have i1 := block_cell hI
  have o1 := block_cell hO
  have o2 := block_free hO
  go_wp2_with fail
  rw [← hwx]
  clear hwx i1 o1 o2
  refine (toValueS_any a2 us cap2 _ hn2 (hm2.mono hb2)).mono ?_
  rintro e w3 ⟨rfl, hu0, hub, hb3⟩
  have hu : VB w3 _ _ us := ⟨hu0, _, rfl, Nat.le_refl _, hub⟩
  clear hu0 hub
  have hO3 := block_kept hO' hb3
  have hR3 := block_kept hR' hb3
  have hB3 := hb2.trans (hb3.mono hb2.size)
  have hv3 := hv2.mono hb3
  have r1 := block_cell hR3
  have r2 := block_free hR3
  have o1 := block_cell hO3
  have o2 := block_free hO3
  clear hO hR hI hv hb1 hb hbA
  go_wp2
  refine bodyPost_ret (v := .agg #[.int .i64 f, .int .i64 p, .slice (some ⟨w.heap.size + 1 + 1 + 1, 0, none⟩) vs.length vs.length, .slice (some ⟨wx.heap.size, 0, none⟩) us.length us.length]) (by simp [results, Tryz.results54, go_sem, r1]) rfl ⟨_, _, by omega, by omega, rfl, ?_, ?_, ?_⟩
  · exact (hv3.above (((((Above.refl _ _).setCell (by simp) _).setCell (by simp) _).setCell (by simp) _).setCell (by simp) _ |>.setCell (by simp) _)).low (by omega)
  · exact ((hu.low (by omega : w.heap.size + 1 + 1 + 1 ≤ wx.heap.size)).above (((((Above.refl _ _).setCell (by simp) _).setCell (by simp) _).setCell (by simp) _).setCell (by simp) _ |>.setCell (by simp) _)).low (by omega)
  · exact ((((hB3.setCell (by simp; omega) _).setCell (by simp) _).setCell (by simp) _).setCell (by simp) _).setCell (by simp) _


set_option maxHeartbeats 400000 in
theorem toRecS_b (a : Option Addr) (rs : List (List Vl)) (cap : Nat) (w : World) (hn : rs.length ≤ 1048576) (hc : ∀ r ∈ rs, ValsSmall r) (hm : RecsAt w 0 a rs) :
    Calls Tryz.prog 28 #[.slice a rs.length cap] w fun e w' => e = .returned (.slice (some ⟨w.heap.size, 0, none⟩) rs.length rs.length) ∧ RB w' w.heap.size (some ⟨w.heap.size, 0, none⟩) rs ∧ Below w.heap.size w w' := by
  obtain ⟨i0, hi, hz0, hz1, hz2⟩ := info_parts info94
  go_enter Tryz.func28, Tryz.ntmps28
  go_wp2_with (first | (at_make; refine wpList_make_full _ rfl _ _ 35 rfl w.heap.size 94 i0 (.agg #[.slice none 0 0]) 1 Tryz.underlying35 hi hz0 hz1 _ _ _ _ rs.length rfl rfl rfl rfl (by rw [hz2]; omega) (by unfold maxLen; omega) (Nat.le_refl _) ?_; intro w1 hown hgrow))
  obtain ⟨cur0, hblk, hsz⟩ := made_block hown
  have hb0 : Below w.heap.size w w1 := (Below.refl _ _).grown hgrow (Nat.le_refl _) (by intro k hk; cases hk)
  clear hown hgrow hi hz0 hz1 hz2
  go_loopw [4] (fun i wr => ∃ (k : Nat) (cur : Array Value), k ≤ rs.length ∧ i = .int .i64 k ∧ wr.heap[w.heap.size]? = some (.cells cur 94 (0, 0)) ∧ cur.size = rs.length * 1 ∧
      (∀ j (hj : j < rs.length), j < k → ∃ g, cur[j]? = some (.slice (some ⟨g, 0, none⟩) rs[j].length rs[j].length) ∧ VB wr (w.heap.size + 1) (some ⟨g, 0, none⟩) rs[j]) ∧ Below w.heap.size w wr) (fun i _ => rs.length - (intOf i).toNat)
  case atStart => exact ⟨0, cur0, by omega, rfl, hblk, hsz, fun j _ h => by omega, hb0⟩
  case round =>
    obtain ⟨k, cur, hk, rfl, hblk, hsz, hdone, hb⟩ := hrel
    by_cases hlt : k < rs.length
    · obtain ⟨b, off, ca, cc, rfl, -, c1, c4⟩ := hm k hlt
      have c1' := cell_later hb c1
      clear c1
      have hgs : w.heap.size < wr.heap.size := lt_block hblk
      have hck := (hc rs[k] (List.getElem_mem hlt)).1
      go_wp2_with fail
      refine (toRec_b _ _ _ _ hck (c4.mono hb)).mono ?_
      rintro e w2 ⟨g, hg, rfl, hcode, hb2⟩
      have hblk2 := block_kept hblk hb2
      have hfz := block_free hblk2
      have hcl : w2.cell? ⟨w.heap.size, k, none⟩ = some cur[k] := by rw [block_cell hblk2]; simp
      have hb3 : Below w.heap.size w w2 := hb.trans (hb2.mono hb.size)
      go_wp2
      go_roundw
      case rel =>
        have hab : Above (w.heap.size + 1) w2 (w2.setCell ⟨w.heap.size, k, none⟩ (.slice (some ⟨g, 0, none⟩) rs[k].length rs[k].length)) := (Above.refl _ _).setCell (by simp) _
        refine ⟨k + 1, cur.setIfInBounds k (.slice (some ⟨g, 0, none⟩) rs[k].length rs[k].length), by omega, by go_num, block_set hblk2 _, by simpa using hsz, ?_, hb3.setCell (Nat.le_refl _) _⟩
        intro j hj hjk
        by_cases e : j = k
        · subst e
          exact ⟨g, set_self _ (by omega), (hcode.low (by omega)).above hab⟩
        · obtain ⟨g', d3, d4⟩ := hdone j hj (by omega)
          exact ⟨g', by rw [set_else _ (by omega)]; exact d3, (d4.mono hb2).above hab⟩
      case measure => simp [intOf]; omega
    · go_wp2
      go_ret
      refine ⟨rfl, ⟨w.heap.size, cur, rfl, Nat.le_refl _, hblk, hsz, fun j hj => ?_⟩, hb⟩
      obtain ⟨g', d3, d4⟩ := hdone j hj (by omega)
      exact ⟨g', d3, d4.low (by omega)⟩

set_option maxHeartbeats 1000000 in
theorem toFrameS_b (a : Option Addr) (fr : List Fr) (cap : Nat) (w : World) (hn : fr.length ≤ 1048576) (hc : ∀ f ∈ fr, ValsSmall f.locals) (hc2 : ∀ f ∈ fr, ValsSmall f.stack) (hm : FrsAt w 0 a fr) :
    Calls Tryz.prog 27 #[.slice a fr.length cap] w fun e w' => e = .returned (.slice (some ⟨w.heap.size, 0, none⟩) fr.length fr.length) ∧ FB w' w.heap.size (some ⟨w.heap.size, 0, none⟩) fr ∧ Below w.heap.size w w' := by
  obtain ⟨i0, hi, hz0, hz1, hz2⟩ := info_parts info90
  go_enter Tryz.func27, Tryz.ntmps27
  go_wp2_with (first | (at_make; refine wpList_make_full _ rfl _ _ 34 rfl w.heap.size 90 i0 (.agg #[.int .i64 0, .int .i64 0, .slice none 0 0, .slice none 0 0]) 4 Tryz.underlying34 hi hz0 hz1 _ _ _ _ fr.length rfl rfl rfl rfl (by rw [hz2]; omega) (by unfold maxLen; omega) (Nat.le_refl _) ?_; intro w1 hown hgrow))
  obtain ⟨cur0, hblk, hsz⟩ := made_block hown
  have hb0 : Below w.heap.size w w1 := (Below.refl _ _).grown hgrow (Nat.le_refl _) (by intro k hk; cases hk)
  clear hown hgrow hi hz0 hz1 hz2
  go_loopw [4] (fun i wr => ∃ (k : Nat) (cur : Array Value), k ≤ fr.length ∧ i = .int .i64 k ∧ wr.heap[w.heap.size]? = some (.cells cur 90 (0, 0)) ∧ cur.size = fr.length * 4 ∧
      (∀ j (hj : j < fr.length), j < k → cur[j * 4]? = some (.int .i64 fr[j].fn) ∧ cur[j * 4 + 1]? = some (.int .i64 fr[j].pc) ∧ ∃ g g2, cur[j * 4 + 2]? = some (.slice (some ⟨g, 0, none⟩) fr[j].locals.length fr[j].locals.length) ∧ cur[j * 4 + 3]? = some (.slice (some ⟨g2, 0, none⟩) fr[j].stack.length fr[j].stack.length) ∧ VB wr (w.heap.size + 1) (some ⟨g, 0, none⟩) fr[j].locals ∧ VB wr (w.heap.size + 1) (some ⟨g2, 0, none⟩) fr[j].stack) ∧ Below w.heap.size w wr) (fun i _ => fr.length - (intOf i).toNat)
  case atStart => exact ⟨0, cur0, by omega, rfl, hblk, hsz, fun j _ h => by omega, hb0⟩
  case round =>
    obtain ⟨k, cur, hk, rfl, hblk, hsz, hdone, hb⟩ := hrel
    by_cases hlt : k < fr.length
    · obtain ⟨b, off, la, lc, sa, sc, rfl, -, c1, c2, c3, c4, c5, c6⟩ := hm k hlt
      have c1' := cell_later hb c1
      have c2' := cell_later hb c2
      have c3' := cell_later hb c3
      have c4' := cell_later hb c4
      clear c1 c2 c3 c4
      have hgs : w.heap.size < wr.heap.size := lt_block hblk
      have hck := (hc fr[k] (List.getElem_mem hlt)).1
      have hck2 := (hc2 fr[k] (List.getElem_mem hlt)).1
      go_wp2_with fail
      refine (toFrame_b _ _ _ _ _ _ _ _ _ hck hck2 (c5.mono hb) (c6.mono hb)).mono ?_
      rintro e w2 ⟨g, g2, hg, hg2, rfl, hl, hs, hb2⟩
      have hblk2 := block_kept hblk hb2
      have hfz := block_free hblk2
      have hcl : w2.cell? ⟨w.heap.size, k * 4, none⟩ = some cur[k * 4] := by rw [block_cell hblk2]; simp
      have hcl2 : w2.cell? ⟨w.heap.size, k * 4 + 1, none⟩ = some cur[k * 4 + 1] := by rw [block_cell hblk2]; simp
      have hcl3 : w2.cell? ⟨w.heap.size, k * 4 + 2, none⟩ = some cur[k * 4 + 2] := by rw [block_cell hblk2]; simp
      have hcl4 : w2.cell? ⟨w.heap.size, k * 4 + 3, none⟩ = some cur[k * 4 + 3] := by rw [block_cell hblk2]; simp
      have hb3 : Below w.heap.size w w2 := hb.trans (hb2.mono hb.size)
      go_wp2
      go_roundw
      case rel =>
        have hab : Above (w.heap.size + 1) w2 ((((w2.setCell ⟨w.heap.size, k * 4, none⟩ (.int .i64 fr[k].fn)).setCell ⟨w.heap.size, k * 4 + 1, none⟩ (.int .i64 fr[k].pc)).setCell ⟨w.heap.size, k * 4 + 2, none⟩ (.slice (some ⟨g, 0, none⟩) fr[k].locals.length fr[k].locals.length)).setCell ⟨w.heap.size, k * 4 + 3, none⟩ (.slice (some ⟨g2, 0, none⟩) fr[k].stack.length fr[k].stack.length)) :=
          ((((Above.refl _ _).setCell (by simp) _).setCell (by simp) _).setCell (by simp) _).setCell (by simp) _
        refine ⟨k + 1, (((cur.setIfInBounds (k * 4) (.int .i64 fr[k].fn)).setIfInBounds (k * 4 + 1) (.int .i64 fr[k].pc)).setIfInBounds (k * 4 + 2) (.slice (some ⟨g, 0, none⟩) fr[k].locals.length fr[k].locals.length)).setIfInBounds (k * 4 + 3) (.slice (some ⟨g2, 0, none⟩) fr[k].stack.length fr[k].stack.length), by omega, by go_num, block_set (block_set (block_set (block_set hblk2 _) _) _) _, by simpa using hsz, ?_, (((hb3.setCell (Nat.le_refl _) _).setCell (Nat.le_refl _) _).setCell (Nat.le_refl _) _).setCell (Nat.le_refl _) _⟩
        intro j hj hjk
        by_cases e : j = k
        · subst e
          refine ⟨?_, ?_, g, g2, ?_, ?_, (hl.low (by omega)).above hab, (hs.low (by omega)).above hab⟩
          · rw [set_else _ (by omega), set_else _ (by omega), set_else _ (by omega)]; exact set_self _ (by omega)
          · rw [set_else _ (by omega), set_else _ (by omega)]; exact set_self _ (by simp; omega)
          · rw [set_else _ (by omega)]; exact set_self _ (by simp; omega)
          · exact set_self _ (by simp; omega)
        · obtain ⟨d1, d2, g', g2', d3, d4, d5, d6⟩ := hdone j hj (by omega)
          refine ⟨?_, ?_, g', g2', ?_, ?_, (d5.mono hb2).above hab, (d6.mono hb2).above hab⟩
          · rw [set_else _ (by omega), set_else _ (by omega), set_else _ (by omega), set_else _ (by omega)]; exact d1
          · rw [set_else _ (by omega), set_else _ (by omega), set_else _ (by omega), set_else _ (by omega)]; exact d2
          · rw [set_else _ (by omega), set_else _ (by omega), set_else _ (by omega), set_else _ (by omega)]; exact d3
          · rw [set_else _ (by omega), set_else _ (by omega), set_else _ (by omega), set_else _ (by omega)]; exact d4
      case measure => simp [intOf]; omega
    · go_wp2
      go_ret
      refine ⟨rfl, ⟨w.heap.size, cur, rfl, Nat.le_refl _, hblk, hsz, fun j hj => ?_⟩, hb⟩
      obtain ⟨d1, d2, g', g2', d3, d4, d5, d6⟩ := hdone j hj (by omega)
      exact ⟨d1, d2, g', g2', d3, d4, d5.low (by omega), d6.low (by omega)⟩

set_option maxRecDepth 100000 in
set_option maxHeartbeats 4000000 in
theorem toVm_b (fa ha oa : Option Addr) (fc hcp oc : Nat) (d : VmD) (w : World) (hx : VmSmall d) (hm : VmAt w 0 fa ha oa d) :
    Calls Tryz.prog 9 #[.agg (vmCells fa ha oa fc hcp oc d)] w fun e w' => ∃ g g2 g3, e = .returned (.agg (vmCells (some ⟨g, 0, none⟩) (some ⟨g2, 0, none⟩) (some ⟨g3, 0, none⟩) d.frames.length d.heap.length d.out.length d)) ∧ VmB w' w.heap.size (some ⟨g, 0, none⟩) (some ⟨g2, 0, none⟩) (some ⟨g3, 0, none⟩) d ∧ Below w.heap.size w w' := by
  unfold vmCells
  have hbA : Below w.heap.size w (((w.alloc (.cells #[.slice fa d.frames.length fc, .slice ha d.heap.length hcp, .int .i64 d.made, .slice oa d.out.length oc, .int .i64 d.status, .int .i64 d.trap, .int .i64 d.value.k, .int .i64 d.value.n, .string d.value.s, .int .i64 d.steps] 31)).alloc (.cells #[.slice none 0 0, .slice none 0 0, .int .i64 0, .slice none 0 0, .int .i64 0, .int .i64 0, .int .i64 0, .int .i64 0, .string ⟨#[]⟩, .int .i64 0] 38)).alloc (.cells #[.slice none 0 0, .slice none 0 0, .int .i64 0, .slice none 0 0, .int .i64 0, .int .i64 0, .int .i64 0, .int .i64 0, .string ⟨#[]⟩, .int .i64 0] 38)) := (((Below.refl _ _).alloc (Nat.le_refl _) _).alloc (by simp) _).alloc (by simp; omega) _
  have hI0 := block_old (block_old (block_new w #[.slice fa d.frames.length fc, .slice ha d.heap.length hcp, .int .i64 d.made, .slice oa d.out.length oc, .int .i64 d.status, .int .i64 d.trap, .int .i64 d.value.k, .int .i64 d.value.n, .string d.value.s, .int .i64 d.steps] 31) (.cells #[.slice none 0 0, .slice none 0 0, .int .i64 0, .slice none 0 0, .int .i64 0, .int .i64 0, .int .i64 0, .int .i64 0, .string ⟨#[]⟩, .int .i64 0] 38)) (.cells #[.slice none 0 0, .slice none 0 0, .int .i64 0, .slice none 0 0, .int .i64 0, .int .i64 0, .int .i64 0, .int .i64 0, .string ⟨#[]⟩, .int .i64 0] 38)
  have hR0 := block_old (block_new (w.alloc (.cells #[.slice fa d.frames.length fc, .slice ha d.heap.length hcp, .int .i64 d.made, .slice oa d.out.length oc, .int .i64 d.status, .int .i64 d.trap, .int .i64 d.value.k, .int .i64 d.value.n, .string d.value.s, .int .i64 d.steps] 31)) #[.slice none 0 0, .slice none 0 0, .int .i64 0, .slice none 0 0, .int .i64 0, .int .i64 0, .int .i64 0, .int .i64 0, .string ⟨#[]⟩, .int .i64 0] 38) (.cells #[.slice none 0 0, .slice none 0 0, .int .i64 0, .slice none 0 0, .int .i64 0, .int .i64 0, .int .i64 0, .int .i64 0, .string ⟨#[]⟩, .int .i64 0] 38)
  have hO0 := block_new ((w.alloc (.cells #[.slice fa d.frames.length fc, .slice ha d.heap.length hcp, .int .i64 d.made, .slice oa d.out.length oc, .int .i64 d.status, .int .i64 d.trap, .int .i64 d.value.k, .int .i64 d.value.n, .string d.value.s, .int .i64 d.steps] 31)).alloc (.cells #[.slice none 0 0, .slice none 0 0, .int .i64 0, .slice none 0 0, .int .i64 0, .int .i64 0, .int .i64 0, .int .i64 0, .string ⟨#[]⟩, .int .i64 0] 38)) #[.slice none 0 0, .slice none 0 0, .int .i64 0, .slice none 0 0, .int .i64 0, .int .i64 0, .int .i64 0, .int .i64 0, .string ⟨#[]⟩, .int .i64 0] 38
  simp only [World.size_alloc] at hR0 hO0
  go_enter Tryz.func9, Tryz.ntmps9
  go_wp2_with fail
  refine (toFrameS_b fa d.frames fc _ hx.frames hx.locals hx.stack (hm.frs.mono hbA)).mono ?_
  rintro e w1 ⟨rfl, hfr, hb1⟩
  have hI1 := block_kept hI0 hb1
  have hR1 := block_kept hR0 hb1
  have hO1 := block_kept hO0 hb1
  have hB1 := hbA.trans (hb1.mono hbA.size)
  simp only [World.size_alloc] at hfr
  clear hI0 hR0 hO0 hbA hb1
  obtain ⟨x1, hx1⟩ : ∃ x1, x1 = (w1.setCell ⟨w.heap.size + 1 + 1, 0, none⟩ (.slice (some ⟨w.heap.size + 1 + 1 + 1, 0, none⟩) d.frames.length d.frames.length)) := ⟨_, rfl⟩
  have hOx : x1.heap[w.heap.size + 1 + 1]? = some (.cells #[.slice (some ⟨w.heap.size + 1 + 1 + 1, 0, none⟩) d.frames.length d.frames.length, .slice none 0 0, .int .i64 0, .slice none 0 0, .int .i64 0, .int .i64 0, .int .i64 0, .int .i64 0, .string ⟨#[]⟩, .int .i64 0] 38 (0, 0)) := by rw [hx1]; simpa using (block_set (i := 0) hO1 (.slice (some ⟨w.heap.size + 1 + 1 + 1, 0, none⟩) d.frames.length d.frames.length))
  have hRx : x1.heap[w.heap.size + 1]? = some (.cells #[.slice none 0 0, .slice none 0 0, .int .i64 0, .slice none 0 0, .int .i64 0, .int .i64 0, .int .i64 0, .int .i64 0, .string ⟨#[]⟩, .int .i64 0] 38 (0, 0)) := by rw [hx1, Below.heap_setCell _ _ _ _ (by simp)]; exact hR1
  have hIx : x1.heap[w.heap.size]? = some (.cells #[.slice fa d.frames.length fc, .slice ha d.heap.length hcp, .int .i64 d.made, .slice oa d.out.length oc, .int .i64 d.status, .int .i64 d.trap, .int .i64 d.value.k, .int .i64 d.value.n, .string d.value.s, .int .i64 d.steps] 31 (0, 0)) := by rw [hx1, Below.heap_setCell _ _ _ _ (by simp; omega)]; exact hI1
  have hBx : Below w.heap.size w x1 := by rw [hx1]; exact (hB1).setCell (by simp; omega) _
  have hzx : w.heap.size + 1 + 1 + 1 ≤ x1.heap.size := lt_block hOx
  have hfrx := hfr.above (w' := x1) (by rw [hx1]; exact ((Above.refl _ _).setCell (by simp) _))
  have i1 := block_cell hI1
  have o1 := block_cell hO1
  have o2 := block_free hO1
  go_wp2_with fail
  rw [← hx1]
  clear hx1 i1 o1 o2 hI1 hR1 hO1 hB1 hfr
  refine (toRecS_b ha d.heap hcp _ hx.heap hx.fields (hm.recs.mono hBx)).mono ?_
  rintro e w2 ⟨rfl, hnew, hbn⟩
  have hI2 := block_kept hIx hbn
  have hR2 := block_kept hRx hbn
  have hO2 := block_kept hOx hbn
  have hB2 := hBx.trans (hbn.mono hBx.size)
  have hfr := hfrx.mono hbn
  have hrc := hnew.low hzx
  clear hIx hRx hOx hBx hbn hnew hfrx hzx
  obtain ⟨x2, hx2⟩ : ∃ x2, x2 = ((w2.setCell ⟨w.heap.size + 1 + 1, 1, none⟩ (.slice (some ⟨x1.heap.size, 0, none⟩) d.heap.length d.heap.length)).setCell ⟨w.heap.size + 1 + 1, 2, none⟩ (.int .i64 d.made)) := ⟨_, rfl⟩
  have hOx : x2.heap[w.heap.size + 1 + 1]? = some (.cells #[.slice (some ⟨w.heap.size + 1 + 1 + 1, 0, none⟩) d.frames.length d.frames.length, .slice (some ⟨x1.heap.size, 0, none⟩) d.heap.length d.heap.length, .int .i64 d.made, .slice none 0 0, .int .i64 0, .int .i64 0, .int .i64 0, .int .i64 0, .string ⟨#[]⟩, .int .i64 0] 38 (0, 0)) := by rw [hx2]; simpa using (block_set (i := 2) (block_set (i := 1) hO2 (.slice (some ⟨x1.heap.size, 0, none⟩) d.heap.length d.heap.length)) (.int .i64 d.made))
  have hRx : x2.heap[w.heap.size + 1]? = some (.cells #[.slice none 0 0, .slice none 0 0, .int .i64 0, .slice none 0 0, .int .i64 0, .int .i64 0, .int .i64 0, .int .i64 0, .string ⟨#[]⟩, .int .i64 0] 38 (0, 0)) := by rw [hx2, Below.heap_setCell _ _ _ _ (by simp), Below.heap_setCell _ _ _ _ (by simp)]; exact hR2
  have hIx : x2.heap[w.heap.size]? = some (.cells #[.slice fa d.frames.length fc, .slice ha d.heap.length hcp, .int .i64 d.made, .slice oa d.out.length oc, .int .i64 d.status, .int .i64 d.trap, .int .i64 d.value.k, .int .i64 d.value.n, .string d.value.s, .int .i64 d.steps] 31 (0, 0)) := by rw [hx2, Below.heap_setCell _ _ _ _ (by simp; omega), Below.heap_setCell _ _ _ _ (by simp; omega)]; exact hI2
  have hBx : Below w.heap.size w x2 := by rw [hx2]; exact ((hB2).setCell (by simp; omega) _).setCell (by simp; omega) _
  have hzx : w.heap.size + 1 + 1 + 1 ≤ x2.heap.size := lt_block hOx
  have hfrx := hfr.above (w' := x2) (by rw [hx2]; exact (((Above.refl _ _).setCell (by simp) _).setCell (by simp) _))
  have hrcx := hrc.above (w' := x2) (by rw [hx2]; exact (((Above.refl _ _).setCell (by simp) _).setCell (by simp) _))
  have i1 := block_cell hI2
  have o1 := block_cell hO2
  have o2 := block_free hO2
  go_wp2_with fail
  rw [← hx2]
  clear hx2 i1 o1 o2 hI2 hR2 hO2 hB2 hfr hrc
  refine (toStringS_made oa d.out oc _ hx.out (hm.out.mono hBx)).mono ?_
  rintro e w3 ⟨rfl, hnew0, hbn, hblk3⟩
  have hnew : OB w3 _ _ d.out := ⟨hnew0, _, rfl, Nat.le_refl _, hblk3⟩
  clear hnew0 hblk3
  have hI3 := block_kept hIx hbn
  have hR3 := block_kept hRx hbn
  have hO3 := block_kept hOx hbn
  have hB3 := hBx.trans (hbn.mono hBx.size)
  have hfr := hfrx.mono hbn
  have hrc := hrcx.mono hbn
  have hot := hnew.low hzx
  clear hIx hRx hOx hBx hbn hnew hfrx hrcx hzx
  obtain ⟨x3, hx3⟩ : ∃ x3, x3 = (((w3.setCell ⟨w.heap.size + 1 + 1, 3, none⟩ (.slice (some ⟨x2.heap.size, 0, none⟩) d.out.length d.out.length)).setCell ⟨w.heap.size + 1 + 1, 4, none⟩ (.int .i64 d.status)).setCell ⟨w.heap.size + 1 + 1, 5, none⟩ (.int .i64 d.trap)) := ⟨_, rfl⟩
  have hOx : x3.heap[w.heap.size + 1 + 1]? = some (.cells #[.slice (some ⟨w.heap.size + 1 + 1 + 1, 0, none⟩) d.frames.length d.frames.length, .slice (some ⟨x1.heap.size, 0, none⟩) d.heap.length d.heap.length, .int .i64 d.made, .slice (some ⟨x2.heap.size, 0, none⟩) d.out.length d.out.length, .int .i64 d.status, .int .i64 d.trap, .int .i64 0, .int .i64 0, .string ⟨#[]⟩, .int .i64 0] 38 (0, 0)) := by rw [hx3]; simpa using (block_set (i := 5) (block_set (i := 4) (block_set (i := 3) hO3 (.slice (some ⟨x2.heap.size, 0, none⟩) d.out.length d.out.length)) (.int .i64 d.status)) (.int .i64 d.trap))
  have hRx : x3.heap[w.heap.size + 1]? = some (.cells #[.slice none 0 0, .slice none 0 0, .int .i64 0, .slice none 0 0, .int .i64 0, .int .i64 0, .int .i64 0, .int .i64 0, .string ⟨#[]⟩, .int .i64 0] 38 (0, 0)) := by rw [hx3, Below.heap_setCell _ _ _ _ (by simp), Below.heap_setCell _ _ _ _ (by simp), Below.heap_setCell _ _ _ _ (by simp)]; exact hR3
  have hIx : x3.heap[w.heap.size]? = some (.cells #[.slice fa d.frames.length fc, .slice ha d.heap.length hcp, .int .i64 d.made, .slice oa d.out.length oc, .int .i64 d.status, .int .i64 d.trap, .int .i64 d.value.k, .int .i64 d.value.n, .string d.value.s, .int .i64 d.steps] 31 (0, 0)) := by rw [hx3, Below.heap_setCell _ _ _ _ (by simp; omega), Below.heap_setCell _ _ _ _ (by simp; omega), Below.heap_setCell _ _ _ _ (by simp; omega)]; exact hI3
  have hBx : Below w.heap.size w x3 := by rw [hx3]; exact (((hB3).setCell (by simp; omega) _).setCell (by simp; omega) _).setCell (by simp; omega) _
  have hzx : w.heap.size + 1 + 1 + 1 ≤ x3.heap.size := lt_block hOx
  have hfrx := hfr.above (w' := x3) (by rw [hx3]; exact ((((Above.refl _ _).setCell (by simp) _).setCell (by simp) _).setCell (by simp) _))
  have hrcx := hrc.above (w' := x3) (by rw [hx3]; exact ((((Above.refl _ _).setCell (by simp) _).setCell (by simp) _).setCell (by simp) _))
  have hotx := hot.above (w' := x3) (by rw [hx3]; exact ((((Above.refl _ _).setCell (by simp) _).setCell (by simp) _).setCell (by simp) _))
  have i1 := block_cell hI3
  have o1 := block_cell hO3
  have o2 := block_free hO3
  go_wp2_with fail
  rw [← hx3]
  clear hx3 i1 o1 o2 hI3 hR3 hO3 hB3 hfr hrc hot
  refine (toValue_any _ _ _ _).mono ?_
  rintro e w4 ⟨rfl, hbn⟩
  have hI4 := block_kept hIx hbn
  have hR4 := block_kept hRx hbn
  have hO4 := block_kept hOx hbn
  have hB4 := hBx.trans (hbn.mono hBx.size)
  have hfr := hfrx.mono hbn
  have hrc := hrcx.mono hbn
  have hot := hotx.mono hbn
  clear hIx hRx hOx hBx hbn  hfrx hrcx hotx hzx
  have i1 := block_cell hI4
  have o1 := block_cell hO4
  have o2 := block_free hO4
  have r1 := block_cell hR4
  have r2 := block_free hR4
  go_wp2
  refine bodyPost_ret (v := .agg #[.slice (some ⟨w.heap.size + 1 + 1 + 1, 0, none⟩) d.frames.length d.frames.length, .slice (some ⟨x1.heap.size, 0, none⟩) d.heap.length d.heap.length, .int .i64 d.made, .slice (some ⟨x2.heap.size, 0, none⟩) d.out.length d.out.length, .int .i64 d.status, .int .i64 d.trap, .int .i64 d.value.k, .int .i64 d.value.n, .string d.value.s, .int .i64 d.steps]) (by simp [results, Tryz.results9, go_sem, r1]) rfl ⟨w.heap.size + 1 + 1 + 1, x1.heap.size, x2.heap.size, rfl, ?_, ?_⟩
  · exact ((VmB.mk hfr hrc hot).above (((((((((((((((Above.refl _ _).setCell (by simp) _).setCell (by simp) _).setCell (by simp) _).setCell (by simp) _).setCell (by simp) _).setCell (by simp) _).setCell (by simp) _).setCell (by simp) _).setCell (by simp) _).setCell (by simp) _).setCell (by simp) _).setCell (by simp) _).setCell (by simp) _).setCell (by simp) _)).low (by omega)
  · exact ((((((((((((((hB4.setCell (by simp; try omega) _).setCell (by simp; try omega) _).setCell (by simp; try omega) _).setCell (by simp; try omega) _).setCell (by simp; try omega) _).setCell (by simp; try omega) _).setCell (by simp; try omega) _).setCell (by simp; try omega) _).setCell (by simp; try omega) _).setCell (by simp; try omega) _).setCell (by simp; try omega) _).setCell (by simp; try omega) _).setCell (by simp; try omega) _).setCell (by simp; try omega) _)
end Go.Proofs.YtcebgbcgkkfedaaGreat

namespace Go.Proofs.YtcebgbcgkkfedaaGreat
open Go.RowKit

/-- Nothing but blocks of S was written. -/
structure Only (S : Nat → Prop) (w w' : World) : Prop where
  below : ∀ B, (∀ k, S k → B ≤ k) → B ≤ w.heap.size → Below B w w'
  size : w.heap.size ≤ w'.heap.size
  block : ∀ k, k < w.heap.size → ¬ S k → w'.heap[k]? = w.heap[k]?
theorem Only.refl (S : Nat → Prop) (w : World) : Only S w w := ⟨fun _ _ _ => Below.refl _ _, Nat.le_refl _, fun _ _ _ => rfl⟩
theorem Only.trans {S : Nat → Prop} {a b c : World} (h : Only S a b) (k : Only S b c) : Only S a c :=
  ⟨fun B hB h2 => (h.below B hB h2).trans (k.below B hB (Nat.le_trans h2 h.size)), Nat.le_trans h.size k.size, fun i hi hS => (k.block i (Nat.lt_of_lt_of_le hi h.size) hS).trans (h.block i hi hS)⟩
theorem Only.just {S : Nat → Prop} {g : Nat} {a b : World} (h : Just g a b) (hS : S g) : Only S a b := ⟨fun B hB h2 => h.below B (hB g hS) h2, h.size, fun _ hk hs => h.block _ hk (fun e => hs (e ▸ hS))⟩
theorem Only.of {S : Nat → Prop} {a b : World} (h : Below a.heap.size a b) : Only S a b := ⟨fun _ _ h2 => h.mono h2, h.size, fun k hk _ => h.block k hk⟩
theorem Only.set {S : Nat → Prop} {g i : Nat} {a b : World} (h : Only S a b) (hS : S g) (v : Value) : Only S a (b.setCell ⟨g, i, none⟩ v) :=
  ⟨fun B hB h2 => (h.below B hB h2).setCell (hB g hS) _, by simpa using h.size, fun k hk hs => by rw [Below.heap_setCell _ _ _ _ (fun e => hs (by rw [show k = g from e]; exact hS))]; exact h.block k hk hs⟩
theorem Only.kept {S : Nat → Prop} {k : Nat} {a b : World} {o : Obj} (h : Only S a b) (ho : a.heap[k]? = some o) (hk : ¬ S k) : b.heap[k]? = some o := by rw [h.block k (lt_block ho) hk]; exact ho
theorem Only.wide {S S' : Nat → Prop} {a b : World} (h : Only S a b) (hS : ∀ k, S k → S' k) : Only S' a b := ⟨fun B hB h2 => h.below B (fun k hk => hB k (hS k hk)) h2, h.size, fun k hk hs => h.block k hk (fun e => hs (hS k e))⟩

/-- Between lo and hi. -/
def Rng (lo hi b : Nat) : Prop := lo ≤ b ∧ b < hi

theorem ValsBlk.shape {w w' : World} {g n : Nat} (h : ValsBlk w g n) (hs : SameShape w w') : ValsBlk w' g n := by
  obtain ⟨c, h1, h2⟩ := h
  obtain ⟨c', h3, h4⟩ := hs g c 36 h1
  exact ⟨c', h3, h4.trans h2⟩
theorem just_keeps {w w' : World} {g n k0 lo hi : Nat} (hb : ValsBlk w g n) (hj : Just g w w') (hm : MarkV w' g n n k0) (hl : lo ≤ g) (hh : g < hi) : Keeps lo [36] w w' ∧ SameShape w w' ∧ Only (Rng lo hi) w w' := by
  obtain ⟨c, h1, h2⟩ := hb
  obtain ⟨c', h3, h4, -⟩ := hm
  have h0 := hj.below 0 (Nat.zero_le _) (Nat.zero_le _)
  refine ⟨⟨h0.os, h0.tape, h0.output, hj.size, fun k o hk ho => ?_⟩, fun b x t hbx => ?_, Only.just hj ⟨hl, hh⟩⟩
  · by_cases e : k = g
    · subst e
      rw [h1] at hk
      cases hk
      rcases ho with ho | ho
      · omega
      · exact absurd (by simp [ofTypes]) ho
    · exact hj.kept hk e
  · by_cases e : b = g
    · subst e
      rw [h1] at hbx
      cases hbx
      exact ⟨c', h3, by omega⟩
    · exact ⟨x, hj.kept hbx e, rfl⟩

set_option maxHeartbeats 400000 in
theorem markValueS_w (lo hi g n cap k0 : Nat) (w : World) (hn : n ≤ 1048576) (h1 : k0 ≤ 100000000000000) (hl : lo ≤ g) (hh : g < hi) (hb : ValsBlk w g n) :
    Calls Tryz.prog 69 #[.slice (some ⟨g, 0, none⟩) n cap, .int .i64 (k0 : Int)] w fun e w' => e = .returned (.int .i64 ((k0 + 3 * n : Nat) : Int)) ∧ Keeps lo [36] w w' ∧ SameShape w w' ∧ Only (Rng lo hi) w w' :=
  (markValueS_is g n cap k0 w hn h1 hb).mono fun _ _ ⟨he, hj, hm⟩ => ⟨he, just_keeps hb hj hm hl hh⟩

/-- The slices of frames in a block, and the blocks of their values. -/
def FSh (w : World) (lo hi F : Nat) (fr : List Fr) : Prop := ∃ cur : Array Value, w.heap[F]? = some (.cells cur 90 (0, 0)) ∧ cur.size = fr.length * 4 ∧
  ∀ j (hj : j < fr.length), ∃ g g2, cur[j * 4 + 2]? = some (.slice (some ⟨g, 0, none⟩) fr[j].locals.length fr[j].locals.length) ∧ cur[j * 4 + 3]? = some (.slice (some ⟨g2, 0, none⟩) fr[j].stack.length fr[j].stack.length) ∧ Rng lo hi g ∧ Rng lo hi g2 ∧ ValsBlk w g fr[j].locals.length ∧ ValsBlk w g2 fr[j].stack.length
theorem FB.sh {w : World} {lo : Nat} {a : Option Addr} {fr : List Fr} (h : FB w lo a fr) : ∃ F, a = some ⟨F, 0, none⟩ ∧ lo ≤ F ∧ F < w.heap.size ∧ FSh w lo w.heap.size F fr := by
  obtain ⟨F, cur, h1, h2, h3, h4, h5⟩ := h
  refine ⟨F, h1, h2, lt_block h3, cur, h3, h4, fun j hj => ?_⟩
  obtain ⟨-, -, g, g2, d3, d4, ⟨-, x, e, e2, e3⟩, ⟨-, y, f, f2, f3⟩⟩ := h5 j hj
  cases e
  cases f
  exact ⟨g, g2, d3, d4, ⟨e2, by obtain ⟨c, hc, -⟩ := e3; exact lt_block hc⟩, ⟨f2, by obtain ⟨c, hc, -⟩ := f3; exact lt_block hc⟩, e3, f3⟩
theorem FSh.keep {w w' : World} {lo hi F : Nat} {fr : List Fr} (h : FSh w lo hi F fr) (hk : Keeps lo [36] w w') (hs : SameShape w w') : FSh w' lo hi F fr := by
  obtain ⟨cur, h1, h2, h3⟩ := h
  refine ⟨cur, hk.cell h1 (by decide), h2, fun j hj => ?_⟩
  obtain ⟨g, g2, d1, d2, d3, d4, d5, d6⟩ := h3 j hj
  exact ⟨g, g2, d1, d2, d3, d4, d5.shape hs, d6.shape hs⟩
theorem FSh.set {w : World} {lo hi F i : Nat} {fr : List Fr} {v : Value} (h : FSh w lo hi F fr) (h42 : i % 4 < 2) : FSh (w.setCell ⟨F, i, none⟩ v) lo hi F fr := by
  obtain ⟨cur, h1, h2, h3⟩ := h
  refine ⟨cur.setIfInBounds i v, block_set h1 v, by simpa using h2, fun j hj => ?_⟩
  obtain ⟨g, g2, d1, d2, d3, d4, ⟨c5, d5, e5⟩, ⟨c6, d6, e6⟩⟩ := h3 j hj
  refine ⟨g, g2, by rw [set_else _ (by omega)]; exact d1, by rw [set_else _ (by omega)]; exact d2, d3, d4, ⟨c5, ?_, e5⟩, ⟨c6, ?_, e6⟩⟩
  · rw [Below.heap_setCell _ _ _ _ (fun e => by rw [show g = F from e, h1] at d5; cases d5)]; exact d5
  · rw [Below.heap_setCell _ _ _ _ (fun e => by rw [show g2 = F from e, h1] at d6; cases d6)]; exact d6

set_option maxRecDepth 100000 in
set_option maxHeartbeats 2000000 in
theorem markFrameS_w (lo hi F cap k0 : Nat) (fr : List Fr) (w : World) (hn : fr.length ≤ 1048576) (hc : ∀ f ∈ fr, f.locals.length ≤ 1048576 ∧ f.stack.length ≤ 1048576) (h1 : k0 ≤ 10000000000000) (hl : lo ≤ F) (hh : F < hi) (hF : FSh w lo hi F fr) :
    Calls Tryz.prog 39 #[.slice (some ⟨F, 0, none⟩) fr.length cap, .int .i64 (k0 : Int)] w fun e w' => ∃ k1 : Nat, e = .returned (.int .i64 (k1 : Int)) ∧ k0 ≤ k1 ∧ k1 ≤ k0 + fr.length * 8000000 ∧ Keeps lo [90, 36] w w' ∧ SameShape w w' ∧ Only (Rng lo hi) w w' := by
  go_enter Tryz.func39, Tryz.ntmps39
  go_wp2
  go_loopw [1, 5] (fun q i wr => ∃ (k : Nat) (m : Nat), k ≤ fr.length ∧ i = .int .i64 k ∧ q = .int .i64 (m : Int) ∧ Hid (k0 ≤ m ∧ m ≤ k0 + k * 8000000) ∧ Hid (Keeps lo [90, 36] w wr) ∧ Hid (SameShape w wr) ∧ Hid (Only (Rng lo hi) w wr) ∧ Hid (FSh wr lo hi F fr)) (fun _ i _ => fr.length - (intOf i).toNat)
  case atStart => exact ⟨0, k0, by omega, rfl, rfl, ⟨by omega, by omega⟩, Keeps.refl _ _ _, SameShape.refl _, Only.refl _ _, hF⟩
  case round =>
    obtain ⟨k, m, hk, rfl, rfl, HM, HK, HS, HO, HF⟩ := hrel
    by_cases hlt : k < fr.length
    · have hmz : m ≤ 20000000000000 := by have := HM.out; omega
      obtain ⟨cur, hC, hcs, hcd⟩ := HF.out
      have hfz := block_free hC
      obtain ⟨y1, hy1⟩ : ∃ v, wr.cell? ⟨F, k * 4, none⟩ = some v := ⟨cur[k * 4]'(by omega), by rw [block_cell hC]; exact Array.getElem?_eq_getElem _⟩
      obtain ⟨y2, hy2⟩ : ∃ v, wr.cell? ⟨F, k * 4 + 1, none⟩ = some v := ⟨cur[k * 4 + 1]'(by omega), by rw [block_cell hC]; exact Array.getElem?_eq_getElem _⟩
      obtain ⟨g, g2, d1, d2, dl, dl2, db, db2⟩ := hcd k hlt
      obtain ⟨wx, hwx⟩ : ∃ wx, wx = (wr.setCell ⟨F, k * 4, none⟩ (.int .i64 (m : Int))).setCell ⟨F, k * 4 + 1, none⟩ (.int .i64 ((m : Int) + 1)) := ⟨_, rfl⟩
      have hFx : FSh wx lo hi F fr := by rw [hwx]; exact (HF.out.set (by omega)).set (by omega)
      have hKx : Keeps lo [90, 36] w wx := by
        rw [hwx]
        exact (HK.out.set hC (by simp) hl _ _).set (block_set hC _) (by simp) hl _ _
      have hSx : SameShape w wx := by
        rw [hwx]
        exact (HS.out.set hC _ _).set (block_set hC _) _ _
      have hOx : Only (Rng lo hi) w wx := by
        rw [hwx]
        exact (HO.out.set ⟨hl, hh⟩ _).set ⟨hl, hh⟩ _
      have HOX := hid hOx
      have z2 : wr.cell? ⟨F, k * 4 + 2, none⟩ = some (.slice (some ⟨g, 0, none⟩) fr[k].locals.length fr[k].locals.length) := by rw [block_cell hC]; exact d1
      have z3 : wr.cell? ⟨F, k * 4 + 3, none⟩ = some (.slice (some ⟨g2, 0, none⟩) fr[k].stack.length fr[k].stack.length) := by rw [block_cell hC]; exact d2
      have hcl := (hc _ (List.getElem_mem hlt)).1
      have hcs2 := (hc _ (List.getElem_mem hlt)).2
      have hgF : ∀ b, ValsBlk wr b fr[k].locals.length → b ≠ F := fun b hb e => by obtain ⟨c, hcb, -⟩ := hb; rw [e, hC] at hcb; cases hcb
      obtain ⟨gx, hgx⟩ : ∃ c, c = hFx := ⟨_, rfl⟩
      clear gx hgx
      have dbx : ValsBlk wx g fr[k].locals.length := by
        obtain ⟨c, hcb, hcz⟩ := db
        refine ⟨c, ?_, hcz⟩
        rw [hwx, Below.heap_setCell _ _ _ _ (hgF g ⟨c, hcb, hcz⟩), Below.heap_setCell _ _ _ _ (hgF g ⟨c, hcb, hcz⟩)]
        exact hcb
      have hmk := markValueS_w lo hi g fr[k].locals.length fr[k].locals.length (m + 2) wx hcl (by omega) dl.1 dl.2 dbx
      have HKX := hid hKx
      have HSX := hid hSx
      have HFX := hid hFx
      have e1 : ((m + 2 : Nat) : Int) = (m : Int) + 1 + 1 := by omega
      rw [e1] at hmk
      clear hC hcs hcd db db2 dbx hKx hSx hFx HF HK HS hgF e1 d1 d2
      go_wp2_with fail
      rw [← hwx]
      clear hwx y1 hy1 y2 hy2 hfz z2 z3
      refine hmk.mono ?_
      rintro e w2 ⟨rfl, hk2, hs2, ho2⟩
      have HO2 := hid (HOX.out.trans ho2)
      have hF2 := HFX.out.keep hk2 hs2
      obtain ⟨cur2, hC2, hcs22, hcd2⟩ := hF2
      obtain ⟨h, h2, q1, q2, ql, ql2, qb, qb2⟩ := hcd2 k hlt
      have z3 : w2.cell? ⟨F, k * 4 + 3, none⟩ = some (.slice (some ⟨h2, 0, none⟩) fr[k].stack.length fr[k].stack.length) := by rw [block_cell hC2]; exact q2
      have hmk2 := markValueS_w lo hi h2 fr[k].stack.length fr[k].stack.length (m + 2 + 3 * fr[k].locals.length) w2 hcs2 (by omega) ql2.1 ql2.2 qb2
      have HF2 : Hid (FSh w2 lo hi F fr) := ⟨cur2, hC2, hcs22, hcd2⟩
      have HK2 := hid (HKX.out.trans (hk2.mono (Nat.le_refl _) (by simp)))
      have HS2 := hid (HSX.out.trans hs2)
      clear hmk hk2 hs2 ho2 hOx HO HOX hC2 hcs22 hcd2 qb qb2 q1 q2 HKX HSX HFX
      obtain ⟨A0, hA0⟩ : ∃ A0 : Nat, A0 = m + 2 + 3 * fr[k].locals.length := ⟨_, rfl⟩
      have HA0 := hid hA0
      rw [← hA0] at hmk2 ⊢
      have hA0z : A0 ≤ 50000000000000 := by omega
      clear hA0
      go_wp2_with fail
      clear z3
      refine hmk2.mono ?_
      rintro e w3 ⟨rfl, hk3, hs3, ho3⟩
      have HO3 := hid (HO2.out.trans ho3)
      have HF3 := hid (HF2.out.keep hk3 hs3)
      have HK3 := hid (HK2.out.trans (hk3.mono (Nat.le_refl _) (by simp)))
      have HS3 := hid (HS2.out.trans hs3)
      clear hmk2 hk3 hs3 ho3
      go_wp2
      go_roundw
      case rel => exact ⟨k + 1, A0 + 3 * fr[k].stack.length, by omega, by go_num, rfl, by have h1 := HM.out; have h2 := HA0.out; show _ ∧ _; omega, HK3, HS3, HO3, HF3⟩
      case measure => simp [intOf]; omega
    · have hkn : k = fr.length := by omega
      subst hkn
      go_wp2
      go_ret
      exact ⟨m, rfl, HM.out.1, HM.out.2, HK.out, HS.out, HO.out⟩
end Go.Proofs.YtcebgbcgkkfedaaGreat

namespace Go.Proofs.YtcebgbcgkkfedaaGreat
open Go.RowKit

/-- The slices of records in a block, and the blocks of their fields. -/
def RSh (w : World) (lo hi R : Nat) (rs : List (List Vl)) : Prop := ∃ cur : Array Value, w.heap[R]? = some (.cells cur 94 (0, 0)) ∧ cur.size = rs.length ∧
  ∀ j (hj : j < rs.length), ∃ g, cur[j]? = some (.slice (some ⟨g, 0, none⟩) rs[j].length rs[j].length) ∧ Rng lo hi g ∧ ValsBlk w g rs[j].length
theorem RB.sh {w : World} {lo : Nat} {a : Option Addr} {rs : List (List Vl)} (h : RB w lo a rs) : ∃ R, a = some ⟨R, 0, none⟩ ∧ lo ≤ R ∧ RSh w lo w.heap.size R rs := by
  obtain ⟨R, cur, h1, h2, h3, h4, h5⟩ := h
  refine ⟨R, h1, h2, cur, h3, by omega, fun j hj => ?_⟩
  obtain ⟨g, d3, ⟨-, x, e, e2, e3⟩⟩ := h5 j hj
  cases e
  exact ⟨g, d3, ⟨e2, by obtain ⟨c, hc, -⟩ := e3; exact lt_block hc⟩, e3⟩
theorem RSh.keep {w w' : World} {lo hi R : Nat} {rs : List (List Vl)} (h : RSh w lo hi R rs) {ts : List Nat} (hk : Keeps lo ts w w') (ht : 94 ∉ ts) (hs : SameShape w w') : RSh w' lo hi R rs := by
  obtain ⟨cur, h1, h2, h3⟩ := h
  refine ⟨cur, hk.cell h1 ht, h2, fun j hj => ?_⟩
  obtain ⟨g, d1, d3, d5⟩ := h3 j hj
  exact ⟨g, d1, d3, d5.shape hs⟩

set_option maxRecDepth 100000 in
set_option maxHeartbeats 2000000 in
theorem markRecS_w (lo hi R cap k0 : Nat) (rs : List (List Vl)) (w : World) (hn : rs.length ≤ 1048576) (hc : ∀ r ∈ rs, r.length ≤ 1048576) (h1 : k0 ≤ 20000000000000) (hR : RSh w lo hi R rs) :
    Calls Tryz.prog 40 #[.slice (some ⟨R, 0, none⟩) rs.length cap, .int .i64 (k0 : Int)] w fun e w' => ∃ k1 : Nat, e = .returned (.int .i64 (k1 : Int)) ∧ k0 ≤ k1 ∧ k1 ≤ k0 + rs.length * 4000000 ∧ Keeps lo [36] w w' ∧ SameShape w w' ∧ Only (Rng lo hi) w w' := by
  go_enter Tryz.func40, Tryz.ntmps40
  go_wp2
  go_loopw [1, 5] (fun q i wr => ∃ (k : Nat) (m : Nat), k ≤ rs.length ∧ i = .int .i64 k ∧ q = .int .i64 (m : Int) ∧ Hid (k0 ≤ m ∧ m ≤ k0 + k * 4000000) ∧ Hid (Keeps lo [36] w wr) ∧ Hid (SameShape w wr) ∧ Hid (Only (Rng lo hi) w wr) ∧ Hid (RSh wr lo hi R rs)) (fun _ i _ => rs.length - (intOf i).toNat)
  case atStart => exact ⟨0, k0, by omega, rfl, rfl, ⟨by omega, by omega⟩, Keeps.refl _ _ _, SameShape.refl _, Only.refl _ _, hR⟩
  case round =>
    obtain ⟨k, m, hk, rfl, rfl, HM, HK, HS, HO, HF⟩ := hrel
    by_cases hlt : k < rs.length
    · have hmz : m ≤ 40000000000000 := by have := HM.out; omega
      obtain ⟨cur, hC, hcs, hcd⟩ := HF.out
      obtain ⟨g, d1, dl, db⟩ := hcd k hlt
      have z2 : wr.cell? ⟨R, k, none⟩ = some (.slice (some ⟨g, 0, none⟩) rs[k].length rs[k].length) := by rw [block_cell hC]; exact d1
      have hcl := hc _ (List.getElem_mem hlt)
      have hmk := markValueS_w lo hi g rs[k].length rs[k].length m wr hcl (by omega) dl.1 dl.2 db
      clear hC hcs hcd db d1
      go_wp2_with fail
      refine hmk.mono ?_
      rintro e w2 ⟨rfl, hk2, hs2, ho2⟩
      have HO2 := hid (HO.out.trans ho2)
      have HF2 := hid (HF.out.keep hk2 (by decide) hs2)
      have HK2 := hid (HK.out.trans hk2)
      have HS2 := hid (HS.out.trans hs2)
      clear hmk hk2 hs2 ho2 z2
      go_wp2
      go_roundw
      case rel => exact ⟨k + 1, m + 3 * rs[k].length, by omega, by go_num, rfl, by have h1 := HM.out; show _ ∧ _; omega, HK2, HS2, HO2, HF2⟩
      case measure => simp [intOf]; omega
    · have hkn : k = rs.length := by omega
      subst hkn
      go_wp2
      go_ret
      exact ⟨m, rfl, HM.out.1, HM.out.2, HK.out, HS.out, HO.out⟩
end Go.Proofs.YtcebgbcgkkfedaaGreat

namespace Go.Proofs.YtcebgbcgkkfedaaGreat
open Go.RowKit

set_option maxHeartbeats 400000 in
theorem markStringS_w (lo hi g n cap : Nat) (k0 : Int) (w : World) (hn : n ≤ 1048576) (h0 : 0 ≤ k0) (h1 : k0 ≤ 100000000000000) (hg : lo ≤ g) (hh : g < hi) (hblk0 : TextBlk w g n) :
    Calls Tryz.prog 37 #[.slice (some ⟨g, 0, none⟩) n cap, .int .i64 k0] w fun e w' => e = .returned (.int .i64 (k0 + n)) ∧ Keeps lo [9] w w' ∧ SameShape w w' ∧ Only (Rng lo hi) w w' := by
  go_enter Tryz.func37, Tryz.ntmps37
  go_wp2
  go_loopw [1, 5] (fun q i wr => ∃ (k : Nat), k ≤ n ∧ i = .int .i64 k ∧ q = .int .i64 (k0 + k) ∧ Keeps lo [9] w wr ∧ SameShape w wr ∧ Only (Rng lo hi) w wr) (fun _ i _ => n - (intOf i).toNat)
  case atStart => exact ⟨0, by omega, rfl, by go_num, Keeps.refl _ _ _, SameShape.refl _, Only.refl _ _⟩
  case round =>
    obtain ⟨k, hk, rfl, rfl, hkr, hsh, hor⟩ := hrel
    by_cases hlt : k < n
    · go_wp2_with fail
      refine (markText_any (k0 + k) _ (by omega) (by omega)).mono ?_
      rintro e w1 ⟨s, rfl, hb⟩
      have hk1 : Keeps lo [9] w w1 := hkr.trans (Keeps.below hb)
      have ho1 : Only (Rng lo hi) w w1 := hor.trans (Only.of hb)
      have hs1 : SameShape w w1 := hsh.trans (SameShape.below hb)
      obtain ⟨cur, hblk, hsz⟩ := hblk0.shape hs1
      have hfz := block_free hblk k
      have hcl : w1.cell? ⟨g, k, none⟩ = some cur[k] := by rw [block_cell hblk k]; simp
      go_wp2
      go_roundw
      case rel => exact ⟨k + 1, by omega, by go_num, by go_num, Keeps.set hk1 hblk (by simp) hg _ _, SameShape.set hs1 hblk _ _, ho1.set ⟨hg, hh⟩ _⟩
      case measure => simp [intOf]; omega
    · go_wp2
      go_ret
      exact ⟨ret_int (by omega), hkr, hsh, hor⟩

set_option maxRecDepth 100000 in
set_option maxHeartbeats 2000000 in
theorem markVm_w (lo hi F R g fc hcp oc : Nat) (d : VmD) (k0 : Nat) (w : World) (hx : VmSmall d) (h1 : k0 ≤ 10000000000000) (hl : lo ≤ F) (hl3 : lo ≤ g) (hh : F < hi) (hh3 : g < hi) (hF : FSh w lo hi F d.frames) (hR : RSh w lo hi R d.heap) (hO : TextBlk w g d.out.length) :
    Calls Tryz.prog 14 #[.agg (vmCells (some ⟨F, 0, none⟩) (some ⟨R, 0, none⟩) (some ⟨g, 0, none⟩) fc hcp oc d), .int .i64 (k0 : Int)] w fun e w' => ∃ k1 : Nat, e = .returned (.int .i64 (k1 : Int)) ∧ k0 ≤ k1 ∧ k1 ≤ 100000000000000 ∧ Keeps lo [90, 36, 9] w w' ∧ SameShape w w' ∧ Only (Rng lo hi) w w' := by
  conv => arg 3; unfold vmCells
  obtain ⟨wA, hwA⟩ : ∃ wA, wA = w.alloc (.cells #[.slice (some ⟨F, 0, none⟩) d.frames.length fc, .slice (some ⟨R, 0, none⟩) d.heap.length hcp, .int .i64 d.made, .slice (some ⟨g, 0, none⟩) d.out.length oc, .int .i64 d.status, .int .i64 d.trap, .int .i64 d.value.k, .int .i64 d.value.n, .string d.value.s, .int .i64 d.steps] 38) := ⟨_, rfl⟩
  have hbA : Below w.heap.size w wA := by rw [hwA]; exact (Below.refl _ _).alloc (Nat.le_refl _) _
  have hI : wA.heap[w.heap.size]? = some (.cells #[.slice (some ⟨F, 0, none⟩) d.frames.length fc, .slice (some ⟨R, 0, none⟩) d.heap.length hcp, .int .i64 d.made, .slice (some ⟨g, 0, none⟩) d.out.length oc, .int .i64 d.status, .int .i64 d.trap, .int .i64 d.value.k, .int .i64 d.value.n, .string d.value.s, .int .i64 d.steps] 38 (0, 0)) := by rw [hwA]; exact block_new _ _ _
  have hkA : Keeps lo [] w wA := Keeps.below hbA
  have hsA : SameShape w wA := SameShape.below hbA
  have hFA : FSh wA lo hi F d.frames := hF.keep (hkA.mono (Nat.le_refl _) (by simp)) hsA
  have hRA : RSh wA lo hi R d.heap := hR.keep hkA (by simp) hsA
  have hOA : TextBlk wA g d.out.length := hO.mono hbA
  go_enter Tryz.func14, Tryz.ntmps14
  have i1 := block_cell hI
  have hm1 := markFrameS_w lo hi F fc k0 d.frames wA hx.frames (fun f hf => ⟨(hx.locals f hf).1, (hx.stack f hf).1⟩) (by omega) hl hh hFA
  go_wp2_with fail
  rw [← hwA]
  refine hm1.mono ?_
  rintro e w1 ⟨k1, rfl, ha1, hb1, hk1, hs1, ho1⟩
  have hO1x : Only (Rng lo hi) w w1 := (Only.of hbA).trans ho1
  have hI1 := hk1.cell hI (by decide)
  have hR1 := hRA.keep hk1 (by decide) hs1
  have hO1 := hOA.shape hs1
  have hK1 : Keeps lo [90, 36, 9] w w1 := (hkA.mono (Nat.le_refl _) (by simp)).trans (hk1.mono (Nat.le_refl _) (by simp))
  have hS1 := hsA.trans hs1
  have hfz := hx.frames
  have hk1z : k1 ≤ 20000000000000 := by omega
  clear hm1 hwA hbA hI hkA hsA hFA hRA hOA hk1 hs1 i1 hb1
  have i1 := block_cell hI1
  have hm2 := markRecS_w lo hi R hcp k1 d.heap w1 hx.heap (fun r hr => (hx.fields r hr).1) (by omega) hR1
  go_wp2_with fail
  refine hm2.mono ?_
  rintro e w2 ⟨k2, rfl, ha2, hb2, hk2, hs2, ho2⟩
  have hO2x := hO1x.trans ho2
  have hI2 := hk2.cell hI1 (by decide)
  have hO2 := hO1.shape hs2
  have hK2 : Keeps lo [90, 36, 9] w w2 := hK1.trans (hk2.mono (Nat.le_refl _) (by simp))
  have hS2 := hS1.trans hs2
  have hhz := hx.heap
  have hk2z : k2 ≤ 30000000000000 := by omega
  clear hm2 hI1 hR1 hO1 hK1 hS1 hk2 hs2 i1 hb2
  have i1 := block_cell hI2
  have hoz := hx.out
  have hm3 := markStringS_w lo hi g d.out.length oc (k2 : Int) w2 hx.out (by omega) (by omega) hl3 hh3 hO2
  go_wp2_with fail
  refine hm3.mono ?_
  rintro e w3 ⟨rfl, hk3, hs3, ho3⟩
  have hO3x := hO2x.trans ho3
  have hK3 : Keeps lo [90, 36, 9] w w3 := hK2.trans (hk3.mono (Nat.le_refl _) (by simp))
  have hS3 := hS2.trans hs3
  clear hm3 hI2 hO2 hK2 hS2 hk3 hs3 i1
  go_wp2
  go_ret
  exact ⟨k2 + d.out.length, by simp, by omega, by omega, hK3, hS3, hO3x⟩
end Go.Proofs.YtcebgbcgkkfedaaGreat

namespace Go.Proofs.YtcebgbcgkkfedaaGreat
open Go.RowKit

/-- How many marks frames take. -/
def fsz (fr : List Fr) : Nat := (fr.map fun f => 2 + 3 * f.locals.length + 3 * f.stack.length).sum
theorem fsz_more {fr : List Fr} {k : Nat} (h : k < fr.length) : fsz (fr.take (k + 1)) = fsz (fr.take k) + (2 + 3 * fr[k].locals.length + 3 * fr[k].stack.length) := by
  unfold fsz
  rw [List.take_succ_eq_append_getElem h, List.map_append, List.sum_append]
  simp
theorem fsz_le {fr : List Fr} (hc : ∀ f ∈ fr, f.locals.length ≤ 1048576 ∧ f.stack.length ≤ 1048576) (k : Nat) (hk : k ≤ fr.length) : fsz (fr.take k) ≤ k * 8000000 := by
  induction k with
  | zero => simp [fsz]
  | succ n ih =>
    have := ih (by omega)
    have h1 := hc fr[n] (List.getElem_mem (by omega))
    rw [fsz_more (by omega)]
    omega

structure FAp (n : Nat) (la sa : Nat → Nat) : Prop where
  li : ∀ i j, i < n → j < n → la i = la j → i = j
  si : ∀ i j, i < n → j < n → sa i = sa j → i = j
  ls : ∀ i j, i < n → j < n → la i ≠ sa j

/-- Frames in blocks of their own, the first m of them marked. -/
def FMk (w : World) (F : Nat) (la sa : Nat → Nat) (fr : List Fr) (k0 m : Nat) : Prop := ∃ cur : Array Value, w.heap[F]? = some (.cells cur 90 (0, 0)) ∧ cur.size = fr.length * 4 ∧
  ∀ j (hj : j < fr.length), cur[j * 4 + 2]? = some (.slice (some ⟨la j, 0, none⟩) fr[j].locals.length fr[j].locals.length) ∧ cur[j * 4 + 3]? = some (.slice (some ⟨sa j, 0, none⟩) fr[j].stack.length fr[j].stack.length) ∧
    (j < m → cur[j * 4]? = some (.int .i64 ((k0 + fsz (fr.take j) : Nat) : Int)) ∧ cur[j * 4 + 1]? = some (.int .i64 ((k0 + fsz (fr.take j) : Nat) + 1 : Int)) ∧ MarkV w (la j) fr[j].locals.length fr[j].locals.length (k0 + fsz (fr.take j) + 2) ∧ MarkV w (sa j) fr[j].stack.length fr[j].stack.length (k0 + fsz (fr.take j) + 2 + 3 * fr[j].locals.length)) ∧
    (m ≤ j → ValsBlk w (la j) fr[j].locals.length ∧ ValsBlk w (sa j) fr[j].stack.length)

theorem FMk.kept {w w' : World} {F k0 m : Nat} {la sa : Nat → Nat} {fr : List Fr} (h : FMk w F la sa fr k0 m) (hk : ∀ b o, (b = F ∨ ∃ i, i < fr.length ∧ (b = la i ∨ b = sa i)) → w.heap[b]? = some o → w'.heap[b]? = some o) : FMk w' F la sa fr k0 m := by
  obtain ⟨cur, h1, h2, h3⟩ := h
  refine ⟨cur, hk F _ (.inl rfl) h1, h2, fun j hj => ?_⟩
  obtain ⟨d1, d2, d3, d4⟩ := h3 j hj
  have L : ∀ o, w.heap[la j]? = some o → w'.heap[la j]? = some o := fun o => hk _ o (.inr ⟨j, hj, .inl rfl⟩)
  have S : ∀ o, w.heap[sa j]? = some o → w'.heap[sa j]? = some o := fun o => hk _ o (.inr ⟨j, hj, .inr rfl⟩)
  refine ⟨d1, d2, fun e => ?_, fun e => ?_⟩
  · obtain ⟨x1, x2, ⟨c, x3, x4⟩, ⟨c', x5, x6⟩⟩ := d3 e
    exact ⟨x1, x2, ⟨c, L _ x3, x4⟩, ⟨c', S _ x5, x6⟩⟩
  · obtain ⟨⟨c, x3, x4⟩, ⟨c', x5, x6⟩⟩ := d4 e
    exact ⟨⟨c, L _ x3, x4⟩, ⟨c', S _ x5, x6⟩⟩

theorem FMk.step {wr w2 w3 : World} {F k0 k : Nat} {la sa : Nat → Nat} {fr : List Fr} (h : FMk wr F la sa fr k0 k) (hA : FAp fr.length la sa) (hk : k < fr.length)
    (j1 : Just (la k) ((wr.setCell ⟨F, k * 4, none⟩ (.int .i64 ((k0 + fsz (fr.take k) : Nat) : Int))).setCell ⟨F, k * 4 + 1, none⟩ (.int .i64 ((k0 + fsz (fr.take k) : Nat) + 1 : Int))) w2) (m1 : MarkV w2 (la k) fr[k].locals.length fr[k].locals.length (k0 + fsz (fr.take k) + 2))
    (j2 : Just (sa k) w2 w3) (m2 : MarkV w3 (sa k) fr[k].stack.length fr[k].stack.length (k0 + fsz (fr.take k) + 2 + 3 * fr[k].locals.length)) : FMk w3 F la sa fr k0 (k + 1) := by
  obtain ⟨cur, h1, h2, h3⟩ := h
  have hF := block_set (block_set h1 (i := k * 4) (.int .i64 ((k0 + fsz (fr.take k) : Nat) : Int))) (i := k * 4 + 1) (.int .i64 ((k0 + fsz (fr.take k) : Nat) + 1 : Int))
  obtain ⟨e1, e2, e3, e4⟩ := h3 k hk
  obtain ⟨⟨cl, el, -⟩, ⟨cs, es, -⟩⟩ := e4 (Nat.le_refl _)
  have nL : F ≠ la k := fun e => by rw [← e, h1] at el; cases el
  have nS : F ≠ sa k := fun e => by rw [← e, h1] at es; cases es
  have hF3 := j2.kept (j1.kept hF nL) nS
  have K : ∀ b c, wr.heap[b]? = some (.cells c 36 (0, 0)) → b ≠ la k → b ≠ sa k → w3.heap[b]? = some (.cells c 36 (0, 0)) := fun b c hb n1 n2 => by
    have nF : b ≠ F := fun e => by rw [e, h1] at hb; cases hb
    refine j2.kept (j1.kept ?_ n1) n2
    rw [Below.heap_setCell _ _ _ _ (show b ≠ F from nF), Below.heap_setCell _ _ _ _ (show b ≠ F from nF)]
    exact hb
  refine ⟨_, hF3, by simpa using h2, fun j hj => ?_⟩
  obtain ⟨d1, d2, d3, d4⟩ := h3 j hj
  have s2 : ((cur.setIfInBounds (k * 4) (.int .i64 ((k0 + fsz (fr.take k) : Nat) : Int))).setIfInBounds (k * 4 + 1) (.int .i64 ((k0 + fsz (fr.take k) : Nat) + 1 : Int)))[j * 4 + 2]? = cur[j * 4 + 2]? := by rw [set_else _ (by omega), set_else _ (by omega)]
  have s3 : ((cur.setIfInBounds (k * 4) (.int .i64 ((k0 + fsz (fr.take k) : Nat) : Int))).setIfInBounds (k * 4 + 1) (.int .i64 ((k0 + fsz (fr.take k) : Nat) + 1 : Int)))[j * 4 + 3]? = cur[j * 4 + 3]? := by rw [set_else _ (by omega), set_else _ (by omega)]
  refine ⟨by rw [s2]; exact d1, by rw [s3]; exact d2, fun e => ?_, fun e => ?_⟩
  · by_cases ejk : j = k
    · subst ejk
      obtain ⟨c, m3, m4⟩ := m1
      refine ⟨?_, ?_, ⟨c, j2.kept m3 (hA.ls j j hj hj), m4⟩, m2⟩
      · rw [set_else _ (by omega)]
        exact set_self _ (by omega)
      · exact set_self _ (by simp; omega)
    · obtain ⟨x1, x2, ⟨c, x3, x4⟩, ⟨c', x5, x6⟩⟩ := d3 (by omega)
      refine ⟨by rw [set_else _ (by omega), set_else _ (by omega)]; exact x1, by rw [set_else _ (by omega), set_else _ (by omega)]; exact x2, ⟨c, K _ _ x3 (fun e => ejk (hA.li _ _ hj hk e)) (hA.ls _ _ hj hk), x4⟩, ⟨c', K _ _ x5 (fun e => hA.ls _ _ hk hj e.symm) (fun e => ejk (hA.si _ _ hj hk e)), x6⟩⟩
  · obtain ⟨⟨c, x3, x4⟩, ⟨c', x5, x6⟩⟩ := d4 (by omega)
    have ejk : j ≠ k := by omega
    exact ⟨⟨c, K _ _ x3 (fun e => ejk (hA.li _ _ hj hk e)) (hA.ls _ _ hj hk), x4⟩, ⟨c', K _ _ x5 (fun e => hA.ls _ _ hk hj e.symm) (fun e => ejk (hA.si _ _ hj hk e)), x6⟩⟩
end Go.Proofs.YtcebgbcgkkfedaaGreat

namespace Go.Proofs.YtcebgbcgkkfedaaGreat
open Go.RowKit

set_option maxRecDepth 100000 in
set_option maxHeartbeats 2000000 in
theorem markFrameS_is (S : Nat → Prop) (F cap k0 : Nat) (fr : List Fr) (la sa : Nat → Nat) (w : World) (hn : fr.length ≤ 1048576) (hc : ∀ f ∈ fr, f.locals.length ≤ 1048576 ∧ f.stack.length ≤ 1048576) (h1 : k0 ≤ 1000000000) (hA : FAp fr.length la sa) (hS : S F) (hS2 : ∀ i, i < fr.length → S (la i) ∧ S (sa i)) (hF : FMk w F la sa fr k0 0) :
    Calls Tryz.prog 39 #[.slice (some ⟨F, 0, none⟩) fr.length cap, .int .i64 (k0 : Int)] w fun e w' => e = .returned (.int .i64 ((k0 + fsz fr : Nat) : Int)) ∧ Only S w w' ∧ FMk w' F la sa fr k0 fr.length := by
  go_enter Tryz.func39, Tryz.ntmps39
  go_wp2
  go_loopw [1, 5] (fun q i wr => ∃ (k : Nat), k ≤ fr.length ∧ i = .int .i64 k ∧ q = .int .i64 ((k0 + fsz (fr.take k) : Nat) : Int) ∧ Hid (Only S w wr) ∧ Hid (FMk wr F la sa fr k0 k)) (fun _ i _ => fr.length - (intOf i).toNat)
  case atStart => exact ⟨0, by omega, rfl, by simp [fsz], Only.refl _ _, hF⟩
  case round =>
    obtain ⟨k, hk, rfl, rfl, HK, HF⟩ := hrel
    by_cases hlt : k < fr.length
    · have hle := fsz_le hc k hk
      obtain ⟨m, hm⟩ : ∃ m, m = k0 + fsz (fr.take k) := ⟨_, rfl⟩
      have HM := hid hm
      have hmz : m ≤ 20000000000000 := by omega
      rw [← hm]
      obtain ⟨cur, hC, hcs, hcd⟩ := HF.out
      have hfz := block_free hC
      obtain ⟨y1, hy1⟩ : ∃ v, wr.cell? ⟨F, k * 4, none⟩ = some v := ⟨cur[k * 4]'(by omega), by rw [block_cell hC]; exact Array.getElem?_eq_getElem _⟩
      obtain ⟨y2, hy2⟩ : ∃ v, wr.cell? ⟨F, k * 4 + 1, none⟩ = some v := ⟨cur[k * 4 + 1]'(by omega), by rw [block_cell hC]; exact Array.getElem?_eq_getElem _⟩
      obtain ⟨d1, d2, -, d4⟩ := hcd k hlt
      obtain ⟨db, db2⟩ := d4 (Nat.le_refl _)
      obtain ⟨wx, hwx⟩ : ∃ wx, wx = (wr.setCell ⟨F, k * 4, none⟩ (.int .i64 (m : Int))).setCell ⟨F, k * 4 + 1, none⟩ (.int .i64 ((m : Int) + 1)) := ⟨_, rfl⟩
      have HWX := hid hwx
      have hKx : Only S wr wx := by rw [hwx]; exact ((Only.refl _ _).set hS _).set hS _
      have z2 : wr.cell? ⟨F, k * 4 + 2, none⟩ = some (.slice (some ⟨la k, 0, none⟩) fr[k].locals.length fr[k].locals.length) := by rw [block_cell hC]; exact d1
      have z3 : wr.cell? ⟨F, k * 4 + 3, none⟩ = some (.slice (some ⟨sa k, 0, none⟩) fr[k].stack.length fr[k].stack.length) := by rw [block_cell hC]; exact d2
      have hcl := (hc _ (List.getElem_mem hlt)).1
      have hcs2 := (hc _ (List.getElem_mem hlt)).2
      have K : ∀ b n, ValsBlk wr b n → ValsBlk wx b n := fun b n hb => by
        obtain ⟨c, hcb, hcz⟩ := hb
        have nF : b ≠ F := fun e => by rw [e, hC] at hcb; cases hcb
        refine ⟨c, ?_, hcz⟩
        rw [hwx, Below.heap_setCell _ _ _ _ nF, Below.heap_setCell _ _ _ _ nF]
        exact hcb
      have nLF : F ≠ la k := fun e => by obtain ⟨c, hcb, -⟩ := db; rw [← e, hC] at hcb; cases hcb
      have hmk := markValueS_is (la k) fr[k].locals.length fr[k].locals.length (m + 2) wx hcl (by omega) (K _ _ db)
      have hbx2 := hid (K _ _ db2)
      have hFx := block_set (block_set hC (i := k * 4) (.int .i64 (m : Int))) (i := k * 4 + 1) (.int .i64 ((m : Int) + 1))
      have hFx2 := hid (show wx.heap[F]? = some _ by rw [hwx]; exact hFx)
      have e1 : ((m + 2 : Nat) : Int) = (m : Int) + 1 + 1 := by omega
      rw [e1] at hmk
      have hD2 : ((cur.setIfInBounds (k * 4) (.int .i64 (m : Int))).setIfInBounds (k * 4 + 1) (.int .i64 ((m : Int) + 1)))[k * 4 + 3]? = some (.slice (some ⟨sa k, 0, none⟩) fr[k].stack.length fr[k].stack.length) := by rw [set_else _ (by omega), set_else _ (by omega)]; exact d2
      have HKX := hid hKx
      have HD2 := hid hD2
      clear hC hcs hcd db db2 hKx e1 d1 d2 d4 K hFx hle hm hD2
      go_wp2_with fail
      rw [← hwx]
      clear hwx y1 hy1 y2 hy2 hfz z2 z3
      refine hmk.mono ?_
      rintro e w2 ⟨rfl, hj2, hm2⟩
      have hFy := hj2.kept hFx2.out nLF
      have z3 : w2.cell? ⟨F, k * 4 + 3, none⟩ = some (.slice (some ⟨sa k, 0, none⟩) fr[k].stack.length fr[k].stack.length) := by rw [block_cell hFy]; exact HD2.out
      have hb2 : ValsBlk w2 (sa k) fr[k].stack.length := by
        obtain ⟨c, hcb, hcz⟩ := hbx2.out
        exact ⟨c, hj2.kept hcb (fun e => hA.ls k k hlt hlt e.symm), hcz⟩
      have hmk2 := markValueS_is (sa k) fr[k].stack.length fr[k].stack.length (m + 2 + 3 * fr[k].locals.length) w2 hcs2 (by omega) hb2
      have HJ2 := hid hj2
      have HM2 := hid hm2
      clear hmk hj2 hm2 hFy hb2 hbx2 hFx2 HD2
      obtain ⟨A0, hA0⟩ : ∃ A0 : Nat, A0 = m + 2 + 3 * fr[k].locals.length := ⟨_, rfl⟩
      have HA0 := hid hA0
      rw [← hA0] at hmk2 ⊢
      have hA0z : A0 ≤ 50000000000000 := by omega
      clear hA0
      go_wp2_with fail
      clear z3
      refine hmk2.mono ?_
      rintro e w3 ⟨rfl, hj3, hm3⟩
      have hstep : FMk w3 F la sa fr k0 (k + 1) := by
        have j1 := HJ2.out
        have m1 := HM2.out
        have m3 := hm3
        rw [HWX.out, HM.out] at j1
        rw [HM.out] at m1
        rw [HA0.out, HM.out] at m3
        exact HF.out.step hA hlt j1 m1 hj3 m3
      have HO := hid (((HK.out.trans HKX.out).trans (Only.just HJ2.out (hS2 k hlt).1)).trans (Only.just hj3 (hS2 k hlt).2))
      have HST := hid hstep
      clear hmk2 hj3 hm3 hstep
      go_wp2
      go_roundw
      case rel => exact ⟨k + 1, by omega, by go_num, by rw [fsz_more hlt]; congr 1; have h1 := HM.out; have h2 := HA0.out; omega, HO, HST⟩
      case measure => simp [intOf]; omega
    · have hkn : k = fr.length := by omega
      subst hkn
      rw [List.take_length]
      go_wp2
      go_ret
      exact ⟨rfl, HK.out, HF.out⟩

set_option maxRecDepth 100000 in
set_option maxHeartbeats 2000000 in
theorem heldValueS_w (g n cap k0 : Nat) (w : World) (hn : n ≤ 1048576) (h0 : 0 < k0) (h1 : k0 ≤ 100000000000000) (hk : MarkV w g n n k0) :
    Calls Tryz.prog 70 #[.slice (some ⟨g, 0, none⟩) n cap, .int .i64 (k0 : Int)] w fun e w' => e = .returned (.int .i64 ((k0 + 3 * n : Nat) : Int)) ∧ Below w.heap.size w w' := by
  go_enter Tryz.func70, Tryz.ntmps70
  go_wp2
  go_loopw [1, 5] (fun q i wr => ∃ (k : Nat), k ≤ n ∧ i = .int .i64 k ∧ q = .int .i64 ((k0 + 3 * k : Nat) : Int) ∧ Below w.heap.size w wr) (fun _ i _ => n - (intOf i).toNat)
  case atStart => exact ⟨0, by omega, rfl, rfl, Below.refl _ _⟩
  case round =>
    obtain ⟨k, hkn, rfl, rfl, hb⟩ := hrel
    by_cases hlt : k < n
    · obtain ⟨cur, hC, -, hd⟩ := hk
      obtain ⟨d1, d2, d3⟩ := hd k hlt
      have c1 := cell_later hb (show w.cell? ⟨g, k * 3, none⟩ = _ by rw [block_cell hC]; exact d1)
      have c2 := cell_later hb (show w.cell? ⟨g, k * 3 + 1, none⟩ = _ by rw [block_cell hC]; exact d2)
      have c3 := cell_later hb (show w.cell? ⟨g, k * 3 + 2, none⟩ = _ by rw [block_cell hC]; exact d3)
      clear hd d1 d2 d3
      obtain ⟨A0, hA0⟩ : ∃ A0 : Int, A0 = ((k0 + 3 * k : Nat) : Int) := ⟨_, rfl⟩
      have hA1 : Hid (A0 = ((k0 + 3 * k : Nat) : Int)) := hA0
      have hAlo : 0 ≤ A0 := by omega
      have hAhi : A0 ≤ 200000000000000 := by omega
      rw [← hA0] at c1 ⊢
      rw [show ((k0 + 3 * k + 1 : Nat) : Int) = A0 + 1 by omega] at c2
      have hmt := fun W => markText_is (k0 + 3 * k + 2) W (by omega) (by omega)
      rw [show ((k0 + 3 * k + 2 : Nat) : Int) = A0 + 1 + 1 by omega] at hmt
      have HMT : Hid (∀ W, Calls Tryz.prog 67 #[.int .i64 (A0 + 1 + 1)] W fun e w' => e = .returned (.string (mText (k0 + 3 * k + 2))) ∧ Below W.heap.size W w') := hmt
      obtain ⟨T, hT⟩ : ∃ T, T = mText (k0 + 3 * k + 2) := ⟨_, rfl⟩
      rw [← hT] at c3 HMT
      clear hA0 hmt hT
      have HSv : Hid (∀ w', Below wr.heap.size wr w' → w'.cell? ⟨g, k * 3 + 2, none⟩ = some (.string T)) := fun w' hb' => cell_later hb' c3
      have q : Below wr.heap.size wr wr.drew := (Below.refl _ _).drew
      go_wp2
      go_region_held3 (fun w' => w'.cell? ⟨g, k * 3 + 2, none⟩ = some (.string T))
        (first | exact c3 | exact HSv.out _ q)
        (first
          | (go_at_call 67; refine (HMT.out _).mono ?_; rintro e w5 ⟨rfl, kd⟩; have q := q.trans (kd.mono q.size)))
      have hB := hb.trans (q.mono hb.size)
      go_wp2
      go_roundw
      case rel => exact ⟨k + 1, by omega, by go_num, by rw [show ((k0 + 3 * (k + 1) : Nat) : Int) = A0 + 1 + 1 + 1 by have := hA1.out; omega], hB⟩
      case measure => simp [intOf]; omega
    · have hkn2 : k = n := by omega
      subst hkn2
      go_wp2
      go_ret
      exact ⟨rfl, hb⟩

set_option maxRecDepth 100000 in
set_option maxHeartbeats 2000000 in
theorem heldFrameS_is (F cap k0 : Nat) (fr : List Fr) (la sa : Nat → Nat) (w : World) (hn : fr.length ≤ 1048576) (hc : ∀ f ∈ fr, f.locals.length ≤ 1048576 ∧ f.stack.length ≤ 1048576) (h0 : 0 < k0) (h1 : k0 ≤ 1000000000) (hF : FMk w F la sa fr k0 fr.length) :
    Calls Tryz.prog 41 #[.slice (some ⟨F, 0, none⟩) fr.length cap, .int .i64 (k0 : Int)] w fun e w' => e = .returned (.int .i64 ((k0 + fsz fr : Nat) : Int)) ∧ Below w.heap.size w w' := by
  go_enter Tryz.func41, Tryz.ntmps41
  go_wp2
  go_loopw [1, 5] (fun q i wr => ∃ (k : Nat), k ≤ fr.length ∧ i = .int .i64 k ∧ q = .int .i64 ((k0 + fsz (fr.take k) : Nat) : Int) ∧ Hid (Below w.heap.size w wr)) (fun _ i _ => fr.length - (intOf i).toNat)
  case atStart => exact ⟨0, by omega, rfl, by simp [fsz], Below.refl _ _⟩
  case round =>
    obtain ⟨k, hk, rfl, rfl, HB⟩ := hrel
    by_cases hlt : k < fr.length
    · have hle := fsz_le hc k hk
      obtain ⟨m, hm⟩ : ∃ m, m = k0 + fsz (fr.take k) := ⟨_, rfl⟩
      have HM := hid hm
      have hmz : m ≤ 20000000000000 := by omega
      have hm0 : 0 < m := by omega
      rw [← hm]
      obtain ⟨cur, hC, hcs, hcd⟩ := hF
      obtain ⟨d1, d2, d3, -⟩ := hcd k hlt
      obtain ⟨t1, t2, t3, t4⟩ := d3 hlt
      rw [← hm] at t1 t2 t3 t4
      have hCr := block_kept hC HB.out
      have y1 : wr.cell? ⟨F, k * 4, none⟩ = some (.int .i64 (m : Int)) := by rw [block_cell hCr]; exact t1
      have y2 : wr.cell? ⟨F, k * 4 + 1, none⟩ = some (.int .i64 ((m : Int) + 1)) := by rw [block_cell hCr]; exact t2
      have z2 : wr.cell? ⟨F, k * 4 + 2, none⟩ = some (.slice (some ⟨la k, 0, none⟩) fr[k].locals.length fr[k].locals.length) := by rw [block_cell hCr]; exact d1
      have hcl := (hc _ (List.getElem_mem hlt)).1
      have hcs2 := (hc _ (List.getElem_mem hlt)).2
      have hmk := heldValueS_w (la k) fr[k].locals.length fr[k].locals.length (m + 2) wr hcl (by omega) (by omega) (t3.mono HB.out)
      have e1 : ((m + 2 : Nat) : Int) = (m : Int) + 1 + 1 := by omega
      rw [e1] at hmk
      have HC := hid hC
      have HD2 := hid d2
      have HT4 := hid t4
      clear hC hcs hcd d1 d2 d3 t1 t2 t3 t4 hCr hle hm e1
      go_wp2_with fail
      clear y1 y2 z2
      refine hmk.mono ?_
      rintro e w2 ⟨rfl, hb2⟩
      have HB2 := hid (HB.out.trans (hb2.mono HB.out.size))
      have z3 : w2.cell? ⟨F, k * 4 + 3, none⟩ = some (.slice (some ⟨sa k, 0, none⟩) fr[k].stack.length fr[k].stack.length) := by rw [block_cell (block_kept HC.out HB2.out)]; exact HD2.out
      have hmk2 := heldValueS_w (sa k) fr[k].stack.length fr[k].stack.length (m + 2 + 3 * fr[k].locals.length) w2 hcs2 (by omega) (by omega) (HT4.out.mono HB2.out)
      clear hmk hb2
      obtain ⟨A0, hA0⟩ : ∃ A0 : Nat, A0 = m + 2 + 3 * fr[k].locals.length := ⟨_, rfl⟩
      have HA0 := hid hA0
      rw [← hA0] at hmk2 ⊢
      have hA0z : A0 ≤ 50000000000000 := by omega
      clear hA0
      go_wp2_with fail
      clear z3
      refine hmk2.mono ?_
      rintro e w3 ⟨rfl, hb3⟩
      have HB3 := hid (HB2.out.trans (hb3.mono HB2.out.size))
      clear hmk2 hb3
      obtain ⟨A1, hA1⟩ : ∃ A1 : Nat, A1 = A0 + 3 * fr[k].stack.length := ⟨_, rfl⟩
      have HA1 := hid hA1
      rw [← hA1]
      have hA1z : A1 ≤ 60000000000000 := by omega
      clear hA1
      go_wp2
      go_roundw
      case rel => exact ⟨k + 1, by omega, by go_num, by rw [fsz_more hlt]; congr 1; have h1 := HM.out; have h2 := HA0.out; have h3 := HA1.out; omega, HB3⟩
      case measure => simp [intOf]; omega
    · have hkn : k = fr.length := by omega
      subst hkn
      rw [List.take_length]
      go_wp2
      go_ret
      exact ⟨rfl, HB.out⟩
end Go.Proofs.YtcebgbcgkkfedaaGreat

namespace Go.Proofs.YtcebgbcgkkfedaaGreat
open Go.RowKit

/-- How many marks records take. -/
def rsz (rs : List (List Vl)) : Nat := (rs.map fun r => 3 * r.length).sum
theorem rsz_more {rs : List (List Vl)} {k : Nat} (h : k < rs.length) : rsz (rs.take (k + 1)) = rsz (rs.take k) + 3 * rs[k].length := by
  unfold rsz
  rw [List.take_succ_eq_append_getElem h, List.map_append, List.sum_append]
  simp
theorem rsz_le {rs : List (List Vl)} (hc : ∀ r ∈ rs, r.length ≤ 1048576) (k : Nat) (hk : k ≤ rs.length) : rsz (rs.take k) ≤ k * 4000000 := by
  induction k with
  | zero => simp [rsz]
  | succ n ih =>
    have := ih (by omega)
    have h1 := hc rs[n] (List.getElem_mem (by omega))
    rw [rsz_more (by omega)]
    omega

/-- Records in blocks of their own, the first m of them marked. -/
structure RMk (w : World) (ha : Option Addr) (rb : Nat → Nat) (rs : List (List Vl)) (k0 m : Nat) : Prop where
  row : ∀ j (hj : j < rs.length), ∃ R cur, ha = some ⟨R, 0, none⟩ ∧ w.heap[R]? = some (.cells cur 94 (0, 0)) ∧ cur[j]? = some (.slice (some ⟨rb j, 0, none⟩) rs[j].length rs[j].length)
  done : ∀ j (hj : j < rs.length), j < m → MarkV w (rb j) rs[j].length rs[j].length (k0 + rsz (rs.take j))
  todo : ∀ j (hj : j < rs.length), m ≤ j → ValsBlk w (rb j) rs[j].length

theorem RMk.kept {w w' : World} {ha : Option Addr} {k0 m : Nat} {rb : Nat → Nat} {rs : List (List Vl)} (h : RMk w ha rb rs k0 m) (hk : ∀ b c t, (t = 94 ∨ (t = 36 ∧ ∃ i, i < rs.length ∧ b = rb i)) → w.heap[b]? = some (.cells c t (0, 0)) → w'.heap[b]? = some (.cells c t (0, 0))) : RMk w' ha rb rs k0 m := by
  refine ⟨fun j hj => ?_, fun j hj e => ?_, fun j hj e => ?_⟩
  · obtain ⟨R, cur, e, h1, h2⟩ := h.row j hj
    exact ⟨R, cur, e, hk _ _ _ (.inl rfl) h1, h2⟩
  · obtain ⟨c, h1, h2⟩ := h.done j hj e
    exact ⟨c, hk _ _ _ (.inr ⟨rfl, j, hj, rfl⟩) h1, h2⟩
  · obtain ⟨c, h1, h2⟩ := h.todo j hj e
    exact ⟨c, hk _ _ _ (.inr ⟨rfl, j, hj, rfl⟩) h1, h2⟩

theorem RMk.step {wr w2 : World} {ha : Option Addr} {k0 k : Nat} {rb : Nat → Nat} {rs : List (List Vl)} (h : RMk wr ha rb rs k0 k) (hA : ∀ i j, i < rs.length → j < rs.length → rb i = rb j → i = j) (hk : k < rs.length)
    (j1 : Just (rb k) wr w2) (m1 : MarkV w2 (rb k) rs[k].length rs[k].length (k0 + rsz (rs.take k))) : RMk w2 ha rb rs k0 (k + 1) := by
  obtain ⟨cl, el, -⟩ := h.todo k hk (Nat.le_refl _)
  refine ⟨fun j hj => ?_, fun j hj e => ?_, fun j hj e => ?_⟩
  · obtain ⟨R, cur, e, h1, h2⟩ := h.row j hj
    exact ⟨R, cur, e, j1.kept h1 (fun e => by rw [e, el] at h1; cases h1), h2⟩
  · by_cases ejk : j = k
    · subst ejk
      exact m1
    · obtain ⟨c, h1, h2⟩ := h.done j hj (by omega)
      exact ⟨c, j1.kept h1 (fun e => ejk (hA _ _ hj hk e)), h2⟩
  · obtain ⟨c, h1, h2⟩ := h.todo j hj (by omega)
    exact ⟨c, j1.kept h1 (fun e => by have := hA _ _ hj hk e; omega), h2⟩

set_option maxRecDepth 100000 in
set_option maxHeartbeats 2000000 in
theorem markRecS_is (S : Nat → Prop) (ha : Option Addr) (cap k0 : Nat) (rs : List (List Vl)) (rb : Nat → Nat) (w : World) (hn : rs.length ≤ 1048576) (hc : ∀ r ∈ rs, r.length ≤ 1048576) (h1 : k0 ≤ 10000000000000) (hA : ∀ i j, i < rs.length → j < rs.length → rb i = rb j → i = j) (hS : ∀ i, i < rs.length → S (rb i)) (hR : RMk w ha rb rs k0 0) :
    Calls Tryz.prog 40 #[.slice ha rs.length cap, .int .i64 (k0 : Int)] w fun e w' => e = .returned (.int .i64 ((k0 + rsz rs : Nat) : Int)) ∧ Only S w w' ∧ RMk w' ha rb rs k0 rs.length := by
  go_enter Tryz.func40, Tryz.ntmps40
  go_wp2
  go_loopw [1, 5] (fun q i wr => ∃ (k : Nat), k ≤ rs.length ∧ i = .int .i64 k ∧ q = .int .i64 ((k0 + rsz (rs.take k) : Nat) : Int) ∧ Hid (Only S w wr) ∧ Hid (RMk wr ha rb rs k0 k)) (fun _ i _ => rs.length - (intOf i).toNat)
  case atStart => exact ⟨0, by omega, rfl, by simp [rsz], Only.refl _ _, hR⟩
  case round =>
    obtain ⟨k, hk, rfl, rfl, HK, HF⟩ := hrel
    by_cases hlt : k < rs.length
    · have hle := rsz_le hc k hk
      obtain ⟨m, hm⟩ : ∃ m, m = k0 + rsz (rs.take k) := ⟨_, rfl⟩
      have HM := hid hm
      have hmz : m ≤ 20000000000000 := by omega
      rw [← hm]
      obtain ⟨R, cur, he, hC, hd⟩ := HF.out.row k hlt
      subst he
      have z2 : wr.cell? ⟨R, k, none⟩ = some (.slice (some ⟨rb k, 0, none⟩) rs[k].length rs[k].length) := by rw [block_cell hC]; exact hd
      have hcl := hc _ (List.getElem_mem hlt)
      have hmk := markValueS_is (rb k) rs[k].length rs[k].length m wr hcl (by omega) (HF.out.todo k hlt (Nat.le_refl _))
      clear hC hd hle hm
      go_wp2_with fail
      clear z2
      refine hmk.mono ?_
      rintro e w2 ⟨rfl, hj2, hm2⟩
      have HST := hid (HF.out.step hA hlt hj2 (by rw [← HM.out]; exact hm2))
      have HO := hid (HK.out.trans (Only.just hj2 (hS k hlt)))
      clear hmk hj2 hm2
      obtain ⟨A0, hA0⟩ : ∃ A0 : Nat, A0 = m + 3 * rs[k].length := ⟨_, rfl⟩
      have HA0 := hid hA0
      rw [← hA0]
      have hA0z : A0 ≤ 50000000000000 := by omega
      clear hA0
      go_wp2
      go_roundw
      case rel => exact ⟨k + 1, by omega, by go_num, by rw [rsz_more hlt]; congr 1; have h1 := HM.out; have h2 := HA0.out; omega, HO, HST⟩
      case measure => simp [intOf]; omega
    · have hkn : k = rs.length := by omega
      subst hkn
      rw [List.take_length]
      go_wp2
      go_ret
      exact ⟨rfl, HK.out, HF.out⟩

set_option maxRecDepth 100000 in
set_option maxHeartbeats 2000000 in
theorem heldRecS_is (ha : Option Addr) (cap k0 : Nat) (rs : List (List Vl)) (rb : Nat → Nat) (w : World) (hn : rs.length ≤ 1048576) (hc : ∀ r ∈ rs, r.length ≤ 1048576) (h0 : 0 < k0) (h1 : k0 ≤ 10000000000000) (hR : RMk w ha rb rs k0 rs.length) :
    Calls Tryz.prog 42 #[.slice ha rs.length cap, .int .i64 (k0 : Int)] w fun e w' => e = .returned (.int .i64 ((k0 + rsz rs : Nat) : Int)) ∧ Below w.heap.size w w' := by
  go_enter Tryz.func42, Tryz.ntmps42
  go_wp2
  go_loopw [1, 5] (fun q i wr => ∃ (k : Nat), k ≤ rs.length ∧ i = .int .i64 k ∧ q = .int .i64 ((k0 + rsz (rs.take k) : Nat) : Int) ∧ Hid (Below w.heap.size w wr)) (fun _ i _ => rs.length - (intOf i).toNat)
  case atStart => exact ⟨0, by omega, rfl, by simp [rsz], Below.refl _ _⟩
  case round =>
    obtain ⟨k, hk, rfl, rfl, HB⟩ := hrel
    by_cases hlt : k < rs.length
    · have hle := rsz_le hc k hk
      obtain ⟨m, hm⟩ : ∃ m, m = k0 + rsz (rs.take k) := ⟨_, rfl⟩
      have HM := hid hm
      have hmz : m ≤ 20000000000000 := by omega
      have hm0 : 0 < m := by omega
      rw [← hm]
      obtain ⟨R, cur, he, hC, hd⟩ := hR.row k hlt
      have t3 := hR.done k hlt hlt
      rw [← hm] at t3
      subst he
      have z2 : wr.cell? ⟨R, k, none⟩ = some (.slice (some ⟨rb k, 0, none⟩) rs[k].length rs[k].length) := by rw [block_cell (block_kept hC HB.out)]; exact hd
      have hcl := hc _ (List.getElem_mem hlt)
      have hmk := heldValueS_w (rb k) rs[k].length rs[k].length m wr hcl (by omega) (by omega) (t3.mono HB.out)
      clear hC hd hle hm t3
      go_wp2_with fail
      clear z2
      refine hmk.mono ?_
      rintro e w2 ⟨rfl, hb2⟩
      have HB2 := hid (HB.out.trans (hb2.mono HB.out.size))
      clear hmk hb2
      obtain ⟨A0, hA0⟩ : ∃ A0 : Nat, A0 = m + 3 * rs[k].length := ⟨_, rfl⟩
      have HA0 := hid hA0
      rw [← hA0]
      have hA0z : A0 ≤ 50000000000000 := by omega
      clear hA0
      go_wp2
      go_roundw
      case rel => exact ⟨k + 1, by omega, by go_num, by rw [rsz_more hlt]; congr 1; have h1 := HM.out; have h2 := HA0.out; omega, HB2⟩
      case measure => simp [intOf]; omega
    · have hkn : k = rs.length := by omega
      subst hkn
      rw [List.take_length]
      go_wp2
      go_ret
      exact ⟨rfl, HB.out⟩

/-- Texts in a block, the first m of them marked. -/
def OMk (w : World) (O n k0 m : Nat) : Prop := ∃ cur : Array Value, w.heap[O]? = some (.cells cur 9 (0, 0)) ∧ cur.size = n ∧ ∀ j, j < m → cur[j]? = some (.string (mText (k0 + j)))
theorem OMk.mono {w w' : World} {O n k0 m : Nat} (h : OMk w O n k0 m) (hb : Below w.heap.size w w') : OMk w' O n k0 m := by
  obtain ⟨c, h1, h2⟩ := h
  exact ⟨c, block_kept h1 hb, h2⟩

set_option maxRecDepth 100000 in
set_option maxHeartbeats 2000000 in
theorem markStringS_is (O n cap k0 : Nat) (w : World) (hn : n ≤ 1048576) (h0 : 0 < k0) (h1 : k0 ≤ 100000000000000) (hO : TextBlk w O n) :
    Calls Tryz.prog 37 #[.slice (some ⟨O, 0, none⟩) n cap, .int .i64 (k0 : Int)] w fun e w' => e = .returned (.int .i64 ((k0 + n : Nat) : Int)) ∧ Just O w w' ∧ OMk w' O n k0 n := by
  go_enter Tryz.func37, Tryz.ntmps37
  go_wp2
  go_loopw [1, 5] (fun q i wr => ∃ (k : Nat), k ≤ n ∧ i = .int .i64 k ∧ q = .int .i64 ((k0 + k : Nat) : Int) ∧ Hid (Just O w wr) ∧ Hid (OMk wr O n k0 k)) (fun _ i _ => n - (intOf i).toNat)
  case atStart =>
    obtain ⟨c, h2, h3⟩ := hO
    exact ⟨0, by omega, rfl, rfl, Just.refl _ _, c, h2, h3, fun j hj => by omega⟩
  case round =>
    obtain ⟨k, hk, rfl, rfl, HJ, HO⟩ := hrel
    by_cases hlt : k < n
    · obtain ⟨m, hm⟩ : ∃ m, m = k0 + k := ⟨_, rfl⟩
      have HM := hid hm
      have hmz : m ≤ 200000000000000 := by omega
      have hm0 : 0 < m := by omega
      rw [← hm]
      have hmt := markText_is m wr hm0 (by omega)
      clear hm
      go_wp2_with fail
      refine hmt.mono ?_
      rintro e w1 ⟨rfl, hb⟩
      obtain ⟨cur, hblk, hsz, hd⟩ := HO.out.mono hb
      have hfz := block_free hblk k
      have hcl : w1.cell? ⟨O, k, none⟩ = some cur[k] := by rw [block_cell hblk k]; simp
      have HD := hid hd
      have HBK := hid hblk
      have HJ1 := hid ((HJ.out.trans (Just.of hb)).set (i := k) (.string (mText m)))
      have HZ := hid hsz
      obtain ⟨T, hT⟩ : ∃ T, T = mText m := ⟨_, rfl⟩
      have HT := hid hT
      rw [← hT]
      clear hmt hd hblk hb hT
      go_wp2
      go_roundw
      case rel =>
        refine ⟨k + 1, by omega, by go_num, by congr 1; have := HM.out; omega, by rw [HT.out]; exact HJ1, _, block_set HBK.out _, by simpa using HZ.out, fun j hj => ?_⟩
        by_cases e : j = k
        · subst e
          rw [set_self _ (by have := HZ.out; omega), HT.out, HM.out]
        · rw [set_else _ e]
          exact HD.out j (by omega)
      case measure => simp [intOf]; omega
    · have hkn : k = n := by omega
      subst hkn
      go_wp2
      go_ret
      exact ⟨rfl, HJ.out, HO.out⟩
end Go.Proofs.YtcebgbcgkkfedaaGreat

namespace Go.Proofs.YtcebgbcgkkfedaaGreat
open Go.RowKit

set_option maxRecDepth 100000 in
set_option maxHeartbeats 2000000 in
theorem heldStringS_is (O n cap k0 : Nat) (w : World) (hn : n ≤ 1048576) (h0 : 0 < k0) (h1 : k0 ≤ 100000000000000) (hO : OMk w O n k0 n) :
    Calls Tryz.prog 43 #[.slice (some ⟨O, 0, none⟩) n cap, .int .i64 (k0 : Int)] w fun e w' => e = .returned (.int .i64 ((k0 + n : Nat) : Int)) ∧ Below w.heap.size w w' := by
  go_enter Tryz.func43, Tryz.ntmps43
  go_wp2
  go_loopw [1, 5] (fun q i wr => ∃ (k : Nat), k ≤ n ∧ i = .int .i64 k ∧ q = .int .i64 ((k0 + k : Nat) : Int) ∧ Below w.heap.size w wr) (fun _ i _ => n - (intOf i).toNat)
  case atStart => exact ⟨0, by omega, rfl, rfl, Below.refl _ _⟩
  case round =>
    obtain ⟨k, hkn, rfl, rfl, hb⟩ := hrel
    by_cases hlt : k < n
    · obtain ⟨cur, hC, -, hd⟩ := hO
      have c3 := cell_later hb (show w.cell? ⟨O, k, none⟩ = _ by rw [block_cell hC]; exact hd k hlt)
      clear hd
      obtain ⟨A0, hA0⟩ : ∃ A0 : Int, A0 = ((k0 + k : Nat) : Int) := ⟨_, rfl⟩
      have hA1 : Hid (A0 = ((k0 + k : Nat) : Int)) := hA0
      have hAlo : 0 ≤ A0 := by omega
      have hAhi : A0 ≤ 200000000000000 := by omega
      rw [← hA0]
      have hmt := fun W => markText_is (k0 + k) W (by omega) (by omega)
      rw [← hA0] at hmt
      have HMT : Hid (∀ W, Calls Tryz.prog 67 #[.int .i64 A0] W fun e w' => e = .returned (.string (mText (k0 + k))) ∧ Below W.heap.size W w') := hmt
      obtain ⟨T, hT⟩ : ∃ T, T = mText (k0 + k) := ⟨_, rfl⟩
      rw [← hT] at c3 HMT
      clear hA0 hmt hT
      have HSv : Hid (∀ w', Below wr.heap.size wr w' → w'.cell? ⟨O, k, none⟩ = some (.string T)) := fun w' hb' => cell_later hb' c3
      have q : Below wr.heap.size wr wr.drew := (Below.refl _ _).drew
      go_wp2
      go_region_held3 (fun w' => w'.cell? ⟨O, k, none⟩ = some (.string T))
        (first | exact c3 | exact HSv.out _ q)
        (first
          | (go_at_call 67; refine (HMT.out _).mono ?_; rintro e w5 ⟨rfl, kd⟩; have q := q.trans (kd.mono q.size)))
      have hB := hb.trans (q.mono hb.size)
      go_wp2
      go_roundw
      case rel => exact ⟨k + 1, by omega, by go_num, by rw [show ((k0 + (k + 1) : Nat) : Int) = A0 + 1 by have := hA1.out; omega], hB⟩
      case measure => simp [intOf]; omega
    · have hkn2 : k = n := by omega
      subst hkn2
      go_wp2
      go_ret
      exact ⟨rfl, hb⟩

theorem ValsIs.blk {w : World} {g : Nat} {vs : List Vl} (h : ValsIs w g vs) : ValsBlk w g vs.length := ⟨_, h, by simp [flat_len]⟩

/-- A state in blocks of its own, marked from k0 on. -/
structure VMk (w : World) (F : Nat) (ha : Option Addr) (O : Nat) (la sa rb : Nat → Nat) (d : VmD) (k0 : Nat) : Prop where
  frs : FMk w F la sa d.frames k0 d.frames.length
  recs : RMk w ha rb d.heap (k0 + fsz d.frames) d.heap.length
  out : OMk w O d.out.length (k0 + fsz d.frames + rsz d.heap) d.out.length
theorem FMk.mono {w w' : World} {F k0 m : Nat} {la sa : Nat → Nat} {fr : List Fr} (h : FMk w F la sa fr k0 m) (hb : Below w.heap.size w w') : FMk w' F la sa fr k0 m := h.kept fun _ _ _ ho => by rw [hb.block _ (lt_block ho)]; exact ho
theorem RMk.mono {w w' : World} {ha : Option Addr} {k0 m : Nat} {rb : Nat → Nat} {rs : List (List Vl)} (h : RMk w ha rb rs k0 m) (hb : Below w.heap.size w w') : RMk w' ha rb rs k0 m := h.kept fun _ _ _ _ ho => by rw [hb.block _ (lt_block ho)]; exact ho
theorem VMk.mono {w w' : World} {F O k0 : Nat} {ha : Option Addr} {la sa rb : Nat → Nat} {d : VmD} (h : VMk w F ha O la sa rb d k0) (hb : Below w.heap.size w w') : VMk w' F ha O la sa rb d k0 := ⟨h.frs.mono hb, h.recs.mono hb, h.out.mono hb⟩

set_option maxRecDepth 100000 in
set_option maxHeartbeats 2000000 in
theorem heldVm_is (F : Nat) (ha : Option Addr) (O fc hcp oc : Nat) (la sa rb : Nat → Nat) (d : VmD) (k0 : Nat) (w : World) (hx : VmSmall d) (h0 : 0 < k0) (h1 : k0 ≤ 1000000) (hV : VMk w F ha O la sa rb d k0) :
    Calls Tryz.prog 15 #[.agg (vmCells (some ⟨F, 0, none⟩) ha (some ⟨O, 0, none⟩) fc hcp oc d), .int .i64 (k0 : Int)] w fun e w' => e = .returned (.int .i64 ((k0 + fsz d.frames + rsz d.heap + d.out.length : Nat) : Int)) ∧ Below w.heap.size w w' := by
  conv => arg 3; unfold vmCells
  have hz1 := fsz_le (fr := d.frames) (fun f hf => ⟨(hx.locals f hf).1, (hx.stack f hf).1⟩) d.frames.length (Nat.le_refl _)
  have hz2 := rsz_le (rs := d.heap) (fun r hr => (hx.fields r hr).1) d.heap.length (Nat.le_refl _)
  rw [List.take_length] at hz1 hz2
  have hz3 := hx.frames
  have hz4 := hx.heap
  have hz5 := hx.out
  obtain ⟨wA, hwA⟩ : ∃ wA, wA = w.alloc (.cells #[.slice (some ⟨F, 0, none⟩) d.frames.length fc, .slice ha d.heap.length hcp, .int .i64 d.made, .slice (some ⟨O, 0, none⟩) d.out.length oc, .int .i64 d.status, .int .i64 d.trap, .int .i64 d.value.k, .int .i64 d.value.n, .string d.value.s, .int .i64 d.steps] 38) := ⟨_, rfl⟩
  have hbA : Below w.heap.size w wA := by rw [hwA]; exact (Below.refl _ _).alloc (Nat.le_refl _) _
  have hI : wA.heap[w.heap.size]? = some (.cells #[.slice (some ⟨F, 0, none⟩) d.frames.length fc, .slice ha d.heap.length hcp, .int .i64 d.made, .slice (some ⟨O, 0, none⟩) d.out.length oc, .int .i64 d.status, .int .i64 d.trap, .int .i64 d.value.k, .int .i64 d.value.n, .string d.value.s, .int .i64 d.steps] 38 (0, 0)) := by rw [hwA]; exact block_new _ _ _
  go_enter Tryz.func15, Tryz.ntmps15
  have hm1 := heldFrameS_is F fc k0 d.frames la sa wA hx.frames (fun f hf => ⟨(hx.locals f hf).1, (hx.stack f hf).1⟩) h0 (by omega) (hV.frs.mono hbA)
  obtain ⟨K1, hK1⟩ : ∃ K1, K1 = k0 + fsz d.frames := ⟨_, rfl⟩
  have hV2 := hV.recs
  have hV3 := hV.out
  rw [← hK1] at hm1 hV2 hV3
  have HE1 := hid hK1
  have hK1z : K1 ≤ 9000000000000 := by omega
  have hK10 : 0 < K1 := by omega
  go_wp2_with fail
  rw [← hwA]
  refine hm1.mono ?_
  rintro e w1 ⟨rfl, hb1⟩
  have hI1 := block_kept hI hb1
  have hB1 := hbA.trans (hb1.mono hbA.size)
  clear hm1 hwA hbA hI hb1 hK1
  have i1 := block_cell hI1
  have hm2 := heldRecS_is ha hcp K1 d.heap rb w1 hx.heap (fun r hr => (hx.fields r hr).1) hK10 (by omega) (hV2.mono hB1)
  obtain ⟨K2, hK2⟩ : ∃ K2, K2 = K1 + rsz d.heap := ⟨_, rfl⟩
  rw [← hK2] at hm2 hV3
  have HE2 := hid hK2
  have hK2z : K2 ≤ 20000000000000 := by omega
  have hK20 : 0 < K2 := by omega
  go_wp2_with fail
  refine hm2.mono ?_
  rintro e w2 ⟨rfl, hb2⟩
  have hI2 := block_kept hI1 hb2
  have hB2 := hB1.trans (hb2.mono hB1.size)
  clear hm2 hI1 hB1 hb2 i1 hK2
  have i1 := block_cell hI2
  have hm3 := heldStringS_is O d.out.length oc K2 w2 hx.out hK20 (by omega) (hV3.mono hB2)
  obtain ⟨K3, hK3⟩ : ∃ K3, K3 = K2 + d.out.length := ⟨_, rfl⟩
  rw [← hK3] at hm3
  have HE3 := hid hK3
  have hK3z : K3 ≤ 40000000000000 := by omega
  clear hK3
  go_wp2_with fail
  refine hm3.mono ?_
  rintro e w3 ⟨rfl, hb3⟩
  have hB3 := hB2.trans (hb3.mono hB2.size)
  clear hm3 hI2 hB2 hb3 i1
  go_wp2
  go_ret
  exact ⟨(by rw [← HE1.out, ← HE2.out, ← HE3.out]; rfl), hB3⟩

/-- The blocks of a state. -/
def Own (F O : Nat) (la sa rb : Nat → Nat) (d : VmD) (b : Nat) : Prop := b = F ∨ (∃ i, i < d.frames.length ∧ (b = la i ∨ b = sa i)) ∨ (∃ i, i < d.heap.length ∧ b = rb i) ∨ b = O

set_option maxRecDepth 100000 in
set_option maxHeartbeats 2000000 in
theorem markVm_is (B F : Nat) (ha : Option Addr) (O fc hcp oc : Nat) (la sa rb : Nat → Nat) (d : VmD) (k0 : Nat) (w : World) (hx : VmSmall d) (h0 : 0 < k0) (h1 : k0 ≤ 1000000) (hV : CanIs w B F ha hcp O la sa rb d) :
    Calls Tryz.prog 14 #[.agg (vmCells (some ⟨F, 0, none⟩) ha (some ⟨O, 0, none⟩) fc hcp oc d), .int .i64 (k0 : Int)] w fun e w' => e = .returned (.int .i64 ((k0 + fsz d.frames + rsz d.heap + d.out.length : Nat) : Int)) ∧ Only (Own F O la sa rb d) w w' ∧ VMk w' F ha O la sa rb d k0 := by
  conv => arg 3; unfold vmCells
  have hz1 := fsz_le (fr := d.frames) (fun f hf => ⟨(hx.locals f hf).1, (hx.stack f hf).1⟩) d.frames.length (Nat.le_refl _)
  have hz2 := rsz_le (rs := d.heap) (fun r hr => (hx.fields r hr).1) d.heap.length (Nat.le_refl _)
  rw [List.take_length] at hz1 hz2
  have hz3 := hx.frames
  have hz4 := hx.heap
  have hz5 := hx.out
  obtain ⟨wA, hwA⟩ : ∃ wA, wA = w.alloc (.cells #[.slice (some ⟨F, 0, none⟩) d.frames.length fc, .slice ha d.heap.length hcp, .int .i64 d.made, .slice (some ⟨O, 0, none⟩) d.out.length oc, .int .i64 d.status, .int .i64 d.trap, .int .i64 d.value.k, .int .i64 d.value.n, .string d.value.s, .int .i64 d.steps] 38) := ⟨_, rfl⟩
  have hbA : Below w.heap.size w wA := by rw [hwA]; exact (Below.refl _ _).alloc (Nat.le_refl _) _
  have hI : wA.heap[w.heap.size]? = some (.cells #[.slice (some ⟨F, 0, none⟩) d.frames.length fc, .slice ha d.heap.length hcp, .int .i64 d.made, .slice (some ⟨O, 0, none⟩) d.out.length oc, .int .i64 d.status, .int .i64 d.trap, .int .i64 d.value.k, .int .i64 d.value.n, .string d.value.s, .int .i64 d.steps] 38 (0, 0)) := by rw [hwA]; exact block_new _ _ _
  have hT36 : ∀ i, i < d.frames.length → (∃ c, w.heap[la i]? = some (.cells c 36 (0, 0))) ∧ (∃ c, w.heap[sa i]? = some (.cells c 36 (0, 0))) := fun i hi => by
    obtain ⟨c, h2, -⟩ := ValsIs.blk (hV.fv.loc i hi hi)
    obtain ⟨c', h3, -⟩ := ValsIs.blk (hV.fv.stk i hi hi)
    exact ⟨⟨c, h2⟩, ⟨c', h3⟩⟩
  have hR36 : ∀ i, i < d.heap.length → ∃ c, w.heap[rb i]? = some (.cells c 36 (0, 0)) := fun i hi => by
    obtain ⟨c, h2, -⟩ := ValsIs.blk (hV.hv.fld i hi hi)
    exact ⟨c, h2⟩
  obtain ⟨cF, hF, hFd⟩ := hV.fc
  obtain ⟨cO, hO, hOs, -⟩ := hV.oc
  have hFM : FMk w F la sa d.frames k0 0 := ⟨cF, hF, hFd.1, fun j hj => ⟨(hFd.2 j hj hj).2.2.1, (hFd.2 j hj hj).2.2.2, fun e => by omega, fun _ => ⟨ValsIs.blk (hV.fv.loc j hj hj), ValsIs.blk (hV.fv.stk j hj hj)⟩⟩⟩
  have hRM : RMk w ha rb d.heap (k0 + fsz d.frames) 0 := by
    obtain ⟨xs, ho, hd⟩ := hV.hc
    refine ⟨fun j hj => ?_, fun j hj e => by omega, fun j hj _ => ValsIs.blk (hV.hv.fld j hj hj)⟩
    rcases ho.2 with ⟨e, h0⟩ | ⟨b, cp, cu, e, hb', hh, -⟩
    · omega
    · cases e
      refine ⟨b, cu, rfl, hh, ?_⟩
      rw [← hd j hj, ← ho.cellAt j (by omega), block_cell hh]
  have hFA : FAp d.frames.length la sa := ⟨hV.fv.li, hV.fv.si, hV.fv.ls⟩
  have HT := hid hT36
  have HR36 := hid hR36
  have HF := hid hF
  have HO := hid hO
  have HFR := hid hV.fr
  go_enter Tryz.func14, Tryz.ntmps14
  have i1 := block_cell hI
  have hm1 := markFrameS_is (fun b => b = F ∨ ∃ i, i < d.frames.length ∧ (b = la i ∨ b = sa i)) F fc k0 d.frames la sa wA hx.frames (fun f hf => ⟨(hx.locals f hf).1, (hx.stack f hf).1⟩) (by omega) hFA (.inl rfl) (fun i hi => ⟨.inr ⟨i, hi, .inl rfl⟩, .inr ⟨i, hi, .inr rfl⟩⟩) (hFM.mono hbA)
  obtain ⟨K1, hK1⟩ : ∃ K1, K1 = k0 + fsz d.frames := ⟨_, rfl⟩
  rw [← hK1] at hm1 hRM
  have HE1 := hid hK1
  have hK1z : K1 ≤ 9000000000000 := by omega
  have hK10 : 0 < K1 := by omega
  clear hT36 hR36 hF hO hFM hK1
  go_wp2_with fail
  rw [← hwA]
  refine hm1.mono ?_
  rintro e w1 ⟨rfl, ho1, hf1⟩
  have hN1 : ∀ b c t, w.heap[b]? = some (.cells c t (0, 0)) → t ≠ 90 → (t = 36 → ∃ i, i < d.heap.length ∧ b = rb i) → w1.heap[b]? = some (.cells c t (0, 0)) := fun b c t hb h90 h36 => by
    refine ho1.kept (block_kept hb hbA) ?_
    rintro (e | ⟨i, hi, e⟩)
    · rw [e, HF.out] at hb; cases hb; exact h90 rfl
    · have ht : t = 36 := by
        obtain ⟨⟨c1, t1⟩, ⟨c2, t2⟩⟩ := HT.out i hi
        rcases e with e | e
        · rw [e, t1] at hb; cases hb; rfl
        · rw [e, t2] at hb; cases hb; rfl
      obtain ⟨j, hj, ej⟩ := h36 ht
      have := HFR.out i j hi hj
      rcases e with e | e
      · exact this.1 (by rw [← e, ej])
      · exact this.2 (by rw [← e, ej])
  have hI1 : w1.heap[w.heap.size]? = some (.cells #[.slice (some ⟨F, 0, none⟩) d.frames.length fc, .slice ha d.heap.length hcp, .int .i64 d.made, .slice (some ⟨O, 0, none⟩) d.out.length oc, .int .i64 d.status, .int .i64 d.trap, .int .i64 d.value.k, .int .i64 d.value.n, .string d.value.s, .int .i64 d.steps] 38 (0, 0)) := by
    refine ho1.kept hI ?_
    rintro (e | ⟨i, hi, e⟩)
    · have := lt_block HF.out; omega
    · obtain ⟨⟨c1, t1⟩, ⟨c2, t2⟩⟩ := HT.out i hi
      have := lt_block t1
      have := lt_block t2
      omega
  have hR1 : RMk w1 ha rb d.heap K1 0 := hRM.kept fun b c t ht hb => hN1 b c t hb (by rcases ht with rfl | ⟨rfl, -⟩ <;> decide) (fun e => by rcases ht with h | h; exact absurd (h.symm.trans e) (by decide); exact h.2)
  have hO1 : w1.heap[O]? = some (.cells cO 9 (0, 0)) := hN1 O cO 9 HO.out (by decide) (fun e => absurd e (by decide))
  have hOn1 : Only (Own F O la sa rb d) w w1 := (Only.of hbA).trans (ho1.wide fun b hb => hb.elim .inl fun h => .inr (.inl h))
  have HO1 := hid ho1
  have HF1 := hid hf1
  clear hm1 hwA hI i1 ho1 hf1 hN1 hRM
  have i1 := block_cell hI1
  have hm2 := markRecS_is (fun b => ∃ i, i < d.heap.length ∧ b = rb i) ha hcp K1 d.heap rb w1 hx.heap (fun r hr => (hx.fields r hr).1) (by omega) hV.hv.ri (fun i hi => ⟨i, hi, rfl⟩) hR1
  obtain ⟨K2, hK2⟩ : ∃ K2, K2 = K1 + rsz d.heap := ⟨_, rfl⟩
  rw [← hK2] at hm2
  have HE2 := hid hK2
  have hK2z : K2 ≤ 20000000000000 := by omega
  have hK20 : 0 < K2 := by omega
  have hr36 : ∀ i, i < d.heap.length → ∃ c, w1.heap[rb i]? = some (.cells c 36 (0, 0)) := fun i hi => by
    obtain ⟨c, h2, -⟩ := hR1.todo i hi (Nat.zero_le _)
    exact ⟨c, h2⟩
  have HR1 := hid hr36
  clear hK2 hr36
  go_wp2_with fail
  refine hm2.mono ?_
  rintro e w2 ⟨rfl, ho2, hr2⟩
  have hI2 : w2.heap[w.heap.size]? = some (.cells #[.slice (some ⟨F, 0, none⟩) d.frames.length fc, .slice ha d.heap.length hcp, .int .i64 d.made, .slice (some ⟨O, 0, none⟩) d.out.length oc, .int .i64 d.status, .int .i64 d.trap, .int .i64 d.value.k, .int .i64 d.value.n, .string d.value.s, .int .i64 d.steps] 38 (0, 0)) := by
    refine ho2.kept hI1 ?_
    rintro ⟨i, hi, e⟩
    obtain ⟨c1, t1⟩ := HR1.out i hi
    rw [← e, hI1] at t1
    cases t1
  have hO2 : w2.heap[O]? = some (.cells cO 9 (0, 0)) := by
    refine ho2.kept hO1 ?_
    rintro ⟨i, hi, e⟩
    obtain ⟨c1, t1⟩ := HR1.out i hi
    rw [← e, hO1] at t1
    cases t1
  have hF2 : FMk w2 F la sa d.frames k0 d.frames.length := HF1.out.kept fun b o hb hbo => by
    refine ho2.kept hbo ?_
    rintro ⟨j, hj, e⟩
    rcases hb with hb | ⟨i, hi, hb⟩
    · obtain ⟨c1, t1⟩ := HR36.out j hj
      rw [← e, hb, HF.out] at t1
      cases t1
    · have := HFR.out i j hi hj
      rcases hb with hb | hb
      · exact this.1 (by rw [← hb, e])
      · exact this.2 (by rw [← hb, e])
  have hOn2 : Only (Own F O la sa rb d) w w2 := hOn1.trans (ho2.wide fun b hb => .inr (.inr (.inl hb)))
  have HR2 := hid hr2
  have HF2 := hid hF2
  clear hm2 hI1 hO1 hOn1 i1 ho2 hr2 hR1 hF2 HR1
  have i1 := block_cell hI2
  have hm3 := markStringS_is O d.out.length oc K2 w2 hx.out hK20 (by omega) ⟨cO, hO2, hOs⟩
  obtain ⟨K3, hK3⟩ : ∃ K3, K3 = K2 + d.out.length := ⟨_, rfl⟩
  rw [← hK3] at hm3
  have HE3 := hid hK3
  have hK3z : K3 ≤ 40000000000000 := by omega
  clear hK3
  go_wp2_with fail
  refine hm3.mono ?_
  rintro e w3 ⟨rfl, hj3, ht3⟩
  have hF3 : FMk w3 F la sa d.frames k0 d.frames.length := HF2.out.kept fun b o hb hbo => by
    refine hj3.kept hbo ?_
    intro e
    rcases hb with hb | ⟨i, hi, hb⟩
    · have h9 := HF.out
      rw [← hb, e, HO.out] at h9
      cases h9
    · obtain ⟨⟨c1, t1⟩, ⟨c2, t2⟩⟩ := HT.out i hi
      rcases hb with hb | hb
      · rw [← hb, e, HO.out] at t1; cases t1
      · rw [← hb, e, HO.out] at t2; cases t2
  have hR3 : RMk w3 ha rb d.heap K1 d.heap.length := HR2.out.kept fun b c t ht hbo => by
    refine hj3.kept hbo ?_
    intro e
    rw [e, hO2] at hbo
    cases hbo
    rcases ht with h | h
    · exact absurd h (by decide)
    · exact absurd h.1 (by decide)
  have hOn3 : Only (Own F O la sa rb d) w w3 := hOn2.trans (Only.just hj3 (.inr (.inr (.inr rfl))))
  have HF3 := hid hF3
  have HR3 := hid hR3
  have HT3 := hid ht3
  clear hm3 hI2 hO2 hOn2 i1 hj3 ht3 hF3 hR3
  go_wp2
  go_ret
  exact ⟨(by rw [← HE1.out, ← HE2.out, ← HE3.out]; rfl), hOn3, HF3.out, by rw [← HE1.out]; exact HR3.out, by rw [← HE1.out, ← HE2.out]; exact HT3.out⟩
end Go.Proofs.YtcebgbcgkkfedaaGreat

namespace Go.Proofs.YtcebgbcgkkfedaaGreat
open Go.RowKit

/-- A row of functions, its rows of instructions between two places. -/
def FnH (w : World) (lo hi g : Nat) (fs : List Fn) : Prop := ∃ cur : Array Value, w.heap[g]? = some (Obj.cells cur 97 (0, 0)) ∧ cur.size = fs.length * 3 ∧ ∀ j (h : j < fs.length), ∃ gc, cur[j * 3 + 2]? = some (.slice (some ⟨gc, 0, none⟩) fs[j].code.length fs[j].code.length) ∧ lo ≤ gc ∧ gc < hi ∧ CodeBlk w gc fs[j].code.length
theorem FnH.mono {w w' : World} {lo hi g : Nat} {fs : List Fn} (h : FnH w lo hi g fs) (hb : Below w.heap.size w w') : FnH w' lo hi g fs := by
  obtain ⟨c, h1, h2, h3⟩ := h
  refine ⟨c, block_kept h1 hb, h2, fun j hj => ?_⟩
  obtain ⟨gc, q1, q2, q3, q4⟩ := h3 j hj
  exact ⟨gc, q1, q2, q3, q4.mono hb⟩
theorem FnsBlk.h {w : World} {lo g : Nat} {fs : List Fn} (h : FnsBlk w lo g fs) : FnH w lo w.heap.size g fs := by
  obtain ⟨c, h1, h2, h3⟩ := h
  refine ⟨c, h1, h2, fun j hj => ?_⟩
  obtain ⟨gc, q1, q2, q3⟩ := h3 j hj
  obtain ⟨c2, r1, r2⟩ := q3
  exact ⟨gc, q1, q2, lt_block r1, c2, r1, r2⟩

set_option maxHeartbeats 400000 in
theorem markInsS_w (lo hi g n cap : Nat) (k0 : Int) (w : World) (hn : n ≤ 1048576) (h0 : 0 ≤ k0) (h1 : k0 ≤ 10000000000000) (hg : lo ≤ g) (hh : g < hi) (hblk0 : CodeBlk w g n) :
    Calls Tryz.prog 68 #[.slice (some ⟨g, 0, none⟩) n cap, .int .i64 k0] w fun e w' => e = .returned (.int .i64 (k0 + 2 * n)) ∧ Keeps lo [146] w w' ∧ SameShape w w' ∧ Only (Rng lo hi) w w' := by
  go_enter Tryz.func68, Tryz.ntmps68
  go_wp2
  go_loopw [1, 5] (fun q i wr => ∃ (k : Nat), k ≤ n ∧ i = .int .i64 k ∧ q = .int .i64 (k0 + 2 * k) ∧ Keeps lo [146] w wr ∧ SameShape w wr ∧ Only (Rng lo hi) w wr) (fun _ i _ => n - (intOf i).toNat)
  case atStart => exact ⟨0, by omega, rfl, by go_num, Keeps.refl _ _ _, SameShape.refl _, Only.refl _ _⟩
  case round =>
    obtain ⟨k, hk, rfl, rfl, hkr, hsh, hor⟩ := hrel
    by_cases hlt : k < n
    · obtain ⟨cur, hblk, hsz⟩ := hblk0.shape hsh
      have hfz := block_free hblk
      have hcl : wr.cell? ⟨g, k * 2, none⟩ = some cur[k * 2] := by rw [block_cell hblk]; simp
      have hcl2 : wr.cell? ⟨g, k * 2 + 1, none⟩ = some cur[k * 2 + 1] := by rw [block_cell hblk]; simp
      go_wp2
      go_roundw
      case rel => exact ⟨k + 1, by omega, by go_num, by go_num, Keeps.set (Keeps.set hkr hblk (by simp) hg _ _) (block_set hblk _) (by simp) hg _ _, SameShape.set (SameShape.set hsh hblk _ _) (block_set hblk _) _ _, (hor.set ⟨hg, hh⟩ _).set ⟨hg, hh⟩ _⟩
      case measure => simp [intOf]; omega
    · go_wp2
      go_ret
      exact ⟨ret_int (by omega), hkr, hsh, hor⟩

set_option maxHeartbeats 400000 in
theorem markFuncS_w (lo hi g cap : Nat) (fs : List Fn) (k0 : Int) (w : World) (hn : fs.length ≤ 1048576) (hc : ∀ f ∈ fs, f.code.length ≤ 1048576) (h0 : 0 ≤ k0) (h1 : k0 ≤ 10000000) (hg : lo ≤ g) (hh : g < hi) (hblk0 : FnH w lo hi g fs) :
    Calls Tryz.prog 38 #[.slice (some ⟨g, 0, none⟩) fs.length cap, .int .i64 k0] w fun e w' => ∃ r : Int, e = .returned (.int .i64 r) ∧ 0 ≤ r ∧ r ≤ 10000000000000 ∧ Keeps lo [146, 97] w w' ∧ Only (Rng lo hi) w w' := by
  obtain ⟨cur0, hb0, hsz0, hcode0⟩ := hblk0
  go_enter Tryz.func38, Tryz.ntmps38
  go_wp2
  go_loopw [1, 5] (fun q i wr => ∃ (k : Nat) (r : Int) (cur : Array Value), k ≤ fs.length ∧ i = .int .i64 k ∧ q = .int .i64 r ∧ 0 ≤ r ∧ r ≤ k0 + k * 3000000 ∧ wr.heap[g]? = some (.cells cur 97 (0, 0)) ∧ cur.size = fs.length * 3 ∧ (∀ j, j < fs.length → cur[j * 3 + 2]? = cur0[j * 3 + 2]?) ∧ Keeps lo [146, 97] w wr ∧ SameShape w wr ∧ Only (Rng lo hi) w wr) (fun _ i _ => fs.length - (intOf i).toNat)
  case atStart => exact ⟨0, k0, cur0, by omega, rfl, rfl, h0, by omega, hb0, hsz0, fun _ _ => rfl, Keeps.refl _ _ _, SameShape.refl _, Only.refl _ _⟩
  case round =>
    obtain ⟨k, r, cur, hk, rfl, rfl, hr0, hr1, hblk, hsz, hsame, hkr, hsh, hor⟩ := hrel
    by_cases hlt : k < fs.length
    · have hfz := block_free hblk
      have hcl : wr.cell? ⟨g, k * 3, none⟩ = some cur[k * 3] := by rw [block_cell hblk]; simp
      have hcl2 : wr.cell? ⟨g, k * 3 + 1, none⟩ = some cur[k * 3 + 1] := by rw [block_cell hblk]; simp
      obtain ⟨gc, hgc, hgl, hgh, hcb⟩ := hcode0 k hlt
      have hcl3 : wr.cell? ⟨g, k * 3 + 2, none⟩ = some (.slice (some ⟨gc, 0, none⟩) fs[k].code.length fs[k].code.length) := by rw [block_cell hblk, hsame k hlt, hgc]
      have hck := hc fs[k] (List.getElem_mem hlt)
      have hr2 : r ≤ 10000000 + 1048576 * 3000000 := by omega
      go_wp2_with fail
      have hk1 : Keeps lo [146, 97] w ((wr.setCell ⟨g, k * 3, none⟩ (.int .i64 r)).setCell ⟨g, k * 3 + 1, none⟩ (.int .i64 (r + 1))) := Keeps.set (Keeps.set hkr hblk (by simp) hg _ _) (block_set hblk _) (by simp) hg _ _
      have hs1 : SameShape w ((wr.setCell ⟨g, k * 3, none⟩ (.int .i64 r)).setCell ⟨g, k * 3 + 1, none⟩ (.int .i64 (r + 1))) := SameShape.set (SameShape.set hsh hblk _ _) (block_set hblk _) _ _
      have hblk1 := block_set (i := k * 3 + 1) (block_set (i := k * 3) hblk (.int .i64 r)) (.int .i64 (r + 1))
      refine (markInsS_w lo hi gc fs[k].code.length _ (r + 1 + 1) _ hck (by omega) (by omega) hgl hgh (hcb.shape hs1)).mono ?_
      rintro e w2 ⟨rfl, hk2, hs2, ho2⟩
      have ho3 : Only (Rng lo hi) w w2 := ((hor.set ⟨hg, hh⟩ _).set ⟨hg, hh⟩ _).trans ho2
      have hblk2 := hk2.cell hblk1 (by simp)
      have hk3 : Keeps lo [146, 97] w w2 := hk1.trans (hk2.mono (Nat.le_refl _) (by simp))
      have hs3 : SameShape w w2 := hs1.trans hs2
      clear hfz hcl hcl2 hcl3 hblk hkr hsh hk1 hs1 hblk1 hk2 hs2 hor ho2
      go_wp2
      go_roundw
      case rel =>
        refine ⟨k + 1, _, _, by omega, by go_num, rfl, by omega, by omega, hblk2, by simpa using hsz, fun j hj => ?_, hk3, hs3, ho3⟩
        rw [set_else _ (by omega), set_else _ (by omega)]
        exact hsame j hj
      case measure => simp [intOf]; omega
    · go_wp2
      go_ret
      exact ⟨r, rfl, hr0, by omega, hkr, hor⟩

set_option maxHeartbeats 400000 in
theorem markModule_w (lo hi g g2 c1 c2 : Nat) (ts : List ByteArray) (fs : List Fn) (w : World) (hs : Small ts fs) (hg : lo ≤ g) (hg2 : lo ≤ g2) (hh : g < hi) (hh2 : g2 < hi) (ht : TextBlk w g ts.length) (hf : FnH w lo hi g2 fs) :
    Calls Tryz.prog 13 #[.agg #[.slice (some ⟨g, 0, none⟩) ts.length c1, .slice (some ⟨g2, 0, none⟩) fs.length c2], .int .i64 1] w fun e w' => ∃ r : Int, e = .returned (.int .i64 r) ∧ 0 ≤ r ∧ r ≤ 10000000000000 ∧ Keeps lo [9, 146, 97] w w' ∧ Only (Rng lo hi) w w' := by
  have s1 := hs.texts
  go_enter Tryz.func13, Tryz.ntmps13
  go_wp2_with fail
  have hbA : Below w.heap.size w (w.alloc (.cells #[.slice (some ⟨g, 0, none⟩) ts.length c1, .slice (some ⟨g2, 0, none⟩) fs.length c2] 42)) := (Below.refl _ _).alloc (Nat.le_refl _) _
  have hM := block_new w #[.slice (some ⟨g, 0, none⟩) ts.length c1, .slice (some ⟨g2, 0, none⟩) fs.length c2] 42
  refine (markStringS_w lo hi g ts.length _ 1 _ hs.texts (by omega) (by omega) hg hh (ht.mono hbA)).mono ?_
  rintro e w1 ⟨rfl, hk1, hs1, ho1⟩
  have ho2 : Only (Rng lo hi) w w1 := (Only.of hbA).trans ho1
  have hM1 := hk1.cell hM (by simp)
  have x1 := block_cell hM1
  have hf1 : FnH w1 lo hi g2 fs := by
    obtain ⟨c, q1, q2, q3⟩ := hf.mono hbA
    refine ⟨c, hk1.cell q1 (by simp), q2, fun j hj => ?_⟩
    obtain ⟨gc, a, b, b2, d⟩ := q3 j hj
    exact ⟨gc, a, b, b2, d.shape hs1⟩
  have hk2 : Keeps lo [9, 146, 97] w w1 := (Keeps.below hbA).trans (hk1.mono (Nat.le_refl _) (by simp))
  clear hM hbA ho1
  go_wp2_with fail
  refine (markFuncS_w lo hi g2 _ fs (1 + ts.length) _ hs.funcs hs.code (by omega) (by omega) hg2 hh2 hf1).mono ?_
  rintro e w2 ⟨r, rfl, hr, hrm, hk3, ho3⟩
  go_wp2
  go_ret
  exact ⟨r, rfl, hr, hrm, hk2.trans (hk3.mono (Nat.le_refl _) (by simp)), ho2.trans ho3⟩
end Go.Proofs.YtcebgbcgkkfedaaGreat

namespace Go.Proofs.YtcebgbcgkkfedaaGreat
open Go.RowKit

/-- Every block from lo on is as it was. -/
def Kept (lo : Nat) (w w' : World) : Prop := ∀ k o, lo ≤ k → w.heap[k]? = some o → w'.heap[k]? = some o
theorem Kept.of {lo : Nat} {w w' : World} (h : Below w.heap.size w w') : Kept lo w w' := fun _ _ _ ho => by rw [h.block _ (lt_block ho)]; exact ho
theorem Kept.only {lo l hi : Nat} {w w' : World} (h : Only (Rng l hi) w w') (hl : hi ≤ lo) : Kept lo w w' := fun _ _ hk ho => h.kept ho (fun e => by have := e.2; omega)
theorem ValsBlk.kept {w w' : World} {lo g n : Nat} (h : ValsBlk w g n) (hk : Kept lo w w') (hg : lo ≤ g) : ValsBlk w' g n := by
  obtain ⟨c, h1, h2⟩ := h
  exact ⟨c, hk _ _ hg h1, h2⟩
/-- A state in blocks between two places. -/
structure XS (w : World) (lo hi F R g : Nat) (d : VmD) : Prop where
  f : FSh w lo hi F d.frames
  r : RSh w lo hi R d.heap
  o : TextBlk w g d.out.length
  lf : lo ≤ F
  lr : lo ≤ R
  lg : lo ≤ g
  hf : F < hi
  hg : g < hi
theorem VmB.xs {w : World} {lo g g2 g3 : Nat} {d : VmD} (h : VmB w lo (some ⟨g, 0, none⟩) (some ⟨g2, 0, none⟩) (some ⟨g3, 0, none⟩) d) : XS w lo w.heap.size g g2 g3 d := by
  obtain ⟨F, e1, lf, hf, sf⟩ := h.frs.sh
  obtain ⟨R, e2, lr, sr⟩ := h.recs.sh
  obtain ⟨-, O, e3, lo3, so⟩ := h.out
  cases e1
  cases e2
  cases e3
  exact ⟨sf, sr, so, lf, lr, lo3, hf, by obtain ⟨c, hc, -⟩ := so; exact lt_block hc⟩
theorem XS.kept {w w' : World} {lo hi F R g : Nat} {d : VmD} (h : XS w lo hi F R g d) (hk : Kept lo w w') : XS w' lo hi F R g d := by
  obtain ⟨⟨c1, a1, a2, a3⟩, ⟨c2, b1, b2, b3⟩, ⟨c3, d1, d2⟩, lf, lr, lg, hf, hg⟩ := h
  refine ⟨⟨c1, hk _ _ lf a1, a2, fun j hj => ?_⟩, ⟨c2, hk _ _ lr b1, b2, fun j hj => ?_⟩, ⟨c3, hk _ _ lg d1, d2⟩, lf, lr, lg, hf, hg⟩
  · obtain ⟨x, y, q1, q2, q3, q4, q5, q6⟩ := a3 j hj
    exact ⟨x, y, q1, q2, q3, q4, q5.kept hk q3.1, q6.kept hk q4.1⟩
  · obtain ⟨x, q1, q2, q3⟩ := b3 j hj
    exact ⟨x, q1, q2, q3.kept hk q2.1⟩

theorem XS.mono {w w' : World} {lo hi F R g : Nat} {d : VmD} (h : XS w lo hi F R g d) (hb : Below w.heap.size w w') : XS w' lo hi F R g d := h.kept (Kept.of hb)
theorem Kept.up {lo lo' : Nat} {w w' : World} (h : Kept lo w w') (hl : lo ≤ lo') : Kept lo' w w' := fun k o hk ho => h k o (Nat.le_trans hl hk) ho

section
variable {ts : List ByteArray} {fs : List Fn} {x : VmD}
/-- What the document's Canon answers. -/
def SR (ts : List ByteArray) (fs : List Fn) (x : VmD) (w : World) (lo : Nat) (C : Array Value) : Prop :=
  (¬ VmGood ts fs x ∧ C = #[.slice none 0 0, .slice none 0 0, .int .i64 0, .slice none 0 0, .int .i64 0, .int .i64 0, .int .i64 0, .int .i64 0, .string ⟨#[]⟩, .int .i64 0]) ∨
  (VmGood ts fs x ∧ ∃ xa xc ya yc za zc, C = vmCells xa ya za xc yc zc (canonD x) ∧ VmAt w lo xa ya za (canonD x))
/-- What the program's Canon answers. -/
def IR (ts : List ByteArray) (fs : List Fn) (x : VmD) (w : World) (lo : Nat) (C : Array Value) : Prop :=
  (¬ VmGood ts fs x ∧ C = #[.slice none 0 0, .slice none 0 0, .int .i64 0, .slice none 0 0, .int .i64 0, .int .i64 0, .int .i64 0, .int .i64 0, .string ⟨#[]⟩, .int .i64 0]) ∨
  (VmGood ts fs x ∧ ∃ F xa xc O la sa rb, C = vmCells (some ⟨F, 0, none⟩) xa (some ⟨O, 0, none⟩) x.frames.length xc x.out.length (canonD x) ∧ CanIs w lo F xa xc O la sa rb (canonD x))
/-- The same, marked. -/
def MK (ts : List ByteArray) (fs : List Fn) (x : VmD) (w : World) (C : Array Value) (m : Nat) : Prop :=
  (¬ VmGood ts fs x ∧ C = #[.slice none 0 0, .slice none 0 0, .int .i64 0, .slice none 0 0, .int .i64 0, .int .i64 0, .int .i64 0, .int .i64 0, .string ⟨#[]⟩, .int .i64 0] ∧ m = 1) ∨
  (VmGood ts fs x ∧ ∃ F xa xc O la sa rb, C = vmCells (some ⟨F, 0, none⟩) xa (some ⟨O, 0, none⟩) x.frames.length xc x.out.length (canonD x) ∧ VMk w F xa O la sa rb (canonD x) 1 ∧ m = 1 + fsz (canonD x).frames + rsz (canonD x).heap + (canonD x).out.length)
theorem SR.mono {w w' : World} {lo : Nat} {C : Array Value} (h : SR ts fs x w lo C) (hb : Below w.heap.size w w') : SR ts fs x w' lo C := by
  rcases h with h | ⟨h, xa, xc, ya, yc, za, zc, e, hv⟩
  · exact .inl h
  · exact .inr ⟨h, xa, xc, ya, yc, za, zc, e, hv.mono hb⟩
theorem IR.kept {w w' : World} {lo : Nat} {C : Array Value} (h : IR ts fs x w lo C) (hk : Kept lo w w') : IR ts fs x w' lo C := by
  rcases h with h | ⟨h, F, xa, xc, O, la, sa, rb, e, hv⟩
  · exact .inl h
  · exact .inr ⟨h, F, xa, xc, O, la, sa, rb, e, hv.kept fun k c t _ hb ho => hk _ _ hb ho⟩
theorem IR.mono {w w' : World} {lo : Nat} {C : Array Value} (h : IR ts fs x w lo C) (hb : Below w.heap.size w w') : IR ts fs x w' lo C := h.kept (Kept.of hb)
theorem IR.sr {w : World} {lo : Nat} {C : Array Value} (h : IR ts fs x w lo C) : SR ts fs x w lo C := by
  rcases h with h | ⟨h, F, xa, xc, O, la, sa, rb, e, hv⟩
  · exact .inl h
  · exact .inr ⟨h, _, _, _, _, _, _, e, hv.at⟩
theorem MK.mono {w w' : World} {C : Array Value} {m : Nat} (h : MK ts fs x w C m) (hb : Below w.heap.size w w') : MK ts fs x w' C m := by
  rcases h with h | ⟨h, F, xa, xc, O, la, sa, rb, e, hv, hm⟩
  · exact .inl h
  · exact .inr ⟨h, F, xa, xc, O, la, sa, rb, e, hv.mono hb, hm⟩

theorem put10_above {lo V : Nat} {w : World} (hV : V < lo) (a0 a1 a2 a3 a4 a5 a6 a7 a8 a9 : Value) : Above lo w (put10 w V a0 a1 a2 a3 a4 a5 a6 a7 a8 a9) := by
  unfold put10
  iterate 10 (refine Above.setCell ?_ hV _)
  exact Above.refl _ _
theorem SR.put {w : World} {lo V : Nat} {C : Array Value} (h : SR ts fs x w lo C) (hV : V < lo) (a0 a1 a2 a3 a4 a5 a6 a7 a8 a9 : Value) : SR ts fs x (put10 w V a0 a1 a2 a3 a4 a5 a6 a7 a8 a9) lo C := by
  rcases h with h | ⟨h, xa, xc, ya, yc, za, zc, e, hv⟩
  · exact .inl h
  · have ha := put10_above (w := w) hV a0 a1 a2 a3 a4 a5 a6 a7 a8 a9
    exact .inr ⟨h, xa, xc, ya, yc, za, zc, e, hv.frs.above ha, hv.recs.above ha, hv.out.above ha⟩
theorem lift_new {w w' : World} {C : Array Value} {t : TypeId} (kd : Below (w.alloc (.cells C t)).heap.size (w.alloc (.cells C t)) w') : w'.heap[w.heap.size]? = some (.cells C t (0, 0)) ∧ w.heap.size < (w.alloc (.cells C t)).heap.size := ⟨block_kept (block_new _ _ _) kd, by simp⟩
theorem lift_drew {w w' : World} {C : Array Value} {t : TypeId} (kd : Below (w.alloc (.cells C t)).drew.heap.size (w.alloc (.cells C t)).drew w') : w'.heap[w.heap.size]? = some (.cells C t (0, 0)) ∧ w.heap.size < (w.alloc (.cells C t)).drew.heap.size := ⟨block_kept (w := (w.alloc (.cells C t)).drew) (block_new w C t) kd, by simp⟩

theorem sC (a1 a2 : Option Addr) (c1 c2 : Nat) (fa ha oa : Option Addr) (fc hc oc : Nat) (w : World) (hsm : Small ts fs) (hst : StrsAt w 0 a1 ts) (hfn : FnsAt w 0 a2 fs) (hxx : VmSmall x) (hm1 : VmAt w 0 fa ha oa x) :
    Calls Tryz.prog 7 #[.agg #[.slice a1 ts.length c1, .slice a2 fs.length c2], .agg (vmCells fa ha oa fc hc oc x)] w fun e w' => ∃ A0 n0 k0 A1 n1 k1 i2 A3 n3 k3 i4 i5 i6 i7 s8 i9, e = .returned (.agg #[.slice A0 n0 k0, .slice A1 n1 k1, .int .i64 i2, .slice A3 n3 k3, .int .i64 i4, .int .i64 i5, .int .i64 i6, .int .i64 i7, .string s8, .int .i64 i9]) ∧ SR ts fs x w' w.heap.size #[.slice A0 n0 k0, .slice A1 n1 k1, .int .i64 i2, .slice A3 n3 k3, .int .i64 i4, .int .i64 i5, .int .i64 i6, .int .i64 i7, .string s8, .int .i64 i9] ∧ Below w.heap.size w w' := by
  refine (sCanonF_any a1 a2 c1 c2 ts fs x fa ha oa fc hc oc w hsm hst hfn hxx hm1).mono ?_
  rintro e w' (⟨hg, rfl, hb⟩ | ⟨hg, xa, xc, ya, yc, za, zc, rfl, hv, hb⟩)
  · exact ⟨_, _, _, _, _, _, _, _, _, _, _, _, _, _, _, _, rfl, .inl ⟨hg, rfl⟩, hb⟩
  · exact ⟨_, _, _, _, _, _, _, _, _, _, _, _, _, _, _, _, rfl, .inr ⟨hg, xa, xc, ya, yc, za, zc, rfl, hv⟩, hb⟩
theorem iC (a1 a2 : Option Addr) (c1 c2 : Nat) (fa ha oa : Option Addr) (fc hc oc : Nat) (w : World) (hsm : Small ts fs) (hst : StrsAt w 0 a1 ts) (hfn : FnsAt w 0 a2 fs) (hxx : VmSmall x) (hm1 : VmAt w 0 fa ha oa x) :
    Calls Tryz.prog 10 #[.agg #[.slice a1 ts.length c1, .slice a2 fs.length c2], .agg (vmCells fa ha oa fc hc oc x)] w fun e w' => ∃ A0 n0 k0 A1 n1 k1 i2 A3 n3 k3 i4 i5 i6 i7 s8 i9, e = .returned (.agg #[.slice A0 n0 k0, .slice A1 n1 k1, .int .i64 i2, .slice A3 n3 k3, .int .i64 i4, .int .i64 i5, .int .i64 i6, .int .i64 i7, .string s8, .int .i64 i9]) ∧ IR ts fs x w' w.heap.size #[.slice A0 n0 k0, .slice A1 n1 k1, .int .i64 i2, .slice A3 n3 k3, .int .i64 i4, .int .i64 i5, .int .i64 i6, .int .i64 i7, .string s8, .int .i64 i9] ∧ Below w.heap.size w w' := by
  refine (iCanon_any a1 a2 c1 c2 ts fs x fa ha oa fc hc oc w hsm hst hfn hxx hm1).mono ?_
  rintro e w' (⟨hg, rfl, hb⟩ | ⟨hg, F, xa, xc, O, la, sa, rb, rfl, hv, hb⟩)
  · exact ⟨_, _, _, _, _, _, _, _, _, _, _, _, _, _, _, _, rfl, .inl ⟨hg, rfl⟩, hb⟩
  · exact ⟨_, _, _, _, _, _, _, _, _, _, _, _, _, _, _, _, rfl, .inr ⟨hg, F, xa, xc, O, la, sa, rb, rfl, hv⟩, hb⟩

theorem eq_zero (w : World) : Calls Tryz.prog 11 #[.agg #[.slice none 0 0, .slice none 0 0, .int .i64 0, .slice none 0 0, .int .i64 0, .int .i64 0, .int .i64 0, .int .i64 0, .string ⟨#[]⟩, .int .i64 0], .agg #[.slice none 0 0, .slice none 0 0, .int .i64 0, .slice none 0 0, .int .i64 0, .int .i64 0, .int .i64 0, .int .i64 0, .string ⟨#[]⟩, .int .i64 0]] w fun e w' => e = .returned (.bool true) ∧ Below w.heap.size w w' :=
  eqVm_any none none none none none none 0 0 0 0 0 0 ⟨[], [], 0, [], 0, 0, nilV, 0⟩ w ⟨by simp, by simp, by simp, by simp, by simp, by simp, by simp, by decide⟩ ⟨fun _ h => absurd h (Nat.not_lt_zero _), fun _ h => absurd h (Nat.not_lt_zero _), fun _ h => absurd h (Nat.not_lt_zero _)⟩ ⟨fun _ h => absurd h (Nat.not_lt_zero _), fun _ h => absurd h (Nat.not_lt_zero _), fun _ h => absurd h (Nat.not_lt_zero _)⟩

theorem eqC {w : World} {lo lo2 : Nat} {C D : Array Value} (hx : VmSmall x) (h1 : SR ts fs x w lo C) (h2 : SR ts fs x w lo2 D) : Calls Tryz.prog 11 #[.agg C, .agg D] w fun e w' => e = .returned (.bool true) ∧ Below w.heap.size w w' := by
  rcases h1 with ⟨g1, rfl⟩ | ⟨g1, xa, xc, ya, yc, za, zc, rfl, hv⟩
  · rcases h2 with ⟨-, rfl⟩ | ⟨g2, -⟩
    · exact eq_zero w
    · exact absurd g2 g1
  · rcases h2 with ⟨g2, -⟩ | ⟨-, xb, xd, yb, yd, zb, zd, rfl, hu⟩
    · exact absurd g1 g2
    · exact eqVm_any _ _ _ _ _ _ _ _ _ _ _ _ _ w hx.canon (hv.low (Nat.zero_le _)) (hu.low (Nat.zero_le _))

theorem markC {w : World} {lo : Nat} {C : Array Value} (hx : VmSmall x) (h : IR ts fs x w lo C) :
    Calls Tryz.prog 14 #[.agg C, .int .i64 1] w fun e w' => ∃ m : Nat, e = .returned (.int .i64 (m : Int)) ∧ MK ts fs x w' C m ∧ (lo ≤ w.heap.size → Below lo w w') ∧ (∀ (k : Nat) (c : Array Value), w.heap[k]? = some (Obj.cells c 38 (0, 0)) → w'.heap[k]? = some (Obj.cells c 38 (0, 0))) := by
  rcases h with ⟨hg, rfl⟩ | ⟨hg, F, xa, xc, O, la, sa, rb, rfl, hv⟩
  · refine (markVm_zero w).mono ?_
    rintro e w' ⟨rfl, hb⟩
    exact ⟨1, rfl, .inl ⟨hg, rfl, rfl⟩, fun hl => hb.mono hl, fun k c ho => block_kept ho hb⟩
  · refine (markVm_is lo F xa O _ xc _ la sa rb (canonD x) 1 w hx.canon (by omega) (by omega) hv).mono ?_
    rintro e w' ⟨rfl, ho, hm⟩
    refine ⟨_, rfl, .inr ⟨hg, F, xa, xc, O, la, sa, rb, rfl, hm, rfl⟩, fun hl => ?_, fun k c hk => ?_⟩
    · refine ho.below lo (fun k hk => ?_) hl
      rcases hk with rfl | ⟨i, hi, rfl | rfl⟩ | ⟨i, hi, rfl⟩ | rfl
      · exact hv.bf
      · exact hv.fv.lob i hi
      · exact hv.fv.sob i hi
      · exact hv.hv.rob i hi
      · exact hv.bo
    · refine ho.kept hk (fun hO => ?_)
      rcases hO with rfl | ⟨i, hi, rfl | rfl⟩ | ⟨i, hi, rfl⟩ | rfl
      · obtain ⟨c', q, -⟩ := hv.fc
        rw [hk] at q; cases q
      · have q : w.heap[la i]? = some (.cells _ 36 (0, 0)) := hv.fv.loc i hi hi
        rw [hk] at q; cases q
      · have q : w.heap[sa i]? = some (.cells _ 36 (0, 0)) := hv.fv.stk i hi hi
        rw [hk] at q; cases q
      · have q : w.heap[rb i]? = some (.cells _ 36 (0, 0)) := hv.hv.fld i hi hi
        rw [hk] at q; cases q
      · obtain ⟨c', q, -⟩ := hv.oc
        rw [hk] at q; cases q
theorem heldC {w : World} {C : Array Value} {m : Nat} (hx : VmSmall x) (h : MK ts fs x w C m) : Calls Tryz.prog 15 #[.agg C, .int .i64 1] w fun e w' => e = .returned (.int .i64 (m : Int)) ∧ Below w.heap.size w w' := by
  rcases h with ⟨-, rfl, rfl⟩ | ⟨-, F, xa, xc, O, la, sa, rb, rfl, hv, rfl⟩
  · exact heldVm_zero w
  · exact heldVm_is F xa O _ xc _ la sa rb (canonD x) 1 w hx.canon (by omega) (by omega) hv
end
end Go.Proofs.YtcebgbcgkkfedaaGreat

namespace Go.Proofs.YtcebgbcgkkfedaaGreat
open Go.RowKit

set_option maxRecDepth 100000 in
set_option maxHeartbeats 16000000 in
theorem lawCanon (a1 a2 : Option Addr) (ts : List ByteArray) (fs : List Fn) (c1 c2 : Nat) (x : VmD) (fa ha oa : Option Addr) (fc hc oc : Nat) (w : World) (hn : ts.length ≤ maxLen) (hcc : ∀ s ∈ ts, s.size ≤ maxLen) (hst0 : StrsAt w 0 a1 ts)
    (hn2 : fs.length ≤ maxLen) (hc2 : ∀ f ∈ fs, f.code.length ≤ maxLen) (hfn0 : FnsAt w 0 a2 fs) (hxm : VmMax x) (hv1 : VmAt w 0 fa ha oa x) :
    Calls Tryz.prog 3 #[.agg #[.slice a1 ts.length c1, .slice a2 fs.length c2], .agg (vmCells fa ha oa fc hc oc x)] w fun e w' => e = .returned (.bool true) ∧ Below w.heap.size w w' := by
  conv => arg 3; unfold vmCells
  obtain ⟨w0, hw0⟩ : ∃ w0, w0 = (w.alloc (.cells #[.slice a1 ts.length c1, .slice a2 fs.length c2] 25)).alloc (.cells #[.slice fa x.frames.length fc, .slice ha x.heap.length hc, .int .i64 x.made, .slice oa x.out.length oc, .int .i64 x.status, .int .i64 x.trap, .int .i64 x.value.k, .int .i64 x.value.n, .string x.value.s, .int .i64 x.steps] 31) := ⟨_, rfl⟩
  have hB : Below w.heap.size w w0 := by rw [hw0]; exact ((Below.refl _ _).alloc (Nat.le_refl _) _).alloc (by simp) _
  have hM : w0.heap[w.heap.size]? = some (.cells #[.slice a1 ts.length c1, .slice a2 fs.length c2] 25 (0, 0)) := by rw [hw0]; exact block_old (block_new _ _ _) _
  have hX : w0.heap[w.heap.size + 1]? = some (.cells #[.slice fa x.frames.length fc, .slice ha x.heap.length hc, .int .i64 x.made, .slice oa x.out.length oc, .int .i64 x.status, .int .i64 x.trap, .int .i64 x.value.k, .int .i64 x.value.n, .string x.value.s, .int .i64 x.steps] 31 (0, 0)) := by rw [hw0]; exact block_new_at _ _ _ _ (by simp)
  go_enter Tryz.func3, Tryz.ntmps3
  go_wp2_with fail
  rw [← hw0]
  clear hw0
  refine (szModule_le a1 a2 ts fs c1 c2 _ hn hcc (hst0.mono hB) hn2 hc2 (hfn0.mono hB)).mono ?_
  rintro e w1 ⟨l, rfl, hl, hsm, hb1⟩
  have hM_n := block_kept hM hb1
  have hX_n := block_kept hX hb1
  have hB_n := hB.trans (hb1.mono hB.size)
  clear hM hX hB
  have hM := hM_n
  have hX := hX_n
  have hB := hB_n
  clear hM_n hX_n hB_n
  clear hb1 hn hcc hn2 hc2
  by_cases hl0 : l < 0
  · go_wp2_with fail
    go_ret
    exact ⟨rfl, hB⟩
  have hs := hsm (by omega)
  clear hsm
  have z1 := block_cell hX
  go_wp2_with fail
  clear z1
  refine (szVm_any fa ha oa fc hc oc x l _ (by omega) (by omega) hxm (hv1.frs.mono hB) (hv1.recs.mono hB) (hv1.out.mono hB)).mono ?_
  rintro e w2 ⟨l2, rfl, hl2, hsm, hb2⟩
  have hM_n := block_kept hM hb2
  have hX_n := block_kept hX hb2
  have hB_n := hB.trans (hb2.mono hB.size)
  clear hM hX hB
  have hM := hM_n
  have hX := hX_n
  have hB := hB_n
  clear hM_n hX_n hB_n
  clear hb2 hxm
  by_cases hl1 : l2 < 0
  · go_wp2_with fail
    go_ret
    exact ⟨rfl, hB⟩
  have hxx := hsm (by omega)
  clear hsm hl hl0 hl2
  have HS : Hid (∀ w', Below w2.heap.size w2 w' → w'.cell? ⟨w.heap.size, 0, none⟩ = some (.slice a1 ts.length c1) ∧ w'.cell? ⟨w.heap.size, 1, none⟩ = some (.slice a2 fs.length c2) ∧ w'.cell? ⟨w.heap.size + 1, 0, none⟩ = some (.slice fa x.frames.length fc) ∧ w'.cell? ⟨w.heap.size + 1, 1, none⟩ = some (.slice ha x.heap.length hc) ∧ w'.cell? ⟨w.heap.size + 1, 2, none⟩ = some (.int .i64 x.made) ∧ w'.cell? ⟨w.heap.size + 1, 3, none⟩ = some (.slice oa x.out.length oc) ∧ w'.cell? ⟨w.heap.size + 1, 4, none⟩ = some (.int .i64 x.status) ∧ w'.cell? ⟨w.heap.size + 1, 5, none⟩ = some (.int .i64 x.trap) ∧ w'.cell? ⟨w.heap.size + 1, 6, none⟩ = some (.int .i64 x.value.k) ∧ w'.cell? ⟨w.heap.size + 1, 7, none⟩ = some (.int .i64 x.value.n) ∧ w'.cell? ⟨w.heap.size + 1, 8, none⟩ = some (.string x.value.s) ∧ w'.cell? ⟨w.heap.size + 1, 9, none⟩ = some (.int .i64 x.steps)) := fun w' q => ⟨by rw [block_cell (block_kept hM q)]; rfl, by rw [block_cell (block_kept hM q)]; rfl, by rw [block_cell (block_kept hX q)]; rfl, by rw [block_cell (block_kept hX q)]; rfl, by rw [block_cell (block_kept hX q)]; rfl, by rw [block_cell (block_kept hX q)]; rfl, by rw [block_cell (block_kept hX q)]; rfl, by rw [block_cell (block_kept hX q)]; rfl, by rw [block_cell (block_kept hX q)]; rfl, by rw [block_cell (block_kept hX q)]; rfl, by rw [block_cell (block_kept hX q)]; rfl, by rw [block_cell (block_kept hX q)]; rfl⟩
  go_upto_region 8 with fail
  go_cut [6] from 24 to 28 (fun sv wx => ∃ V lo A0 n0 k0 A1 n1 k1 i2 A3 n3 k3 i4 i5 i6 i7 s8 i9, sv = .pointer (some ⟨V, 0, none⟩) ∧ wx.heap[V]? = some (.cells #[.slice A0 n0 k0, .slice A1 n1 k1, .int .i64 i2, .slice A3 n3 k3, .int .i64 i4, .int .i64 i5, .int .i64 i6, .int .i64 i7, .string s8, .int .i64 i9] 38 (0, 0)) ∧ SR ts fs x wx lo #[.slice A0 n0 k0, .slice A1 n1 k1, .int .i64 i2, .slice A3 n3 k3, .int .i64 i4, .int .i64 i5, .int .i64 i6, .int .i64 i7, .string s8, .int .i64 i9] ∧ w2.heap.size ≤ V ∧ Below w2.heap.size w2 wx)
  case first =>
    have q : Below w2.heap.size w2 w2 := Below.refl _ _
    have zq := q.size
    have HBH := hid hB
    clear hB
    go_region_held3 (fun w' => w'.cell? ⟨w.heap.size, 0, none⟩ = some (.slice a1 ts.length c1) ∧ w'.cell? ⟨w.heap.size, 1, none⟩ = some (.slice a2 fs.length c2) ∧ w'.cell? ⟨w.heap.size + 1, 0, none⟩ = some (.slice fa x.frames.length fc) ∧ w'.cell? ⟨w.heap.size + 1, 1, none⟩ = some (.slice ha x.heap.length hc) ∧ w'.cell? ⟨w.heap.size + 1, 2, none⟩ = some (.int .i64 x.made) ∧ w'.cell? ⟨w.heap.size + 1, 3, none⟩ = some (.slice oa x.out.length oc) ∧ w'.cell? ⟨w.heap.size + 1, 4, none⟩ = some (.int .i64 x.status) ∧ w'.cell? ⟨w.heap.size + 1, 5, none⟩ = some (.int .i64 x.trap) ∧ w'.cell? ⟨w.heap.size + 1, 6, none⟩ = some (.int .i64 x.value.k) ∧ w'.cell? ⟨w.heap.size + 1, 7, none⟩ = some (.int .i64 x.value.n) ∧ w'.cell? ⟨w.heap.size + 1, 8, none⟩ = some (.string x.value.s) ∧ w'.cell? ⟨w.heap.size + 1, 9, none⟩ = some (.int .i64 x.steps))
      ((refine HS.out _ ?_; repeat (first | refine Below.setCell ?_ (by first | omega | (simp; omega) | simp) _ | refine Below.alloc ?_ (by first | omega | (simp; omega) | simp) _ | refine Below.drew ?_ | exact q)))
      (first
        | (go_at_call 8; refine (toModule_any a1 a2 ts fs c1 c2 _ hs (by exact hst0.mono (HBH.out.trans ((show Below w2.heap.size w2 _ by repeat (first | refine Below.setCell ?_ (by first | omega | (simp; omega) | simp) _ | refine Below.alloc ?_ (by first | omega | (simp; omega) | simp) _ | refine Below.drew ?_ | exact q)).mono HBH.out.size))) (by exact hfn0.mono (HBH.out.trans ((show Below w2.heap.size w2 _ by repeat (first | refine Below.setCell ?_ (by first | omega | (simp; omega) | simp) _ | refine Below.alloc ?_ (by first | omega | (simp; omega) | simp) _ | refine Below.drew ?_ | exact q)).mono HBH.out.size)))).mono ?_; rintro e wm ⟨gm, gm2, -, -, rfl, hst, hfn, kd⟩; (first | (have hlt := lt_block hV; have hV := block_kept hV kd) | (have hpr := lift_drew kd; have hV := hpr.1; have hlt := hpr.2; clear hpr; have hge : w2.heap.size ≤ w2.heap.size := Nat.le_refl _) | (have hpr := lift_new kd; have hV := hpr.1; have hlt := hpr.2; clear hpr; have hge := zq) | skip); have q : Below w2.heap.size w2 _ := Below.trans (by repeat (first | refine Below.setCell ?_ (by first | omega | (simp; omega) | simp) _ | refine Below.alloc ?_ (by first | omega | (simp; omega) | simp) _ | refine Below.drew ?_ | exact q)) (kd.mono (by first | exact zq | (simp; omega) | simp)); have zq := q.size)
        | (go_at_call 9; refine (toVm_any fa ha oa fc hc oc x _ hxx (by exact hv1.mono (HBH.out.trans ((show Below w2.heap.size w2 _ by repeat (first | refine Below.setCell ?_ (by first | omega | (simp; omega) | simp) _ | refine Below.alloc ?_ (by first | omega | (simp; omega) | simp) _ | refine Below.drew ?_ | exact q)).mono HBH.out.size)))).mono ?_; rintro e wv ⟨gx1, gx2, gx3, rfl, hvx, kd⟩; have kq : Below wm.heap.size wm _ := Below.trans (by repeat (first | refine Below.alloc ?_ (by first | omega | (simp; omega) | simp) _ | refine Below.drew ?_ | exact Below.refl _ _)) (kd.mono (by simp)); have hst := (hst.low (Nat.zero_le _)).mono kq; have hfn := (hfn.low (Nat.zero_le _)).mono kq; (first | (have hlt := lt_block hV; have hV := block_kept hV kd) | (have hpr := lift_drew kd; have hV := hpr.1; have hlt := hpr.2; clear hpr; have hge : w2.heap.size ≤ w2.heap.size := Nat.le_refl _) | (have hpr := lift_new kd; have hV := hpr.1; have hlt := hpr.2; clear hpr; have hge := zq) | skip); have q : Below w2.heap.size w2 _ := Below.trans (by repeat (first | refine Below.setCell ?_ (by first | omega | (simp; omega) | simp) _ | refine Below.alloc ?_ (by first | omega | (simp; omega) | simp) _ | refine Below.drew ?_ | exact q)) (kd.mono (by first | exact zq | (simp; omega) | simp)); have zq := q.size)
        | (go_at_call 7; refine (sC _ _ _ _ _ _ _ _ _ _ _ hs (by exact hst.mono (show Below wv.heap.size wv _ by repeat (first | refine Below.alloc ?_ (by first | omega | (simp; omega) | simp) _ | refine Below.drew ?_ | exact Below.refl _ _))) (by exact hfn.mono (show Below wv.heap.size wv _ by repeat (first | refine Below.alloc ?_ (by first | omega | (simp; omega) | simp) _ | refine Below.drew ?_ | exact Below.refl _ _))) hxx (by exact (hvx.low (Nat.zero_le _)).mono (show Below wv.heap.size wv _ by repeat (first | refine Below.alloc ?_ (by first | omega | (simp; omega) | simp) _ | refine Below.drew ?_ | exact Below.refl _ _)))).mono ?_; rintro e wc ⟨A0, n0, k0, A1, n1, k1, i2, A3, n3, k3, i4, i5, i6, i7, s8, i9, rfl, hsr, kd⟩; (first | (have hlt := lt_block hV; have hV := block_kept hV kd) | (have hpr := lift_drew kd; have hV := hpr.1; have hlt := hpr.2; clear hpr; have hge : w2.heap.size ≤ w2.heap.size := Nat.le_refl _) | (have hpr := lift_new kd; have hV := hpr.1; have hlt := hpr.2; clear hpr; have hge := zq) | skip); (first | (have vc := block_cell hV; have vf := block_free hV) | skip); have q : Below w2.heap.size w2 _ := Below.trans (by repeat (first | refine Below.setCell ?_ (by first | omega | (simp; omega) | simp) _ | refine Below.alloc ?_ (by first | omega | (simp; omega) | simp) _ | refine Below.drew ?_ | exact q)) (kd.mono (by first | exact zq | (simp; omega) | simp)); have zq := q.size))
    all_goals
      go_wp2_with fail
      go_meet
      case rel =>
        first
        | (have hp := put10_block hV (.slice A0 n0 k0) (.slice A1 n1 k1) (.int .i64 i2) (.slice A3 n3 k3) (.int .i64 i4) (.int .i64 i5) (.int .i64 i6) (.int .i64 i7) (.string s8) (.int .i64 i9)
           have hr := hsr.put hlt (.slice A0 n0 k0) (.slice A1 n1 k1) (.int .i64 i2) (.slice A3 n3 k3) (.int .i64 i4) (.int .i64 i5) (.int .i64 i6) (.int .i64 i7) (.string s8) (.int .i64 i9)
           have hq := put10_below q hge (.slice A0 n0 k0) (.slice A1 n1 k1) (.int .i64 i2) (.slice A3 n3 k3) (.int .i64 i4) (.int .i64 i5) (.int .i64 i6) (.int .i64 i7) (.string s8) (.int .i64 i9)
           exact ⟨_, _, _, _, _, _, _, _, _, _, _, _, _, _, _, _, _, _, rfl, hp, hr, hge, hq⟩)
        | exact ⟨_, _, _, _, _, _, _, _, _, _, _, _, _, _, _, _, _, _, rfl, block_new _ _ _, hsr.mono ((Below.refl _ _).alloc (Nat.le_refl _) _), zq, q.alloc zq _⟩
  case rest =>
    obtain ⟨wz, hwz⟩ : ∃ wz, wz = wc := ⟨_, rfl⟩
    subst hwz
    obtain ⟨V, lo, A0, n0, k0, A1, n1, k1, i2, A3, n3, k3, i4, i5, i6, i7, s8, i9, rfl, hV0, hsr0, -, hbz⟩ := hcut
    have HM0 : Hid (wz.heap[w.heap.size]? = some (.cells #[.slice a1 ts.length c1, .slice a2 fs.length c2] 25 (0, 0))) := block_kept hM hbz
    have HX0 : Hid (wz.heap[w.heap.size + 1]? = some (.cells #[.slice fa x.frames.length fc, .slice ha x.heap.length hc, .int .i64 x.made, .slice oa x.out.length oc, .int .i64 x.status, .int .i64 x.trap, .int .i64 x.value.k, .int .i64 x.value.n, .string x.value.s, .int .i64 x.steps] 31 (0, 0))) := block_kept hX hbz
    have HV0 : Hid (wz.heap[V]? = some (.cells #[.slice A0 n0 k0, .slice A1 n1 k1, .int .i64 i2, .slice A3 n3 k3, .int .i64 i4, .int .i64 i5, .int .i64 i6, .int .i64 i7, .string s8, .int .i64 i9] 38 (0, 0))) := hV0
    have HB0 : Hid (Below w.heap.size w wz) := hB.trans (hbz.mono hB.size)
    have HSR := hid hsr0
    have hz : Below wz.heap.size wz wz := Below.refl _ _
    clear HS hbz hM hX hB hV0 hsr0
    have z1 := block_cell (block_kept HM0.out hz)
    go_wp2_with fail
    clear z1
    refine (toModule_made a1 a2 ts fs c1 c2 _ hs (hst0.mono (HB0.out.trans (hz.mono HB0.out.size))) (hfn0.mono (HB0.out.trans (hz.mono HB0.out.size)))).mono ?_
    rintro e w7 ⟨p, p2, hp1, hp2, rfl, hst, hfn, hb7, htb, hfb⟩
    have hfh := hfb.h
    have HP1 := hid hp1
    have HP2 := hid hp2
    have HPL : Hid (p < w7.heap.size) := by obtain ⟨c, hc, -⟩ := htb; exact lt_block hc
    have HPL2 : Hid (p2 < w7.heap.size) := by obtain ⟨c, hc, -⟩ := hfb; exact lt_block hc
    have hst := hst.low (Nat.zero_le _)
    have hfn := hfn.low (Nat.zero_le _)
    clear hp1 hp2 hfb
    have hz_n := hz.trans (hb7.mono hz.size)
    clear hz
    have hz := hz_n
    clear hz_n
    clear hb7
    obtain ⟨w8, hw8⟩ : ∃ w8, w8 = w7.alloc (.cells #[.slice (some ⟨p, 0, none⟩) ts.length ts.length, .slice (some ⟨p2, 0, none⟩) fs.length fs.length] 42) := ⟨_, rfl⟩
    have hbq : Below w7.heap.size w7 w8 := by rw [hw8]; exact (Below.refl _ _).alloc (Nat.le_refl _) _
    have hP : w8.heap[w7.heap.size]? = some (.cells #[.slice (some ⟨p, 0, none⟩) ts.length ts.length, .slice (some ⟨p2, 0, none⟩) fs.length fs.length] 42 (0, 0)) := by rw [hw8]; exact block_new _ _ _
    have z1 := block_cell (block_old (block_kept HX0.out hz) (.cells #[.slice (some ⟨p, 0, none⟩) ts.length ts.length, .slice (some ⟨p2, 0, none⟩) fs.length fs.length] 42))
    have H78 := hid hbq.size
    have hst_n := hst.mono hbq
    have hfn_n := hfn.mono hbq
    have htb_n := htb.mono hbq
    have hfh_n := hfh.mono hbq
    have hz_n := hz.trans (hbq.mono hz.size)
    clear hst hfn htb hfh hz
    have hst := hst_n
    have hfn := hfn_n
    have htb := htb_n
    have hfh := hfh_n
    have hz := hz_n
    clear hst_n hfn_n htb_n hfh_n hz_n
    go_wp2_with fail
    rw [← hw8]
    clear hw8 z1 hbq
    refine (toVm_b fa ha oa fc hc oc x _ hxx (hv1.mono (HB0.out.trans (hz.mono HB0.out.size)))).mono ?_
    rintro e w9 ⟨gx1, gx2, gx3, rfl, hvb, hb9⟩
    unfold vmCells
    have hxs := hvb.xs
    have hvx := hvb.at.low (Nat.zero_le _)
    have H89 := hid hb9.size
    have H0_8 : Hid (wz.heap.size ≤ w8.heap.size) := hz.size
    clear hvb
    have hP_n := block_kept hP hb9
    have hst_n := hst.mono hb9
    have hfn_n := hfn.mono hb9
    have htb_n := htb.mono hb9
    have hfh_n := hfh.mono hb9
    have hz_n := hz.trans (hb9.mono hz.size)
    clear hP hst hfn htb hfh hz
    have hP := hP_n
    have hst := hst_n
    have hfn := hfn_n
    have htb := htb_n
    have hfh := hfh_n
    have hz := hz_n
    clear hP_n hst_n hfn_n htb_n hfh_n hz_n
    clear hb9
    obtain ⟨w10, hw10⟩ : ∃ w10, w10 = w9.alloc (.cells #[.slice (some ⟨gx1, 0, none⟩) x.frames.length x.frames.length, .slice (some ⟨gx2, 0, none⟩) x.heap.length x.heap.length, .int .i64 x.made, .slice (some ⟨gx3, 0, none⟩) x.out.length x.out.length, .int .i64 x.status, .int .i64 x.trap, .int .i64 x.value.k, .int .i64 x.value.n, .string x.value.s, .int .i64 x.steps] 38) := ⟨_, rfl⟩
    have hbq : Below w9.heap.size w9 w10 := by rw [hw10]; exact (Below.refl _ _).alloc (Nat.le_refl _) _
    have hQ : w10.heap[w9.heap.size]? = some (.cells #[.slice (some ⟨gx1, 0, none⟩) x.frames.length x.frames.length, .slice (some ⟨gx2, 0, none⟩) x.heap.length x.heap.length, .int .i64 x.made, .slice (some ⟨gx3, 0, none⟩) x.out.length x.out.length, .int .i64 x.status, .int .i64 x.trap, .int .i64 x.value.k, .int .i64 x.value.n, .string x.value.s, .int .i64 x.steps] 38 (0, 0)) := by rw [hw10]; exact block_new _ _ _
    have z1 := block_cell (block_old hP (.cells #[.slice (some ⟨gx1, 0, none⟩) x.frames.length x.frames.length, .slice (some ⟨gx2, 0, none⟩) x.heap.length x.heap.length, .int .i64 x.made, .slice (some ⟨gx3, 0, none⟩) x.out.length x.out.length, .int .i64 x.status, .int .i64 x.trap, .int .i64 x.value.k, .int .i64 x.value.n, .string x.value.s, .int .i64 x.steps] 38))
    have z2 := block_cell (block_new w9 #[.slice (some ⟨gx1, 0, none⟩) x.frames.length x.frames.length, .slice (some ⟨gx2, 0, none⟩) x.heap.length x.heap.length, .int .i64 x.made, .slice (some ⟨gx3, 0, none⟩) x.out.length x.out.length, .int .i64 x.status, .int .i64 x.trap, .int .i64 x.value.k, .int .i64 x.value.n, .string x.value.s, .int .i64 x.steps] 38)
    have H910 := hid hbq.size
    have hP_n := block_kept hP hbq
    have hst_n := hst.mono hbq
    have hfn_n := hfn.mono hbq
    have htb_n := htb.mono hbq
    have hfh_n := hfh.mono hbq
    have hxs_n := hxs.mono hbq
    have hvx_n := hvx.mono hbq
    have hz_n := hz.trans (hbq.mono hz.size)
    clear hP hst hfn htb hfh hxs hvx hz
    have hP := hP_n
    have hst := hst_n
    have hfn := hfn_n
    have htb := htb_n
    have hfh := hfh_n
    have hxs := hxs_n
    have hvx := hvx_n
    have hz := hz_n
    clear hP_n hst_n hfn_n htb_n hfh_n hxs_n hvx_n hz_n
    go_wp2_with fail
    rw [← hw10]
    clear hw10 z1 z2 hbq
    have hal := iC (ts := ts) (fs := fs) (x := x) (some ⟨p, 0, none⟩) (some ⟨p2, 0, none⟩) ts.length fs.length (some ⟨gx1, 0, none⟩) (some ⟨gx2, 0, none⟩) (some ⟨gx3, 0, none⟩) x.frames.length x.heap.length x.out.length w10 hs hst hfn hxx hvx
    unfold vmCells at hal
    refine hal.mono ?_
    rintro e w11 ⟨B0, m0, l0, B1, m1, l1, j2, B3, m3, l3, j4, j5, j6, j7, t8, j9, rfl, hir, hb11⟩
    have H1011 := hid hb11.size
    clear hal
    have hP_n := block_kept hP hb11
    have hQ_n := block_kept hQ hb11
    have hst_n := hst.mono hb11
    have hfn_n := hfn.mono hb11
    have htb_n := htb.mono hb11
    have hfh_n := hfh.mono hb11
    have hxs_n := hxs.mono hb11
    have hvx_n := hvx.mono hb11
    have hz_n := hz.trans (hb11.mono hz.size)
    clear hP hQ hst hfn htb hfh hxs hvx hz
    have hP := hP_n
    have hQ := hQ_n
    have hst := hst_n
    have hfn := hfn_n
    have htb := htb_n
    have hfh := hfh_n
    have hxs := hxs_n
    have hvx := hvx_n
    have hz := hz_n
    clear hP_n hQ_n hst_n hfn_n htb_n hfh_n hxs_n hvx_n hz_n
    clear hb11
    obtain ⟨w12, hw12⟩ : ∃ w12, w12 = w11.alloc (.cells #[.slice B0 m0 l0, .slice B1 m1 l1, .int .i64 j2, .slice B3 m3 l3, .int .i64 j4, .int .i64 j5, .int .i64 j6, .int .i64 j7, .string t8, .int .i64 j9] 38) := ⟨_, rfl⟩
    have hbq : Below w11.heap.size w11 w12 := by rw [hw12]; exact (Below.refl _ _).alloc (Nat.le_refl _) _
    have hG : w12.heap[w11.heap.size]? = some (.cells #[.slice B0 m0 l0, .slice B1 m1 l1, .int .i64 j2, .slice B3 m3 l3, .int .i64 j4, .int .i64 j5, .int .i64 j6, .int .i64 j7, .string t8, .int .i64 j9] 38 (0, 0)) := by rw [hw12]; exact block_new _ _ _
    have z1 := block_cell (block_new w11 #[.slice B0 m0 l0, .slice B1 m1 l1, .int .i64 j2, .slice B3 m3 l3, .int .i64 j4, .int .i64 j5, .int .i64 j6, .int .i64 j7, .string t8, .int .i64 j9] 38)
    have z2 := block_cell (block_old (block_kept HV0.out hz) (.cells #[.slice B0 m0 l0, .slice B1 m1 l1, .int .i64 j2, .slice B3 m3 l3, .int .i64 j4, .int .i64 j5, .int .i64 j6, .int .i64 j7, .string t8, .int .i64 j9] 38))
    have hP_n := block_kept hP hbq
    have hQ_n := block_kept hQ hbq
    have hst_n := hst.mono hbq
    have hfn_n := hfn.mono hbq
    have htb_n := htb.mono hbq
    have hfh_n := hfh.mono hbq
    have hxs_n := hxs.mono hbq
    have hvx_n := hvx.mono hbq
    have hir_n := hir.mono hbq
    have hz_n := hz.trans (hbq.mono hz.size)
    clear hP hQ hst hfn htb hfh hxs hvx hir hz
    have hP := hP_n
    have hQ := hQ_n
    have hst := hst_n
    have hfn := hfn_n
    have htb := htb_n
    have hfh := hfh_n
    have hxs := hxs_n
    have hvx := hvx_n
    have hir := hir_n
    have hz := hz_n
    clear hP_n hQ_n hst_n hfn_n htb_n hfh_n hxs_n hvx_n hir_n hz_n
    go_wp2_with fail
    rw [← hw12]
    clear hw12 z1 z2 hbq
    refine (eqC hxx hir.sr (HSR.out.mono hz)).mono ?_
    rintro e w13 ⟨rfl, hb13⟩
    have hP_n := block_kept hP hb13
    have hQ_n := block_kept hQ hb13
    have hG_n := block_kept hG hb13
    have hst_n := hst.mono hb13
    have hfn_n := hfn.mono hb13
    have htb_n := htb.mono hb13
    have hfh_n := hfh.mono hb13
    have hxs_n := hxs.mono hb13
    have hvx_n := hvx.mono hb13
    have hir_n := hir.mono hb13
    have hz_n := hz.trans (hb13.mono hz.size)
    clear hP hQ hG hst hfn htb hfh hxs hvx hir hz
    have hP := hP_n
    have hQ := hQ_n
    have hG := hG_n
    have hst := hst_n
    have hfn := hfn_n
    have htb := htb_n
    have hfh := hfh_n
    have hxs := hxs_n
    have hvx := hvx_n
    have hir := hir_n
    have hz := hz_n
    clear hP_n hQ_n hG_n hst_n hfn_n htb_n hfh_n hxs_n hvx_n hir_n hz_n
    clear hb13
    have HS : Hid (∀ w', Below w13.heap.size w13 w' → w'.cell? ⟨w7.heap.size, 0, none⟩ = some (.slice (some ⟨p, 0, none⟩) ts.length ts.length) ∧ w'.cell? ⟨w7.heap.size, 1, none⟩ = some (.slice (some ⟨p2, 0, none⟩) fs.length fs.length) ∧ w'.cell? ⟨w.heap.size, 0, none⟩ = some (.slice a1 ts.length c1) ∧ w'.cell? ⟨w.heap.size, 1, none⟩ = some (.slice a2 fs.length c2)) := fun w' q => ⟨by rw [block_cell (block_kept hP q)]; rfl, by rw [block_cell (block_kept hP q)]; rfl, by rw [block_cell (block_kept (block_kept HM0.out hz) q)]; rfl, by rw [block_cell (block_kept (block_kept HM0.out hz) q)]; rfl⟩
    go_upto_region 14 with fail
    have q : Below w13.heap.size w13 w13 := Below.refl _ _
    have HBH : Hid (Below w.heap.size w w13) := (HB0.out.trans (hz.mono HB0.out.size))
    go_region_held3 (fun w' => w'.cell? ⟨w7.heap.size, 0, none⟩ = some (.slice (some ⟨p, 0, none⟩) ts.length ts.length) ∧ w'.cell? ⟨w7.heap.size, 1, none⟩ = some (.slice (some ⟨p2, 0, none⟩) fs.length fs.length) ∧ w'.cell? ⟨w.heap.size, 0, none⟩ = some (.slice a1 ts.length c1) ∧ w'.cell? ⟨w.heap.size, 1, none⟩ = some (.slice a2 fs.length c2))
      ((refine HS.out _ ?_; repeat (first | refine Below.drew ?_ | exact q)))
      (first
        | (go_at_call 8; refine (toModule_any a1 a2 ts fs c1 c2 _ hs (by exact hst0.mono (HBH.out.trans ((show Below w13.heap.size w13 _ by repeat (first | refine Below.drew ?_ | exact q)).mono HBH.out.size))) (by exact hfn0.mono (HBH.out.trans ((show Below w13.heap.size w13 _ by repeat (first | refine Below.drew ?_ | exact q)).mono HBH.out.size)))).mono ?_; rintro e wm ⟨gm, gm2, -, -, rfl, hst9, hfn9, kd⟩; have q : Below w13.heap.size w13 _ := Below.trans (by repeat (first | refine Below.drew ?_ | exact q)) (kd.mono (by first | exact Nat.le_refl _ | exact q.size)))
        | (go_at_call 12; refine (eqModule_any _ _ _ _ ts fs _ _ _ _ _ hs (by exact hst.mono q) (by exact hst9.low (Nat.zero_le _)) (by exact hfn.mono q) (by exact hfn9.low (Nat.zero_le _))).mono ?_; rintro e w14 ⟨rfl, kd⟩; have q : Below w13.heap.size w13 _ := Below.trans (by repeat (first | refine Below.drew ?_ | exact q)) (kd.mono (by first | exact Nat.le_refl _ | exact q.size))))
    clear HS HBH
    clear hst9 hfn9 kd
    have hP_n := block_kept hP q
    have hQ_n := block_kept hQ q
    have hG_n := block_kept hG q
    have hst_n := hst.mono q
    have hfn_n := hfn.mono q
    have htb_n := htb.mono q
    have hfh_n := hfh.mono q
    have hxs_n := hxs.mono q
    have hvx_n := hvx.mono q
    have hir_n := hir.mono q
    have hz_n := hz.trans (q.mono hz.size)
    clear hP hQ hG hst hfn htb hfh hxs hvx hir hz
    have hP := hP_n
    have hQ := hQ_n
    have hG := hG_n
    have hst := hst_n
    have hfn := hfn_n
    have htb := htb_n
    have hfh := hfh_n
    have hxs := hxs_n
    have hvx := hvx_n
    have hir := hir_n
    have hz := hz_n
    clear hP_n hQ_n hG_n hst_n hfn_n htb_n hfh_n hxs_n hvx_n hir_n hz_n
    clear q
    clear hst hfn
    have HS : Hid (∀ w', Below w14.heap.size w14 w' → w'.cell? ⟨w9.heap.size, 0, none⟩ = some (.slice (some ⟨gx1, 0, none⟩) x.frames.length x.frames.length) ∧ w'.cell? ⟨w9.heap.size, 1, none⟩ = some (.slice (some ⟨gx2, 0, none⟩) x.heap.length x.heap.length) ∧ w'.cell? ⟨w9.heap.size, 2, none⟩ = some (.int .i64 x.made) ∧ w'.cell? ⟨w9.heap.size, 3, none⟩ = some (.slice (some ⟨gx3, 0, none⟩) x.out.length x.out.length) ∧ w'.cell? ⟨w9.heap.size, 4, none⟩ = some (.int .i64 x.status) ∧ w'.cell? ⟨w9.heap.size, 5, none⟩ = some (.int .i64 x.trap) ∧ w'.cell? ⟨w9.heap.size, 6, none⟩ = some (.int .i64 x.value.k) ∧ w'.cell? ⟨w9.heap.size, 7, none⟩ = some (.int .i64 x.value.n) ∧ w'.cell? ⟨w9.heap.size, 8, none⟩ = some (.string x.value.s) ∧ w'.cell? ⟨w9.heap.size, 9, none⟩ = some (.int .i64 x.steps) ∧ w'.cell? ⟨w.heap.size + 1, 0, none⟩ = some (.slice fa x.frames.length fc) ∧ w'.cell? ⟨w.heap.size + 1, 1, none⟩ = some (.slice ha x.heap.length hc) ∧ w'.cell? ⟨w.heap.size + 1, 2, none⟩ = some (.int .i64 x.made) ∧ w'.cell? ⟨w.heap.size + 1, 3, none⟩ = some (.slice oa x.out.length oc) ∧ w'.cell? ⟨w.heap.size + 1, 4, none⟩ = some (.int .i64 x.status) ∧ w'.cell? ⟨w.heap.size + 1, 5, none⟩ = some (.int .i64 x.trap) ∧ w'.cell? ⟨w.heap.size + 1, 6, none⟩ = some (.int .i64 x.value.k) ∧ w'.cell? ⟨w.heap.size + 1, 7, none⟩ = some (.int .i64 x.value.n) ∧ w'.cell? ⟨w.heap.size + 1, 8, none⟩ = some (.string x.value.s) ∧ w'.cell? ⟨w.heap.size + 1, 9, none⟩ = some (.int .i64 x.steps)) := fun w' q => ⟨by rw [block_cell (block_kept hQ q)]; rfl, by rw [block_cell (block_kept hQ q)]; rfl, by rw [block_cell (block_kept hQ q)]; rfl, by rw [block_cell (block_kept hQ q)]; rfl, by rw [block_cell (block_kept hQ q)]; rfl, by rw [block_cell (block_kept hQ q)]; rfl, by rw [block_cell (block_kept hQ q)]; rfl, by rw [block_cell (block_kept hQ q)]; rfl, by rw [block_cell (block_kept hQ q)]; rfl, by rw [block_cell (block_kept hQ q)]; rfl, by rw [block_cell (block_kept (block_kept HX0.out hz) q)]; rfl, by rw [block_cell (block_kept (block_kept HX0.out hz) q)]; rfl, by rw [block_cell (block_kept (block_kept HX0.out hz) q)]; rfl, by rw [block_cell (block_kept (block_kept HX0.out hz) q)]; rfl, by rw [block_cell (block_kept (block_kept HX0.out hz) q)]; rfl, by rw [block_cell (block_kept (block_kept HX0.out hz) q)]; rfl, by rw [block_cell (block_kept (block_kept HX0.out hz) q)]; rfl, by rw [block_cell (block_kept (block_kept HX0.out hz) q)]; rfl, by rw [block_cell (block_kept (block_kept HX0.out hz) q)]; rfl, by rw [block_cell (block_kept (block_kept HX0.out hz) q)]; rfl⟩
    go_upto_region 16 with fail
    have q : Below w14.heap.size w14 w14 := Below.refl _ _
    have HBH : Hid (Below w.heap.size w w14) := (HB0.out.trans (hz.mono HB0.out.size))
    go_region_held3 (fun w' => w'.cell? ⟨w9.heap.size, 0, none⟩ = some (.slice (some ⟨gx1, 0, none⟩) x.frames.length x.frames.length) ∧ w'.cell? ⟨w9.heap.size, 1, none⟩ = some (.slice (some ⟨gx2, 0, none⟩) x.heap.length x.heap.length) ∧ w'.cell? ⟨w9.heap.size, 2, none⟩ = some (.int .i64 x.made) ∧ w'.cell? ⟨w9.heap.size, 3, none⟩ = some (.slice (some ⟨gx3, 0, none⟩) x.out.length x.out.length) ∧ w'.cell? ⟨w9.heap.size, 4, none⟩ = some (.int .i64 x.status) ∧ w'.cell? ⟨w9.heap.size, 5, none⟩ = some (.int .i64 x.trap) ∧ w'.cell? ⟨w9.heap.size, 6, none⟩ = some (.int .i64 x.value.k) ∧ w'.cell? ⟨w9.heap.size, 7, none⟩ = some (.int .i64 x.value.n) ∧ w'.cell? ⟨w9.heap.size, 8, none⟩ = some (.string x.value.s) ∧ w'.cell? ⟨w9.heap.size, 9, none⟩ = some (.int .i64 x.steps) ∧ w'.cell? ⟨w.heap.size + 1, 0, none⟩ = some (.slice fa x.frames.length fc) ∧ w'.cell? ⟨w.heap.size + 1, 1, none⟩ = some (.slice ha x.heap.length hc) ∧ w'.cell? ⟨w.heap.size + 1, 2, none⟩ = some (.int .i64 x.made) ∧ w'.cell? ⟨w.heap.size + 1, 3, none⟩ = some (.slice oa x.out.length oc) ∧ w'.cell? ⟨w.heap.size + 1, 4, none⟩ = some (.int .i64 x.status) ∧ w'.cell? ⟨w.heap.size + 1, 5, none⟩ = some (.int .i64 x.trap) ∧ w'.cell? ⟨w.heap.size + 1, 6, none⟩ = some (.int .i64 x.value.k) ∧ w'.cell? ⟨w.heap.size + 1, 7, none⟩ = some (.int .i64 x.value.n) ∧ w'.cell? ⟨w.heap.size + 1, 8, none⟩ = some (.string x.value.s) ∧ w'.cell? ⟨w.heap.size + 1, 9, none⟩ = some (.int .i64 x.steps))
      ((refine HS.out _ ?_; repeat (first | refine Below.drew ?_ | exact q)))
      (first
        | (go_at_call 9; refine (toVm_any fa ha oa fc hc oc x _ hxx (by exact hv1.mono (HBH.out.trans ((show Below w14.heap.size w14 _ by repeat (first | refine Below.drew ?_ | exact q)).mono HBH.out.size)))).mono ?_; rintro e wx ⟨k1, k2, k3, rfl, hvm, kd⟩; have q : Below w14.heap.size w14 _ := Below.trans (by repeat (first | refine Below.drew ?_ | exact q)) (kd.mono (by first | exact Nat.le_refl _ | exact q.size)))
        | (go_at_call 11; refine (eqVm_any _ _ _ _ _ _ _ _ _ _ _ _ x _ hxx (by exact hvx.mono q) (by exact hvm.low (Nat.zero_le _))).mono ?_; rintro e w15 ⟨rfl, kd⟩; have q : Below w14.heap.size w14 _ := Below.trans (by repeat (first | refine Below.drew ?_ | exact q)) (kd.mono (by first | exact Nat.le_refl _ | exact q.size))))
    clear HS HBH
    clear hvm kd
    have hP_n := block_kept hP q
    have hQ_n := block_kept hQ q
    have hG_n := block_kept hG q
    have htb_n := htb.mono q
    have hfh_n := hfh.mono q
    have hxs_n := hxs.mono q
    have hvx_n := hvx.mono q
    have hir_n := hir.mono q
    have hz_n := hz.trans (q.mono hz.size)
    clear hP hQ hG htb hfh hxs hvx hir hz
    have hP := hP_n
    have hQ := hQ_n
    have hG := hG_n
    have htb := htb_n
    have hfh := hfh_n
    have hxs := hxs_n
    have hvx := hvx_n
    have hir := hir_n
    have hz := hz_n
    clear hP_n hQ_n hG_n htb_n hfh_n hxs_n hvx_n hir_n hz_n
    clear q
    clear hvx
    have z1 := block_cell hP
    go_wp2_with fail
    clear z1
    refine (markModule_w wz.heap.size w7.heap.size p p2 _ _ ts fs _ hs HP1.out HP2.out HPL.out HPL2.out htb hfh).mono ?_
    rintro e w16 ⟨rk, rfl, hrk0, hrk1, -, ho16⟩
    obtain ⟨rn, rfl⟩ : ∃ rn : Nat, rk = (rn : Int) := ⟨rk.toNat, by omega⟩
    have hz16 : Below wz.heap.size wz w16 := hz.trans (ho16.below wz.heap.size (fun k hk => hk.1) hz.size)
    have kk16 : Kept w7.heap.size w15 w16 := Kept.only ho16 (Nat.le_refl _)
    have hP16 := kk16 _ _ (Nat.le_refl _) hP
    have hQ16 := kk16 _ _ (Nat.le_trans H78.out H89.out) hQ
    have hG16 := kk16 _ _ (Nat.le_trans (Nat.le_trans H78.out H89.out) (Nat.le_trans H910.out H1011.out)) hG
    have hxs16 := hxs.kept (kk16.up H78.out)
    have hir16 := hir.kept (kk16.up (Nat.le_trans (Nat.le_trans H78.out H89.out) H910.out))
    clear hP hQ hG hxs hir htb hfh hz ho16 kk16 hP16
    have hrn : rn ≤ 10000000000000 := by omega
    clear hrk0 hrk1
    have z1 := block_cell hQ16
    have hmk := markVm_w w8.heap.size w9.heap.size gx1 gx2 gx3 x.frames.length x.heap.length x.out.length x rn w16 hxx hrn hxs16.lf hxs16.lg hxs16.hf hxs16.hg hxs16.f hxs16.r hxs16.o
    unfold vmCells at hmk
    go_wp2_with fail
    clear z1
    refine hmk.mono ?_
    rintro e w17 ⟨k1, rfl, hk01, hk11, -, -, ho17⟩
    have hz : Below wz.heap.size wz w17 := hz16.trans (ho17.below wz.heap.size (fun k hk => Nat.le_trans H0_8.out hk.1) hz16.size)
    have kk17 : Kept w9.heap.size w16 w17 := Kept.only ho17 (Nat.le_refl _)
    have hG := kk17 _ _ (Nat.le_trans H910.out H1011.out) hG16
    have hir := hir16.kept (kk17.up H910.out)
    clear hz16 hmk hQ16 hG16 hxs16 hir16 ho17 kk17 hrn
    have hk1n : ¬ ((k1 : Int) < 0) := by omega
    clear hk01 hk11
    have z1 := block_cell hG
    have z2 := block_cell (block_kept HV0.out hz)
    go_wp2_with fail
    clear z1 z2
    refine (eqC hxx hir.sr (HSR.out.mono hz)).mono ?_
    rintro e w18 ⟨rfl, hb18⟩
    clear hk1n
    have hG_n := block_kept hG hb18
    have hir_n := hir.mono hb18
    have hz_n := hz.trans (hb18.mono hz.size)
    clear hG hir hz
    have hG := hG_n
    have hir := hir_n
    have hz := hz_n
    clear hG_n hir_n hz_n
    clear hb18
    have z1 := block_cell hG
    go_wp2_with fail
    clear z1
    refine (markC hxx hir).mono ?_
    rintro e w19 ⟨m, he, hmk, hbl, hk38⟩
    obtain ⟨mi, hmi⟩ : ∃ mi : Int, mi = (m : Int) := ⟨_, rfl⟩
    rw [← hmi] at he
    subst he
    have hm0 : ¬ mi < 0 := by omega
    have HMI := hid hmi
    clear hmi
    have hz19 : Below wz.heap.size wz w19 := hz.trans ((hbl (by have h1 := lt_block hG; have h2 := H1011.out; omega)).mono (Nat.le_trans (Nat.le_trans H0_8.out H89.out) H910.out))
    have hG19 := hk38 _ _ hG
    clear hz hG hir hbl hk38
    have hz := hz19
    have hG := hG19
    clear hz19 hG19
    have z1 := block_cell hG
    go_wp2_with fail
    clear z1
    refine (heldC hxx hmk).mono ?_
    rintro e w20 ⟨he, hb20⟩
    rw [← HMI.out] at he
    subst he
    have hG_n := block_kept hG hb20
    have hmk_n := hmk.mono hb20
    have hz_n := hz.trans (hb20.mono hz.size)
    clear hG hmk hz
    have hG := hG_n
    have hmk := hmk_n
    have hz := hz_n
    clear hG_n hmk_n hz_n
    clear hb20
    have hM := (block_kept HM0.out hz)
    have hX := (block_kept HX0.out hz)
    have hB := (HB0.out.trans (hz.mono HB0.out.size))
    have HS : Hid (∀ w', Below w20.heap.size w20 w' → w'.cell? ⟨w.heap.size, 0, none⟩ = some (.slice a1 ts.length c1) ∧ w'.cell? ⟨w.heap.size, 1, none⟩ = some (.slice a2 fs.length c2) ∧ w'.cell? ⟨w.heap.size + 1, 0, none⟩ = some (.slice fa x.frames.length fc) ∧ w'.cell? ⟨w.heap.size + 1, 1, none⟩ = some (.slice ha x.heap.length hc) ∧ w'.cell? ⟨w.heap.size + 1, 2, none⟩ = some (.int .i64 x.made) ∧ w'.cell? ⟨w.heap.size + 1, 3, none⟩ = some (.slice oa x.out.length oc) ∧ w'.cell? ⟨w.heap.size + 1, 4, none⟩ = some (.int .i64 x.status) ∧ w'.cell? ⟨w.heap.size + 1, 5, none⟩ = some (.int .i64 x.trap) ∧ w'.cell? ⟨w.heap.size + 1, 6, none⟩ = some (.int .i64 x.value.k) ∧ w'.cell? ⟨w.heap.size + 1, 7, none⟩ = some (.int .i64 x.value.n) ∧ w'.cell? ⟨w.heap.size + 1, 8, none⟩ = some (.string x.value.s) ∧ w'.cell? ⟨w.heap.size + 1, 9, none⟩ = some (.int .i64 x.steps)) := fun w' q => ⟨by rw [block_cell (block_kept hM q)]; rfl, by rw [block_cell (block_kept hM q)]; rfl, by rw [block_cell (block_kept hX q)]; rfl, by rw [block_cell (block_kept hX q)]; rfl, by rw [block_cell (block_kept hX q)]; rfl, by rw [block_cell (block_kept hX q)]; rfl, by rw [block_cell (block_kept hX q)]; rfl, by rw [block_cell (block_kept hX q)]; rfl, by rw [block_cell (block_kept hX q)]; rfl, by rw [block_cell (block_kept hX q)]; rfl, by rw [block_cell (block_kept hX q)]; rfl, by rw [block_cell (block_kept hX q)]; rfl⟩
    go_upto_region 31 with fail
    go_cut [13] from 75 to 79 (fun sv wx => ∃ V lo A0 n0 k0 A1 n1 k1 i2 A3 n3 k3 i4 i5 i6 i7 s8 i9, sv = .pointer (some ⟨V, 0, none⟩) ∧ wx.heap[V]? = some (.cells #[.slice A0 n0 k0, .slice A1 n1 k1, .int .i64 i2, .slice A3 n3 k3, .int .i64 i4, .int .i64 i5, .int .i64 i6, .int .i64 i7, .string s8, .int .i64 i9] 38 (0, 0)) ∧ SR ts fs x wx lo #[.slice A0 n0 k0, .slice A1 n1 k1, .int .i64 i2, .slice A3 n3 k3, .int .i64 i4, .int .i64 i5, .int .i64 i6, .int .i64 i7, .string s8, .int .i64 i9] ∧ w20.heap.size ≤ V ∧ Below w20.heap.size w20 wx)
    case first =>
      have q : Below w20.heap.size w20 w20 := Below.refl _ _
      have zq := q.size
      have HBH := hid hB
      clear hB
      go_region_held3 (fun w' => w'.cell? ⟨w.heap.size, 0, none⟩ = some (.slice a1 ts.length c1) ∧ w'.cell? ⟨w.heap.size, 1, none⟩ = some (.slice a2 fs.length c2) ∧ w'.cell? ⟨w.heap.size + 1, 0, none⟩ = some (.slice fa x.frames.length fc) ∧ w'.cell? ⟨w.heap.size + 1, 1, none⟩ = some (.slice ha x.heap.length hc) ∧ w'.cell? ⟨w.heap.size + 1, 2, none⟩ = some (.int .i64 x.made) ∧ w'.cell? ⟨w.heap.size + 1, 3, none⟩ = some (.slice oa x.out.length oc) ∧ w'.cell? ⟨w.heap.size + 1, 4, none⟩ = some (.int .i64 x.status) ∧ w'.cell? ⟨w.heap.size + 1, 5, none⟩ = some (.int .i64 x.trap) ∧ w'.cell? ⟨w.heap.size + 1, 6, none⟩ = some (.int .i64 x.value.k) ∧ w'.cell? ⟨w.heap.size + 1, 7, none⟩ = some (.int .i64 x.value.n) ∧ w'.cell? ⟨w.heap.size + 1, 8, none⟩ = some (.string x.value.s) ∧ w'.cell? ⟨w.heap.size + 1, 9, none⟩ = some (.int .i64 x.steps))
        ((refine HS.out _ ?_; repeat (first | refine Below.setCell ?_ (by first | omega | (simp; omega) | simp) _ | refine Below.alloc ?_ (by first | omega | (simp; omega) | simp) _ | refine Below.drew ?_ | exact q)))
        (first
          | (go_at_call 8; refine (toModule_any a1 a2 ts fs c1 c2 _ hs (by exact hst0.mono (HBH.out.trans ((show Below w20.heap.size w20 _ by repeat (first | refine Below.setCell ?_ (by first | omega | (simp; omega) | simp) _ | refine Below.alloc ?_ (by first | omega | (simp; omega) | simp) _ | refine Below.drew ?_ | exact q)).mono HBH.out.size))) (by exact hfn0.mono (HBH.out.trans ((show Below w20.heap.size w20 _ by repeat (first | refine Below.setCell ?_ (by first | omega | (simp; omega) | simp) _ | refine Below.alloc ?_ (by first | omega | (simp; omega) | simp) _ | refine Below.drew ?_ | exact q)).mono HBH.out.size)))).mono ?_; rintro e wm ⟨gm, gm2, -, -, rfl, hst, hfn, kd⟩; (first | (have hlt := lt_block hV; have hV := block_kept hV kd) | (have hpr := lift_drew kd; have hV := hpr.1; have hlt := hpr.2; clear hpr; have hge : w20.heap.size ≤ w20.heap.size := Nat.le_refl _) | (have hpr := lift_new kd; have hV := hpr.1; have hlt := hpr.2; clear hpr; have hge := zq) | skip); have q : Below w20.heap.size w20 _ := Below.trans (by repeat (first | refine Below.setCell ?_ (by first | omega | (simp; omega) | simp) _ | refine Below.alloc ?_ (by first | omega | (simp; omega) | simp) _ | refine Below.drew ?_ | exact q)) (kd.mono (by first | exact zq | (simp; omega) | simp)); have zq := q.size)
          | (go_at_call 9; refine (toVm_any fa ha oa fc hc oc x _ hxx (by exact hv1.mono (HBH.out.trans ((show Below w20.heap.size w20 _ by repeat (first | refine Below.setCell ?_ (by first | omega | (simp; omega) | simp) _ | refine Below.alloc ?_ (by first | omega | (simp; omega) | simp) _ | refine Below.drew ?_ | exact q)).mono HBH.out.size)))).mono ?_; rintro e wv ⟨gx1, gx2, gx3, rfl, hvx, kd⟩; have kq : Below wm.heap.size wm _ := Below.trans (by repeat (first | refine Below.alloc ?_ (by first | omega | (simp; omega) | simp) _ | refine Below.drew ?_ | exact Below.refl _ _)) (kd.mono (by simp)); have hst := (hst.low (Nat.zero_le _)).mono kq; have hfn := (hfn.low (Nat.zero_le _)).mono kq; (first | (have hlt := lt_block hV; have hV := block_kept hV kd) | (have hpr := lift_drew kd; have hV := hpr.1; have hlt := hpr.2; clear hpr; have hge : w20.heap.size ≤ w20.heap.size := Nat.le_refl _) | (have hpr := lift_new kd; have hV := hpr.1; have hlt := hpr.2; clear hpr; have hge := zq) | skip); have q : Below w20.heap.size w20 _ := Below.trans (by repeat (first | refine Below.setCell ?_ (by first | omega | (simp; omega) | simp) _ | refine Below.alloc ?_ (by first | omega | (simp; omega) | simp) _ | refine Below.drew ?_ | exact q)) (kd.mono (by first | exact zq | (simp; omega) | simp)); have zq := q.size)
          | (go_at_call 10; refine (iC _ _ _ _ _ _ _ _ _ _ _ hs (by exact hst.mono (show Below wv.heap.size wv _ by repeat (first | refine Below.alloc ?_ (by first | omega | (simp; omega) | simp) _ | refine Below.drew ?_ | exact Below.refl _ _))) (by exact hfn.mono (show Below wv.heap.size wv _ by repeat (first | refine Below.alloc ?_ (by first | omega | (simp; omega) | simp) _ | refine Below.drew ?_ | exact Below.refl _ _))) hxx (by exact (hvx.low (Nat.zero_le _)).mono (show Below wv.heap.size wv _ by repeat (first | refine Below.alloc ?_ (by first | omega | (simp; omega) | simp) _ | refine Below.drew ?_ | exact Below.refl _ _)))).mono ?_; rintro e wq ⟨A0, n0, k0, A1, n1, k1, i2, A3, n3, k3, i4, i5, i6, i7, s8, i9, rfl, hsr, kd⟩; have hsr := hsr.sr; (first | (have hlt := lt_block hV; have hV := block_kept hV kd) | (have hpr := lift_drew kd; have hV := hpr.1; have hlt := hpr.2; clear hpr; have hge : w20.heap.size ≤ w20.heap.size := Nat.le_refl _) | (have hpr := lift_new kd; have hV := hpr.1; have hlt := hpr.2; clear hpr; have hge := zq) | skip); (first | (have vc := block_cell hV; have vf := block_free hV) | skip); have q : Below w20.heap.size w20 _ := Below.trans (by repeat (first | refine Below.setCell ?_ (by first | omega | (simp; omega) | simp) _ | refine Below.alloc ?_ (by first | omega | (simp; omega) | simp) _ | refine Below.drew ?_ | exact q)) (kd.mono (by first | exact zq | (simp; omega) | simp)); have zq := q.size))
      all_goals
        go_wp2_with fail
        go_meet
        case rel =>
          first
          | (have hp := put10_block hV (.slice A0 n0 k0) (.slice A1 n1 k1) (.int .i64 i2) (.slice A3 n3 k3) (.int .i64 i4) (.int .i64 i5) (.int .i64 i6) (.int .i64 i7) (.string s8) (.int .i64 i9)
             have hr := hsr.put hlt (.slice A0 n0 k0) (.slice A1 n1 k1) (.int .i64 i2) (.slice A3 n3 k3) (.int .i64 i4) (.int .i64 i5) (.int .i64 i6) (.int .i64 i7) (.string s8) (.int .i64 i9)
             have hq := put10_below q hge (.slice A0 n0 k0) (.slice A1 n1 k1) (.int .i64 i2) (.slice A3 n3 k3) (.int .i64 i4) (.int .i64 i5) (.int .i64 i6) (.int .i64 i7) (.string s8) (.int .i64 i9)
             exact ⟨_, _, _, _, _, _, _, _, _, _, _, _, _, _, _, _, _, _, rfl, hp, hr, hge, hq⟩)
          | exact ⟨_, _, _, _, _, _, _, _, _, _, _, _, _, _, _, _, _, _, rfl, block_new _ _ _, hsr.mono ((Below.refl _ _).alloc (Nat.le_refl _) _), zq, q.alloc zq _⟩
    case rest =>
      obtain ⟨V2, lo2, EA0, En0, Ek0, EA1, En1, Ek1, Ei2, EA3, En3, Ek3, Ei4, Ei5, Ei6, Ei7, Es8, Ei9, rfl, hV2, hsr2, -, hbz⟩ := hcut
      have hG := block_kept hG hbz
      have hmk := hmk.mono hbz
      have hz := hz.trans (hbz.mono hz.size)
      clear hM hX hB HS hbz
      have z1 := block_cell hV2
      have z2 := block_cell (block_kept HV0.out hz)
      go_wp2_with fail
      clear z1 z2
      refine (eqC hxx hsr2 (HSR.out.mono hz)).mono ?_
      rintro e w22 ⟨rfl, hb22⟩
      have hG22 := block_kept hG hb22
      have hmk22 := hmk.mono hb22
      have hz22 := hz.trans (hb22.mono hz.size)
      clear hG hmk hz hb22 hV2 hsr2
      have hz := hz22
      have z1 := block_cell hG22
      go_wp2_with fail
      clear z1
      refine (heldC hxx hmk22).mono ?_
      rintro e w23 ⟨he, hb23⟩
      rw [← HMI.out] at he
      subst he
      have HE : Hid (Below w.heap.size w w23) := HB0.out.trans ((hz.trans (hb23.mono hz.size)).mono HB0.out.size)
      clear hb23 hz hz22 hG22 hmk22
      go_wp2
      go_ret
      exact ⟨rfl, HE.out⟩
end Go.Proofs.YtcebgbcgkkfedaaGreat

namespace Go.Proofs.YtcebgbcgkkfedaaGreat
open Go.ChangeShapes Go.WideShapes Go.ChangeAt Go.RowKit Go.Joins
set_option linter.unusedVariables false

theorem own : ownKnob Tryz.prog.godebug = none := by kernel_rfl
theorem laidOut : laidOutB Tryz.prog = true := by kernel_rfl

set_option maxRecDepth 100000 in
theorem lifted (os : Os) (started : os.Started) (H : Type) (enc : TypeId × Value → H) :
    ReturnsInHanded {} Tryz.checked os 3 .any (Rows.fnExactCanonSpec.pre6 enc Tryz.prog Tryz.f3 Rows.fnExactCanonRow.domain false) (Rows.fnExactCanonSpec.post enc Tryz.prog Tryz.f3 false true false false) := by
  refine returnsInHanded_of_change (C := Tryz.checked) own started (by kernel_rfl) Tryz.func3
    (ChangeSpec.witness6 (enc := enc) (C := Tryz.checked) false ⟨#[], #[.agg #[.slice none 0 0, .slice none 0 0], .agg #[.slice none 0 0, .slice none 0 0, .int .i64 0, .slice none 0 0, .int .i64 0, .int .i64 0, .int .i64 0, .int .i64 0, .string ⟨#[]⟩, .int .i64 0]], []⟩ 8 (by kernel_rfl) (by kernel_rfl) (by kernel_rfl) (by kernel_rfl)) ?_
  intro W base args ds gs before hval0 hW hcnd _
  have hval : ∀ (j : Nat) t v, Tryz.f3.params[j]? = some t → args[j]? = some v → Value.okWide Tryz.prog W .any base t v := hval0
  have hW' := hW
  obtain ⟨p, q, hA0, hV, rfl, hfz, hnd⟩ := hW
  have hA : DataW.TrodAll enc Tryz.prog W 0 (fun _ => true) true Tryz.f3.params.toList args.toList ds p := hA0
  rw [Tryz.params3] at hA hval
  obtain ⟨v0, vs0, d0, ds0, p0, q0, hargs, rfl, rfl, h0, r0⟩ := trodAll_cons hA
  obtain ⟨v1, vs1, d1, ds1, p1, q1, hargs1, rfl, rfl, h1, r1⟩ := trodAll_cons r0
  obtain ⟨rfl, rfl, rfl⟩ := trodAll_nil r1
  obtain rfl : args = #[v0, v1] := by cases args; simp_all
  obtain ⟨rfl, rfl⟩ := trodVars_none hV
  have k0 := h0
  have k1 := h1
  have lt0 : ∀ x ∈ p0, x.block < W.heap.size := by obtain ⟨m, hm⟩ := k0; exact DataW.trod_lt m _ _ _ hm
  have lt1 : ∀ x ∈ p1, x.block < W.heap.size := by obtain ⟨m, hm⟩ := k1; exact DataW.trod_lt m _ _ _ hm
  obtain ⟨u0, u1, y0, y1, n, rfl, hd, -, t0, t1⟩ := open_agg2 Tryz.underlying25 (by kernel_rfl) (by kernel_rfl) (hval 0 25 v0 rfl rfl) h0
  obtain ⟨a1, c1, ts, rfl, hn1, hs1, hm1⟩ := read_strs Tryz.underlying22 Tryz.underlying9 (by kernel_rfl) t0
  obtain ⟨a2, c2, fs, rfl, hn2, hs2, hm2⟩ := read_fns Tryz.underlying23 Tryz.underlying75 (by kernel_rfl) rfl rfl rfl (by kernel_rfl) (by kernel_rfl) (by kernel_rfl) Tryz.underlying3 Tryz.underlying3 rfl
    Tryz.underlying73 Tryz.underlying153 (by kernel_rfl) rfl rfl (by kernel_rfl) (by kernel_rfl) Tryz.underlying3 Tryz.underlying3 t1
  obtain ⟨fa, ha, oa, fc, hcp, oc, D, rfl, hxD, hmD⟩ := open_vm (hval 1 31 v1 rfl rfl) h1
  clear hA0 hval0
  refine (lawCanon a1 a2 ts fs c1 c2 D fa ha oa fc hcp oc W hn1 hs1 hm1 hn2 hs2 hm2 hxD hmD).mono fun e W' ⟨he, bel⟩ => ?_
  subst he
  exact ⟨_, rfl, _, _, _, [], _, [], hW', trodAll_mk1 (shut_bool Tryz.underlying4 _), (trodAll_cons_mk (Below.trod laidOut (by kernel_rfl) (of_decide_eq_true (by kernel_rfl)) k0 bel lt0) (trodAll_cons_mk (Below.trod laidOut (by kernel_rfl) (of_decide_eq_true (by kernel_rfl)) k1 bel lt1) trodAll_mk0)), rfl, bel.frame _, fun h => by cases h⟩

theorem over : Rows.fnExactCanonRow.holds Tryz.pinned (OpenSpec.ofChange Rows.fnExactCanonSpec) :=
  OpenClaim.holds_of_wide 3 Tryz.f3 rfl rfl rfl rfl rfl rfl rfl ⟨rfl, rfl, rfl, rfl, rfl⟩ rfl rfl rfl rfl rfl (by kernel_rfl) Tryz.func3 (by kernel_rfl)
    (of_decide_eq_true (by kernel_rfl)) (by unfold Func.isWrapper; first | (rw [if_pos (by decide +kernel)]; kernel_rfl) | (rw [if_neg (by decide +kernel)]; exact ⟨rfl, rfl⟩))
    (fun os started H enc _ => lifted os started H enc)

theorem fnExactCanon_holds : Rows.FnExactCanonSaid := over
#print axioms fnExactCanon_holds
end Go.Proofs.YtcebgbcgkkfedaaGreat
