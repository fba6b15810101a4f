/-
  Two tiers compared.
-/
import Derived.Test.YtopbdjplpnojmaaT1
import Derived.Test.YtopbdjplpnojmaaKI
namespace Go.Proofs.Ytopbdjplpnojmaa
open Go.RowKit

set_option maxRecDepth 100000 in
set_option maxHeartbeats 8000000 in
theorem eqTier_any (fa ha oa : Option Addr) (fc hc oc : Nat) (sa : Option Addr) (sc : Nat) (ca : Option Addr) (cc : Nat) (la : Option Addr) (lc : Nat) (fb hb ob : Option Addr) (fe he oe : Nat) (sb : Option Addr) (se : Nat) (cb : Option Addr) (ce : Nat) (lb : Option Addr) (le : Nat) (D : TrD) (w : World) (hx : TrSmall D) (hm : TrAt w 0 fa ha oa sa ca la D) (hm2 : TrAt w 0 fb hb ob sb cb lb D) :
    Calls Try.prog 9 #[.agg (trCells fa ha oa fc hc oc sa sc ca cc la lc D), .agg (trCells fb hb ob fe he oe sb se cb ce lb le D)] w fun e w' => e = .returned (.bool true) ∧ Below w.heap.size w w' := by
  unfold trCells
  have hbA : Below w.heap.size w ((w.alloc (.cells #[.slice fa D.vm.frames.length fc, .slice ha D.vm.heap.length hc, .int .i64 D.vm.made, .slice oa D.vm.out.length oc, .int .i64 D.vm.status, .int .i64 D.vm.trap, .int .i64 D.vm.value.k, .int .i64 D.vm.value.n, .string D.vm.value.s, .int .i64 D.vm.steps, .slice sa D.sites.length sc, .slice ca D.codes.length cc, .slice la D.fails.length lc, .int .i64 D.guards, .int .i64 D.entered] 46)).alloc (.cells #[.slice fb D.vm.frames.length fe, .slice hb D.vm.heap.length he, .int .i64 D.vm.made, .slice ob D.vm.out.length oe, .int .i64 D.vm.status, .int .i64 D.vm.trap, .int .i64 D.vm.value.k, .int .i64 D.vm.value.n, .string D.vm.value.s, .int .i64 D.vm.steps, .slice sb D.sites.length se, .slice cb D.codes.length ce, .slice lb D.fails.length le, .int .i64 D.guards, .int .i64 D.entered] 46)) := ((Below.refl _ _).alloc (Nat.le_refl _) _).alloc (by simp) _
  have hX0 := block_old (block_new w #[.slice fa D.vm.frames.length fc, .slice ha D.vm.heap.length hc, .int .i64 D.vm.made, .slice oa D.vm.out.length oc, .int .i64 D.vm.status, .int .i64 D.vm.trap, .int .i64 D.vm.value.k, .int .i64 D.vm.value.n, .string D.vm.value.s, .int .i64 D.vm.steps, .slice sa D.sites.length sc, .slice ca D.codes.length cc, .slice la D.fails.length lc, .int .i64 D.guards, .int .i64 D.entered] 46) (.cells #[.slice fb D.vm.frames.length fe, .slice hb D.vm.heap.length he, .int .i64 D.vm.made, .slice ob D.vm.out.length oe, .int .i64 D.vm.status, .int .i64 D.vm.trap, .int .i64 D.vm.value.k, .int .i64 D.vm.value.n, .string D.vm.value.s, .int .i64 D.vm.steps, .slice sb D.sites.length se, .slice cb D.codes.length ce, .slice lb D.fails.length le, .int .i64 D.guards, .int .i64 D.entered] 46)
  have hY0 := block_new (w.alloc (.cells #[.slice fa D.vm.frames.length fc, .slice ha D.vm.heap.length hc, .int .i64 D.vm.made, .slice oa D.vm.out.length oc, .int .i64 D.vm.status, .int .i64 D.vm.trap, .int .i64 D.vm.value.k, .int .i64 D.vm.value.n, .string D.vm.value.s, .int .i64 D.vm.steps, .slice sa D.sites.length sc, .slice ca D.codes.length cc, .slice la D.fails.length lc, .int .i64 D.guards, .int .i64 D.entered] 46)) #[.slice fb D.vm.frames.length fe, .slice hb D.vm.heap.length he, .int .i64 D.vm.made, .slice ob D.vm.out.length oe, .int .i64 D.vm.status, .int .i64 D.vm.trap, .int .i64 D.vm.value.k, .int .i64 D.vm.value.n, .string D.vm.value.s, .int .i64 D.vm.steps, .slice sb D.sites.length se, .slice cb D.codes.length ce, .slice lb D.fails.length le, .int .i64 D.guards, .int .i64 D.entered] 46
  simp only [World.size_alloc] at hY0
  have hcall := eqVm_any fa ha oa fb hb ob fc hc oc fe he oe D.vm ((w.alloc (.cells #[.slice fa D.vm.frames.length fc, .slice ha D.vm.heap.length hc, .int .i64 D.vm.made, .slice oa D.vm.out.length oc, .int .i64 D.vm.status, .int .i64 D.vm.trap, .int .i64 D.vm.value.k, .int .i64 D.vm.value.n, .string D.vm.value.s, .int .i64 D.vm.steps, .slice sa D.sites.length sc, .slice ca D.codes.length cc, .slice la D.fails.length lc, .int .i64 D.guards, .int .i64 D.entered] 46)).alloc (.cells #[.slice fb D.vm.frames.length fe, .slice hb D.vm.heap.length he, .int .i64 D.vm.made, .slice ob D.vm.out.length oe, .int .i64 D.vm.status, .int .i64 D.vm.trap, .int .i64 D.vm.value.k, .int .i64 D.vm.value.n, .string D.vm.value.s, .int .i64 D.vm.steps, .slice sb D.sites.length se, .slice cb D.codes.length ce, .slice lb D.fails.length le, .int .i64 D.guards, .int .i64 D.entered] 46)) hx.vm (hm.vm.mono hbA) (hm2.vm.mono hbA)
  unfold vmCells at hcall
  go_enter Try.func9, Try.ntmps9
  go_wp2_with fail
  refine hcall.mono ?_
  rintro e w1 ⟨rfl, hbn⟩
  have hB1 := hbA.trans (hbn.mono hbA.size)
  have hX1 := block_kept hX0 hbn
  have hY1 := block_kept hY0 hbn
  have x1 := block_cell hX1
  have y1 := block_cell hY1
  clear hbA hX0 hY0 hbn hcall
  go_wp2_with fail
  refine (eqSiteS_any sa sb D.sites sc se _ hx.sites (hm.sites.mono hB1) (hm2.sites.mono hB1)).mono ?_
  rintro e w2 ⟨rfl, hbn⟩
  have hB2 := hB1.trans (hbn.mono hB1.size)
  have hX2 := block_kept hX1 hbn
  have hY2 := block_kept hY1 hbn
  clear x1 y1 hX1 hY1 hB1 hbn
  have x2 := block_cell hX2
  have y2 := block_cell hY2
  go_wp2_with fail
  refine (eqFastS_any ca cb D.codes cc ce _ hx.codes (hm.codes.mono hB2) (hm2.codes.mono hB2)).mono ?_
  rintro e w3 ⟨rfl, hbn⟩
  have hB3 := hB2.trans (hbn.mono hB2.size)
  have hX3 := block_kept hX2 hbn
  have hY3 := block_kept hY2 hbn
  clear x2 y2 hX2 hY2 hB2 hbn
  have x3 := block_cell hX3
  have y3 := block_cell hY3
  go_wp2_with fail
  refine (eqFailS_any la lb D.fails lc le _ hx.fails (hm.fails.mono hB3) (hm2.fails.mono hB3)).mono ?_
  rintro e w4 ⟨rfl, hbn⟩
  have hB4 := hB3.trans (hbn.mono hB3.size)
  have hX4 := block_kept hX3 hbn
  have hY4 := block_kept hY3 hbn
  clear x3 y3 hX3 hY3 hB3 hbn
  have x4 := block_cell hX4
  have y4 := block_cell hY4
  go_wp2
  go_ret
  exact ⟨rfl, hB4⟩
end Go.Proofs.Ytopbdjplpnojmaa
