/-
  A tier as plain data: its cells, what the laws' sizing returns of it.
-/
import Derived.Test.YtopbdjplpnojmaaKG
import Derived.Test.YtopbdjplpnojmaaBS
import Derived.Test.YtopbdjplpnojmaaBF
import Derived.Test.YtopbdjplpnojmaaE4
import Derived.Test.YtopbdjplpnojmaaMV
namespace Go.Proofs.Ytopbdjplpnojmaa
open Go.RowKit

structure TrD where
  vm : VmD
  sites : List Si
  codes : List FastD
  fails : List Si
  guards : Int
  entered : Int
/-- The cells of a tier. -/
def trCells (fa ha oa : Option Addr) (fc hc oc : Nat) (sa : Option Addr) (sc : Nat) (ca : Option Addr) (cc : Nat) (la : Option Addr) (lc : Nat) (D : TrD) : Array Value := #[.slice fa D.vm.frames.length fc, .slice ha D.vm.heap.length hc, .int .i64 D.vm.made, .slice oa D.vm.out.length oc, .int .i64 D.vm.status, .int .i64 D.vm.trap, .int .i64 D.vm.value.k, .int .i64 D.vm.value.n, .string D.vm.value.s, .int .i64 D.vm.steps, .slice sa D.sites.length sc, .slice ca D.codes.length cc, .slice la D.fails.length lc, .int .i64 D.guards, .int .i64 D.entered]
structure TrMax (D : TrD) : Prop where
  vm : VmMax D.vm
  sites : D.sites.length ≤ maxLen
  codes : LMax FastDMax D.codes
  fails : D.fails.length ≤ maxLen
structure TrSmall (D : TrD) : Prop where
  vm : VmSmall D.vm
  sites : D.sites.length ≤ 1048576
  codes : LSmall FastDSmall D.codes
  fails : D.fails.length ≤ 1048576
  much : LM mFast D.codes ≤ 1048576
structure TrAt (w : World) (lo : Nat) (fa ha oa sa ca la : Option Addr) (D : TrD) : Prop where
  vm : VmAt w lo fa ha oa D.vm
  sites : SitesAt w lo sa D.sites
  codes : FasAt w lo ca D.codes
  fails : SitesAt w lo la D.fails
theorem TrAt.mono {w w' : World} {lo : Nat} {fa ha oa sa ca la : Option Addr} {D : TrD} (h : TrAt w lo fa ha oa sa ca la D) (hb : Below w.heap.size w w') : TrAt w' lo fa ha oa sa ca la D := ⟨h.vm.mono hb, h.sites.mono hb, h.codes.mono hb, h.fails.mono hb⟩
theorem TrAt.low {w : World} {lo lo' : Nat} {fa ha oa sa ca la : Option Addr} {D : TrD} (h : TrAt w lo fa ha oa sa ca la D) (hl : lo' ≤ lo) : TrAt w lo' fa ha oa sa ca la D := ⟨h.vm.low hl, h.sites.low hl, h.codes.low hl, h.fails.low hl⟩
/-- The block of a row of four numbers each. -/
def QB (w : World) (lo g t n : Nat) : Prop := lo ≤ g ∧ ∃ cur : Array Value, w.heap[g]? = some (.cells cur t (0, 0)) ∧ cur.size = n * 4
theorem QB.mono {w w' : World} {lo g t n : Nat} (h : QB w lo g t n) (hb : Below w.heap.size w w') : QB w' lo g t n := by
  obtain ⟨h1, c, h2, h3⟩ := h
  exact ⟨h1, c, block_kept h2 hb, h3⟩
theorem QB.above {w w' : World} {lo g t n : Nat} (h : QB w lo g t n) (hb : Above lo w w') : QB w' lo g t n := by
  obtain ⟨h1, c, h2, h3⟩ := h
  exact ⟨h1, c, by rw [hb g h1 (lt_block h2)]; exact h2, h3⟩
theorem QB.low {w : World} {lo lo' g t n : Nat} (h : QB w lo g t n) (hl : lo' ≤ lo) : QB w lo' g t n := ⟨Nat.le_trans hl h.1, h.2⟩
theorem QB.keeps {w w' : World} {lo lo' g t n : Nat} {ts : List Nat} (h : QB w lo g t n) (hk : Keeps lo' ts w w') (ht : t ∉ ts) : QB w' lo g t n := by
  obtain ⟨h1, c, h2, h3⟩ := h
  exact ⟨h1, c, hk.cell h2 ht, h3⟩
theorem SitesAt.above {w w' : World} {lo : Nat} {a : Option Addr} {ss : List Si} (h : SitesAt w lo a ss) (hb : Above lo w w') : SitesAt w' lo a ss := by
  intro i hi
  obtain ⟨b, off, h1, h2, h3, h4, h5, h6⟩ := h i hi
  exact ⟨b, off, h1, h2, hb.cell h2 h3, hb.cell h2 h4, hb.cell h2 h5, hb.cell h2 h6⟩
/-- A copy of a tier, with its blocks. -/
structure TrB (w : World) (lo : Nat) (g g2 g3 g4 g5 g6 : Nat) (D : TrD) : Prop where
  vm : VmB w lo (some ⟨g, 0, none⟩) (some ⟨g2, 0, none⟩) (some ⟨g3, 0, none⟩) D.vm
  sites : SitesAt w lo (some ⟨g4, 0, none⟩) D.sites
  sblk : QB w lo g4 89 D.sites.length
  codes : FaY w lo (some ⟨g5, 0, none⟩) D.codes
  fails : SitesAt w lo (some ⟨g6, 0, none⟩) D.fails
  fblk : QB w lo g6 58 D.fails.length
theorem TrB.at {w : World} {lo : Nat} {g g2 g3 g4 g5 g6 : Nat} {D : TrD} (h : TrB w lo g g2 g3 g4 g5 g6 D) : TrAt w lo (some ⟨g, 0, none⟩) (some ⟨g2, 0, none⟩) (some ⟨g3, 0, none⟩) (some ⟨g4, 0, none⟩) (some ⟨g5, 0, none⟩) (some ⟨g6, 0, none⟩) D := ⟨h.vm.at, h.sites, h.codes.at_, h.fails⟩
theorem TrB.mono {w w' : World} {lo : Nat} {g g2 g3 g4 g5 g6 : Nat} {D : TrD} (h : TrB w lo g g2 g3 g4 g5 g6 D) (hb : Below w.heap.size w w') : TrB w' lo g g2 g3 g4 g5 g6 D := ⟨h.vm.mono hb, h.sites.mono hb, h.sblk.mono hb, h.codes.mono hb, h.fails.mono hb, h.fblk.mono hb⟩
theorem TrB.low {w : World} {lo lo' : Nat} {g g2 g3 g4 g5 g6 : Nat} {D : TrD} (h : TrB w lo g g2 g3 g4 g5 g6 D) (hl : lo' ≤ lo) : TrB w lo' g g2 g3 g4 g5 g6 D := ⟨h.vm.low hl, h.sites.low hl, h.sblk.low hl, h.codes.low hl, h.fails.low hl, h.fblk.low hl⟩

set_option maxRecDepth 100000 in
set_option maxHeartbeats 8000000 in
theorem szTier_m (fa ha oa : Option Addr) (fc hc oc : Nat) (sa : Option Addr) (sc : Nat) (ca : Option Addr) (cc : Nat) (la : Option Addr) (lc : Nat) (D : TrD) (left : Int) (w : World) (h0 : 0 ≤ left) (h1 : left ≤ 1048576) (hx : TrMax D) (hm : TrAt w 0 fa ha oa sa ca la D) :
    Calls Try.prog 4 #[.agg (trCells fa ha oa fc hc oc sa sc ca cc la lc D), .int .i64 left] w fun e w' => ∃ r : Int, e = .returned (.int .i64 r) ∧ r ≤ left ∧ (0 ≤ r → TrSmall D) ∧ Below w.heap.size w w' := by
  unfold trCells
  have hbA : Below w.heap.size w (w.alloc (.cells #[.slice fa D.vm.frames.length fc, .slice ha D.vm.heap.length hc, .int .i64 D.vm.made, .slice oa D.vm.out.length oc, .int .i64 D.vm.status, .int .i64 D.vm.trap, .int .i64 D.vm.value.k, .int .i64 D.vm.value.n, .string D.vm.value.s, .int .i64 D.vm.steps, .slice sa D.sites.length sc, .slice ca D.codes.length cc, .slice la D.fails.length lc, .int .i64 D.guards, .int .i64 D.entered] 33)) := (Below.refl _ _).alloc (Nat.le_refl _) _
  have hM0 := block_new w #[.slice fa D.vm.frames.length fc, .slice ha D.vm.heap.length hc, .int .i64 D.vm.made, .slice oa D.vm.out.length oc, .int .i64 D.vm.status, .int .i64 D.vm.trap, .int .i64 D.vm.value.k, .int .i64 D.vm.value.n, .string D.vm.value.s, .int .i64 D.vm.steps, .slice sa D.sites.length sc, .slice ca D.codes.length cc, .slice la D.fails.length lc, .int .i64 D.guards, .int .i64 D.entered] 33
  go_enter Try.func4, Try.ntmps4
  go_wp2_with fail
  refine (szVm_any fa ha oa fc hc oc D.vm left _ h0 h1 hx.vm (hm.vm.frs.mono hbA) (hm.vm.recs.mono hbA) (hm.vm.out.mono hbA)).mono ?_
  rintro e w1 ⟨r1, rfl, hr1, hs1, hb1⟩
  have hB1 := hbA.trans (hb1.mono hbA.size)
  have hM1 := block_kept hM0 hb1
  clear hM0 hb1 hbA
  by_cases hn1 : r1 < 0
  · clear hs1
    go_wp2
    go_ret
    exact ⟨-1, rfl, by omega, by omega, hB1⟩
  have HS1 : Hid (VmSmall D.vm) := hs1 (by omega)
  clear hs1
  have y1 := block_cell hM1
  go_wp2_with fail
  refine (szSiteS_any sa D.sites.length sc r1 _ (by omega) (by omega) hx.sites).mono ?_
  rintro e w2 ⟨rfl, hw⟩
  rw [hw]
  clear hw w2
  by_cases hn2 : r1 < (D.sites.length : Int)
  · rw [if_pos hn2]
    go_wp2
    go_ret
    exact ⟨-1, rfl, by omega, by omega, hB1⟩
  rw [if_neg hn2]
  have hz2 : ¬ r1 - (D.sites.length : Int) < 0 := by omega
  go_wp2_with fail
  refine (szFastS_m ca D.codes cc (r1 - D.sites.length) _ (by omega) (by omega) hx.codes (hm.codes.mono hB1)).mono ?_
  rintro e w3 ⟨r3, rfl, hr3, hs3, hb3⟩
  have hB3 := hB1.trans (hb3.mono hB1.size)
  have hM3 := block_kept hM1 hb3
  clear hM1 hb3 y1
  by_cases hn3 : r3 < 0
  · clear hs3
    go_wp2
    go_ret
    exact ⟨-1, rfl, by omega, by omega, hB3⟩
  have HS3 : Hid (LSmall FastDSmall D.codes ∧ (LM mFast D.codes : Int) + r3 ≤ r1 - D.sites.length) := hs3 (by omega)
  clear hs3
  have y3 := block_cell hM3
  go_wp2_with fail
  refine (szFailS_any la D.fails.length lc r3 _ (by omega) (by omega) hx.fails).mono ?_
  rintro e w4 ⟨rfl, hw⟩
  rw [hw]
  clear hw w4
  by_cases hn4 : r3 < (D.fails.length : Int)
  · rw [if_pos hn4]
    go_wp2
    go_ret
    exact ⟨-1, rfl, by omega, by omega, hB3⟩
  rw [if_neg hn4]
  have hz4 : ¬ r3 - (D.fails.length : Int) < 0 := by omega
  go_wp2
  go_ret
  exact ⟨_, rfl, by omega, fun _ => ⟨HS1.out, by omega, HS3.out.1, by omega, by have := HS3.out.2; omega⟩, hB3⟩
end Go.Proofs.Ytopbdjplpnojmaa
