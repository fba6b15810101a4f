/-
  The guesses that are not made again: what both sides return.
-/
import Derived.Test.YtopbdjplpnojmaaT1
import Derived.Test.YtopbdjplpnojmaaBG
import Derived.Deep.RegionHeld3
import Derived.Deep.DeepCutAuto
import Derived.Deep.CutRange
namespace Go.Proofs.Ytopbdjplpnojmaa
open Go.RowKit

/-- The guess of a Fail. -/
def gsF (s : Si) : Si := ⟨s.f, s.pc, s.seen, 0⟩
def blackE (s : Si) : List Si := if 3 ≤ s.target then [gsF s] else []
def blackT (fs : List Si) (k : Nat) : List Si := ((fs.take k).map blackE).flatten
/-- What is answered of Fails. -/
def blackL (fs : List Si) : List Si := blackT fs fs.length
theorem blackT_zero (fs : List Si) : blackT fs 0 = [] := rfl
theorem blackT_succ (fs : List Si) (k : Nat) (h : k < fs.length) : blackT fs (k + 1) = blackT fs k ++ blackE fs[k] := by
  unfold blackT
  rw [List.take_succ_eq_append_getElem h, List.map_append, List.flatten_append]
  simp only [List.map_cons, List.map_nil, List.flatten_cons, List.flatten_nil, List.append_nil]
theorem blackT_yes (fs : List Si) (k : Nat) (h : k < fs.length) (h2 : 3 ≤ fs[k].target) : blackT fs (k + 1) = blackT fs k ++ [gsF fs[k]] := by rw [blackT_succ fs k h]; unfold blackE; rw [if_pos h2]
theorem blackT_no (fs : List Si) (k : Nat) (h : k < fs.length) (h2 : ¬ 3 ≤ fs[k].target) : blackT fs (k + 1) = blackT fs k := by rw [blackT_succ fs k h]; unfold blackE; rw [if_neg h2, List.append_nil]
theorem blackT_len (fs : List Si) : ∀ k, k ≤ fs.length → (blackT fs k).length ≤ k
  | 0, _ => by simp [blackT_zero]
  | k + 1, hk => by
    have h1 := blackT_len fs k (by omega)
    by_cases h2 : 3 ≤ fs[k].target
    · rw [blackT_yes fs k (by omega) h2, List.length_append]; simp; omega
    · rw [blackT_no fs k (by omega) h2]; omega
theorem flatS_one (s : Si) : flatS [s] = [.int .i64 s.f, .int .i64 s.pc, .int .i64 s.seen, .int .i64 s.target] := by simp [flatS, Si.cells]
theorem infoSp : (Try.prog.info? 60).map (fun i => (i.zero, i.size, i.bytes)) = some (some (.agg #[.int .i64 0, .int .i64 0, .int .i64 0, .int .i64 0]), 4, 32) := by kernel_rfl
theorem heap_newS (w : World) (cs : Array Value) (t : TypeId) : (w.alloc (.cells cs t)).heap[w.heap.size]? = some (.cells cs t (0, 0)) := block_new w cs t
theorem block_newS (w : World) (C : Array Value) (t : TypeId) (g : Nat) (h : w.heap.size = g) : (w.alloc (.cells C t)).heap[g]? = some (.cells C t (0, 0)) := by subst h; exact block_new w C t

set_option maxHeartbeats 400000 in
theorem guessOf_any (f p s t : Int) (w : World) :
    Calls Try.prog 43 #[.agg #[.int .i64 f, .int .i64 p, .int .i64 s, .int .i64 t]] w fun e w' => e = .returned (.agg #[.int .i64 f, .int .i64 p, .int .i64 s, .int .i64 0]) ∧ Below w.heap.size w w' := by
  go_enter Try.func43, Try.ntmps43
  go_wp2
  refine bodyPost_ret (v := .agg #[.int .i64 f, .int .i64 p, .int .i64 s, .int .i64 0]) (by simp [results, Try.results43, go_sem]) rfl ⟨rfl, ?_⟩
  repeat (first | refine Below.setCell ?_ (by first | omega | (simp; omega) | simp) _ | refine Below.alloc ?_ (by first | omega | (simp; omega) | simp) _ | exact Below.refl _ _)

set_option maxRecDepth 100000 in
set_option maxHeartbeats 4000000 in
theorem blackIn_any (a : Option Addr) (fs : List Si) (fc : Nat) (w : World) (hn : fs.length ≤ 1048576) (hm : SitesAt w 0 a fs) :
    Calls Try.prog 21 #[.slice a fs.length fc] w fun e w' => ∃ xa xc, e = .returned (.slice xa (blackL fs).length xc) ∧ w'.ownsRow w.heap.size 60 4 (.slice xa (blackL fs).length xc) (blackL fs).length (flatS (blackL fs)) ∧ Below w.heap.size w w' := by
  obtain ⟨i0, hi, hz0, hz1, hz2⟩ := info_parts infoSp
  have hO0 : w.ownsRow w.heap.size 60 4 (.slice none 0 0) 0 (flatS []) := ⟨rfl, .inl ⟨rfl, rfl⟩⟩
  go_enter Try.func21, Try.ntmps21
  go_wp2
  go_loopw [3, 8] (fun q i wr => ∃ (k : Nat), k ≤ fs.length ∧ i = .int .i64 k ∧ (∃ xa cap, q = .slice xa (blackT fs k).length cap) ∧ wr.ownsRow w.heap.size 60 4 q (blackT fs k).length (flatS (blackT fs k)) ∧ Hid (Below w.heap.size w wr)) (fun _ i _ => fs.length - (intOf i).toNat)
  case atStart => exact ⟨0, by omega, rfl, ⟨_, _, rfl⟩, hO0, Below.refl _ _⟩
  case round =>
    obtain ⟨k, hk, rfl, ⟨xa, cap, rfl⟩, hown, HB⟩ := hrel
    clear hO0
    have hkl := blackT_len fs k hk
    by_cases hlt : k < fs.length
    case neg =>
      obtain rfl : k = fs.length := by omega
      have z2 : ¬ (fs.length : Int) < (fs.length : Int) := by omega
      have HO := hid hown
      clear hown
      go_wp2
      go_ret
      exact ⟨xa, cap, rfl, HO.out, HB.out⟩
    have zk : (k : Int) < (fs.length : Int) := by omega
    obtain ⟨be, oe, rfl, -, e0, e1, e2, e3⟩ := hm k hlt
    have f0 := cell_later HB.out e0
    have f1 := cell_later HB.out e1
    have f2 := cell_later HB.out e2
    have f3 := cell_later HB.out e3
    clear e0 e1 e2 e3
    obtain ⟨wb, hwb⟩ : ∃ wb, wb = wr.alloc (.cells #[.int .i64 fs[k].f, .int .i64 fs[k].pc, .int .i64 fs[k].seen, .int .i64 fs[k].target] 58) := ⟨_, rfl⟩
    have hownb : wb.ownsRow w.heap.size 60 4 (.slice xa (blackT fs k).length cap) (blackT fs k).length (flatS (blackT fs k)) := by rw [hwb]; exact World.ownsRow.alloc hown _
    have HBB : Hid (Below w.heap.size w wb) := by rw [hwb]; exact HB.out.alloc HB.out.size _
    have hXb : wb.heap[wr.heap.size]? = some (.cells #[.int .i64 fs[k].f, .int .i64 fs[k].pc, .int .i64 fs[k].seen, .int .i64 fs[k].target] 58 (0, 0)) := by rw [hwb]; exact block_new _ _ _
    by_cases hk2 : 3 ≤ fs[k].target
    case neg =>
      have HT : Hid (blackT fs (k + 1) = blackT fs k) := blackT_no fs k hlt hk2
      have x1 := block_cell hXb
      go_upto_region 5 with fail
      rw [← hwb]
      clear hwb f0 f1 f2 f3 hown
      go_wp2
      go_roundw
      case rel => exact ⟨k + 1, by omega, by go_num, ⟨xa, cap, by rw [HT.out]⟩, by rw [HT.out]; exact hownb, HBB⟩
      case measure => simp [intOf]; omega
    have HT : Hid (blackT fs (k + 1) = blackT fs k ++ [gsF fs[k]]) := blackT_yes fs k hlt hk2
    have x1 := block_cell hXb
    have hszr := HBB.out.size
    have hlx : wr.heap.size < wb.heap.size := lt_block hXb
    go_upto_region 5 with fail
    rw [← hwb]
    clear hwb f0 f1 f2 f3 hown
    go_upto_region 6 with fail
    go_wp2_with (first
      | (go_at_call 43; refine (guessOf_any _ _ _ _ _).mono ?_; rintro e wg ⟨rfl, hbg⟩; have hownb := own_below hownb hbg; have HBG : Hid (Below w.heap.size w wg) := hid (HBB.out.trans (hbg.mono HBB.out.size)); have hszg := HBG.out.size)
      | (at_builtin; refine wpList_append_lies _ rfl _ _ 35 rfl w.heap.size 60 i0 (.agg #[.int .i64 0, .int .i64 0, .int .i64 0, .int .i64 0]) 4 32 Try.underlying35 hi hz0 hz1 hz2 rfl (by decide) _ _ _ rfl (World.ownsRow.alloc hownb _) ⟨wg.heap.size, 0, none⟩ 1 1 [.int .i64 fs[k].f, .int .i64 fs[k].pc, .int .i64 fs[k].seen, .int .i64 0] rfl rfl (World.news_of_block (cs := #[.int .i64 fs[k].f, .int .i64 fs[k].pc, .int .i64 fs[k].seen, .int .i64 0]) (t := 60) (fr := (0, 0)) (heap_newS wg _ _)) (by simp [Value.oneCell']) (by decide) (by unfold maxLen; omega) (by omega) (by simp; omega) _ rfl ?_; intro g1 cap1 w1 hown1 hgrow1 hat1 hlt1))
    have hk1 := Keeps.grown (ts := [60]) (World.ownsRow.alloc hownb _) hgrow1 (by simp)
    have HB1 : Hid (Below w.heap.size w w1) := (HBG.out.alloc HBG.out.size _).trans (hk1.toBelow (by simp; omega))
    go_roundw
    case rel => exact ⟨k + 1, by omega, by go_num, ⟨some ⟨g1, 0, none⟩, cap1, by rw [HT.out]; simp⟩, by rw [HT.out, flatS_app, flatS_one]; simpa [gsF] using hown1, HB1⟩
    case measure => simp [intOf]; omega

set_option maxRecDepth 100000 in
set_option maxHeartbeats 4000000 in
theorem iBlack_any (fa ha oa : Option Addr) (fc hc oc : Nat) (sa : Option Addr) (sc : Nat) (ca : Option Addr) (cc : Nat) (la : Option Addr) (lc : Nat) (D : TrD) (w : World) (hn : D.fails.length ≤ 1048576) (hm : SitesAt w 0 la D.fails) :
    Calls Try.prog 7 #[.agg (trCells fa ha oa fc hc oc sa sc ca cc la lc D)] w fun e w' => ∃ xa xc, e = .returned (.slice xa (blackL D.fails).length xc) ∧ w'.ownsRow w.heap.size 60 4 (.slice xa (blackL D.fails).length xc) (blackL D.fails).length (flatS (blackL D.fails)) ∧ Below w.heap.size w w' := by
  unfold trCells
  obtain ⟨wA, hwA⟩ : ∃ wA, wA = w.alloc (.cells #[.slice fa D.vm.frames.length fc, .slice ha D.vm.heap.length hc, .int .i64 D.vm.made, .slice oa D.vm.out.length oc, .int .i64 D.vm.status, .int .i64 D.vm.trap, .int .i64 D.vm.value.k, .int .i64 D.vm.value.n, .string D.vm.value.s, .int .i64 D.vm.steps, .slice sa D.sites.length sc, .slice ca D.codes.length cc, .slice la D.fails.length lc, .int .i64 D.guards, .int .i64 D.entered] 46) := ⟨_, rfl⟩
  have hbA : Below w.heap.size w wA := by rw [hwA]; exact (Below.refl _ _).alloc (Nat.le_refl _) _
  have hI : wA.heap[w.heap.size]? = some (.cells #[.slice fa D.vm.frames.length fc, .slice ha D.vm.heap.length hc, .int .i64 D.vm.made, .slice oa D.vm.out.length oc, .int .i64 D.vm.status, .int .i64 D.vm.trap, .int .i64 D.vm.value.k, .int .i64 D.vm.value.n, .string D.vm.value.s, .int .i64 D.vm.steps, .slice sa D.sites.length sc, .slice ca D.codes.length cc, .slice la D.fails.length lc, .int .i64 D.guards, .int .i64 D.entered] 46 (0, 0)) := by rw [hwA]; exact block_new _ _ _
  have hcall := blackIn_any la D.fails lc wA hn (hm.mono hbA)
  go_enter Try.func7, Try.ntmps7
  have i1 := block_cell hI
  go_wp2_with fail
  rw [← hwA]
  refine hcall.mono ?_
  rintro e w1 ⟨xa, xc, rfl, ho, hb⟩
  have HR := hid (And.intro (own_lowz ho hbA.size) (hbA.trans (hb.mono hbA.size)))
  clear hcall hwA hI i1 ho hb hbA
  go_wp2
  go_ret
  exact ⟨xa, xc, rfl, HR.out.1, HR.out.2⟩

set_option maxRecDepth 100000 in
set_option maxHeartbeats 4000000 in
theorem sBlack_any (fa ha oa : Option Addr) (fc hc oc : Nat) (sa : Option Addr) (sc : Nat) (ca : Option Addr) (cc : Nat) (la : Option Addr) (lc : Nat) (D : TrD) (w : World) (hn : D.fails.length ≤ 1048576) (hm : SitesAt w 0 la D.fails) :
    Calls Try.prog 5 #[.agg (trCells fa ha oa fc hc oc sa sc ca cc la lc D)] w fun e w' => ∃ xa xc, e = .returned (.slice xa (blackL D.fails).length xc) ∧ w'.ownsRow w.heap.size 60 4 (.slice xa (blackL D.fails).length xc) (blackL D.fails).length (flatS (blackL D.fails)) ∧ Below w.heap.size w w' := by
  obtain ⟨i0, hi, hz0, hz1, hz2⟩ := info_parts infoSp
  unfold trCells
  obtain ⟨wA, hwA⟩ : ∃ wA, wA = (w.alloc (.cells #[.slice fa D.vm.frames.length fc, .slice ha D.vm.heap.length hc, .int .i64 D.vm.made, .slice oa D.vm.out.length oc, .int .i64 D.vm.status, .int .i64 D.vm.trap, .int .i64 D.vm.value.k, .int .i64 D.vm.value.n, .string D.vm.value.s, .int .i64 D.vm.steps, .slice sa D.sites.length sc, .slice ca D.codes.length cc, .slice la D.fails.length lc, .int .i64 D.guards, .int .i64 D.entered] 46)).alloc (.cells #[] 60) := ⟨_, rfl⟩
  have hbA : Below w.heap.size w wA := by rw [hwA]; exact ((Below.refl _ _).alloc (Nat.le_refl _) _).alloc (by simp) _
  have hI : wA.heap[w.heap.size]? = some (.cells #[.slice fa D.vm.frames.length fc, .slice ha D.vm.heap.length hc, .int .i64 D.vm.made, .slice oa D.vm.out.length oc, .int .i64 D.vm.status, .int .i64 D.vm.trap, .int .i64 D.vm.value.k, .int .i64 D.vm.value.n, .string D.vm.value.s, .int .i64 D.vm.steps, .slice sa D.sites.length sc, .slice ca D.codes.length cc, .slice la D.fails.length lc, .int .i64 D.guards, .int .i64 D.entered] 46 (0, 0)) := by rw [hwA]; exact block_old (block_new _ _ _) _
  have hO0 : wA.ownsRow w.heap.size 60 4 (.slice (some ⟨w.heap.size + 1, 0, none⟩) 0 0) 0 (flatS []) := by
    have := World.ownsRow_made (base := w.heap.size) (e := 60) (size := 4) (w.alloc (.cells #[.slice fa D.vm.frames.length fc, .slice ha D.vm.heap.length hc, .int .i64 D.vm.made, .slice oa D.vm.out.length oc, .int .i64 D.vm.status, .int .i64 D.vm.trap, .int .i64 D.vm.value.k, .int .i64 D.vm.value.n, .string D.vm.value.s, .int .i64 D.vm.steps, .slice sa D.sites.length sc, .slice ca D.codes.length cc, .slice la D.fails.length lc, .int .i64 D.guards, .int .i64 D.entered] 46)) #[] 0 (by simp) (by unfold maxLen; omega) rfl
    rw [World.size_alloc] at this
    rw [hwA]
    simpa [flatS] using this
  go_enter Try.func5, Try.ntmps5
  go_upto_region 2 with fail
  rw [← hwA]
  clear hwA
  have i1 := block_cell hI
  go_wp2
  clear i1
  go_loopw [3, 4] (fun q i wr => ∃ (k : Nat), k ≤ D.fails.length ∧ i = .int .i64 k ∧ (∃ xa cap, q = .slice xa (blackT D.fails k).length cap) ∧ wr.ownsRow w.heap.size 60 4 q (blackT D.fails k).length (flatS (blackT D.fails k)) ∧ Hid (Below w.heap.size w wr) ∧ Hid (wr.heap[w.heap.size]? = some (.cells #[.slice fa D.vm.frames.length fc, .slice ha D.vm.heap.length hc, .int .i64 D.vm.made, .slice oa D.vm.out.length oc, .int .i64 D.vm.status, .int .i64 D.vm.trap, .int .i64 D.vm.value.k, .int .i64 D.vm.value.n, .string D.vm.value.s, .int .i64 D.vm.steps, .slice sa D.sites.length sc, .slice ca D.codes.length cc, .slice la D.fails.length lc, .int .i64 D.guards, .int .i64 D.entered] 46 (0, 0)))) (fun _ i _ => D.fails.length - (intOf i).toNat)
  case atStart => exact ⟨0, by omega, rfl, ⟨_, _, rfl⟩, hO0, hbA, hI⟩
  case round =>
    obtain ⟨k, hk, rfl, ⟨xa, cap, rfl⟩, hown, HB, HI⟩ := hrel
    clear hO0 hI hbA
    have hkl := blackT_len D.fails k hk
    have i1 := block_cell HI.out
    by_cases hlt : k < D.fails.length
    case neg =>
      obtain rfl : k = D.fails.length := by omega
      have z2 : ¬ (D.fails.length : Int) < (D.fails.length : Int) := by omega
      have HO := hid hown
      clear hown
      go_wp2
      go_ret
      exact ⟨xa, cap, rfl, HO.out, HB.out⟩
    have zk : (k : Int) < (D.fails.length : Int) := by omega
    obtain ⟨be, oe, rfl, -, e0, e1, e2, e3⟩ := hm k hlt
    have f0 := cell_later HB.out e0
    have f1 := cell_later HB.out e1
    have f2 := cell_later HB.out e2
    have f3 := cell_later HB.out e3
    clear e0 e1 e2 e3
    obtain ⟨wb, hwb⟩ : ∃ wb, wb = wr.alloc (.cells #[.int .i64 D.fails[k].f, .int .i64 D.fails[k].pc, .int .i64 D.fails[k].seen, .int .i64 D.fails[k].target] 58) := ⟨_, rfl⟩
    have hownb : wb.ownsRow w.heap.size 60 4 (.slice xa (blackT D.fails k).length cap) (blackT D.fails k).length (flatS (blackT D.fails k)) := by rw [hwb]; exact World.ownsRow.alloc hown _
    have HBB : Hid (Below w.heap.size w wb) := by rw [hwb]; exact HB.out.alloc HB.out.size _
    have HIB : Hid (wb.heap[w.heap.size]? = some (.cells #[.slice fa D.vm.frames.length fc, .slice ha D.vm.heap.length hc, .int .i64 D.vm.made, .slice oa D.vm.out.length oc, .int .i64 D.vm.status, .int .i64 D.vm.trap, .int .i64 D.vm.value.k, .int .i64 D.vm.value.n, .string D.vm.value.s, .int .i64 D.vm.steps, .slice sa D.sites.length sc, .slice ca D.codes.length cc, .slice (some ⟨be, oe, none⟩) D.fails.length lc, .int .i64 D.guards, .int .i64 D.entered] 46 (0, 0))) := by show _ = _; rw [hwb]; exact block_old HI.out _
    have hXb : wb.heap[wr.heap.size]? = some (.cells #[.int .i64 D.fails[k].f, .int .i64 D.fails[k].pc, .int .i64 D.fails[k].seen, .int .i64 D.fails[k].target] 58 (0, 0)) := by rw [hwb]; exact block_new _ _ _
    by_cases hk2 : 3 ≤ D.fails[k].target
    case neg =>
      have HT : Hid (blackT D.fails (k + 1) = blackT D.fails k) := blackT_no D.fails k hlt hk2
      have x1 := block_cell hXb
      go_upto_region 6 with fail
      rw [← hwb]
      clear hwb f0 f1 f2 f3 hown i1
      go_wp2
      go_roundw
      case rel => exact ⟨k + 1, by omega, by go_num, ⟨xa, cap, by rw [HT.out]⟩, by rw [HT.out]; exact hownb, HBB, HIB⟩
      case measure => simp [intOf]; omega
    have HT : Hid (blackT D.fails (k + 1) = blackT D.fails k ++ [gsF D.fails[k]]) := blackT_yes D.fails k hlt hk2
    have x1 := block_cell hXb
    have hszr := HBB.out.size
    have hlx : wr.heap.size < wb.heap.size := lt_block hXb
    go_upto_region 6 with fail
    rw [← hwb]
    clear hwb f0 f1 f2 f3 hown i1
    go_wp2_with (first | (at_builtin; refine wpList_append_lies _ rfl _ _ 35 rfl w.heap.size 60 i0 (.agg #[.int .i64 0, .int .i64 0, .int .i64 0, .int .i64 0]) 4 32 Try.underlying35 hi hz0 hz1 hz2 rfl (by decide) _ _ _ rfl (World.ownsRow.alloc hownb _) ⟨wb.heap.size, 0, none⟩ 1 1 [.int .i64 D.fails[k].f, .int .i64 D.fails[k].pc, .int .i64 D.fails[k].seen, .int .i64 0] rfl rfl (World.news_of_block (cs := #[.int .i64 D.fails[k].f, .int .i64 D.fails[k].pc, .int .i64 D.fails[k].seen, .int .i64 0]) (t := 60) (fr := (0, 0)) (heap_newS wb _ _)) (by simp [Value.oneCell']) (by decide) (by unfold maxLen; omega) (by omega) (by simp; omega) _ rfl ?_; intro g1 cap1 w1 hown1 hgrow1 hat1 hlt1))
    have hk1 := Keeps.grown (ts := [60]) (World.ownsRow.alloc hownb _) hgrow1 (by simp)
    have HB1 : Hid (Below w.heap.size w w1) := (HBB.out.alloc HBB.out.size _).trans (hk1.toBelow (by simp; omega))
    have HI1 : Hid (w1.heap[w.heap.size]? = some (.cells #[.slice fa D.vm.frames.length fc, .slice ha D.vm.heap.length hc, .int .i64 D.vm.made, .slice oa D.vm.out.length oc, .int .i64 D.vm.status, .int .i64 D.vm.trap, .int .i64 D.vm.value.k, .int .i64 D.vm.value.n, .string D.vm.value.s, .int .i64 D.vm.steps, .slice sa D.sites.length sc, .slice ca D.codes.length cc, .slice (some ⟨be, oe, none⟩) D.fails.length lc, .int .i64 D.guards, .int .i64 D.entered] 46 (0, 0))) := hk1.cell (block_old HIB.out _) (by simp)
    go_roundw
    case rel => exact ⟨k + 1, by omega, by go_num, ⟨some ⟨g1, 0, none⟩, cap1, by rw [HT.out]; simp⟩, by rw [HT.out, flatS_app, flatS_one]; simpa [gsF] using hown1, HB1, HI1⟩
    case measure => simp [intOf]; omega
end Go.Proofs.Ytopbdjplpnojmaa
