/-
  slices.AppendSeq, slices.Collect over the places of a profile: a row of the call's own.
  Places in order: how they compare, that a compare only makes new memory; rows of places, sorted by the library.
  Rows of places, sorted by the library's SortFunc.
  The places of a profile in order: slices.Collect, slices.SortedFunc of maps.Keys.
  The places of a profile in order: slices.SortFunc, slices.SortedFunc.
  What a profile tells: its sites in order: (profile).told.
  What impl.MergeSites returns.
-/
import Derived.Test.YtmmcockkbhnopaaGreatOV48
import Derived.RangeFuncNested
import Derived.RangeFuncBound
import Derived.RangeFuncCalls
import Derived.RangeFuncLeaves
import Derived.Shelf.Abstract
import Derived.Shelf.RegionOpen
import Derived.RangeFuncBox
import Derived.Maps.AppendAt
import Derived.Test.YtmmcockkbhnopaaGreatOV29
import Derived.Sort.Grow
import Derived.Deep.RegionHeld3
import Derived.Lib.SliceRun
namespace Go.Proofs.YtmmcockkbhnopaaGreat
open Go.RowKit Go.Shelf Go.Sort

attribute [local go_sem] Oper.semAt_some

/-- The cells of a row of places. -/
def flatP (ss : List (Int × Int)) : List Value := (ss.map fun x => [Value.int .i64 x.1, Value.int .i64 x.2]).flatten
theorem flatP_app (a b : List (Int × Int)) : flatP (a ++ b) = flatP a ++ flatP b := by simp [flatP]
theorem flatP_one (x : Int × Int) : flatP [x] = [.int .i64 x.1, .int .i64 x.2] := by simp [flatP]
theorem infoPl : (Tryz.prog.info? 134).map (fun i => (i.zero, i.size, i.bytes)) = some (some (.agg #[.int .i64 0, .int .i64 0]), 2, 16) := by kernel_rfl
def CollPost (ws : List Wt) (w : World) : Ending → World → Prop := fun e w' => ∃ v ss, e = .returned v ∧ ss.Perm (ws.map fun W => (W.f, W.p)) ∧ w'.ownsRow w.heap.size 134 2 v ss.length (flatP ss) ∧ Below w.heap.size w w'

set_option maxRecDepth 100000 in
set_option maxHeartbeats 4000000 in
theorem appendSeq_in (n : Nat) (hn : 3 ≤ n) (Bm b : Nat) (ws : List Wt) (w : World) (hm : w.cell? ⟨Bm, 0, none⟩ = some (.map (some b))) (hown : MapW w b ws) (hl : ws.length ≤ 1000) :
    CallsIn Fence.wide n Tryz.prog 134 #[.slice none 0 0, .func (.func 113) #[] #[.pointer (some ⟨Bm, 0, none⟩)]] w (CollPost ws w) := by
  have hBm : Bm < w.heap.size := World.block_lt_of_cell? w _ hm
  obtain ⟨i0, hi, hz0, hz1, hz2⟩ := info_parts infoPl
  refine callsIn_of_wp_marks Tryz.func134 rfl trivial ?_ rfl
  simp only [Tryz.ntmps134, List.size_toArray, List.length_cons, List.length_nil, Nat.reduceAdd, Nat.reduceSub, Array.replicate_succ, Array.replicate_zero, List.push_toArray, List.append_toArray, List.nil_append, List.cons_append]
  gi_wp2
  have bO := Boxed.new w 136 (.slice none 0 0)
  have hB0 : Below w.heap.size w (w.alloc (.cells #[.slice none 0 0] 136)) := (Below.refl _ w).alloc (Nat.le_refl _) _
  obtain ⟨W0, hW0⟩ : ∃ W0, w.alloc (.cells #[.slice none 0 0] 136) = W0 := ⟨_, rfl⟩
  have hsz : W0.heap.size = w.heap.size + 1 := by rw [← hW0]; simp
  rw [hW0] at bO hB0 ⊢
  clear hW0
  have hm0 : W0.cell? ⟨Bm, 0, none⟩ = some (.map (some b)) := cell_later hB0 hm
  refine wpIn_rangeFunc_ownH (α := Int × Int) rfl (by omega) (gf := 113) (lb := #[.pointer (some ⟨Bm, 0, none⟩)]) rfl trivial (enters_of Tryz.func113 (by kernel_rfl) rfl)
    (keys_stops (n - 1) (by omega) Bm b ws W0 (by omega) hm0 (hown.mono hB0)) (fun h k => h.trans k) (fun W l o o' _ hl _ hw => KeepsWalks.putObj o' hl hw) (Below.refl _ _) (fun _ => rfl)
    (fun pre W => (∃ v, Boxed W w.heap.size 136 v ∧ W.ownsRow w.heap.size 134 2 v pre.length (flatP pre) ∧ True) ∧ Below w.heap.size w W)
    (fun _ _ _ => False)
    (OwnFrom.and (Own.from (holdsRow_own w.heap.size w.heap.size 136 134 2 (fun (pre : List (Int × Int)) => pre.length) (fun (pre : List (Int × Int)) => flatP pre) (fun _ _ => True)) _) (ownFrom_below (Nat.le_refl _) (by omega)))
    (fun _ _ _ _ _ hs _ _ => hs)
    ⟨⟨_, bO, World.ownsRow_nil _ _ _ _, trivial⟩, hB0⟩
    (fun x a' W => ∃ q, a' = { tmps := #[.slice none 0 0, .func (.func 113) #[] #[.pointer (some ⟨Bm, 0, none⟩)], .pointer (some ⟨w.heap.size, 0, none⟩), undef, .slice none 0 0, .pointer (some ⟨q, 0, none⟩), .func (.func 113) #[] #[.pointer (some ⟨Bm, 0, none⟩)], encP x, undef, undef, undef, undef, undef], defers := [] } ∧ W.heap[q]? = some (.cells #[.int .i64 x.1, .int .i64 x.2] 134 (0, 0)))
    (fun x a' _ W W' row h hg hr => by
      obtain ⟨q, h1, h2⟩ := h
      refine ⟨q, h1, (hg.block q (lt_sizez h2) (fun e => ?_)).trans h2⟩
      obtain ⟨-, o, ho, hc⟩ := hr q e.symm
      rw [h2] at ho
      cases ho
      cases hc) ?assign ?body ?done ?stop
  case assign =>
    intro l pre x W K hI hK
    unfold encP
    gi_wp2
    refine hK _ _ ⟨by simp, fun k o _ hk _ => (Below.heap_alloc _ _ _ (lt_sizez hk)).trans hk⟩ (KeepsWalks.alloc _ _) ?_ ⟨W.heap.size, rfl, World.alloc_heap_new W _⟩
    obtain ⟨⟨v, hv, hrow, -⟩, hB⟩ := hI
    exact ⟨⟨v, hv.alloc _, hrow.alloc _, trivial⟩, hB.alloc hB.size _⟩
  case body =>
    rintro l pre x a' W - - ⟨⟨v, hv, hrow, -⟩, hB⟩ ⟨q, rfl, hq⟩ hlt
    have hc := hv.cell
    have q0 : W.cell? ⟨q, 0, none⟩ = some (.int .i64 x.1) := by rw [block_cell hq]; rfl
    have q1 : W.cell? ⟨q, 1, none⟩ = some (.int .i64 x.2) := by rw [block_cell hq]; rfl
    gi_wp2_with (gi_at_builtin; refine wpListIn_append_own _ rfl _ _ 136 rfl w.heap.size 134 i0 (.agg #[.int .i64 0, .int .i64 0]) 2 16 Tryz.underlying136 hi hz0 hz1 hz2 rfl (by decide) _ _ _ rfl (hrow.alloc _) ⟨W.heap.size, 0, none⟩ 1 1 [.int .i64 x.1, .int .i64 x.2] rfl rfl (World.news_of_block (block_new W _ 134)) (by simp [Value.oneCell']) (by unfold maxLen; omega) (by omega) (by have := hB.size; simp; omega) ?_; intro v' w1 hown' hgrow _; obtain ⟨g', cap', rfl⟩ := ownsRow_succ hown'; obtain ⟨hv1, hv2, hr2, hk2, hb2⟩ := hv.appended (by decide) hrow hB.size (by omega) hown' hgrow; have hc1 := hv1.cell; have hf1 := hv1.frozen)
    refine ⟨hk2.from _, ?_, ⟨_, hv2, by rw [flatP_app, flatP_one]; simpa using hr2, trivial⟩, hB.trans hb2⟩
    exact ⟨hk2.size, fun k o hk hw => hk2.same k o hk (by cases o <;> first | rfl | cases hw)⟩
  case done =>
    rintro D ys W hD' hys ⟨⟨v, hv, hrow, -⟩, hB⟩ hK
    have hc := hv.cell
    have hrow' := ownsRow_putObj hrow (.deferred none) hK rfl
    gi_wp2
    refine ⟨by simp, .inl ⟨_, _, rfl, run_takeDeferred hK, ?_⟩⟩
    refine ⟨_, results_tmp rfl _ _ _, v, ys, rfl, hys, hrow', hB.trans (belowK_b (w := w) (Nat.le_refl _) W D _ _ (by omega) hK rfl rfl)⟩
  case stop =>
    rintro D c pre W _ _ h _
    exact h.elim
end Go.Proofs.YtmmcockkbhnopaaGreat

namespace Go.Proofs.YtmmcockkbhnopaaGreat
open Go.RowKit Go.Sort

/-- Only new memory, and draws. -/
structure Grw (w w' : World) : Prop where
  below : Below w.heap.size w w'
  drawn : w.drawn ≤ w'.drawn
theorem Grw.refl (w : World) : Grw w w := ⟨Below.refl _ _, Nat.le_refl _⟩
theorem Grw.trans {a b c : World} (h : Grw a b) (k : Grw b c) : Grw a c := ⟨h.below.trans (k.below.mono h.below.size), Nat.le_trans h.drawn k.drawn⟩
theorem Grw.alloc {a w : World} (h : Grw a w) (o : Obj) : Grw a (w.alloc o) := ⟨h.below.alloc h.below.size _, h.drawn⟩
theorem Grw.drew {a w : World} (h : Grw a w) : Grw a w.drew := ⟨h.below.drew, Nat.le_trans h.drawn (Nat.le_succ _)⟩
theorem Grw.form {w w' : World} (h : Grw w w') : ∃ q os, w' = grow (w.drewN q) os := by
  refine ⟨w'.drawn - w.drawn, w'.heap.extract w.heap.size w'.heap.size, ?_⟩
  have hh : w'.heap = w.heap ++ w'.heap.extract w.heap.size w'.heap.size := by
    apply Array.ext_getElem?
    intro k
    by_cases hk : k < w.heap.size
    · rw [Array.getElem?_append_left hk]
      exact h.below.block k hk
    · rw [Array.getElem?_append_right (by omega), Array.getElem?_extract]
      by_cases h2 : k < w'.heap.size
      · rw [if_pos (by omega), show w.heap.size + (k - w.heap.size) = k by omega]
      · rw [if_neg (by omega), Array.getElem?_eq_none (by omega)]
  have h1 := h.below.os
  have h2 := h.below.tape
  have h3 := h.below.output
  have h4 := h.drawn
  obtain ⟨e1, e2, e3, e4, e5⟩ := w'
  simp only at h1 h2 h3 h4 hh
  subst h1 h2 h3
  simp only [grow, World.drewN]
  congr 1
  omega

set_option maxHeartbeats 1000000 in
theorem or2_g (x0 x1 : Int) (g cap : Nat) (w : World) (h0 : w.cell? ⟨g, 0, none⟩ = some (.int .i64 x0)) (h1 : w.cell? ⟨g, 1, none⟩ = some (.int .i64 x1)) :
    Calls Tryz.prog 114 #[.slice (some ⟨g, 0, none⟩) 2 cap] w fun e w' => e = .returned (.int .i64 (orI x0 x1)) ∧ Grw w w' := by
  unfold orI
  go_enter Tryz.func114, Tryz.ntmps114
  go_wp2
  go_loopw [8] (fun i wr => ∃ (k : Nat), k ≤ 2 ∧ i = .int .i64 k ∧ Hid (0 < k → x0 = 0) ∧ Hid (1 < k → x1 = 0) ∧ Hid (Grw w wr)) (fun i _ => 2 - (intOf i).toNat)
  case atStart => exact ⟨0, by omega, rfl, fun h => absurd h (by omega), fun h => absurd h (by omega), Grw.refl _⟩
  case round =>
    obtain ⟨k, hk, rfl, z0, z1, hb⟩ := hrel
    have c0 := cell_later hb.out.below h0
    have c1 := cell_later hb.out.below h1
    clear h0 h1
    obtain rfl | rfl | rfl : k = 0 ∨ k = 1 ∨ k = 2 := by omega
    · by_cases h : x0 = 0
      · subst h
        go_wp2
        go_roundw
        case rel => exact ⟨1, by omega, rfl, (by show _ → _; simp), fun h => absurd h (by omega), hb⟩
        case measure => simp [intOf]
      · go_wp2
        go_ret
        exact ⟨rfl, hb.out⟩
    · obtain rfl := z0.out (by omega)
      by_cases h : x1 = 0
      · subst h
        go_wp2
        go_roundw
        case rel => exact ⟨2, by omega, rfl, (by show _ → _; simp), (by show _ → _; simp), hb⟩
        case measure => simp [intOf]
      · go_wp2
        go_ret
        exact ⟨rfl, hb.out⟩
    · obtain rfl := z0.out (by omega)
      obtain rfl := z1.out (by omega)
      go_wp2
      go_ret
      exact ⟨rfl, hb.out⟩

set_option maxRecDepth 100000 in
set_option maxHeartbeats 1000000 in
theorem comparePlaces_g (af ap bf bp : Int) (w : World) :
    Calls Tryz.prog 79 #[.agg #[.int .i64 af, .int .i64 ap], .agg #[.int .i64 bf, .int .i64 bp]] w fun e w' => e = .returned (.int .i64 (orI (cmpI af bf) (cmpI ap bp))) ∧ Grw w w' := by
  obtain ⟨wA, hwA⟩ : ∃ wA, wA = (w.alloc (.cells #[.int .i64 af, .int .i64 ap] 134)).alloc (.cells #[.int .i64 bf, .int .i64 bp] 134) := ⟨_, rfl⟩
  have hbA : Grw w wA := by rw [hwA]; exact ((Grw.refl _).alloc _).alloc _
  have hX : wA.heap[w.heap.size]? = some (.cells #[.int .i64 af, .int .i64 ap] 134 (0, 0)) := by rw [hwA]; exact block_old (block_new _ _ _) _
  have hY : wA.heap[w.heap.size + 1]? = some (.cells #[.int .i64 bf, .int .i64 bp] 134 (0, 0)) := by rw [hwA]; simpa using block_new (w.alloc (.cells #[.int .i64 af, .int .i64 ap] 134)) #[.int .i64 bf, .int .i64 bp] 134
  have HS : Hid (∀ w', Grw wA w' → w'.cell? ⟨w.heap.size, 0, none⟩ = some (.int .i64 af) ∧ w'.cell? ⟨w.heap.size, 1, none⟩ = some (.int .i64 ap) ∧ w'.cell? ⟨w.heap.size + 1, 0, none⟩ = some (.int .i64 bf) ∧ w'.cell? ⟨w.heap.size + 1, 1, none⟩ = some (.int .i64 bp)) := fun w' q =>
    ⟨by rw [block_cell (block_kept hX q.below)]; rfl, by rw [block_cell (block_kept hX q.below)]; rfl, by rw [block_cell (block_kept hY q.below)]; rfl, by rw [block_cell (block_kept hY q.below)]; rfl⟩
  have q : Grw wA wA.drew := (Grw.refl _).drew
  have HB : Hid (Grw w wA) := hbA
  clear hX hY hbA
  go_enter Tryz.func79, Tryz.ntmps79
  go_wp2
  rw [← hwA]
  clear hwA
  go_region_held3 (fun w' => w'.cell? ⟨w.heap.size, 0, none⟩ = some (.int .i64 af) ∧ w'.cell? ⟨w.heap.size, 1, none⟩ = some (.int .i64 ap) ∧ w'.cell? ⟨w.heap.size + 1, 0, none⟩ = some (.int .i64 bf) ∧ w'.cell? ⟨w.heap.size + 1, 1, none⟩ = some (.int .i64 bp))
    ((refine HS.out _ ?_; first | exact q | exact Grw.refl _ | exact ((Grw.refl _).alloc _).drew))
    (first
      | (go_at_call 115; refine (compare_any _ _ _).mono ?_; rintro e wb ⟨rfl, rfl⟩)
      | (go_at_call 114; refine (or2_g (cmpI af bf) (cmpI ap bp) _ _ _ (by exact (cell_new wA #[.int .i64 (cmpI af bf), .int .i64 (cmpI ap bp)] 3 0).trans rfl) (by exact (cell_new wA #[.int .i64 (cmpI af bf), .int .i64 (cmpI ap bp)] 3 1).trans rfl)).mono ?_; rintro e w3 ⟨rfl, kd⟩; have q := (((Grw.refl wA).alloc (.cells #[.int .i64 (cmpI af bf), .int .i64 (cmpI ap bp)] 3)).drew).trans kd))
  go_wp2
  go_ret
  exact ⟨rfl, HB.out.trans q⟩

end Go.Proofs.YtmmcockkbhnopaaGreat

namespace Go.Proofs.YtmmcockkbhnopaaGreat
open Go.RowKit Go.Sort Go.Lib

instance : Inhabited (Int × Int) := ⟨(0, 0)⟩
def PLt (a b : Int × Int) : Prop := a.1 < b.1 ∨ (a.1 = b.1 ∧ a.2 < b.2)
instance (a b : Int × Int) : Decidable (PLt a b) := by unfold PLt; infer_instance
def cmpP (a b : Int × Int) : Int := orI (cmpI a.1 b.1) (cmpI a.2 b.2)
theorem cmpI_neg (x y : Int) (h : x < y) : cmpI x y = -1 := by unfold cmpI; rw [if_pos h]
theorem cmpI_pos (x y : Int) (h : y < x) : cmpI x y = 1 := by unfold cmpI; rw [if_neg (by omega), if_pos h]
theorem cmpI_eq (x y : Int) (h : x = y) : cmpI x y = 0 := by unfold cmpI; rw [if_neg (by omega), if_neg (by omega)]
theorem cmpP_lt (a b : Int × Int) : cmpP a b < 0 ↔ PLt a b := by
  unfold cmpP orI PLt
  rcases Int.lt_trichotomy a.1 b.1 with h1 | h1 | h1
  · rw [cmpI_neg _ _ h1]; simp; omega
  · rw [cmpI_eq _ _ h1]
    rcases Int.lt_trichotomy a.2 b.2 with h2 | h2 | h2
    · rw [cmpI_neg _ _ h2]; simp; omega
    · rw [cmpI_eq _ _ h2]; simp; omega
    · rw [cmpI_pos _ _ h2]; simp; omega
  · rw [cmpI_pos _ _ h1]; simp; omega
theorem ltP (a b : Int × Int) : ltOf cmpP a b = decide (PLt a b) := by
  unfold ltOf
  exact decide_eq_decide.2 (cmpP_lt a b)
theorem swoP : SWO (ltOf cmpP) where
  irrefl x := by rw [ltP]; simp [PLt]
  trans x y z h1 h2 := by
    rw [ltP] at *
    have h1 := of_decide_eq_true h1
    have h2 := of_decide_eq_true h2
    apply decide_eq_true
    unfold PLt at *
    omega
  ntrans x y z h1 h2 := by
    rw [ltP] at *
    have h1 := of_decide_eq_false h1
    have h2 := of_decide_eq_false h2
    apply decide_eq_false
    unfold PLt at *
    omega
def encPl (x : Int × Int) : List Value := [.int .i64 x.1, .int .i64 x.2]
theorem cmpLaysP (blk off size : Nat) (w : World) : CmpLays Tryz.prog 79 #[] encPl 2 cmpP blk off size w := fun _ _ _ _ x y => (comparePlaces_g x.1 x.2 y.1 y.2 _).mono fun _ _ q => ⟨q.1, q.2.form⟩
/-- A row of places. -/
def Sp (w : World) (g cap : Nat) (d : Array (Int × Int)) : Prop := ∃ cur : Array Value, w.heap[g]? = some (Obj.cells cur 134 (0, 0)) ∧ cur.size = cap * 2 ∧ d.size ≤ cap ∧ ∀ j, j < d.size → cur[j * 2]? = some (.int .i64 d[j]!.1) ∧ cur[j * 2 + 1]? = some (.int .i64 d[j]!.2)
theorem Sp.lt {w : World} {g cap : Nat} {d : Array (Int × Int)} (h : Sp w g cap d) : g < w.heap.size := by
  obtain ⟨c, h1, -⟩ := h
  exact lt_sizez h1
theorem flatp_at (d : Array (Int × Int)) (t : Nat) (ht : t < d.size * 2) : (flatK encPl 2 d)[t]! = (encPl d[t / 2]!)[t % 2]! := get_flatK encPl 2 d t ht
theorem Sp.cells {w : World} {g cap : Nat} {d : Array (Int × Int)} (h : Sp w g cap d) (t : Nat) (ht : t < d.size * 2) : w.cell? ⟨g, t, none⟩ = some ((flatK encPl 2 d)[t]!) := by
  obtain ⟨cur, h1, -, -, h4⟩ := h
  rw [block_cell h1, flatp_at d t ht]
  obtain ⟨q0, q1⟩ := h4 (t / 2) (by omega)
  obtain h | h : t % 2 = 0 ∨ t % 2 = 1 := by omega
  · rw [h, show t = t / 2 * 2 by omega, q0]
    rw [show t / 2 * 2 / 2 = t / 2 by omega]; rfl
  · rw [h, show t = t / 2 * 2 + 1 by omega, q1]
    rw [show (t / 2 * 2 + 1) / 2 = t / 2 by omega]; rfl
theorem Sp.holds {w : World} {g cap : Nat} {d : Array (Int × Int)} (h : Sp w g cap d) : HoldsK encPl 2 w g 0 d := by
  intro t ht
  have ht' : t < d.size * 2 := by simpa using ht
  rw [Nat.zero_add]
  refine ⟨h.cells t ht', ?_⟩
  obtain ⟨cur, h1, -⟩ := h
  exact block_free h1 t
theorem heap_sorted {α : Type} [Inhabited α] (enc : α → Value) {w : World} {g n : Nat} {os : Array Obj} {cur : Array Value} {e : TypeId} {fr : Nat × Nat} (d : Array α) (hb : w.heap[g]? = some (.cells cur e fr)) :
    (grow (putRow enc (Sort.ahead w n) g 0 d) os).heap[g]? = some (.cells (putCells enc 0 d cur) e fr) := by
  have hg : g < w.heap.size := (Array.getElem?_eq_some_iff.1 hb).1
  rw [heap_grow_old _ _ (by simpa using hg)]
  simp [putRow, mapBlock, Sort.ahead, Array.getElem?_modify, hb, onCells]
theorem grownBy_sorted' {α : Type} [Inhabited α] (enc : α → Value) {w : World} {g n : Nat} {os : Array Obj} (d : Array α) : w.grownBy (grow (putRow enc (Sort.ahead w n) g 0 d) os) (some g) := by
  refine ⟨rfl, rfl, rfl, by simp, fun k hk hne => ?_⟩
  rw [heap_grow_old _ _ (by simpa using hk)]
  have : g ≠ k := fun e => hne (by rw [e])
  simp [putRow, mapBlock, Sort.ahead, Array.getElem?_modify, this]
theorem Sp.sorted {w : World} {g cap n : Nat} {os : Array Obj} {d d' : Array (Int × Int)} (h : Sp w g cap d) (hs : d'.size = d.size) : Sp (sortWorldK encPl 2 w g 0 n d' os) g cap d' := by
  obtain ⟨cur, h1, h2, h3, -⟩ := h
  refine ⟨_, heap_sorted id (flatK encPl 2 d') h1, by simp [putCells, h2], by omega, fun j hj => ?_⟩
  have key : ∀ i, i < 2 → (putCells id 0 (flatK encPl 2 d') cur)[j * 2 + i]? = some ((encPl d'[j]!)[i]!) := fun i hi => by
    simp only [putCells, Array.getElem?_mapIdx]
    rw [Array.getElem?_eq_getElem (by omega)]
    simp only [Option.map_some, size_flatK]
    rw [if_pos ⟨by omega, by omega⟩, Nat.sub_zero, id, flatp_at d' _ (by omega), show (j * 2 + i) / 2 = j by omega, show (j * 2 + i) % 2 = i by omega]
  exact ⟨key 0 (by omega), key 1 (by omega)⟩
theorem flatP_len (ss : List (Int × Int)) : (flatP ss).length = ss.length * 2 := by
  induction ss with
  | nil => rfl
  | cons s l ih => simp only [flatP, List.map_cons, List.flatten_cons, List.length_append, List.length_cons] at *; rw [ih]; simp; omega
theorem flatP_at : ∀ (ss : List (Int × Int)) (i : Nat) (h : i < ss.length), (flatP ss)[i * 2]? = some (.int .i64 ss[i].1) ∧ (flatP ss)[i * 2 + 1]? = some (.int .i64 ss[i].2)
  | [], i, h => by simp at h
  | s :: ss, 0, _ => by simp [flatP]
  | s :: ss, i + 1, h => by
    have := flatP_at ss i (by simpa using h)
    have e : flatP (s :: ss) = [.int .i64 s.1, .int .i64 s.2] ++ flatP ss := by simp [flatP]
    rw [e, show (i + 1) * 2 = i * 2 + 2 by omega]
    simp only [List.getElem_cons_succ]
    refine ⟨?_, ?_⟩
    · rw [List.getElem?_append_right (by simp)]; simpa using this.1
    · rw [List.getElem?_append_right (by simp)]; simpa using this.2
theorem own_Sp {w : World} {base g cap : Nat} {l : List (Int × Int)} (h : w.ownsRow base 134 2 (.slice (some ⟨g, 0, none⟩) l.length cap) l.length (flatP l)) : Sp w g cap l.toArray ∧ base ≤ g := by
  rcases h.2 with ⟨q, -⟩ | ⟨g', cap', cur, e, hbg, hg, h1, -, h2, h3⟩
  · cases q
  · cases e
    refine ⟨⟨cur, hg, h2, by simpa using h1, fun j hj => ?_⟩, hbg⟩
    have hj' : j < l.length := by simpa using hj
    obtain ⟨f0, f1⟩ := flatP_at l j hj'
    have hc : ∀ t v, (flatP l)[t]? = some v → cur[t]? = some v := fun t v ht => by
      rw [← h3, List.getElem?_take] at ht
      split at ht
      · rw [← Array.getElem?_toList]; exact ht
      · cases ht
    rw [getElem!_pos l.toArray j hj]
    simp only [List.getElem_toArray]
    exact ⟨hc _ _ f0, hc _ _ f1⟩
theorem perm_list {α : Type} [Inhabited α] {d d' : Array α} (h : PermIn 0 d.size d d') : d'.toList.Perm d.toList := by
  obtain ⟨h1, -, h2⟩ := h
  rw [Array.extract_size] at h2
  rw [show d'.extract 0 d.size = d' by rw [← h1, Array.extract_size]] at h2
  exact h2
end Go.Proofs.YtmmcockkbhnopaaGreat

namespace Go.Proofs.YtmmcockkbhnopaaGreat
open Go.RowKit Go.Sort Go.Lib Go.Shelf

theorem keys_any (b : Nat) (w : World) : Calls Tryz.prog 78 #[.map (some b)] w fun e w' => e = .returned (.func (.func 113) #[] #[.pointer (some ⟨w.heap.size, 0, none⟩)]) ∧ w' = w.alloc (.cells #[.map (some b)] 75) := by
  go_enter Tryz.func78, Tryz.ntmps78
  go_wp2
  go_ret
  exact ⟨rfl, rfl⟩

set_option maxRecDepth 100000 in
set_option maxHeartbeats 1000000 in
theorem collect_any (Bm b : Nat) (ws : List Wt) (w : World) (hm : w.cell? ⟨Bm, 0, none⟩ = some (.map (some b))) (hown : MapW w b ws) (hl : ws.length ≤ 1000) :
    Calls Tryz.prog 111 #[.func (.func 113) #[] #[.pointer (some ⟨Bm, 0, none⟩)]] w (CollPost ws w) := by
  refine (callsIn_wide (n := 5)).1 ?_
  refine callsIn_of_wp Tryz.func111 rfl trivial ?_ rfl
  simp only [Tryz.ntmps111, List.size_toArray, List.length_cons, List.length_nil, Nat.reduceAdd, Nat.reduceSub, Array.replicate_succ, Array.replicate_zero, List.push_toArray, List.append_toArray, List.nil_append, List.cons_append]
  gi_wp2
  refine ⟨trivial, ?_⟩
  refine (appendSeq_in 4 (by omega) Bm b ws w hm hown hl).mono ?_
  rintro e w2 ⟨v, ss, rfl, h1, h2, h3⟩
  have HR : Hid (CollPost ws w (.returned v) w2) := ⟨v, ss, rfl, h1, h2, h3⟩
  clear h1 h2 h3
  gi_wp2
  go_ret
  exact HR.out

/-- A row of places that can be read. -/
def PlAt (w : World) (a : Option Addr) (S : List (Int × Int)) : Prop := ∀ i (h : i < S.length), ∃ g, a = some ⟨g, 0, none⟩ ∧ w.cell? ⟨g, i * 2, none⟩ = some (.int .i64 S[i].1) ∧ w.cell? ⟨g, i * 2 + 1, none⟩ = some (.int .i64 S[i].2)
theorem PlAt.mono {w w' : World} {a : Option Addr} {S : List (Int × Int)} (h : PlAt w a S) (hb : Below w.heap.size w w') : PlAt w' a S := fun i hi => by
  obtain ⟨g, h1, h2, h3⟩ := h i hi
  exact ⟨g, h1, cell_later hb h2, cell_later hb h3⟩
theorem places_nodup {ws : List Wt} (h : Places ws) : (ws.map fun W => (W.f, W.p)).Nodup := by
  unfold List.Nodup
  rw [List.pairwise_map]
  exact h.imp (fun {V W} q e => q ⟨congrArg Prod.fst e, congrArg Prod.snd e⟩)
def SortPost (ws : List Wt) (w : World) : Ending → World → Prop := fun e w' => ∃ a S cap, e = .returned (.slice a S.length cap) ∧ S.Pairwise PLt ∧ S.Perm (ws.map fun W => (W.f, W.p)) ∧ PlAt w' a S ∧ Below w.heap.size w w'

end Go.Proofs.YtmmcockkbhnopaaGreat

namespace Go.Proofs.YtmmcockkbhnopaaGreat
open Go.RowKit Go.Sort Go.Lib Go.Shelf

/-- What sorting a row of places leaves. -/
theorem sorted_row {g cap n' : Nat} {os : Array Obj} {ss : List (Int × Int)} {d' : Array (Int × Int)} {w1 : World} (hS : Sp w1 g cap ss.toArray) (hnd : ss.Nodup) (hpi : PermIn 0 ss.toArray.size ss.toArray d') (hsd : SortedIn (ltOf cmpP) 0 ss.length d') :
    d'.toList.length = ss.length ∧ d'.toList.Pairwise PLt ∧ d'.toList.Perm ss ∧ PlAt (sortWorldK encPl 2 w1 g 0 n' d' os) (some ⟨g, 0, none⟩) d'.toList ∧ w1.grownBy (sortWorldK encPl 2 w1 g 0 n' d' os) (some g) := by
  have hsz : d'.size = ss.length := by have := hpi.1; simpa using this
  have hS1 : Sp (sortWorldK encPl 2 w1 g 0 n' d' os) g cap d' := hS.sorted (by simp [hsz])
  have hpl : d'.toList.Perm ss := by simpa using perm_list hpi
  have hnd2 : d'.toList.Nodup := hpl.nodup_iff.2 hnd
  refine ⟨by simp [hsz], ?_, hpl, ?_, grownBy_sorted' id (flatK encPl 2 d')⟩
  · rw [List.pairwise_iff_getElem]
    intro i j hi hj hij
    have hi' : i < d'.size := by simpa using hi
    have hj' : j < d'.size := by simpa using hj
    have h1 := hsd i j (Nat.zero_le _) hij (by omega)
    rw [getElem!_pos d' i hi', getElem!_pos d' j hj', ltP] at h1
    have h2 := of_decide_eq_false h1
    have h3 := (List.pairwise_iff_getElem.1 hnd2) i j hi hj hij
    simp only [Array.getElem_toList] at h3 ⊢
    unfold PLt at h2 ⊢
    by_cases e1 : d'[i].1 = d'[j].1
    · by_cases e2 : d'[i].2 = d'[j].2
      · exact absurd (Prod.ext e1 e2) h3
      · omega
    · omega
  · intro i hi
    obtain ⟨cur, k1, -, -, k4⟩ := hS1
    have hi' : i < d'.size := by simpa using hi
    have := k4 i hi'
    rw [getElem!_pos d' i hi'] at this
    refine ⟨g, rfl, ?_, ?_⟩
    · rw [block_cell k1]; simpa using this.1
    · rw [block_cell k1]; simpa using this.2

/-- slices.SortFunc at a row of places. -/
def SortedP (g : Nat) (ss : List (Int × Int)) (w1 : World) : Ending → World → Prop := fun e w' => e = .returned (.tuple #[]) ∧ ∃ S : List (Int × Int), S.length = ss.length ∧ S.Pairwise PLt ∧ S.Perm ss ∧ PlAt w' (some ⟨g, 0, none⟩) S ∧ w1.grownBy w' (some g)
theorem sortFunc_any (g cap : Nat) (ss : List (Int × Int)) (w1 : World) (hS : Sp w1 g cap ss.toArray) (hnd : ss.Nodup) (hl : ss.length ≤ 1000) :
    Calls Tryz.prog 112 #[.slice (some ⟨g, 0, none⟩) ss.length cap, .func (.func 79) #[] #[]] w1 (SortedP g ss w1) := by
  have eg : ∀ args w, (callFunc 79 args).run Tryz.prog w = .ok (.enter 79 args) w := enters_of Tryz.func79 (by kernel_rfl) rfl
  have hcon := AnyQ.slices_SortFunc Tryz.sortPlace 2 Tryz.isAgg134 Tryz.sizeOf134 encPl (fun _ => rfl) (fun x v hv => by simp [encPl] at hv; rcases hv with rfl | rfl <;> rfl) cmpP swoP 79 #[] g 0 cap ss.toArray w1 eg (cmpLaysP g 0 _ w1) hS.holds hS.lt (by simp; omega)
  change Calls Tryz.prog 112 _ _ _ at hcon
  have e : ss.toArray.size = ss.length := by simp
  refine (show Calls Tryz.prog 112 #[.slice (some ⟨g, 0, none⟩) ss.toArray.size cap, .func (.func 79) #[] #[]] w1 (SortedP g ss w1) → Calls Tryz.prog 112 #[.slice (some ⟨g, 0, none⟩) ss.length cap, .func (.func 79) #[] #[]] w1 (SortedP g ss w1) from fun h => by rw [e] at h; exact h) (hcon.mono ?_)
  rintro e2 w2 ⟨h1, d', n', os, hpi, hsd, rfl⟩
  obtain ⟨k1, k2, k3, k4, k5⟩ := sorted_row (n' := n') (os := os) hS hnd hpi (by rw [e] at hsd; exact hsd)
  exact ⟨h1, d'.toList, k1, k2, k3, k4, k5⟩

set_option maxRecDepth 100000 in
set_option maxHeartbeats 400000 in
theorem sortedFunc_any (Bm b : Nat) (ws : List Wt) (w : World) (hm : w.cell? ⟨Bm, 0, none⟩ = some (.map (some b))) (hown : MapW w b ws) (hp : Places ws) (hl : ws.length ≤ 1000) :
    Calls Tryz.prog 77 #[.func (.func 113) #[] #[.pointer (some ⟨Bm, 0, none⟩)], .func (.func 79) #[] #[]] w (SortPost ws w) := by
  have hcol := collect_any Bm b ws w hm hown hl
  have HL := hidz hl
  have HPL := hidz hp
  clear hm hown hl hp
  go_enter Tryz.func77, Tryz.ntmps77
  go_wp2_with fail
  refine hcol.mono ?_
  clear hcol
  rintro e w1 ⟨v, ss, rfl, hperm, hrow, hb1⟩
  have HLN : Hid (ss.length = ws.length) := by simpa [Hid] using hperm.length_eq
  have HP := hidz hperm
  have HB := hidz hb1
  have HROW := hidz hrow
  clear hperm hb1
  obtain ⟨a, cap, rfl⟩ := own_formz hrow
  clear hrow
  by_cases h0 : ss = []
  · subst h0
    have hcon : Calls Tryz.prog 112 #[.slice a 0 cap, .func (.func 79) #[] #[]] w1 fun e w' => e = .returned (.tuple #[]) ∧ w' = w1 := AnyF.slices_SortFunc_none { Tryz.sortPlace with } a cap (.func (.func 79) #[] #[]) w1
    have HR : Hid (SortPost ws w (.returned (.slice a 0 cap)) w1) := ⟨a, [], cap, rfl, List.Pairwise.nil, HP.out, fun i h => absurd h (by simp), HB.out⟩
    clear HP HB HROW HLN
    go_wp2_with fail
    refine hcon.mono ?_
    clear hcon
    rintro e w2 ⟨rfl, rfl⟩
    go_wp2
    go_ret
    exact HR.out
  have hl0 : ss.length ≠ 0 := fun q => h0 (List.eq_nil_of_length_eq_zero q)
  obtain ⟨g, hxa⟩ : ∃ g, a = some ⟨g, 0, none⟩ := by
    rcases HROW.out.2 with ⟨-, q⟩ | ⟨g, cap', cur, e, -⟩
    · exact absurd q hl0
    · cases e; exact ⟨g, rfl⟩
  subst hxa
  obtain ⟨hS, hg⟩ := own_Sp HROW.out
  have hcon := sortFunc_any g cap ss w1 hS (HP.out.nodup_iff.2 (places_nodup HPL.out)) (by rw [HLN.out]; exact HL.out)
  have HG := hidz hg
  clear hS hg HROW h0 hl0
  go_wp2_with fail
  refine hcon.mono ?_
  clear hcon
  rintro e w2 ⟨rfl, S, k1, k2, k3, k4, k5⟩
  have HR : Hid (SortPost ws w (.returned (.slice (some ⟨g, 0, none⟩) ss.length cap)) w2) :=
    ⟨_, S, cap, by rw [k1], k2, k3.trans HP.out, k4, HB.out.grown k5 HB.out.size (fun k e => by cases e; exact HG.out)⟩
  clear k1 k2 k3 k4 k5
  go_wp2
  go_ret
  exact HR.out

end Go.Proofs.YtmmcockkbhnopaaGreat

namespace Go.Proofs.YtmmcockkbhnopaaGreat
open Go.RowKit

/-- The site of a place. -/
def siteAt (ws : List Wt) (x : Int × Int) : Si := ⟨x.1, x.2, ((tabW ws x.1 x.2).getD (0, 0)).1, ((tabW ws x.1 x.2).getD (0, 0)).2⟩
theorem tabW_split {l1 l2 : List Wt} {W : Wt} {f p : Int} (h1 : W.f = f) (h2 : W.p = p) (hno : ∀ V ∈ l1, ¬ (V.f = f ∧ V.p = p)) : tabW (l1 ++ W :: l2) f p = some (told W) := by
  unfold tabW
  rw [List.find?_append, List.find?_eq_none.2 (fun V hV => by simpa using fun a b => hno V hV ⟨a, b⟩), Option.none_or, List.find?_cons_of_pos (by simp [h1, h2])]
  rfl
theorem told_rep {ws : List Wt} {S : List (Int × Int)} (ha : S.Pairwise PLt) (hp : S.Perm (ws.map fun W => (W.f, W.p))) : Rep (S.map (siteAt ws)) (tabW ws) := by
  refine ⟨?_, fun x => ?_⟩
  · rw [List.pairwise_map]
    exact ha.imp (fun {a b} h => h)
  · constructor
    · intro hx
      obtain ⟨y, hy, rfl⟩ := List.mem_map.1 hx
      obtain ⟨W, hW, e⟩ := List.mem_map.1 (hp.mem_iff.1 hy)
      have e1 : W.f = y.1 := congrArg Prod.fst e
      have e2 : W.p = y.2 := congrArg Prod.snd e
      obtain ⟨l1, V, l2, rfl, h1, h2, hno⟩ := split_place ⟨W, hW, e1, e2⟩
      show tabW _ y.1 y.2 = some (_, _)
      simp only [siteAt, tabW_split h1 h2 hno, Option.getD_some]
    · intro hx
      have : ∃ W ∈ ws, W.f = x.f ∧ W.p = x.pc := by
        unfold tabW at hx
        cases hf : ws.find? (fun W => decide (W.f = x.f ∧ W.p = x.pc)) with
        | none => rw [hf] at hx; cases hx
        | some W =>
          have h5 := List.find?_some hf
          simp only [decide_eq_true_eq] at h5
          exact ⟨W, List.mem_of_find?_eq_some hf, h5⟩
      obtain ⟨W, hW, e1, e2⟩ := this
      refine List.mem_map.2 ⟨(x.f, x.pc), hp.mem_iff.2 (List.mem_map.2 ⟨W, hW, by rw [e1, e2]⟩), ?_⟩
      unfold siteAt
      simp only [hx, Option.getD_some]
def ToldAll (ws : List Wt) (w : World) : Ending → World → Prop := fun e w' => ∃ v R, e = .returned v ∧ Rep R (tabW ws) ∧ R.length = ws.length ∧ w'.ownsRow w.heap.size 68 4 v R.length (flatS R) ∧ Below w.heap.size w w'

set_option maxRecDepth 100000 in
set_option maxHeartbeats 4000000 in
theorem told_any (lo b : Nat) (op : Int → Int → Int) (ws : List Wt) (w : World) (hP : Prf w lo b op ws) (hl : ws.length ≤ 1000) :
    Calls Tryz.prog 40 #[.map (some b)] w (ToldAll ws w) := by
  obtain ⟨i0, hi, hz0, hz1, hz2⟩ := info_parts infoSi
  obtain ⟨w1, hw1⟩ : ∃ w1, w1 = w.alloc (.cells #[.map (some b)] 75) := ⟨_, rfl⟩
  have hb1 : Below w.heap.size w w1 := by rw [hw1]; exact (Below.refl _ _).alloc (Nat.le_refl _) _
  have hk := keys_any b w
  rw [← hw1] at hk
  have hm1 : w1.cell? ⟨w.heap.size, 0, none⟩ = some (.map (some b)) := by rw [hw1, block_cell (block_new _ _ _)]; rfl
  have hs := sortedFunc_any w.heap.size b ws w1 hm1 (hP.map.mono hb1) hP.places hl
  have HP1 := hidz (hP.mono hb1)
  have HB1 := hidz hb1
  have HL := hidz hl
  clear hP hl hw1 hm1 hb1
  go_enter Tryz.func40, Tryz.ntmps40
  go_wp2_with fail
  refine hk.mono ?_
  clear hk
  rintro e w1' ⟨rfl, rfl⟩
  go_wp2_with fail
  refine hs.mono ?_
  clear hs
  rintro e w2 ⟨a, S, cap, rfl, hasc, hperm, hpl, hb2⟩
  obtain ⟨B, hB⟩ : ∃ B, B = w2.heap.size := ⟨_, rfl⟩
  have HBE := hidz hB
  have HP2 := hidz (HP1.out.mono hb2)
  have HB2 := hidz (HB1.out.trans (hb2.mono HB1.out.size))
  have HPL := hidz hpl
  have HREP := hidz (told_rep hasc hperm)
  have HSL : Hid (S.length = ws.length) := by simpa [Hid] using hperm.length_eq
  have HPE := hidz hperm
  have hSl : S.length ≤ 1000 := by rw [HSL.out]; exact HL.out
  have HO : Hid (w2.ownsRow B 68 4 (.slice none 0 0) ([] : List Si).length (flatS [])) := ⟨rfl, .inl ⟨rfl, rfl⟩⟩
  have HR0 : Hid (Below B w2 w2) := Below.refl _ _
  clear hB hb2 hpl hasc hperm HP1 HB1
  go_wp2
  go_loopw [3, 12] (fun v i wr => ∃ (k : Nat) (ra : Option Addr) (rc : Nat) (R : List Si), k ≤ S.length ∧ i = .int .i64 k ∧ v = .slice ra R.length rc ∧ Hid (R = (S.take k).map (siteAt ws)) ∧ Hid (wr.ownsRow B 68 4 (.slice ra R.length rc) R.length (flatS R)) ∧ Hid (Below B w2 wr)) (fun _ i _ => S.length - (intOf i).toNat)
  case atStart => exact ⟨0, none, 0, [], by omega, rfl, rfl, hidz rfl, HO, HR0⟩
  case round =>
    obtain ⟨k, ra, rc, R, hk, rfl, rfl, HR, HO, HB⟩ := hrel
    clear HR0
    by_cases hlt : k < S.length
    case neg =>
      obtain rfl : k = S.length := by omega
      have z2 : ¬ (S.length : Int) < (S.length : Int) := by omega
      have hE : R = S.map (siteAt ws) := by rw [HR.out, List.take_length]
      have HRL : Hid (R.length = ws.length) := by show _ = _; rw [hE, List.length_map]; exact HSL.out
      rw [← hE] at HREP
      clear hE HR
      have HFIN : Hid (ToldAll ws w (.returned (.slice ra R.length rc)) wr) :=
        ⟨_, R, rfl, HREP.out, HRL.out, own_lowz HO.out (by rw [HBE.out]; exact HB2.out.size), HB2.out.trans (HB.out.mono (by rw [HBE.out]; exact HB2.out.size))⟩
      go_wp2
      go_ret
      exact HFIN.out
    have zk : (k : Int) < (S.length : Int) := by omega
    have hbr : Below w2.heap.size w2 wr := by rw [← HBE.out]; exact HB.out
    obtain ⟨g, hga, c0, c1⟩ := HPL.out k hlt
    subst hga
    have c0' := cell_later hbr c0
    have c1' := cell_later hbr c1
    have hmem : S[k] ∈ ws.map fun W => (W.f, W.p) := HPE.out.mem_iff.1 (List.getElem_mem hlt)
    have HSU : Hid ((S.take (k + 1)).map (siteAt ws) = (S.take k).map (siteAt ws) ++ [siteAt ws S[k]]) := by
      show _ = _
      rw [List.take_succ_eq_append_getElem hlt, List.map_append]
      rfl
    have hPr := HP2.out.mono hbr
    generalize S[k] = x at c0' c1' hmem HSU
    clear c0 c1
    obtain ⟨W0, hW0, e0⟩ := List.mem_map.1 hmem
    have e1 : W0.f = x.1 := congrArg Prod.fst e0
    have e2 : W0.p = x.2 := congrArg Prod.snd e0
    obtain ⟨l1, W, l2, hws, h1, h2, hno⟩ := split_place ⟨W0, hW0, e1, e2⟩
    have HSI : Hid (siteAt ws x = ⟨x.1, x.2, (told W).1, (told W).2⟩) := by
      show _ = _
      unfold siteAt
      rw [hws, tabW_split h1 h2 hno]
      rfl
    have hWm : W ∈ ws := by rw [hws]; simp
    obtain ⟨wb, hwb⟩ : ∃ wb, wb = wr.alloc (.cells #[.int .i64 x.1, .int .i64 x.2] 134) := ⟨_, rfl⟩
    have hbb : Below wr.heap.size wr wb := by rw [hwb]; exact (Below.refl _ _).alloc (Nat.le_refl _) _
    have hlk := (look_yes x.1 x.2 b l1 l2 W wb (by rw [← hws]; exact (hPr.mono hbb).map) h1 h2 hno).2
    have HWA := hidz ((hPr.mono hbb).cells W hWm).1
    have hBr : B ≤ wr.heap.size := by rw [HBE.out]; exact hbr.size
    have hrowb := own_below HO.out hbb
    have hszb := hbb.size
    have HBb := hidz (HB.out.trans (hbb.mono hBr))
    have HXb : Hid (wb.heap[wr.heap.size]? = some (.cells #[.int .i64 x.1, .int .i64 x.2] 134 (0, 0))) := by rw [hwb]; exact block_new _ _ _
    clear hws h1 h2 hno hWm e1 e2 e0 hW0 hmem hPr hbb HO
    cases hc : W.c
    · have hv : valW W = .iface 202 (.pointer (some ⟨W.g, 0, none⟩)) := by unfold valW; rw [hc]; rfl
      rw [hv] at hlk
      have m1 : ∀ (v : Value) (W : World), (Go.method 367 202 v "loop.example/g00094/impl.told").run Tryz.prog W = .ok (186, v) W := fun _ _ => by kernel_rfl
      have HT := hidz (toldNum_any W wb hc HWA.out)
      rw [hwb] at hlk
      clear hv hc HWA
      go_upto_region 6 with (first | (go_at_call 186; rw [← hwb]; refine HT.out.mono ?_; rintro e w5 ⟨rfl, hb5⟩) | go_in)
      clear hlk m1 HT c0' c1'
      have hrow5 := own_below hrowb hb5
      have HB5 := hidz (HBb.out.trans (hb5.mono (Nat.le_trans hBr hszb)))
      have q0 : w5.cell? ⟨wr.heap.size, 0, none⟩ = some (.int .i64 x.1) := by rw [block_cell (block_kept HXb.out hb5)]; rfl
      have q1 : w5.cell? ⟨wr.heap.size, 1, none⟩ = some (.int .i64 x.2) := by rw [block_cell (block_kept HXb.out hb5)]; rfl
      have hsz5 : B ≤ w5.heap.size := by rw [HBE.out]; exact HB5.out.size
      clear hwb hrowb hb5 HXb HBb
      have hRl : R.length ≤ 1000 := by rw [HR.out]; simp; omega
      go_wp2_with (first | (at_builtin; refine wpList_append_lies _ rfl _ _ 36 rfl B 68 i0 (.agg #[.int .i64 0, .int .i64 0, .int .i64 0, .int .i64 0]) 4 32 Tryz.underlying36 hi hz0 hz1 hz2 rfl (by decide) _ _ _ rfl (World.ownsRow.alloc hrow5 _) ⟨w5.heap.size, 0, none⟩ 1 1 [.int .i64 x.1, .int .i64 x.2, .int .i64 (told W).1, .int .i64 (told W).2] rfl rfl (World.news_of_block (block_new w5 _ 68)) (by simp [Value.oneCell']) (by decide) (by unfold maxLen; omega) (by have := Nat.mul_le_mul_right 32 (show R.length + 1 ≤ 1001 by omega); exact Nat.le_trans this (by decide)) (by rw [World.size_alloc]; omega) _ rfl ?_; intro g1 cap1 w6 hown6 hgrow6 _ _))
      have hk6 := Keeps.grown (ts := [68]) (World.ownsRow.alloc hrow5 _) hgrow6 (by simp)
      have HB6 := hidz ((HB5.out.alloc hsz5 (.cells #[.int .i64 x.1, .int .i64 x.2, .int .i64 (told W).1, .int .i64 (told W).2] 68)).trans (hk6.toBelow (by rw [World.size_alloc]; omega)))
      go_roundw
      case rel =>
        refine ⟨k + 1, some ⟨g1, 0, none⟩, cap1, R ++ [⟨x.1, x.2, (told W).1, (told W).2⟩], by omega, by go_num, by simp, ?_, ?_, HB6⟩
        · show _ = _
          rw [HSU.out, HSI.out, ← HR.out]
        · show World.ownsRow _ _ _ _ _ _ _
          rw [flatS_app]
          simpa [flatS, Si.cells] using hown6
      case measure => simp [intOf]; omega
    · have hv : valW W = .iface 197 (.pointer (some ⟨W.g, 0, none⟩)) := by unfold valW; rw [hc]; rfl
      rw [hv] at hlk
      have m1 : ∀ (v : Value) (W : World), (Go.method 367 197 v "loop.example/g00094/impl.told").run Tryz.prog W = .ok (182, v) W := fun _ _ => by kernel_rfl
      have HT := hidz (toldCall_any W wb hc HWA.out)
      rw [hwb] at hlk
      clear hv hc HWA
      go_upto_region 6 with (first | (go_at_call 182; rw [← hwb]; refine HT.out.mono ?_; rintro e w5 ⟨rfl, hb5⟩) | go_in)
      clear hlk m1 HT c0' c1'
      have hrow5 := own_below hrowb hb5
      have HB5 := hidz (HBb.out.trans (hb5.mono (Nat.le_trans hBr hszb)))
      have q0 : w5.cell? ⟨wr.heap.size, 0, none⟩ = some (.int .i64 x.1) := by rw [block_cell (block_kept HXb.out hb5)]; rfl
      have q1 : w5.cell? ⟨wr.heap.size, 1, none⟩ = some (.int .i64 x.2) := by rw [block_cell (block_kept HXb.out hb5)]; rfl
      have hsz5 : B ≤ w5.heap.size := by rw [HBE.out]; exact HB5.out.size
      clear hwb hrowb hb5 HXb HBb
      have hRl : R.length ≤ 1000 := by rw [HR.out]; simp; omega
      go_wp2_with (first | (at_builtin; refine wpList_append_lies _ rfl _ _ 36 rfl B 68 i0 (.agg #[.int .i64 0, .int .i64 0, .int .i64 0, .int .i64 0]) 4 32 Tryz.underlying36 hi hz0 hz1 hz2 rfl (by decide) _ _ _ rfl (World.ownsRow.alloc hrow5 _) ⟨w5.heap.size, 0, none⟩ 1 1 [.int .i64 x.1, .int .i64 x.2, .int .i64 (told W).1, .int .i64 (told W).2] rfl rfl (World.news_of_block (block_new w5 _ 68)) (by simp [Value.oneCell']) (by decide) (by unfold maxLen; omega) (by have := Nat.mul_le_mul_right 32 (show R.length + 1 ≤ 1001 by omega); exact Nat.le_trans this (by decide)) (by rw [World.size_alloc]; omega) _ rfl ?_; intro g1 cap1 w6 hown6 hgrow6 _ _))
      have hk6 := Keeps.grown (ts := [68]) (World.ownsRow.alloc hrow5 _) hgrow6 (by simp)
      have HB6 := hidz ((HB5.out.alloc hsz5 (.cells #[.int .i64 x.1, .int .i64 x.2, .int .i64 (told W).1, .int .i64 (told W).2] 68)).trans (hk6.toBelow (by rw [World.size_alloc]; omega)))
      go_roundw
      case rel =>
        refine ⟨k + 1, some ⟨g1, 0, none⟩, cap1, R ++ [⟨x.1, x.2, (told W).1, (told W).2⟩], by omega, by go_num, by simp, ?_, ?_, HB6⟩
        · show _ = _
          rw [HSU.out, HSI.out, ← HR.out]
        · show World.ownsRow _ _ _ _ _ _ _
          rw [flatS_app]
          simpa [flatS, Si.cells] using hown6
      case measure => simp [intOf]; omega
end Go.Proofs.YtmmcockkbhnopaaGreat

namespace Go.Proofs.YtmmcockkbhnopaaGreat
open Go.RowKit

theorem rep_len {R : List Si} {ws : List Wt} (h : Rep R (tabW ws)) (hp : Places ws) : R.length = ws.length := by
  have h1 : (R.map fun x => (x.f, x.pc)).Nodup := by
    unfold List.Nodup
    rw [List.pairwise_map]
    exact h.1.imp (fun {x y} q (e : (x.f, x.pc) = (y.f, y.pc)) => sl_same q ⟨congrArg Prod.fst e, congrArg Prod.snd e⟩)
  have h2 := (List.perm_ext_iff_of_nodup h1 (places_nodup hp)).2 fun y => by
    constructor
    · intro hy
      obtain ⟨x, hx, rfl⟩ := List.mem_map.1 hy
      have hx := (h.2 x).1 hx
      unfold tabW at hx
      cases hf : ws.find? (fun W => decide (W.f = x.f ∧ W.p = x.pc)) with
      | none => rw [hf] at hx; cases hx
      | some W =>
        have h5 := List.find?_some hf
        simp only [decide_eq_true_eq] at h5
        exact List.mem_map.2 ⟨W, List.mem_of_find?_eq_some hf, by rw [h5.1, h5.2]⟩
    · intro hy
      obtain ⟨W, hW, rfl⟩ := List.mem_map.1 hy
      obtain ⟨l1, V, l2, rfl, k1, k2, hno⟩ := split_place (f := W.f) (p := W.p) ⟨W, hW, rfl, rfl⟩
      refine List.mem_map.2 ⟨⟨W.f, W.p, (told V).1, (told V).2⟩, (h.2 _).2 ?_, rfl⟩
      exact tabW_split k1 k2 hno
  simpa using h2.length_eq
theorem tab_nil : tabW [] = fun _ _ => none := rfl

set_option maxRecDepth 100000 in
set_option maxHeartbeats 8000000 in
theorem iMerge_any (a1 a2 pa qa : Option Addr) (c1 c2 pc qc : Nat) (ts : List ByteArray) (fs : List Fn) (p q : List Si) (w : World) (hs : Small ts fs) (hm : StrsAt w 0 a1 ts) (hm2 : FnsAt w 0 a2 fs) (hp : SitesAt w 0 pa p) (hq : SitesAt w 0 qa q) :
    Calls Tryz.prog 21 #[.agg #[.slice a1 ts.length c1, .slice a2 fs.length c2], .slice pa p.length pc, .slice qa q.length qc] w (MergePost ts fs p q w) := by
  obtain ⟨w0, hw0⟩ : ∃ w0, w0 = w.alloc (.cells #[.slice a1 ts.length c1, .slice a2 fs.length c2] 40) := ⟨_, rfl⟩
  have hb0 : Below w.heap.size w w0 := by rw [hw0]; exact (Below.refl _ _).alloc (Nat.le_refl _) _
  have hM0 : w0.heap[w.heap.size]? = some (.cells #[.slice a1 ts.length c1, .slice a2 fs.length c2] 40 (0, 0)) := by rw [hw0]; exact block_new _ _ _
  have HPO : Hid (∀ w', Below w.heap.size w w' → Calls Tryz.prog 36 #[.agg #[.slice a1 ts.length c1, .slice a2 fs.length c2], .slice pa p.length pc] w' fun e w'' => e = .returned (.bool (pB (Good ts fs ∧ ProfP fs p))) ∧ Below w'.heap.size w' w'') := fun w' h => iProfileOk_any a1 a2 c1 c2 ts fs pa pc p w' hs (hm.mono h) (hm2.mono h) (hp.mono h)
  have HQO : Hid (∀ w', Below w.heap.size w w' → Calls Tryz.prog 36 #[.agg #[.slice a1 ts.length c1, .slice a2 fs.length c2], .slice qa q.length qc] w' fun e w'' => e = .returned (.bool (pB (Good ts fs ∧ ProfP fs q))) ∧ Below w'.heap.size w' w'') := fun w' h => iProfileOk_any a1 a2 c1 c2 ts fs qa qc q w' hs (hm.mono h) (hm2.mono h) (hq.mono h)
  have HFN := hidz hm2
  have HPS := hidz hp
  have HQS := hidz hq
  have m0 := block_cell hM0
  clear hm hm2 hp hq
  go_enter Tryz.func21, Tryz.ntmps21
  go_wp2_with fail
  rw [← hw0]
  clear hw0 m0
  refine (HPO.out _ hb0).mono ?_
  rintro e w1 ⟨rfl, hb1⟩
  have hB1 := hb0.trans (hb1.mono hb0.size)
  have hM1 := block_kept hM0 hb1
  have m1 := block_cell hM1
  clear hb1 hM0 hb0 HPO
  by_cases hP : Good ts fs ∧ ProfP fs p
  case neg =>
    rw [pB_no hP]
    have HN := hidz hP
    have HB := hidz hB1
    clear hP hB1
    go_wp2
    go_ret
    unfold MergePost
    exact ⟨_, [], rfl, .inr ⟨fun h => HN.out h.1, rfl⟩, ⟨rfl, .inl ⟨rfl, rfl⟩⟩, HB.out⟩
  rw [pB_yes hP]
  go_wp2_with fail
  clear m1
  refine (HQO.out _ hB1).mono ?_
  rintro e w2 ⟨rfl, hb2⟩
  have hB2 := hB1.trans (hb2.mono hB1.size)
  have hM2 := block_kept hM1 hb2
  clear hb2 hM1 hB1 HQO
  by_cases hQ : Good ts fs ∧ ProfP fs q
  case neg =>
    rw [pB_no hQ]
    have HN := hidz hQ
    have HG := hidz hP
    have HB := hidz hB2
    clear hQ hP hB2
    go_wp2
    go_ret
    unfold MergePost
    exact ⟨_, [], rfl, .inr ⟨fun h => HN.out ⟨HG.out.1, h.2.1⟩, rfl⟩, ⟨rfl, .inl ⟨rfl, rfl⟩⟩, HB.out⟩
  rw [pB_yes hQ]
  have HPP := hidz hP
  have HQQ := hidz hQ
  have hp150 := hP.2.1
  have hq150 := hQ.2.1
  clear hP hQ
  obtain ⟨w3, hw3⟩ : ∃ w3, w3 = w2.alloc (.map #[] 0) := ⟨_, rfl⟩
  have hb3 : Below w2.heap.size w2 w3 := by rw [hw3]; exact (Below.refl _ _).alloc (Nat.le_refl _) _
  have hmap3 : w3.heap[w2.heap.size]? = some (.map #[] 0) := by rw [hw3]; exact World.alloc_heap_new w2 _
  have HP3 : Hid (Prf w3 w2.heap.size w2.heap.size (opD fs) []) := ⟨⟨_, _, hmap3, rfl, fun e h => by simp at h, List.Pairwise.nil⟩, Nat.le_refl _, fun W h => (by cases h), List.Pairwise.nil, List.Pairwise.nil, fun W h => (by cases h)⟩
  have HM3 := hidz (block_kept hM2 hb3)
  have HB2 := hidz hB2
  have HB3 := hidz hb3
  have HFR : Hid (∀ w', Below w2.heap.size w3 w' → Below w.heap.size w w') := fun w' h => hB2.trans ((hb3.trans h).mono hB2.size)
  have HWL0 : Hid (w.heap.size < w2.heap.size) := lt_sizez hM2
  have hmk := block_cell hM2
  clear hM2 hB2 hmap3 hb3
  have hmm : (Instr.makeMap 75 none).run Tryz.prog w2 = .ok (.map (some w2.heap.size)) (w2.alloc (.map #[] 0)) := rfl
  go_upto_region 4 with fail
  rw [← hw3]
  clear hmm
  clear hmk
  have m3 := block_cell HM3.out
  obtain ⟨lo, hlo⟩ : ∃ lo, lo = w2.heap.size := ⟨_, rfl⟩
  have hsz3 : lo ≤ w3.heap.size := by rw [hlo, hw3]; simp
  rw [← hlo] at HP3 HFR ⊢
  have HLO := hidz hlo
  have HWL : Hid (w.heap.size < lo) := by rw [hlo]; exact HWL0.out
  clear hw3 hlo
  go_wp2_with fail
  refine (addAll_any a1 a2 pa ts.length c1 c2 pc fs lo lo 0 [] p w3 (fun x hx => prof_site HPP.out.2 hx) hp150 hsz3 (fun w' h => HFN.out.mono (HFR.out w' h)) (fun w' h => HPS.out.mono (HFR.out w' h)) HP3.out (fun W h => by cases h) (by omega)).mono ?_
  rintro e w4 ⟨⟨v, rfl⟩, ws1, h1, h2, h3, h4, h5⟩
  have HB4 := hidz (HFR.out w4 (h5))
  have HM4 : Hid (w4.heap[w.heap.size]? = some (.cells #[.slice a1 ts.length c1, .slice a2 fs.length c2] 40 (0, 0))) := (h5.block _ HWL.out).trans HM3.out
  have HP4 := hidz h1
  have HU4 : Hid (Used p.length ws1) := by rw [← Nat.zero_add p.length]; exact h2
  have HT4 : Hid (tabW ws1 = allC (opD fs) (fun _ _ => none) p) := by rw [← tab_nil]; exact h3
  have HL4 : Hid (ws1.length ≤ 150) := by show _ ≤ _; simp at h4; omega
  have HB34 := hidz h5
  have hsz4 : lo ≤ w4.heap.size := Nat.le_trans hsz3 h5.size
  have m4 := block_cell HM4.out
  clear h1 h2 h3 h4 h5 m3 HP3 HM3
  go_wp2_with fail
  refine (addAll_any a1 a2 qa ts.length c1 c2 qc fs lo lo p.length ws1 q w4 (fun x hx => prof_site HQQ.out.2 hx) hq150 hsz4 (fun w' h => HFN.out.mono (HFR.out w' (HB34.out.trans h))) (fun w' h => HQS.out.mono (HFR.out w' (HB34.out.trans h))) HP4.out HU4.out (by omega)).mono ?_
  rintro e w5 ⟨⟨v, rfl⟩, ws2, h1, h2, h3, h4, h5⟩
  have HB5 := hidz (HFR.out w5 (HB34.out.trans h5))
  have HP5 := hidz h1
  have HT5 : Hid (tabW ws2 = allC (opD fs) (allC (opD fs) (fun _ _ => none) p) q) := by show _ = _; rw [h3, HT4.out]
  have HL5 : Hid (ws2.length ≤ 300) := by have := HL4.out; show _ ≤ _; omega
  have HMG : Hid (Rep (mergeS (opD fs) p q) (tabW ws2)) := by rw [HT5.out]; exact merge_rep _ q p _ (none_rep _ (prof_asc HPP.out.2))
  have HML := hidz (rep_len HMG.out HP5.out.places)
  have HTO := hidz (told_any lo lo (opD fs) ws2 w5 HP5.out (by have := HL5.out; omega))
  obtain ⟨es, ck, hme, hen, -⟩ := h1.map
  have hsz : es.size = ws2.length := by simpa using (ents_at hen).1
  obtain ⟨N, hN⟩ : ∃ N, N = ws2.length := ⟨_, rfl⟩
  rw [← hN] at hsz HML
  have hlen : ∀ ty, (Builtin.len_ #[75] ty #[.map (some lo)]).run Tryz.prog w5 = .ok (.int .i64 (N : Int)) w5 := by
    intro ty
    rw [← hsz]
    simp [Builtin.len_, run_underlying Tryz.underlying75, MapKept.run_getObj_map hme, goInt, Result.andThen]
  clear h1 h2 h3 h4 h5 m4 HP4 HM4 hen hN
  by_cases h150 : N ≤ 150
  · have z3 : ¬ ((150 : Int) < (N : Int)) := by omega
    have H150 := hidz h150
    clear h150
    go_wp2_with fail
    clear hlen
    refine HTO.out.mono ?_
    clear HTO
    rintro e w6 ⟨v, R, rfl, k1, k2, k3, k4⟩
    have hR : R = mergeS (opD fs) p q := k1.one HMG.out
    have HFIN : Hid (MergePost ts fs p q w (.returned v) w6) :=
      ⟨v, R, rfl, .inl ⟨HPP.out, HQQ.out.2, by rw [HML.out]; exact H150.out, hR⟩, own_lowz k3 HB5.out.size, HB5.out.trans (k4.mono HB5.out.size)⟩
    clear k1 k2 k3 k4 hR
    go_wp2
    go_ret
    exact HFIN.out
  · have z3 : (150 : Int) < (N : Int) := by omega
    have H150 := hidz h150
    clear h150 HTO
    go_wp2
    go_ret
    unfold MergePost
    exact ⟨_, [], rfl, .inr ⟨fun h => by have := h.2.2; rw [HML.out] at this; exact H150.out this, rfl⟩, ⟨rfl, .inl ⟨rfl, rfl⟩⟩, HB5.out⟩
end Go.Proofs.YtmmcockkbhnopaaGreat
