/-
  The walk of the document's l06: its state in memory; a value numbered anew.
-/
import Derived.Test.YtcfbahaokmhbkaaGreatKC8
import Derived.Test.YtcfbahaokmhbkaaGreatKC15
import Derived.Test.YtcfbahaokmhbkaaGreatN5
import Derived.Deep.RegionLaw
namespace Go.Proofs.YtcfbahaokmhbkaaGreat
open Go.RowKit

/-- The new number of record j, -1 if it was not met. -/
def newOf (ms : List Nat) (j : Nat) : Int := if j ∈ ms then (idx ms j : Int) else -1
def newsRow (H : Nat) (ms : List Nat) : List Value := (List.range H).map fun j => .int .i64 (newOf ms j)
def listRow (ms : List Nat) : List Value := ms.map fun (n : Nat) => .int .i64 ((n : Nat) : Int)
theorem newsRow_len (H : Nat) (ms : List Nat) : (newsRow H ms).length = H := by simp [newsRow]
theorem newsRow_at {H j : Nat} (ms : List Nat) (h : j < H) : (newsRow H ms)[j]? = some (.int .i64 (newOf ms j)) := by simp [newsRow, h]
theorem newsRow_set {H n : Nat} {ms : List Nat} (hn : n < H) (hm : n ∉ ms) : (newsRow H ms).set n (.int .i64 (ms.length : Int)) = newsRow H (ms ++ [n]) := by
  apply List.ext_getElem?
  intro j
  rcases Nat.lt_or_ge j H with hj | hj
  · rw [newsRow_at _ hj]
    by_cases e : j = n
    · subst e
      rw [List.getElem?_set_self (by rw [newsRow_len]; exact hj), newOf, if_pos (by simp), idx_last hm]
    · rw [List.getElem?_set_ne (fun h => e h.symm), newsRow_at _ hj, newOf, newOf]
      by_cases hj2 : j ∈ ms
      · rw [if_pos hj2, if_pos (by simp [hj2]), idx_app n hj2]
      · rw [if_neg hj2, if_neg (by simp [hj2, e])]
  · rw [List.getElem?_eq_none (by rw [List.length_set, newsRow_len]; exact hj), List.getElem?_eq_none (by rw [newsRow_len]; exact hj)]

/-- The walk's state: its block Wb, the new numbers, the list of those that were met. -/
structure WalkAt (w : World) (Wb B0 B : Nat) (hv : Value) (H : Nat) (nv lv : Value) (ms : List Nat) : Prop where
  blk : w.heap[Wb]? = some (.cells #[hv, nv, lv] 87 (0, 0))
  news : w.ownsRow B0 3 1 nv H (newsRow H ms)
  list : w.ownsRow B 3 1 lv ms.length (listRow ms)
  low : ∀ g, nv.ownBlock = some g → g < B
  wb : B0 ≤ Wb
  bb : B0 ≤ B

theorem own_mono {w w' : World} {B e size n : Nat} {v : Value} {xs : List Value} (h : w.ownsRow B e size v n xs) (hb : Below w.heap.size w w') : w'.ownsRow B e size v n xs := by
  refine ⟨h.1, ?_⟩
  rcases h.2 with ⟨e, hn⟩ | ⟨b, cap, cur, e, hb', hh, r⟩
  · exact .inl ⟨e, hn⟩
  · exact .inr ⟨b, cap, cur, e, hb', block_kept hh hb, r⟩
theorem own_set {w : World} {B e size n g i : Nat} {v u : Value} {xs : List Value} (h : w.ownsRow B e size v n xs) (hg : v.ownBlock ≠ some g) : (w.setCell ⟨g, i, none⟩ u).ownsRow B e size v n xs := by
  refine ⟨h.1, ?_⟩
  rcases h.2 with ⟨e, hn⟩ | ⟨b, cap, cur, e, hb', hh, r⟩
  · exact .inl ⟨e, hn⟩
  · refine .inr ⟨b, cap, cur, e, hb', ?_, r⟩
    rw [Below.heap_setCell _ _ _ _ (fun e2 => hg (by rw [e]; show some b = some g; rw [show b = g from e2]))]
    exact hh
theorem WalkAt.mono {w w' : World} {Wb B0 B H : Nat} {hv nv lv : Value} {ms : List Nat} (h : WalkAt w Wb B0 B hv H nv lv ms) (hb : Below w.heap.size w w') : WalkAt w' Wb B0 B hv H nv lv ms :=
  ⟨block_kept h.blk hb, own_mono h.news hb, own_mono h.list hb, h.low, h.wb, h.bb⟩
theorem own_keep {w w' : World} {B B0 e size n : Nat} {ts : List Nat} {v : Value} {xs : List Value} (h : w.ownsRow B e size v n xs) (hk : Keeps B0 ts w w') (he : e ∉ ts) : w'.ownsRow B e size v n xs := by
  refine ⟨h.1, ?_⟩
  rcases h.2 with ⟨e, hn⟩ | ⟨b, cap, cur, e, hb', hh, r⟩
  · exact .inl ⟨e, hn⟩
  · exact .inr ⟨b, cap, cur, e, hb', hk.cell hh he, r⟩
/-- A cell of an owned row of one-cell elements written. -/
theorem own_put1 {w : World} {B e n g c j : Nat} {u : Value} {xs : List Value} (h : w.ownsRow B e 1 (.slice (some ⟨g, 0, none⟩) n c) n xs) : (w.setCell ⟨g, j, none⟩ u).ownsRow B e 1 (.slice (some ⟨g, 0, none⟩) n c) n (xs.set j u) := by
  refine ⟨by rw [List.length_set]; exact h.1, ?_⟩
  rcases h.2 with ⟨e, hn⟩ | ⟨b, cap, cur, e, hb', hh, h1, h2, h3, h4⟩
  · cases e
  · cases e
    refine .inr ⟨g, c, cur.setIfInBounds j u, rfl, hb', block_set hh _, h1, h2, by simpa using h3, ?_⟩
    rw [Array.toList_setIfInBounds, List.take_set, h4]
theorem own_block {w : World} {B e size n g c : Nat} {xs : List Value} (h : w.ownsRow B e size (.slice (some ⟨g, 0, none⟩) n c) n xs) : ∃ cur : Array Value, w.heap[g]? = some (.cells cur e (0, 0)) ∧ B ≤ g := by
  rcases h.2 with ⟨e, hn⟩ | ⟨b, cap, cur, e, hb', hh, r⟩
  · cases e
  · cases e; exact ⟨cur, hh, hb'⟩

theorem Keeps.setNew {B p : Nat} {ts : List Nat} {a w : World} (h : Keeps B ts a w) (hp : a.heap.size ≤ p) (i : Nat) (v : Value) : Keeps B ts a (w.setCell ⟨p, i, none⟩ v) :=
  ⟨h.os, h.tape, h.output, by have := h.size; simpa using this, fun k o hk ho => by
    have := lt_block hk
    rw [Below.heap_setCell _ _ _ _ (by show k ≠ p; omega)]; exact h.block k o hk ho⟩
theorem own_setT {w : World} {B e size n g i t : Nat} {v u : Value} {xs : List Value} {c : Array Value} {fr : Nat × Nat} (h : w.ownsRow B e size v n xs) (hg : w.heap[g]? = some (.cells c t fr)) (ht : t ≠ e) : (w.setCell ⟨g, i, none⟩ u).ownsRow B e size v n xs := by
  refine ⟨h.1, ?_⟩
  rcases h.2 with ⟨e, hn⟩ | ⟨b, cap, cur, e, hb', hh, r⟩
  · exact .inl ⟨e, hn⟩
  · refine .inr ⟨b, cap, cur, e, hb', ?_, r⟩
    rw [Below.heap_setCell _ _ _ _ (fun e2 => ?_)]
    · exact hh
    · rw [show b = g from e2, hg] at hh; cases hh; exact ht rfl
theorem own_grown {w w' : World} {base B0 e n m g c : Nat} {v : Value} {xs ys : List Value} (h : w.ownsRow B0 e 1 (.slice (some ⟨g, 0, none⟩) n c) n xs) (hg : g < base) (hown : w.ownsRow base e 1 v m ys) (hgr : w.grownBy w' v.ownBlock) : w'.ownsRow B0 e 1 (.slice (some ⟨g, 0, none⟩) n c) n xs := by
  refine ⟨h.1, ?_⟩
  rcases h.2 with ⟨e, hn⟩ | ⟨b, cap, cur, e, hb', hh, r⟩
  · cases e
  · cases e
    exact .inr ⟨g, c, cur, rfl, hb', grown_kept hown hg hh hgr, r⟩
theorem WalkAt.set {w : World} {Wb B0 B H g i t : Nat} {hv nv lv u : Value} {ms : List Nat} {c : Array Value} {fr : Nat × Nat} (h : WalkAt w Wb B0 B hv H nv lv ms) (hg : w.heap[g]? = some (.cells c t fr)) (h87 : t ≠ 87) (h3 : t ≠ 3) : WalkAt (w.setCell ⟨g, i, none⟩ u) Wb B0 B hv H nv lv ms := by
  refine ⟨?_, own_setT h.news hg h3, own_setT h.list hg h3, h.low, h.wb, h.bb⟩
  rw [Below.heap_setCell _ _ _ _ (fun e2 => ?_)]
  · exact h.blk
  · have := h.blk; rw [show Wb = g from e2, hg] at this; cases this; exact h87 rfl
theorem set_has {w : World} {g i b : Nat} {u : Value} {c : Array Value} {t : TypeId} (h : w.heap[b]? = some (.cells c t (0, 0))) : ∃ c', (w.setCell ⟨g, i, none⟩ u).heap[b]? = some (.cells c' t (0, 0)) := by
  by_cases e : b = g
  · subst e; exact ⟨_, block_set h _⟩
  · exact ⟨c, by rw [Below.heap_setCell _ _ _ _ e]; exact h⟩

set_option maxRecDepth 100000 in
set_option maxHeartbeats 2000000 in
theorem sValue_any (Wb B0 B : Nat) (hv : Value) (H : Nat) (nv lv : Value) (ms : List Nat) (v : Vl) (w : World) (hW : WalkAt w Wb B0 B hv H nv lv ms) (hB : B ≤ w.heap.size) (hn : Named H v) (hM : Met H ms) (hH : H ≤ 1048576) :
    Calls Tryz.prog 52 #[.pointer (some ⟨Wb, 0, none⟩), .agg #[.int .i64 v.k, .int .i64 v.n, .string v.s]] w fun e w' => e = .returned (.agg #[.int .i64 (mV ms v).k, .int .i64 (mV ms v).n, .string (mV ms v).s]) ∧ (∃ nv' lv', WalkAt w' Wb B0 B hv H nv' lv' (mS ms v)) ∧ Keeps B0 [87, 3] w w' := by
  obtain ⟨wA, hwA⟩ : ∃ wA, wA = (w.alloc (.cells #[.int .i64 v.k, .int .i64 v.n, .string v.s] 36)).alloc (.cells #[.int .i64 0, .int .i64 0, .string ⟨#[]⟩] 36) := ⟨_, rfl⟩
  have hbA : Below w.heap.size w wA := by rw [hwA]; exact ((Below.refl _ _).alloc (Nat.le_refl _) _).alloc (by simp) _
  have hX : wA.heap[w.heap.size]? = some (.cells #[.int .i64 v.k, .int .i64 v.n, .string v.s] 36 (0, 0)) := by rw [hwA]; exact block_old (block_new _ _ _) _
  have hR : wA.heap[w.heap.size + 1]? = some (.cells #[.int .i64 0, .int .i64 0, .string ⟨#[]⟩] 36 (0, 0)) := by rw [hwA]; exact block_new_at _ _ _ _ (by simp)
  have hWA := hW.mono hbA
  have x1 := block_cell hX
  have r1 := block_cell hR
  have r2 := block_free hR
  by_cases h4 : v.k = 4
  · obtain ⟨j, hj, hjH⟩ : ∃ j : Nat, v.n = (j : Int) ∧ j < H := by
      obtain ⟨h1, h2⟩ := hn h4
      exact ⟨v.n.toNat, by omega, by omega⟩
    rw [h4, hj] at hwA hX
    rw [h4, hj] at x1
    have eV : Hid ((mV ms v) = ⟨4, (idx ms j : Int), v.s⟩) := by
      show mV ms v = _
      unfold mV; rw [if_pos h4, hj, Int.toNat_natCast, h4]
    have eS : Hid (mS ms v = seen ms j) := by
      show mS ms v = _
      unfold mS; rw [if_pos h4, hj, Int.toNat_natCast]
    obtain ⟨gn, ncap, e, hgn, -⟩ := hWA.news.form (by omega)
    subst e
    have w1 := block_cell hWA.blk
    have c1 : wA.cell? ⟨gn, j, none⟩ = some (.int .i64 (newOf ms j)) := by rw [hWA.news.cellAt j (by omega)]; exact newsRow_at ms hjH
    have HbA := hid hbA
    have HWA := hid hWA
    have HX := hid hX
    have HR := hid hR
    have hML : ms.length ≤ 1048576 := by have := hM.le; omega
    by_cases hm : j ∈ ms
    · have HM := hid hm
      have e1 : newOf ms j = (idx ms j : Int) := by unfold newOf; rw [if_pos hm]
      rw [e1] at c1
      rw [h4, hj]
      clear hbA hWA hW hX hR hn hM h4 hj hm e1
      go_enter Tryz.func52, Tryz.ntmps52
      go_wp2
      rw [← hwA]
      clear hwA
      go_quiet (fail)
      have hbq : Below w.heap.size w (wA.drewN nq) := below_drewN HbA.out nq
      have hbd : Below wA.heap.size wA (wA.drewN nq) := below_drewN (Below.refl _ _) nq
      have HWq := hid (HWA.out.mono hbd)
      have HXq := hid (block_kept HX.out hbd)
      have HRq := hid (block_kept HR.out hbd)
      have Hbq := hid hbq
      obtain ⟨wq, hwq⟩ : ∃ wq, wq = wA.drewN nq := ⟨_, rfl⟩
      rw [← hwq] at HWq HXq HRq Hbq
      go_wp2
      rw [← hwq]
      clear hwq w1 c1 x1 r1 r2 hbq hbd
      have w1 := block_cell HWq.out.blk
      have c1 : wq.cell? ⟨gn, j, none⟩ = some (.int .i64 (idx ms j : Int)) := by rw [HWq.out.news.cellAt j (by omega), newsRow_at ms hjH, newOf, if_pos HM.out]
      have x1 := block_cell HXq.out
      have x2 := block_free HXq.out
      have r1 := block_cell HRq.out
      have r2 := block_free HRq.out
      go_region
      go_wp2
      refine bodyPost_ret (v := .agg #[.int .i64 4, .int .i64 (idx ms j : Int), .string v.s]) (by simp [results, Tryz.results52, go_sem, r1]) rfl ?_
      refine ⟨by rw [eV.out], ⟨.slice (some ⟨gn, 0, none⟩) H ncap, lv, ?_⟩, Keeps.below ?_⟩
      · rw [eS.out, seen, if_pos HM.out]
        obtain ⟨c, hc⟩ := set_has (g := w.heap.size) (i := 1) (u := .int .i64 (idx ms j : Int)) HRq.out
        obtain ⟨c2, hc2⟩ := set_has (g := w.heap.size + 1) (i := 0) (u := .int .i64 4) hc
        obtain ⟨c3, hc3⟩ := set_has (g := w.heap.size + 1) (i := 1) (u := .int .i64 (idx ms j : Int)) hc2
        refine WalkAt.mono ?_ (Below.refl _ _).drew
        exact (((HWq.out.set HXq.out (by decide) (by decide)).set hc (by decide) (by decide)).set hc2 (by decide) (by decide)).set hc3 (by decide) (by decide)
      · refine Below.drew ?_
        iterate 3 (refine Below.setCell ?_ (by show w.heap.size ≤ w.heap.size + 1; omega) _)
        exact Hbq.out.setCell (by show w.heap.size ≤ w.heap.size; omega) _
    · have HM := hid hm
      have e1 : newOf ms j = -1 := by unfold newOf; rw [if_neg hm]
      rw [e1] at c1
      rw [h4, hj]
      obtain ⟨ga, gc, rfl⟩ : ∃ ga gc, lv = .slice ga ms.length gc := by
        rcases hWA.list.2 with ⟨e, h0⟩ | ⟨b, cp, cu, e, -⟩
        · exact ⟨none, 0, by rw [e, h0]⟩
        · exact ⟨_, cp, e⟩
      clear hbA hWA hW hX hR hn hM h4 hj hm e1
      go_enter Tryz.func52, Tryz.ntmps52
      go_wp2
      rw [← hwA]
      clear hwA
      go_quiet (fail)
      have hbq : Below w.heap.size w (wA.drewN nq) := below_drewN HbA.out nq
      have hbd : Below wA.heap.size wA (wA.drewN nq) := below_drewN (Below.refl _ _) nq
      have HWq := hid (HWA.out.mono hbd)
      have HXq := hid (block_kept HX.out hbd)
      have HRq := hid (block_kept HR.out hbd)
      have Hbq := hid hbq
      obtain ⟨wq, hwq⟩ : ∃ wq, wq = wA.drewN nq := ⟨_, rfl⟩
      rw [← hwq] at HWq HXq HRq Hbq
      go_wp2
      rw [← hwq]
      clear hwq w1 c1 x1 r1 r2 hbq hbd
      obtain ⟨cn, hcn, -⟩ := own_block HWq.out.news
      have w1 := block_cell HWq.out.blk
      have c1 : wq.cell? ⟨gn, j, none⟩ = some (.int .i64 (-1)) := by rw [HWq.out.news.cellAt j (by omega), newsRow_at ms hjH, newOf, if_neg HM.out]
      have f1 := block_free hcn
      have x1 := block_cell HXq.out
      have HCN := hid hcn
      clear hcn
      go_region
      go_wp2
      obtain ⟨w5, hw5⟩ : ∃ w5, w5 = (wq.setCell ⟨gn, j, none⟩ (.int .i64 (ms.length : Int))).drew := ⟨_, rfl⟩
      have hne : Wb ≠ gn := fun e => by have := HWq.out.blk; rw [e, HCN.out] at this; cases this
      have hB5 : Below (wq.setCell ⟨gn, j, none⟩ (.int .i64 (ms.length : Int))).heap.size (wq.setCell ⟨gn, j, none⟩ (.int .i64 (ms.length : Int))) w5 := by rw [hw5]; exact (Below.refl _ _).drew
      have hblk5 : w5.heap[Wb]? = some (.cells #[hv, .slice (some ⟨gn, 0, none⟩) H ncap, .slice ga ms.length gc] 87 (0, 0)) := block_kept (by rw [Below.heap_setCell _ _ _ _ hne]; exact HWq.out.blk) hB5
      have hnews5 : w5.ownsRow B0 3 1 (.slice (some ⟨gn, 0, none⟩) H ncap) H (newsRow H (ms ++ [j])) := by
        have := own_put1 (j := j) (u := .int .i64 (ms.length : Int)) HWq.out.news
        rw [newsRow_set hjH HM.out] at this
        exact own_mono this hB5
      have hlist5 : w5.ownsRow B 3 1 (.slice ga ms.length gc) ms.length (listRow ms) := by
        refine own_mono (own_set HWq.out.list fun e => ?_) hB5
        have h1 := HWq.out.low gn rfl
        rcases HWq.out.list.2 with ⟨e2, -⟩ | ⟨b, cp, cu, e2, hb, -⟩
        · rw [e2] at e; cases e
        · rw [e2] at e; cases e; exact absurd h1 (Nat.not_lt.2 hb)
      have hX5 := block_kept (show (wq.setCell ⟨gn, j, none⟩ (.int .i64 (ms.length : Int))).heap[w.heap.size]? = _ by rw [Below.heap_setCell _ _ _ _ (fun e => by have := HXq.out; rw [show w.heap.size = gn from e, HCN.out] at this; cases this)]; exact HXq.out) hB5
      have hR5 := block_kept (show (wq.setCell ⟨gn, j, none⟩ (.int .i64 (ms.length : Int))).heap[w.heap.size + 1]? = _ by rw [Below.heap_setCell _ _ _ _ (fun e => by have := HRq.out; rw [show w.heap.size + 1 = gn from e, HCN.out] at this; cases this)]; exact HRq.out) hB5
      have hK5 : Keeps B0 [87, 3] w w5 := ((Keeps.below Hbq.out).set HCN.out (by simp) hgn _ _).trans (Keeps.below hB5)
      have hz5 : B ≤ w5.heap.size := by have := hK5.size; omega
      have HN5 := hid hnews5
      have HL5 := hid hlist5
      have HX5 := hid hX5
      have HR5 := hid hR5
      have HB5 := hid hblk5
      have HK5 := hid hK5
      obtain ⟨i0, hi, hz0, hz1, hz2⟩ := info_parts info3
      rw [← hw5]
      have hbD : Below w5.heap.size w5 w5.drew := (Below.refl _ _).drew
      have hblkD := block_kept hblk5 hbD
      have hlistD := own_mono hlist5 hbD
      clear w1 c1 f1 x1 hX5 hR5 hK5 hnews5 hw5 hB5
      have w1 := block_cell hblk5
      have w1A := block_cell (block_old hblk5 (.cells #[.int .i64 (j : Int)] 3))
      have x1 := block_cell HX5.out
      go_region_law (first
        | (refine step_append_lies _ (by rfl) _ _ _ (by rfl) B 3 i0 (.int .i64 0) 1 8 Tryz.underlying85 hi hz0 hz1 hz2 rfl (by decide) _ _ _ (by rfl) (World.ownsRow.alloc hlistD _) ⟨w5.drew.heap.size, 0, none⟩ 1 1 [.int .i64 (j : Int)] (by rfl) (by rfl) (World.news_of_block (cs := #[.int .i64 (j : Int)]) (t := 3) (fr := (0, 0)) (heap_alloc_new w5.drew _)) (by simp [Value.oneCell']) (by decide) (by unfold maxLen; omega) (by omega) (by simp; omega) (w5.drew.heap.size + 1) (by simp) ?_; intro g6 cp6 w6 hown6 hgrow6 hat6 hlt6; have hblk6 := grown_other (World.ownsRow.alloc hlistD _) (block_old hblkD _) (by decide) hgrow6; have b6 := block_cell hblk6; have b6f := block_free hblk6))
      all_goals
        have hlg : gn < B := HWq.out.low gn rfl
        have hownA := World.ownsRow.alloc hlistD (.cells #[.int .i64 (j : Int)] 3)
        have hbA : Below w5.heap.size w5 (w5.drew.alloc (.cells #[.int .i64 (j : Int)] 3)) := hbD.alloc (Nat.le_refl _) _
        have hnews6 := own_grown (own_mono HN5.out hbA) hlg hownA hgrow6
        have hX6 := grown_other hownA (block_kept HX5.out hbA) (by decide) hgrow6
        have hR6 := grown_other hownA (block_kept HR5.out hbA) (by decide) hgrow6
        have hK6 : Keeps B0 [87, 3] w w6 := (HK5.out.trans (Keeps.below hbA)).trans (Keeps.mono (Keeps.grown (ts := [3]) hownA hgrow6 (by simp)) HWq.out.bb (by simp))
        obtain ⟨w7, hw7⟩ : ∃ w7, w7 = w6.setCell ⟨Wb, 2, none⟩ (.slice (some ⟨g6, 0, none⟩) (ms.length + 1) cp6) := ⟨_, rfl⟩
        have hK7 : Keeps B0 [87, 3] w w7 := by rw [hw7]; exact hK6.set hblk6 (by simp) HWq.out.wb _ _
        have hW7 : WalkAt w7 Wb B0 B hv H (.slice (some ⟨gn, 0, none⟩) H ncap) (.slice (some ⟨g6, 0, none⟩) (ms.length + 1) cp6) (ms ++ [j]) := by
          rw [hw7]
          refine ⟨?_, own_setT hnews6 hblk6 (by decide), ?_, fun g hg => by cases hg; exact hlg, HWq.out.wb, HWq.out.bb⟩
          · simpa using block_set (i := 2) hblk6 (.slice (some ⟨g6, 0, none⟩) (ms.length + 1) cp6)
          · have e1 : listRow (ms ++ [j]) = listRow ms ++ [.int .i64 (j : Int)] := by simp [listRow]
            rw [e1, List.length_append, List.length_singleton]
            exact own_setT hown6 hblk6 (by decide)
        have hX7 : w7.heap[w.heap.size]? = some (.cells #[.int .i64 4, .int .i64 (j : Int), .string v.s] 36 (0, 0)) := by rw [hw7, Below.heap_setCell _ _ _ _ (fun e => by rw [show w.heap.size = Wb from e, hblk6] at hX6; cases hX6)]; exact hX6
        have hR7 : w7.heap[w.heap.size + 1]? = some (.cells #[.int .i64 0, .int .i64 0, .string ⟨#[]⟩] 36 (0, 0)) := by rw [hw7, Below.heap_setCell _ _ _ _ (fun e => by rw [show w.heap.size + 1 = Wb from e, hblk6] at hR6; cases hR6)]; exact hR6
        have HW7 := hid hW7
        have HX7 := hid hX7
        have HR7 := hid hR7
        have HK7 := hid hK7
        clear hownA hbA hnews6 hX6 hR6 hK6 hlistD hblkD hbD hown6 hgrow6 hat6 hlt6 hblk6 b6 b6f w1 w1A x1 hblk5 hlist5
        go_wp2
        rw [← hw7]
        clear hw7
        have w1 := block_cell hW7.blk
        have c1 : w7.cell? ⟨gn, j, none⟩ = some (.int .i64 (ms.length : Int)) := by rw [hW7.news.cellAt j (by omega), newsRow_at _ hjH, newOf, if_pos (by simp), idx_last HM.out]
        have x1 := block_cell hX7
        have x2 := block_free hX7
        have r1 := block_cell hR7
        have r2 := block_free hR7
        clear hW7 hX7 hR7 hK7
        go_region
        go_wp2
        refine bodyPost_ret (v := .agg #[.int .i64 4, .int .i64 (ms.length : Int), .string v.s]) (by simp [results, Tryz.results52, go_sem, r1]) rfl ?_
        refine ⟨by rw [eV.out, idx_new HM.out], ⟨.slice (some ⟨gn, 0, none⟩) H ncap, .slice (some ⟨g6, 0, none⟩) (ms.length + 1) cp6, ?_⟩, ?_⟩
        · rw [eS.out, seen, if_neg HM.out]
          obtain ⟨c, hc⟩ := set_has (g := w.heap.size) (i := 1) (u := .int .i64 (ms.length : Int)) HR7.out
          obtain ⟨c2, hc2⟩ := set_has (g := w.heap.size + 1) (i := 0) (u := .int .i64 4) hc
          obtain ⟨c3, hc3⟩ := set_has (g := w.heap.size + 1) (i := 1) (u := .int .i64 (ms.length : Int)) hc2
          refine WalkAt.mono ?_ (Below.refl _ _).drew
          exact (((HW7.out.set HX7.out (by decide) (by decide)).set hc (by decide) (by decide)).set hc2 (by decide) (by decide)).set hc3 (by decide) (by decide)
        · refine Keeps.drew ?_
          iterate 3 (refine Keeps.setNew ?_ (by show w.heap.size ≤ w.heap.size + 1; omega) _ _)
          exact HK7.out.setNew (Nat.le_refl _) _ _
  · have eV : Hid (mV ms v = v) := by
      show mV ms v = v
      unfold mV; rw [if_neg h4]
    have eS : Hid (mS ms v = ms) := by
      show mS ms v = ms
      unfold mS; rw [if_neg h4]
    have HW := hid hW
    clear hbA hWA hW
    go_enter Tryz.func52, Tryz.ntmps52
    go_wp2
    refine bodyPost_ret (v := .agg #[.int .i64 v.k, .int .i64 v.n, .string v.s]) (by simp [results, Tryz.results52, go_sem]) rfl ?_
    have hb : ∀ a b, Below w.heap.size w ((w.alloc a).alloc b) := fun a b => ((Below.refl _ _).alloc (Nat.le_refl _) _).alloc (by simp) _
    exact ⟨by rw [eV.out], ⟨nv, lv, by rw [eS.out]; exact HW.out.mono (hb _ _)⟩, Keeps.below (hb _ _)⟩
end Go.Proofs.YtcfbahaokmhbkaaGreat
