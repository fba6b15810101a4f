/-
What spec.ModuleOk returns, for every module within the stated sizes.
A row of memory that holds heights, and what spec.l03Depths returns for a module that is ok: the heights that are told.
What the library's slices.Repeat, slices.Index, slices.Contains return at the program's calls; impl.leftBy and impl.followersOf.
What the library's slices.Repeat returns at the program's call: a slice of as many numbers, in memory of the call's own.
-/
import Derived.Test.YtoimokjohmhnaaaGreatDoorHW5
import Derived.Test.YtoimokjohmhnaaaGreatDoorHD
import Derived.Deep.RegionHeld3
import Derived.Deep.LoopGhost
import Derived.Shelf.Bits.Mul64
import Derived.Laws.CopyOwn
import Derived.Deep.RegionLaw
namespace Go.Proofs.YtoimokjohmhnaaaGreatDoor
open Go.RowKit
theorem below_undraw {w w' : World} (h : Below w.drew.heap.size w.drew w') : Below w.heap.size w w' := ⟨h.os, h.tape, h.output, h.size, h.block⟩
set_option maxHeartbeats 2000000 in
theorem sModuleOk_any (a1 a2 : Option Addr) (ts : List ByteArray) (fs : List Fn) (c1 c2 : Nat) (w : World) (hs : Small ts fs) (hm : StrsAt w 0 a1 ts) (hf : FnsAt w 0 a2 fs) :
  Calls Tryz.prog 141 #[.agg #[.slice a1 ts.length c1, .slice a2 fs.length c2]] w fun e w' => e = .returned (.bool (modB ts fs)) ∧ Below w.heap.size w w' := by
 have s1 := hs.texts
 have s2 := hs.funcs
 by_cases hh : 1 ≤ fs.length ∧ fs.length ≤ 12 ∧ ts.length ≤ 20
 ·
  have HF : Hid (modB ts fs = (ts.all textB && fs.all fun f => fnB ts.length fs.length f)) := modB_all hh
  have g1 : (1 : Int) ≤ (fs.length : Int) := by omega
  have g2 : (fs.length : Int) ≤ 12 := by omega
  have g3 : (ts.length : Int) ≤ 20 := by omega
  clear hh
  have hbA : Below w.heap.size w (w.alloc (.cells #[.slice a1 ts.length c1, .slice a2 fs.length c2] 35)) := (Below.refl _ _).alloc (Nat.le_refl _) _
  have hM0 := block_new w #[.slice a1 ts.length c1, .slice a2 fs.length c2] 35
  go_enter Tryz.func141, Tryz.ntmps141
  go_wp2_with (go_at_call 58; refine (between_any _ _ _ _).mono ?_; rintro e w1 ⟨rfl, rfl⟩)
  go_loop [3] (fun i => ∃ (k : Nat), k ≤ ts.length ∧ i = .int .i64 k ∧ (ts.take k).all textB = true) (fun i => ts.length - (intOf i).toNat)
  case atStart => exact ⟨0, by omega, rfl, by simp⟩
  case round =>
   obtain ⟨k, hk, rfl, hall⟩ := hrel
   by_cases hlt : k < ts.length
   ·
    obtain ⟨b, off, rfl, -, e1⟩ := hm k hlt
    have e1' := cell_later hbA e1
    have hts := hs.text ts[k] (List.getElem_mem hlt)
    clear e1 hM0
    by_cases hi : textB ts[k] = true
    ·
     go_wp2_with (go_at_call 132; refine (l01Text_any _ _ hts).mono ?_; rintro e w' ⟨rfl, rfl⟩)
     go_round
     case rel => exact ⟨k + 1, by omega, by go_num, all_take hlt hall hi⟩
     case measure => simp [intOf]; omega
    ·
     have hi' : textB ts[k] = false := by simpa using hi
     have HN : Hid (modB ts fs = false) := by rw [HF.out, all_no hlt hi']; rfl
     clear hi
     go_wp2_with (go_at_call 132; refine (l01Text_any _ _ hts).mono ?_; rintro e w' ⟨rfl, rfl⟩)
     go_ret
     exact ⟨ret_bool HN.out.symm, hbA⟩
   ·
    have hall2 : ts.all textB = true := all_end (by omega) hall
    have HF2 : Hid (modB ts fs = fs.all fun f => fnB ts.length fs.length f) := by rw [HF.out, hall2]; rfl
    clear hall hall2
    go_wp2
    go_loopw [4] (fun i wr => ∃ (k : Nat), k ≤ fs.length ∧ i = .int .i64 k ∧ (fs.take k).all (fun f => fnB ts.length fs.length f) = true ∧ wr.heap[w.heap.size]? = some (.cells #[.slice a1 ts.length c1, .slice a2 fs.length c2] 35 (0, 0)) ∧ Below w.heap.size w wr) (fun i _ => fs.length - (intOf i).toNat)
    case atStart => exact ⟨0, by omega, rfl, by simp, hM0, hbA⟩
    case round =>
     obtain ⟨q, hq, rfl, hallf, hM, hb⟩ := hrel
     obtain ⟨wo, rfl⟩ : ∃ wo, wo = wr := ⟨_, rfl⟩
     clear hM0
     have x1 := block_cell hM
     by_cases hlq : q < fs.length
     ·
      have hcq := hs.code fs[q] (List.getElem_mem hlq)
      obtain ⟨b, off, ca, cc, rfl, -, d1, d2, d3, d4⟩ := hf q hlq
      have d1' := cell_later hb d1
      have d2' := cell_later hb d2
      have d3' := cell_later hb d3
      have hsz := lt_block hM
      clear d1 d2 d3
      by_cases hq6 : 0 ≤ fs[q].params ∧ fs[q].params ≤ 6 ∧ fs[q].params ≤ fs[q].locals ∧ fs[q].locals ≤ 12 ∧ 1 ≤ fs[q].code.length ∧ fs[q].code.length ≤ 120
      ·
       have HQ : Hid (fnB ts.length fs.length fs[q] = fs[q].code.all fun x => insB ts.length fs.length fs[q].locals fs[q].code.length x.1 x.2) := fnB_all hq6
       obtain ⟨p1, p2, p3, p4, p5, p6⟩ := hq6
       have p5' : (1 : Int) ≤ (fs[q].code.length : Int) := by omega
       have p6' : (fs[q].code.length : Int) ≤ 120 := by omega
       go_wp2_with (go_at_call 58; refine (between_any _ _ _ _).mono ?_; rintro e w1 ⟨rfl, rfl⟩)
       have hX0 := block_new wo #[.int .i64 fs[q].params, .int .i64 fs[q].locals, .slice ca fs[q].code.length cc] 163
       have hM1 := block_old hM (.cells #[.int .i64 fs[q].params, .int .i64 fs[q].locals, .slice ca fs[q].code.length cc] 163)
       have hb1 : Below w.heap.size w (wo.alloc (.cells #[.int .i64 fs[q].params, .int .i64 fs[q].locals, .slice ca fs[q].code.length cc] 163)) := hb.alloc (by omega) _
       clear d1' d2' d3' x1 hM
       go_loopw [6] (fun i ws => ∃ (j : Nat), j ≤ fs[q].code.length ∧ i = .int .i64 j ∧ (fs[q].code.take j).all (fun x => insB ts.length fs.length fs[q].locals fs[q].code.length x.1 x.2) = true ∧ ws.heap[w.heap.size]? = some (.cells #[.slice a1 ts.length c1, .slice (some ⟨b, off, none⟩) fs.length c2] 35 (0, 0)) ∧ ws.heap[wo.heap.size]? = some (.cells #[.int .i64 fs[q].params, .int .i64 fs[q].locals, .slice ca fs[q].code.length cc] 163 (0, 0)) ∧ Below w.heap.size w ws) (fun i _ => fs[q].code.length - (intOf i).toNat)
       case atStart => exact ⟨0, by omega, rfl, by simp, hM1, hX0, hb1⟩
       case round =>
        obtain ⟨j, hj, rfl, hallc, hM2, hX, hb2⟩ := hrel
        clear hX0 hM1 hb1
        have y1 := block_cell hM2
        have y2 := block_cell hX
        by_cases hlj : j < fs[q].code.length
        ·
         obtain ⟨cb, co, rfl, -, e1, e2⟩ := d4 j hlj
         have e1' := cell_later hb2 e1
         have e2' := cell_later hb2 e2
         clear e1 e2
         by_cases hi : insB ts.length fs.length fs[q].locals fs[q].code.length fs[q].code[j].1 fs[q].code[j].2 = true
         ·
          have hi2 : (!insB ts.length fs.length fs[q].locals fs[q].code.length fs[q].code[j].1 fs[q].code[j].2) = false := by rw [hi]; rfl
          go_wp2
          go_region_held3 (fun w' => w'.heap[w.heap.size]? = some (.cells #[.slice a1 ts.length c1, .slice (some ⟨b, off, none⟩) fs.length c2] 35 (0, 0)) ∧ w'.heap[wo.heap.size]? = some (.cells #[.int .i64 fs[q].params, .int .i64 fs[q].locals, .slice (some ⟨cb, co, none⟩) fs[q].code.length cc] 163 (0, 0)) ∧ w'.cell? ⟨w.heap.size, 0, none⟩ = some (.slice a1 ts.length c1) ∧ w'.cell? ⟨w.heap.size, 1, none⟩ = some (.slice (some ⟨b, off, none⟩) fs.length c2) ∧ w'.cell? ⟨wo.heap.size, 2, none⟩ = some (.slice (some ⟨cb, co, none⟩) fs[q].code.length cc) ∧ w'.cell? ⟨cb, co + j * 2, none⟩ = some (.int .i64 fs[q].code[j].1) ∧ w'.cell? ⟨cb, co + j * 2 + 1, none⟩ = some (.int .i64 fs[q].code[j].2))
           (first | exact ⟨hM2, hX, (y1 0).trans rfl, (y1 1).trans rfl, (y2 2).trans rfl, e1', e2'⟩ | exact ⟨block_kept hM2 hb4, block_kept hX hb4, by rw [block_cell (block_kept hM2 hb4)]; rfl, by rw [block_cell (block_kept hM2 hb4)]; rfl, by rw [block_cell (block_kept hX hb4)]; rfl, cell_later hb4 e1', cell_later hb4 e2'⟩)
           (first | (go_at_call 199; refine (sInsOk_any _ _ _ _ _ fs q _ _ _ (by exact s1) (by exact s2) hlq (by exact hf.mono hb2.drew) (by omega) (by omega) (by omega)).mono ?_; rintro e w4 ⟨rfl, hb4d⟩; have hb4 := below_undraw hb4d))
          have hM3 := block_kept hM2 hb4
          have hX3 := block_kept hX hb4
          have hb5 : Below w.heap.size w w4 := hb2.trans (hb4.mono hb2.size)
          clear y1 y2 e1' e2' hb4 hb4d
          go_wp2
          go_roundw
          case rel => exact ⟨j + 1, by omega, by go_num, all_take hlj hallc hi, hM3, hX3, hb5⟩
          case measure => simp [intOf]; omega
         ·
          have hi' : insB ts.length fs.length fs[q].locals fs[q].code.length fs[q].code[j].1 fs[q].code[j].2 = false := by simpa using hi
          have HN : Hid (modB ts fs = false) := by
           rw [HF2.out]
           refine all_no (p := fun f => fnB ts.length fs.length f) hlq ?_
           show fnB ts.length fs.length fs[q] = false
           rw [HQ.out]
           exact all_no (p := fun x => insB ts.length fs.length fs[q].locals fs[q].code.length x.1 x.2) hlj hi'
          have hi2 : (!insB ts.length fs.length fs[q].locals fs[q].code.length fs[q].code[j].1 fs[q].code[j].2) = true := by rw [hi']; rfl
          clear hi
          go_wp2
          go_region_held3 (fun w' => w'.heap[w.heap.size]? = some (.cells #[.slice a1 ts.length c1, .slice (some ⟨b, off, none⟩) fs.length c2] 35 (0, 0)) ∧ w'.heap[wo.heap.size]? = some (.cells #[.int .i64 fs[q].params, .int .i64 fs[q].locals, .slice (some ⟨cb, co, none⟩) fs[q].code.length cc] 163 (0, 0)) ∧ w'.cell? ⟨w.heap.size, 0, none⟩ = some (.slice a1 ts.length c1) ∧ w'.cell? ⟨w.heap.size, 1, none⟩ = some (.slice (some ⟨b, off, none⟩) fs.length c2) ∧ w'.cell? ⟨wo.heap.size, 2, none⟩ = some (.slice (some ⟨cb, co, none⟩) fs[q].code.length cc) ∧ w'.cell? ⟨cb, co + j * 2, none⟩ = some (.int .i64 fs[q].code[j].1) ∧ w'.cell? ⟨cb, co + j * 2 + 1, none⟩ = some (.int .i64 fs[q].code[j].2))
           (first | exact ⟨hM2, hX, (y1 0).trans rfl, (y1 1).trans rfl, (y2 2).trans rfl, e1', e2'⟩ | exact ⟨block_kept hM2 hb4, block_kept hX hb4, by rw [block_cell (block_kept hM2 hb4)]; rfl, by rw [block_cell (block_kept hM2 hb4)]; rfl, by rw [block_cell (block_kept hX hb4)]; rfl, cell_later hb4 e1', cell_later hb4 e2'⟩)
           (first | (go_at_call 199; refine (sInsOk_any _ _ _ _ _ fs q _ _ _ (by exact s1) (by exact s2) hlq (by exact hf.mono hb2.drew) (by omega) (by omega) (by omega)).mono ?_; rintro e w4 ⟨rfl, hb4d⟩; have hb4 := below_undraw hb4d))
          have hb5 : Below w.heap.size w w4 := hb2.trans (hb4.mono hb2.size)
          clear y1 y2 e1' e2' hb4 hb4d
          go_wp2
          go_ret
          exact ⟨ret_bool HN.out.symm, hb5⟩
        ·
         have hallc2 := all_end (by omega) hallc
         have HA : Hid (fnB ts.length fs.length fs[q] = true) := by rw [HQ.out]; exact hallc2
         clear hallc hallc2
         go_wp2
         go_roundw
         case rel => exact ⟨q + 1, by omega, by go_num, all_take (p := fun f => fnB ts.length fs.length f) hlq hallf HA.out, hM2, hb2⟩
         case measure => simp [intOf]; omega
      ·
       have HQ : Hid (fnB ts.length fs.length fs[q] = false) := fnB_no hq6
       have HN : Hid (modB ts fs = false) := by rw [HF2.out]; exact all_no (p := fun f => fnB ts.length fs.length f) hlq HQ.out
       rcases (show fs[q].params < 0 ∨ (0 ≤ fs[q].params ∧ 6 < fs[q].params) ∨ (0 ≤ fs[q].params ∧ fs[q].params ≤ 6 ∧ fs[q].locals < fs[q].params) ∨ (0 ≤ fs[q].params ∧ fs[q].params ≤ 6 ∧ fs[q].params ≤ fs[q].locals ∧ 12 < fs[q].locals) ∨
        (0 ≤ fs[q].params ∧ fs[q].params ≤ 6 ∧ fs[q].params ≤ fs[q].locals ∧ fs[q].locals ≤ 12 ∧ decide ((1 : Int) ≤ (fs[q].code.length : Int)) = false) ∨ (0 ≤ fs[q].params ∧ fs[q].params ≤ 6 ∧ fs[q].params ≤ fs[q].locals ∧ fs[q].locals ≤ 12 ∧ 1 ≤ (fs[q].code.length : Int) ∧ decide ((fs[q].code.length : Int) ≤ 120) = false) by simp only [decide_eq_false_iff_not]; omega) with h | ⟨h, h2⟩ | ⟨h, h2, h3⟩ | ⟨h, h2, h3, h4⟩ | ⟨h, h2, h3, h4, h5⟩ | ⟨h, h2, h3, h4, h5, h6⟩
       all_goals
        clear hq6
        go_wp2_with (go_at_call 58; refine (between_any _ _ _ _).mono ?_; rintro e w1 ⟨rfl, rfl⟩)
        go_ret
        exact ⟨ret_bool HN.out.symm, hb.alloc (by omega) _⟩
     ·
      go_wp2
      go_ret
      exact ⟨ret_bool (by rw [HF2.out]; exact (all_end (by omega) hallf).symm), hb⟩
 ·
  have HF : Hid (modB ts fs = false) := modB_no hh
  rcases (show (fs.length : Int) < 1 ∨ (1 ≤ (fs.length : Int) ∧ 12 < (fs.length : Int)) ∨ (1 ≤ (fs.length : Int) ∧ (fs.length : Int) ≤ 12 ∧ 20 < (ts.length : Int)) by omega) with h | ⟨h, h2⟩ | ⟨h, h2, h3⟩
  all_goals
   clear hh
   go_enter Tryz.func141, Tryz.ntmps141
   go_wp2_with (go_at_call 58; refine (between_any _ _ _ _).mono ?_; rintro e w1 ⟨rfl, rfl⟩)
   go_ret
   exact ⟨ret_bool HF.out.symm, (Below.refl _ _).alloc (Nat.le_refl _) _⟩
def Ht (w : World) (g cap : Nat) (d : List Int) : Prop := ∃ cur : Array Value, w.heap[g]? = some (Obj.cells cur 3 (0, 0)) ∧ cur.size = cap ∧ d.length ≤ cap ∧ ∀ j (h : j < d.length), cur[j]? = some (.int .i64 d[j])
theorem Ht.mono {w w' : World} {g cap : Nat} {d : List Int} (h : Ht w g cap d) (hb : Below w.heap.size w w') : Ht w' g cap d := by
 obtain ⟨c, h1, h2⟩ := h
 exact ⟨c, block_kept h1 hb, h2⟩
theorem Ht.lt {w : World} {g cap : Nat} {d : List Int} (h : Ht w g cap d) : g < w.heap.size := by
 obtain ⟨c, h1, -⟩ := h
 exact lt_block h1
theorem Ht.cell {w : World} {g cap : Nat} {d : List Int} (h : Ht w g cap d) {j : Nat} (hj : j < d.length) : w.cell? ⟨g, j, none⟩ = some (.int .i64 d[j]) := by
 obtain ⟨c, h1, -, -, h4⟩ := h
 rw [block_cell h1]
 exact h4 j hj
theorem Ht.free {w : World} {g cap : Nat} {d : List Int} (h : Ht w g cap d) (j : Nat) : w.frozen? ⟨g, j, none⟩ = false := by
 obtain ⟨c, h1, -⟩ := h
 exact block_free h1 j
theorem Ht.set {w : World} {g cap : Nat} {d : List Int} (h : Ht w g cap d) {j : Nat} (hj : j < d.length) (x : Int) : Ht (w.setCell ⟨g, j, none⟩ (.int .i64 x)) g cap (d.set j x) := by
 obtain ⟨c, h1, h2, h3, h4⟩ := h
 refine ⟨_, block_set h1 _, by simpa using h2, by simpa using h3, fun i hi => ?_⟩
 rw [List.length_set] at hi
 by_cases e : i = j
 ·
  subst e
  rw [set_self _ (by omega)]
  simp
 ·
  rw [set_else _ e, List.getElem_set_ne (fun q => e q.symm)]
  exact h4 i hi
theorem Ht.ints {w : World} {g cap lo : Nat} {d : List Int} (h : Ht w g cap d) (hg : lo ≤ g) : IntsAt w lo (some ⟨g, 0, none⟩) d := fun i hi => ⟨g, 0, rfl, hg, by rw [Nat.zero_add]; exact h.cell hi⟩
theorem Ht.own {w : World} {B n : Nat} {v : Value} {vs : List Value} {d : List Int} (h : w.ownsRow B 3 1 v n vs) (hv : vs = d.map (Value.int .i64)) (hn : n = d.length) (h0 : 0 < n) : ∃ g cap, v = .slice (some ⟨g, 0, none⟩) n cap ∧ B ≤ g ∧ Ht w g cap d := by
 subst hv
 subst hn
 rcases h.2 with ⟨-, hn⟩ | ⟨g, cap, cur, hv, hb, hh, hn, -, hs, htake⟩
 · omega
 ·
  refine ⟨g, cap, hv, hb, cur, hh, by omega, hn, fun i hi => ?_⟩
  have h1 : (cur.toList.take (d.length * 1))[i]? = (d.map (Value.int .i64))[i]? := by rw [htake]
  rw [List.getElem?_take_of_lt (by omega)] at h1
  simpa [hi] using h1
theorem stepB_no {fs : List Fn} {x : Int × Int} {pc : Nat} {h : List Int} {z t l : Int} (hz : h.getD pc (-1) = z) (ht : (usesB fs x.1 x.2).1 = t) (hl : (usesB fs x.1 x.2).2 = l) (hc : z < t ∨ 16 < z - t + l) : stepB fs x pc h = h := by
 unfold stepB
 rw [hz, ht, hl, if_pos hc]
theorem stepB_yes {fs : List Fn} {x : Int × Int} {pc : Nat} {h : List Int} {z t l : Int} (hz : h.getD pc (-1) = z) (ht : (usesB fs x.1 x.2).1 = t) (hl : (usesB fs x.1 x.2).2 = l) (hc : ¬ (z < t ∨ 16 < z - t + l)) : stepB fs x pc h = (nextB x.1 x.2 pc).foldl (layB (z - t + l)) h := by
 unfold stepB
 rw [hz, ht, hl, if_neg hc]
theorem part_succ {fs : List Fn} {code : List (Int × Int)} {k : Nat} (hk : k < code.length) (h : List Int) : partB fs code (k + 1) h = stepB fs code[k] k (partB fs code k h) := by
 show stepB fs (code.getD k (0, 0)) k (partB fs code k h) = _
 rw [getD_code hk]
theorem next_in {fs : List Fn} {code : List (Int × Int)} (F : Fine fs code) {k : Nat} (hk : k < code.length) : ∀ nx ∈ nextB code[k].1 code[k].2 k, 0 ≤ nx ∧ nx ≤ code.length := by
 intro nx hnx
 unfold nextB at hnx
 split at hnx
 · simp at hnx
 ·
  split at hnx
  · simp at hnx; have := F.jump k hk (by omega); omega
  ·
   split at hnx
   ·
    simp at hnx
    rcases hnx with h | h
    · omega
    · have := F.jump k hk (by omega); omega
   · simp at hnx; omega
theorem fold_take {α β : Type} {f : β → α → β} {l : List α} {k : Nat} (hk : k < l.length) (b : β) : (l.take (k + 1)).foldl f b = f ((l.take k).foldl f b) l[k] := by
 rw [List.take_succ_eq_append_getElem hk, List.foldl_append]
 rfl
set_option maxHeartbeats 1000000 in
theorem mul64_one (n : Nat) (hn : n ≤ 1048576) (w : World) :
  Calls Tryz.prog 232 #[.int .u64 1, .int .u64 n] w fun e w' => e = .returned (.tuple #[.int .u64 0, .int .u64 n]) ∧ w' = w := by
 have h0 : bits .and .u64 0 4294967295 = 0 := Mul64.maskN 0 (by omega)
 have h1 : bits .and .u64 1 4294967295 = 1 := Mul64.maskN 1 (by omega)
 have h2 := Mul64.maskN n (by omega)
 rw [Nat.mod_eq_of_lt (by omega)] at h2
 have h3 := Mul64.wrapN n (by omega)
 have h4 : (n : Int) / 4294967296 = 0 := by omega
 have h5 : IntKind.u64.wrap 0 = 0 := Mul64.wrapN 0 (by omega)
 go_enter Tryz.func232, Tryz.ntmps232
 go_wp2
 go_ret2
 exact ⟨rfl, rfl⟩
set_option maxHeartbeats 1000000 in
theorem mul_one (n : Nat) (hn : n ≤ 1048576) (w : World) :
  Calls Tryz.prog 207 #[.int .u64 1, .int .u64 n] w fun e w' => e = .returned (.tuple #[.int .u64 0, .int .u64 n]) ∧ w' = w := by
 go_enter Tryz.func207, Tryz.ntmps207
 go_wp2_with (go_at_call 232; refine (mul64_one n hn _).mono ?_; rintro e w1 ⟨rfl, rfl⟩)
 go_ret2
 exact ⟨rfl, rfl⟩
def LeftPost (fs : List Fn) (op a z : Int) (e : Ending) : Prop :=
 if z < (usesB fs op a).1 ∨ 16 < z - (usesB fs op a).1 + (usesB fs op a).2 then ∃ q, e = .returned (.tuple #[.int .i64 q, .bool false])
 else e = .returned (.tuple #[.int .i64 (z - (usesB fs op a).1 + (usesB fs op a).2), .bool true])
theorem ret_ib {a b : Int} {x y : Bool} (h : a = b) (k : x = y) : Ending.returned (.tuple #[.int .i64 a, .bool x]) = .returned (.tuple #[.int .i64 b, .bool y]) := by rw [h, k]
set_option maxHeartbeats 1000000 in
theorem iLeft_any (a1 a2 : Option Addr) (nt c1 c2 : Nat) (fs : List Fn) (op a z : Int) (w : World) (hf : FnsAt w 0 a2 fs) (hp : ∀ f ∈ fs, 0 ≤ f.params ∧ f.params ≤ 6) (z0 : -1 ≤ z) (z1 : z ≤ 16) :
  Calls Tryz.prog 162 #[.agg #[.slice a1 nt c1, .slice a2 fs.length c2], .agg #[.int .i64 op, .int .i64 a], .int .i64 z] w fun e w' => LeftPost fs op a z e ∧ Below w.heap.size w w' := by
 have hbA : Below w.heap.size w ((w.alloc (.cells #[.slice a1 nt c1, .slice a2 fs.length c2] 35)).alloc (.cells #[.int .i64 op, .int .i64 a] 235)) := ((Below.refl _ _).alloc (Nat.le_refl _) _).alloc (by simp) _
 have hU : Hid (∀ W : World, FnsAt W 0 a2 fs → Calls Tryz.prog 208 #[.agg #[.slice a1 nt c1, .slice a2 fs.length c2], .agg #[.int .i64 op, .int .i64 a]] W fun e w' => e = .returned (.tuple #[.int .i64 (usesB fs op a).1, .int .i64 (usesB fs op a).2]) ∧ Below W.heap.size W w') := fun W hW => iUses_any a1 a2 nt c1 c2 fs op a W hW
 have hL : Hid (LeftPost fs op a z = fun e => if z < (usesB fs op a).1 ∨ 16 < z - (usesB fs op a).1 + (usesB fs op a).2 then ∃ q, e = .returned (.tuple #[.int .i64 q, .bool false]) else e = .returned (.tuple #[.int .i64 (z - (usesB fs op a).1 + (usesB fs op a).2), .bool true])) := rfl
 obtain ⟨u0, u1, u2, u3⟩ := usesB_ok hp op a
 generalize (usesB fs op a).1 = t at *
 generalize (usesB fs op a).2 = l at *
 rcases (show z < 0 ∨ (0 ≤ z ∧ z < t) ∨ (0 ≤ z ∧ t ≤ z ∧ 16 < z - t + l) ∨ (0 ≤ z ∧ t ≤ z ∧ z - t + l ≤ 16) by omega) with h1 | ⟨h1, h2⟩ | ⟨h1, h2, h3⟩ | ⟨h1, h2, h3⟩
 all_goals
  first
   | (have hzz : (z == -1) = false := by rw [beq_eq_false_iff_ne]; omega)
   | (have hzz : (z == -1) = true := by rw [beq_iff_eq]; omega)
  go_enter Tryz.func162, Tryz.ntmps162
  go_wp2_with (go_at_call 208; refine (hU.out _ (hf.mono hbA)).mono ?_; rintro e w1 ⟨rfl, k1⟩)
  go_ret2
  refine ⟨?_, hbA.trans (k1.mono (by simp; omega))⟩
  rw [hL.out]
  by_cases hc : z < t ∨ 16 < z - t + l
  ·
   refine (if_pos hc).mpr ⟨_, ret_ib rfl ?_⟩
   first | rfl | (rw [decide_eq_false_iff_not]; omega) | (exfalso; omega)
  ·
   refine (if_neg hc).mpr (ret_ib ?_ ?_)
   · first | rfl | omega
   · first | rfl | (rw [decide_eq_true_eq]; omega) | (exfalso; omega)
set_option maxHeartbeats 800000 in
theorem iNext_any (op a : Int) (pc : Nat) (w : World) (hpc : pc ≤ 1048576) :
  Calls Tryz.prog 163 #[.agg #[.int .i64 op, .int .i64 a], .int .i64 pc] w fun e w' => ∃ ad cap, e = .returned (.slice ad (nextB op a pc).length cap) ∧ IntsAt w' w.heap.size ad (nextB op a pc) ∧ Below w.heap.size w w' := by
 by_cases h25 : op = 25
 ·
  subst h25
  rw [next25]
  go_enter Tryz.func163, Tryz.ntmps163
  go_wp2
  go_ret
  exact ⟨_, _, rfl, fun i hi => absurd hi (by simp), (Below.refl _ _).alloc (Nat.le_refl _) _⟩
 by_cases h17 : op = 17
 ·
  subst h17
  rw [next17]
  clear h25
  go_enter Tryz.func163, Tryz.ntmps163
  go_wp2
  go_ret
  refine ⟨_, _, rfl, fun i hi => ⟨_, _, rfl, by simp, ?_⟩, ((Below.refl _ _).alloc (Nat.le_refl _) _).alloc (by simp) _⟩
  have hx := block_cell (block_new (w.alloc (.cells #[.int .i64 17, .int .i64 a] 235)) #[.int .i64 a] 3)
  rw [World.size_alloc] at hx
  rw [hx]
  match i, hi with
  | 0, _ => rfl
 by_cases h2 : op = 18 ∨ op = 19
 ·
  rcases h2 with rfl | rfl
  all_goals
   first | rw [next18] | rw [next19]
   clear h25 h17
   go_enter Tryz.func163, Tryz.ntmps163
   go_wp2
   go_ret
   refine ⟨_, _, rfl, fun i hi => ⟨_, _, rfl, by simp, ?_⟩, ((Below.refl _ _).alloc (Nat.le_refl _) _).alloc (by simp) _⟩
   rw [show ∀ W : World, ∀ C n, W.heap.size = n → (W.alloc (.cells C 3)).cell? ⟨n, 0 + i, none⟩ = C[0 + i]? from fun W C n h => by subst h; exact block_cell (block_new W C 3) _]
   ·
    match i, hi with
    | 0, _ => rfl
    | 1, _ => rfl
   · simp
 ·
  have h18 : op ≠ 18 := fun h => h2 (Or.inl h)
  have h19 : op ≠ 19 := fun h => h2 (Or.inr h)
  rw [next_else a pc h25 h17 h18 h19]
  have b25 : (op == 25) = false := by simpa using h25
  have b17 : (op == 17) = false := by simpa using h17
  have b18 : (op == 18) = false := by simpa using h18
  have b19 : (op == 19) = false := by simpa using h19
  clear h2 h25 h17 h18 h19
  go_enter Tryz.func163, Tryz.ntmps163
  go_wp2
  go_ret
  refine ⟨_, _, rfl, fun i hi => ⟨_, _, rfl, by simp, ?_⟩, ((Below.refl _ _).alloc (Nat.le_refl _) _).alloc (by simp) _⟩
  rw [show ∀ W : World, ∀ C n, W.heap.size = n → (W.alloc (.cells C 3)).cell? ⟨n, 0 + i, none⟩ = C[0 + i]? from fun W C n h => by subst h; exact block_cell (block_new W C 3) _]
  ·
   match i, hi with
   | 0, _ => rfl
  · simp
set_option maxHeartbeats 800000 in
theorem index_any (a : Option Addr) (xs : List Int) (cap : Nat) (v : Int) (w : World) (hn : xs.length ≤ 1048576) (hm : IntsAt w 0 a xs) :
  Calls Tryz.prog 164 #[.slice a xs.length cap, .int .i64 v] w fun e w' => ∃ r : Int, e = .returned (.int .i64 r) ∧ decide (0 ≤ r) = xs.any (fun x => decide (x = v)) ∧ w' = w := by
 go_enter Tryz.func164, Tryz.ntmps164
 go_wp2
 go_loop [8] (fun i => ∃ (k : Nat), k ≤ xs.length ∧ i = .int .i64 k ∧ Hid ((xs.take k).any (fun x => decide (x = v)) = false)) (fun i => xs.length - (intOf i).toNat)
 case atStart => exact ⟨0, by omega, rfl, by show _ = _; simp⟩
 case round =>
  obtain ⟨k, hk, rfl, hno⟩ := hrel
  by_cases hlt : k < xs.length
  ·
   obtain ⟨b, off, rfl, -, c1⟩ := hm k hlt
   by_cases he : xs[k] = v
   ·
    have hb : (v == xs[k]) = true := by rw [beq_iff_eq]; exact he.symm
    have HE : Hid (xs[k] = v) := he
    clear he
    go_wp2
    go_ret
    refine ⟨k, rfl, ?_, rfl⟩
    rw [decide_eq_true (by omega)]
    symm
    rw [List.any_eq_true]
    exact ⟨xs[k], List.getElem_mem hlt, by simpa using HE.out⟩
   ·
    have hb : (v == xs[k]) = false := by rw [beq_eq_false_iff_ne]; exact fun h => he h.symm
    have HE : Hid (¬ xs[k] = v) := he
    clear he
    go_wp2
    go_round
    case rel =>
     refine ⟨k + 1, by omega, by go_num, ?_⟩
     show _ = _
     rw [List.take_succ_eq_append_getElem hlt, List.any_append, hno.out]
     simpa using HE.out
    case measure => simp [intOf]; omega
  ·
   have HE : Hid (xs.any (fun x => decide (x = v)) = false) := by
    have := hno.out
    rw [List.take_of_length_le (by omega)] at this
    exact this
   clear hno
   go_wp2
   go_ret
   exact ⟨-1, rfl, by rw [HE.out]; rfl, rfl⟩
set_option maxHeartbeats 800000 in
theorem contains_any (a : Option Addr) (xs : List Int) (cap : Nat) (v : Int) (w : World) (hn : xs.length ≤ 1048576) (hm : IntsAt w 0 a xs) :
  Calls Tryz.prog 98 #[.slice a xs.length cap, .int .i64 v] w fun e w' => e = .returned (.bool (xs.any (fun x => decide (x = v)))) ∧ w' = w := by
 go_enter Tryz.func98, Tryz.ntmps98
 go_wp2_with fail
 refine (index_any a xs cap v _ hn hm).mono ?_
 rintro e w1 ⟨r, rfl, hr, rfl⟩
 have HR : Hid (decide (0 ≤ r) = xs.any (fun x => decide (x = v))) := hr
 clear hr
 go_wp2
 go_ret
 exact ⟨ret_bool HR.out, rfl⟩
end Go.Proofs.YtoimokjohmhnaaaGreatDoor
namespace Go.Proofs.YtoimokjohmhnaaaGreatDoor
set_option maxRecDepth 100000
open Go.RowKit
theorem size3 : (Tryz.prog.info? 3).map (·.size) = some 1 := by kernel_rfl
theorem splice_get {v : Value} {cur cs : List Value} {k : Nat} (hk : k + cs.length ≤ cur.length) (h1 : ∀ j, j < k → cur[j]? = some v) (h2 : ∀ x ∈ cs, x = v) : ∀ j, j < k + cs.length → (splice cur k cs)[j]? = some v := by
 intro j hj
 unfold splice
 by_cases hjk : j < k
 ·
  rw [List.getElem?_append_left (by simp; omega), List.getElem?_take_of_lt hjk]
  exact h1 j hjk
 ·
  rw [List.getElem?_append_right (by simp; omega)]
  rw [List.getElem?_append_left (by simp; omega)]
  rw [List.getElem?_eq_getElem (by simp; omega)]
  exact congrArg some (h2 _ (List.getElem_mem _))
theorem add_at (b o j : Nat) : (⟨b, o, none⟩ : Addr).add j = ⟨b, o + j, none⟩ := Go.WideShapes.add_plain b o j
theorem one_cell {w : World} {b : Nat} {x : Value} (h : w.cell? ⟨b, 0, none⟩ = some x) : ∀ (j : Nat) (u : Value), [x][j]? = some u → w.cell? ((⟨b, 0, none⟩ : Addr).add j) = some u := by
 intro j u hj
 match j, hj with
 | 0, hj =>
  simp at hj
  subst hj
  rw [add_at]
  exact h
 | j + 1, hj => simp at hj
theorem copy_first {w0 w1 : World} {g b n : Nat} {cur : Array Value} {v : Int} (hn : 1 ≤ n) (hg : w1.heap[g]? = some (.cells cur 3 (0, 0))) (hsz : cur.size = n) (hc : w1.cell? ⟨b, 0, none⟩ = some (.int .i64 v)) (hb : Below g w0 w1) :
  ∃ w2, (Builtin.copy_ #[46, 46] 3 #[.slice (some ⟨g, 0, none⟩) n n, .slice (some ⟨b, 0, none⟩) 1 1]).run Tryz.prog w1 = .ok (.int .i64 1) w2 ∧ Hid (w2.heap[g]? = some (.cells (splice cur.toList 0 [.int .i64 v]).toArray 3 (0, 0))) ∧ Below g w0 w2 := by
 have hrun := run_copy_row (P := Tryz.prog) w1 46 46 3 3 g 0 n n ⟨b, 0, none⟩ 1 1 cur 3 [.int .i64 v] Tryz.underlying46 size3 hg (by show 1 = Nat.min 1 n; exact (Nat.min_eq_left hn).symm) (one_cell hc) (by simp; omega) (by intro u hu; simp at hu; subst hu; rfl)
 refine ⟨_, hrun, ?_, below_setRow hb (Nat.le_refl _) _⟩
 show _ = _
 simpa [splice] using setRow_heap w1 g _ _ 3 _ hg
set_option maxHeartbeats 400000 in
theorem repeat_any (b n : Nat) (v : Int) (w : World) (h1 : 1 ≤ n) (hn : n ≤ 120) (hc : w.cell? ⟨b, 0, none⟩ = some (.int .i64 v)) :
  Calls Tryz.prog 161 #[.slice (some ⟨b, 0, none⟩) 1 1, .int .i64 n] w fun e w' => ∃ g, e = .returned (.slice (some ⟨g, 0, none⟩) n n) ∧ w.heap.size ≤ g ∧ Ht w' g n (List.replicate n v) ∧ Below w.heap.size w w' := by
 obtain ⟨i0, hi, hz0, hz1, hz2⟩ := info_parts info3
 have hw1 : IntKind.u64.wrap 1 = 1 := Mul64.wrapN 1 (by omega)
 have hwn := Mul64.wrapN n (by omega)
 go_enter Tryz.func161, Tryz.ntmps161
 go_wp2_with (first | (go_at_call 207; refine (mul_one n (by omega) _).mono ?_; rintro e w1 ⟨rfl, hw⟩; rw [hw]; clear hw w1) | (at_make; refine wpList_make_full _ rfl _ _ 46 rfl w.heap.size 3 i0 (.int .i64 0) 1 Tryz.underlying46 hi hz0 hz1 _ _ _ _ n rfl rfl rfl rfl (by rw [hz2]; omega) (by unfold maxLen; omega) (Nat.le_refl _) ?_; intro w1 hown hgrow; obtain ⟨cur0, hblk, hsz⟩ := made_block hown; have hb0 : Below w.heap.size w w1 := (Below.refl _ _).grown hgrow (Nat.le_refl _) (by intro k hk; cases hk); have hc1 := cell_later hb0 hc; obtain ⟨w2, hrun, hg2, hb2⟩ := copy_first h1 hblk (by omega) hc1 hb0; have HZ : Hid (cur0.size = n) := (show cur0.size = n by omega); clear hown hgrow hsz hc1 hblk))
 go_loopw [8] (fun i wr => ∃ (k : Nat) (cur : List Value), 1 ≤ k ∧ k ≤ n ∧ i = .int .i64 k ∧ Hid (wr.heap[w.heap.size]? = some (.cells cur.toArray 3 (0, 0))) ∧ Hid (cur.length = n) ∧ Hid (∀ j, j < k → cur[j]? = some (.int .i64 v)) ∧ Below w.heap.size w wr) (fun i _ => n - (intOf i).toNat)
 case atStart =>
  have hl0 : cur0.toList.length = n := by rw [Array.length_toList]; exact HZ.out
  refine ⟨1, _, Nat.le_refl _, h1, rfl, hg2, ?_, ?_, hb2⟩
  ·
   show _ = _
   rw [length_splice _ _ _ (by rw [hl0]; simpa using h1)]
   exact hl0
  · exact splice_get (cur := cur0.toList) (cs := [.int .i64 v]) (k := 0) (by rw [hl0]; simpa using h1) (fun j hj => absurd hj (Nat.not_lt_zero _)) (by simp)
 case round =>
  obtain ⟨k, cur, hk1, hkn, rfl, hg, hlen, hall, hb⟩ := hrel
  by_cases hlt : k < n
  ·
   obtain ⟨m, hm⟩ : ∃ m, m = Nat.min k (n - k) := ⟨_, rfl⟩
   have hm1 : 1 ≤ m := by rw [hm]; exact Nat.le_min.2 ⟨hk1, by omega⟩
   have hm2 : m ≤ n - k := by rw [hm]; exact Nat.min_le_right _ _
   have hm3 : m ≤ k := by rw [hm]; exact Nat.min_le_left _ _
   have HM : Hid (m = Nat.min k (n - k)) := hm
   have HC : Hid (∀ W : World, W.heap[w.heap.size]? = some (.cells cur.toArray 3 (0, 0)) → ∀ (j : Nat) (u : Value), (List.replicate m (Value.int .i64 v))[j]? = some u → W.cell? ((⟨w.heap.size, 0, none⟩ : Addr).add j) = some u) := by
    intro W hW j u hj
    rw [List.getElem?_replicate] at hj
    split at hj
    ·
     cases hj
     rw [add_at, block_cell hW, Nat.zero_add, List.getElem?_toArray]
     exact hall.out j (by omega)
    · cases hj
   clear hm
   have hne : ¬ n = k := by omega
   have hkm : (k : Int) + (m : Int) ≤ 120 := by omega
   have hwr : IntKind.i64.wrap ((k : Int) + (m : Int)) = (k : Int) + (m : Int) := by rw [IntKind.wrap_i64]; omega
   go_wp2
   go_region_law (refine step_copy_splice (by rfl) (.tmp 41) (.tmp 44) 46 46 (by rfl) 3 Tryz.underlying46 size3 (some ⟨w.heap.size, k, none⟩) (some ⟨w.heap.size, 0, none⟩) (n - k) (n - k) k n (by go_simp) (by go_simp) w.heap.size k cur 3 (by exact hg.out) (List.replicate m (.int .i64 v)) (by rw [List.length_replicate]; exact HM.out) (fun _ => ⟨by rfl, ⟨w.heap.size, 0, none⟩, by rfl, HC.out _ (by exact hg.out)⟩) (by rw [List.length_replicate, hlen.out]; omega) (by intro u hu; rw [(List.mem_replicate.1 hu).2]; rfl) w.heap.size w (by exact hb.drew) (Nat.le_refl _) ?_; intro w3 hg3 hb3)
   all_goals
    go_simp
    go_wp2
    go_roundw
    case rel =>
     have hl0 : k + (List.replicate m (Value.int .i64 v)).length ≤ cur.length := by rw [List.length_replicate, hlen.out]; omega
     refine ⟨k + m, splice cur k (List.replicate m (Value.int .i64 v)), by omega, by omega, by simp, hg3, ?_, ?_, hb3⟩
     ·
      show _ = _
      rw [length_splice _ _ _ hl0]
      exact hlen.out
     ·
      have := splice_get hl0 hall.out (fun x hx => (List.mem_replicate.1 hx).2)
      rw [List.length_replicate] at this
      exact this
    case measure => simp [intOf]; omega
  ·
   have hkn2 : k = n := by omega
   subst hkn2
   go_wp2
   go_ret
   refine ⟨w.heap.size, rfl, Nat.le_refl _, ⟨cur.toArray, hg.out, by rw [List.size_toArray]; exact hlen.out, by simp, fun j hj => ?_⟩, hb⟩
   rw [List.length_replicate] at hj
   rw [List.getElem?_toArray, hall.out j hj, List.getElem_replicate]
end Go.Proofs.YtoimokjohmhnaaaGreatDoor
