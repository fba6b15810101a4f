/-
  Sites: copies, marks.
-/
import Derived.Test.YtopbdjplpnojmaaBA
namespace Go.Proofs.Ytopbdjplpnojmaa
open Go.RowKit

theorem szSiteS_any (a : Option Addr) (n cap : Nat) (left : Int) (w : World) (h0 : 0 ≤ left) (h1 : left ≤ 1048576) (hn : n ≤ maxLen) :
    Calls Try.prog 14 #[.slice a n cap, .int .i64 left] w fun e w' => e = .returned (.int .i64 (if left < n then -1 else left - n)) ∧ w' = w := by
  unfold maxLen at hn
  by_cases h : left < n
  all_goals
    go_enter Try.func14, Try.ntmps14
    go_wp2
    go_ret
    exact ⟨ret_int (by omega), rfl⟩



set_option maxHeartbeats 400000 in
theorem toSite_any (f p s t : Int) (w : World) :
    Calls Try.prog 40 #[.agg #[.int .i64 f, .int .i64 p, .int .i64 s, .int .i64 t]] w fun e w' => e = .returned (.agg #[.int .i64 f, .int .i64 p, .int .i64 s, .int .i64 t]) ∧ Below w.heap.size w w' := by
  go_enter Try.func40, Try.ntmps40
  go_wp2
  refine bodyPost_ret (v := .agg #[.int .i64 f, .int .i64 p, .int .i64 s, .int .i64 t]) (by simp [results, Try.results40, go_sem]) rfl ⟨rfl, ?_⟩
  exact (((Below.refl _ _).alloc (Nat.le_refl _) _).alloc (by simp) _).alloc (by simp; omega) _



theorem info89 : (Try.prog.info? 89).map (fun i => (i.zero, i.size, i.bytes)) = some (some (.agg #[.int .i64 0, .int .i64 0, .int .i64 0, .int .i64 0]), 4, 32) := by kernel_rfl



set_option maxHeartbeats 1000000 in
theorem toSiteS_any (a : Option Addr) (ss : List Si) (cap : Nat) (w : World) (hn : ss.length ≤ 1048576) (hm : SitesAt w 0 a ss) :
    Calls Try.prog 18 #[.slice a ss.length cap] w fun e w' => e = .returned (.slice (some ⟨w.heap.size, 0, none⟩) ss.length ss.length) ∧ SitesAt w' w.heap.size (some ⟨w.heap.size, 0, none⟩) ss ∧ Below w.heap.size w w' := by
  obtain ⟨i0, hi, hz0, hz1, hz2⟩ := info_parts info89
  go_enter Try.func18, Try.ntmps18
  go_wp2_with (first | (at_make; refine wpList_make_full _ rfl _ _ 42 rfl w.heap.size 89 i0 (.agg #[.int .i64 0, .int .i64 0, .int .i64 0, .int .i64 0]) 4 Try.underlying42 hi hz0 hz1 _ _ _ _ ss.length rfl rfl rfl rfl (by rw [hz2]; omega) (by unfold maxLen; omega) (Nat.le_refl _) ?_; intro w1 hown hgrow))
  obtain ⟨cur0, hblk, hsz⟩ := made_block hown
  have hb0 : Below w.heap.size w w1 := (Below.refl _ _).grown hgrow (Nat.le_refl _) (by intro k hk; cases hk)
  clear hown hgrow hi hz0 hz1 hz2
  go_loopw [4] (fun i wr => ∃ (k : Nat) (cur : Array Value), k ≤ ss.length ∧ i = .int .i64 k ∧ wr.heap[w.heap.size]? = some (.cells cur 89 (0, 0)) ∧ cur.size = ss.length * 4 ∧ (∀ j (hj : j < ss.length), j < k → cur[j * 4]? = some (.int .i64 ss[j].f) ∧ cur[j * 4 + 1]? = some (.int .i64 ss[j].pc) ∧ cur[j * 4 + 2]? = some (.int .i64 ss[j].seen) ∧ cur[j * 4 + 3]? = some (.int .i64 ss[j].target)) ∧ Below w.heap.size w wr) (fun i _ => ss.length - (intOf i).toNat)
  case atStart => exact ⟨0, cur0, by omega, rfl, hblk, hsz, fun j _ h => by omega, hb0⟩
  case round =>
    obtain ⟨k, cur, hk, rfl, hblk, hsz, hdone, hb⟩ := hrel
    by_cases hlt : k < ss.length
    · obtain ⟨b, off, rfl, -, c1, c2, c3, c4⟩ := hm k hlt
      have c1' := cell_later hb c1
      have c2' := cell_later hb c2
      have c3' := cell_later hb c3
      have c4' := cell_later hb c4
      clear c1 c2 c3 c4
      go_wp2_with fail
      refine (toSite_any _ _ _ _ _).mono ?_
      rintro e w2 ⟨rfl, hb2⟩
      have hblk2 := block_kept hblk hb2
      have hfz := block_free hblk2
      have hcl : w2.cell? ⟨w.heap.size, k * 4, none⟩ = some cur[k * 4] := by rw [block_cell hblk2]; simp
      have hcl2 : w2.cell? ⟨w.heap.size, k * 4 + 1, none⟩ = some cur[k * 4 + 1] := by rw [block_cell hblk2]; simp
      have hcl3 : w2.cell? ⟨w.heap.size, k * 4 + 2, none⟩ = some cur[k * 4 + 2] := by rw [block_cell hblk2]; simp
      have hcl4 : w2.cell? ⟨w.heap.size, k * 4 + 3, none⟩ = some cur[k * 4 + 3] := by rw [block_cell hblk2]; simp
      have hb3 : Below w.heap.size w w2 := hb.trans (hb2.mono hb.size)
      go_wp2
      go_roundw
      case rel =>
        refine ⟨k + 1, (((cur.setIfInBounds (k * 4) (.int .i64 ss[k].f)).setIfInBounds (k * 4 + 1) (.int .i64 ss[k].pc)).setIfInBounds (k * 4 + 2) (.int .i64 ss[k].seen)).setIfInBounds (k * 4 + 3) (.int .i64 ss[k].target), by omega, by go_num, block_set (block_set (block_set (block_set hblk2 _) _) _) _, by simpa using hsz, ?_, (((hb3.setCell (Nat.le_refl _) _).setCell (Nat.le_refl _) _).setCell (Nat.le_refl _) _).setCell (Nat.le_refl _) _⟩
        intro j hj hjk
        by_cases e : j = k
        · subst e
          refine ⟨?_, ?_, ?_, ?_⟩
          · rw [set_else _ (by omega), set_else _ (by omega), set_else _ (by omega)]; exact set_self _ (by omega)
          · rw [set_else _ (by omega), set_else _ (by omega)]; exact set_self _ (by simp; omega)
          · rw [set_else _ (by omega)]; exact set_self _ (by simp; omega)
          · exact set_self _ (by simp; omega)
        · obtain ⟨d1, d2, d3, d4⟩ := hdone j hj (by omega)
          refine ⟨?_, ?_, ?_, ?_⟩
          · rw [set_else _ (by omega), set_else _ (by omega), set_else _ (by omega), set_else _ (by omega)]; exact d1
          · rw [set_else _ (by omega), set_else _ (by omega), set_else _ (by omega), set_else _ (by omega)]; exact d2
          · rw [set_else _ (by omega), set_else _ (by omega), set_else _ (by omega), set_else _ (by omega)]; exact d3
          · rw [set_else _ (by omega), set_else _ (by omega), set_else _ (by omega), set_else _ (by omega)]; exact d4
      case measure => simp [intOf]; omega
    · go_wp2
      go_ret
      refine ⟨rfl, fun j hj => ?_, hb⟩
      obtain ⟨d1, d2, d3, d4⟩ := hdone j hj (by omega)
      exact ⟨w.heap.size, 0, rfl, Nat.le_refl _, by rw [block_cell hblk, Nat.zero_add]; exact d1, by rw [block_cell hblk, Nat.zero_add]; exact d2, by rw [block_cell hblk, Nat.zero_add]; exact d3, by rw [block_cell hblk, Nat.zero_add]; exact d4⟩



set_option maxHeartbeats 400000 in
theorem eqSite_same (f p s t : Int) (w : World) :
    Calls Try.prog 48 #[.agg #[.int .i64 f, .int .i64 p, .int .i64 s, .int .i64 t], .agg #[.int .i64 f, .int .i64 p, .int .i64 s, .int .i64 t]] w fun e w' => e = .returned (.bool true) ∧ Below w.heap.size w w' := by
  go_enter Try.func48, Try.ntmps48
  go_wp2
  go_ret
  exact ⟨rfl, ((Below.refl _ _).alloc (Nat.le_refl _) _).alloc (by simp) _⟩



set_option maxHeartbeats 1000000 in
theorem eqSiteS_any (a a2 : Option Addr) (ss : List Si) (cap cap2 : Nat) (w : World) (hn : ss.length ≤ 1048576) (hm : SitesAt w 0 a ss) (hm2 : SitesAt w 0 a2 ss) :
    Calls Try.prog 24 #[.slice a ss.length cap, .slice a2 ss.length cap2] w fun e w' => e = .returned (.bool true) ∧ Below w.heap.size w w' := by
  go_enter Try.func24, Try.ntmps24
  go_wp2
  go_loopw [5] (fun i wr => ∃ (k : Nat), k ≤ ss.length ∧ i = .int .i64 k ∧ Below w.heap.size w wr) (fun i _ => ss.length - (intOf i).toNat)
  case atStart => exact ⟨0, by omega, rfl, Below.refl _ _⟩
  case round =>
    obtain ⟨k, hk, rfl, hb⟩ := hrel
    by_cases hlt : k < ss.length
    · obtain ⟨b, off, rfl, -, c1, d1, e1, f1⟩ := hm k hlt
      obtain ⟨b2, off2, rfl, -, c2, d2, e2, f2⟩ := hm2 k hlt
      have c1' := cell_later hb c1
      have c2' := cell_later hb c2
      have d1' := cell_later hb d1
      have d2' := cell_later hb d2
      have e1' := cell_later hb e1
      have e2' := cell_later hb e2
      have f1' := cell_later hb f1
      have f2' := cell_later hb f2
      clear c1 c2 d1 d2 e1 e2 f1 f2
      go_wp2
      go_region_with (go_at_call 48; refine (eqSite_same _ _ _ _ _).mono ?_; rintro e w1 ⟨rfl, hb1⟩)
      all_goals
        go_wp2
        go_roundw
        case rel =>
          refine ⟨k + 1, by omega, by go_num, Below.trans ?_ (hb1.mono ?_)⟩
          · repeat (first | exact hb | apply Below.drew)
          · exact hb.size
        case measure => simp [intOf]; omega
    · go_wp2
      go_ret
      exact ⟨rfl, hb⟩

open Go.Deep Go.ChangeShapes Go.WideShapes Go.Joins


set_option maxHeartbeats 1000000 in
theorem toSiteS_made (a : Option Addr) (ss : List Si) (cap : Nat) (w : World) (hn : ss.length ≤ 1048576) (hm : SitesAt w 0 a ss) :
    Calls Try.prog 18 #[.slice a ss.length cap] w fun e w' => e = .returned (.slice (some ⟨w.heap.size, 0, none⟩) ss.length ss.length) ∧ SitesAt w' w.heap.size (some ⟨w.heap.size, 0, none⟩) ss ∧ Below w.heap.size w w' ∧ (∃ cur, w'.heap[w.heap.size]? = some (.cells cur 89 (0, 0)) ∧ cur.size = ss.length * 4) := by
  obtain ⟨i0, hi, hz0, hz1, hz2⟩ := info_parts info89
  go_enter Try.func18, Try.ntmps18
  go_wp2_with (first | (at_make; refine wpList_make_full _ rfl _ _ 42 rfl w.heap.size 89 i0 (.agg #[.int .i64 0, .int .i64 0, .int .i64 0, .int .i64 0]) 4 Try.underlying42 hi hz0 hz1 _ _ _ _ ss.length rfl rfl rfl rfl (by rw [hz2]; omega) (by unfold maxLen; omega) (Nat.le_refl _) ?_; intro w1 hown hgrow))
  obtain ⟨cur0, hblk, hsz⟩ := made_block hown
  have hb0 : Below w.heap.size w w1 := (Below.refl _ _).grown hgrow (Nat.le_refl _) (by intro k hk; cases hk)
  clear hown hgrow hi hz0 hz1 hz2
  go_loopw [4] (fun i wr => ∃ (k : Nat) (cur : Array Value), k ≤ ss.length ∧ i = .int .i64 k ∧ wr.heap[w.heap.size]? = some (.cells cur 89 (0, 0)) ∧ cur.size = ss.length * 4 ∧ (∀ j (hj : j < ss.length), j < k → cur[j * 4]? = some (.int .i64 ss[j].f) ∧ cur[j * 4 + 1]? = some (.int .i64 ss[j].pc) ∧ cur[j * 4 + 2]? = some (.int .i64 ss[j].seen) ∧ cur[j * 4 + 3]? = some (.int .i64 ss[j].target)) ∧ Below w.heap.size w wr) (fun i _ => ss.length - (intOf i).toNat)
  case atStart => exact ⟨0, cur0, by omega, rfl, hblk, hsz, fun j _ h => by omega, hb0⟩
  case round =>
    obtain ⟨k, cur, hk, rfl, hblk, hsz, hdone, hb⟩ := hrel
    by_cases hlt : k < ss.length
    · obtain ⟨b, off, rfl, -, c1, c2, c3, c4⟩ := hm k hlt
      have c1' := cell_later hb c1
      have c2' := cell_later hb c2
      have c3' := cell_later hb c3
      have c4' := cell_later hb c4
      clear c1 c2 c3 c4
      go_wp2_with fail
      refine (toSite_any _ _ _ _ _).mono ?_
      rintro e w2 ⟨rfl, hb2⟩
      have hblk2 := block_kept hblk hb2
      have hfz := block_free hblk2
      have hcl : w2.cell? ⟨w.heap.size, k * 4, none⟩ = some cur[k * 4] := by rw [block_cell hblk2]; simp
      have hcl2 : w2.cell? ⟨w.heap.size, k * 4 + 1, none⟩ = some cur[k * 4 + 1] := by rw [block_cell hblk2]; simp
      have hcl3 : w2.cell? ⟨w.heap.size, k * 4 + 2, none⟩ = some cur[k * 4 + 2] := by rw [block_cell hblk2]; simp
      have hcl4 : w2.cell? ⟨w.heap.size, k * 4 + 3, none⟩ = some cur[k * 4 + 3] := by rw [block_cell hblk2]; simp
      have hb3 : Below w.heap.size w w2 := hb.trans (hb2.mono hb.size)
      go_wp2
      go_roundw
      case rel =>
        refine ⟨k + 1, (((cur.setIfInBounds (k * 4) (.int .i64 ss[k].f)).setIfInBounds (k * 4 + 1) (.int .i64 ss[k].pc)).setIfInBounds (k * 4 + 2) (.int .i64 ss[k].seen)).setIfInBounds (k * 4 + 3) (.int .i64 ss[k].target), by omega, by go_num, block_set (block_set (block_set (block_set hblk2 _) _) _) _, by simpa using hsz, ?_, (((hb3.setCell (Nat.le_refl _) _).setCell (Nat.le_refl _) _).setCell (Nat.le_refl _) _).setCell (Nat.le_refl _) _⟩
        intro j hj hjk
        by_cases e : j = k
        · subst e
          refine ⟨?_, ?_, ?_, ?_⟩
          · rw [set_else _ (by omega), set_else _ (by omega), set_else _ (by omega)]; exact set_self _ (by omega)
          · rw [set_else _ (by omega), set_else _ (by omega)]; exact set_self _ (by simp; omega)
          · rw [set_else _ (by omega)]; exact set_self _ (by simp; omega)
          · exact set_self _ (by simp; omega)
        · obtain ⟨d1, d2, d3, d4⟩ := hdone j hj (by omega)
          refine ⟨?_, ?_, ?_, ?_⟩
          · rw [set_else _ (by omega), set_else _ (by omega), set_else _ (by omega), set_else _ (by omega)]; exact d1
          · rw [set_else _ (by omega), set_else _ (by omega), set_else _ (by omega), set_else _ (by omega)]; exact d2
          · rw [set_else _ (by omega), set_else _ (by omega), set_else _ (by omega), set_else _ (by omega)]; exact d3
          · rw [set_else _ (by omega), set_else _ (by omega), set_else _ (by omega), set_else _ (by omega)]; exact d4
      case measure => simp [intOf]; omega
    · go_wp2
      go_ret
      refine ⟨rfl, fun j hj => ?_, hb, cur, hblk, hsz⟩
      obtain ⟨d1, d2, d3, d4⟩ := hdone j hj (by omega)
      exact ⟨w.heap.size, 0, rfl, Nat.le_refl _, by rw [block_cell hblk, Nat.zero_add]; exact d1, by rw [block_cell hblk, Nat.zero_add]; exact d2, by rw [block_cell hblk, Nat.zero_add]; exact d3, by rw [block_cell hblk, Nat.zero_add]; exact d4⟩




set_option maxHeartbeats 1000000 in
theorem markSites_any (g n cap : Nat) (k0 : Int) (w : World) (hn : n ≤ 1048576) (h0 : 0 ≤ k0) (h1 : k0 ≤ 100000000000000) (hb : ∃ cur, w.heap[g]? = some (.cells cur 89 (0, 0)) ∧ n * 4 ≤ cur.size) :
    Calls Try.prog 28 #[.slice (some ⟨g, 0, none⟩) n cap, .int .i64 k0] w fun e w' => e = .returned (.int .i64 (k0 + 4 * n)) ∧ But g w w' ∧ Marked w' g 89 n k0 := by
  obtain ⟨cur0, hb0, hs0⟩ := hb
  go_enter Try.func28, Try.ntmps28
  go_wp2
  go_loopw [1, 5] (fun q i wr => ∃ (k : Nat), k ≤ n ∧ i = .int .i64 k ∧ q = .int .i64 (k0 + 4 * k) ∧ Hid (But g w wr) ∧ Hid (∃ cur, wr.heap[g]? = some (.cells cur 89 (0, 0)) ∧ n * 4 ≤ cur.size ∧ ∀ j, j < k → cur[j * 4]? = some (.int .i64 (k0 + 4 * j)) ∧ cur[j * 4 + 1]? = some (.int .i64 (k0 + 4 * j + 1)) ∧ cur[j * 4 + 2]? = some (.int .i64 (k0 + 4 * j + 2)) ∧ cur[j * 4 + 3]? = some (.int .i64 (k0 + 4 * j + 3)))) (fun _ i _ => n - (intOf i).toNat)
  case atStart => exact ⟨0, by omega, rfl, by go_num, But.refl _ _, cur0, hb0, hs0, fun j hj => absurd hj (by omega)⟩
  case round =>
    obtain ⟨k, hk, rfl, rfl, HB, HC⟩ := hrel
    by_cases hlt : k < n
    · obtain ⟨cur, hblk, hsz, hdone⟩ := HC.out
      have hfz := block_free hblk
      have c0 : wr.cell? ⟨g, k * 4, none⟩ = some cur[k * 4] := by rw [block_cell hblk]; simp
      have c1 : wr.cell? ⟨g, k * 4 + 1, none⟩ = some cur[k * 4 + 1] := by rw [block_cell hblk]; simp
      have c2 : wr.cell? ⟨g, k * 4 + 2, none⟩ = some cur[k * 4 + 2] := by rw [block_cell hblk]; simp
      have c3 : wr.cell? ⟨g, k * 4 + 3, none⟩ = some cur[k * 4 + 3] := by rw [block_cell hblk]; simp
      have HBLK := hidz hblk
      have HSZ := hidz hsz
      have HDN := hidz hdone
      clear hdone HC
      go_wp2
      go_roundw
      case rel =>
        refine ⟨k + 1, by omega, by go_num, by go_num, ?_, ?_⟩
        · refine HB.out.trans ⟨?_, ?_, ?_, ?_, fun j _ hj => ?_⟩
          · rfl
          · rfl
          · rfl
          · simp
          · rw [Below.heap_setCell _ _ _ _ (by simpa using hj), Below.heap_setCell _ _ _ _ (by simpa using hj), Below.heap_setCell _ _ _ _ (by simpa using hj), Below.heap_setCell _ _ _ _ (by simpa using hj)]
        · refine ⟨_, block_set (block_set (block_set (block_set HBLK.out _) _) _) _, by simpa using HSZ.out, fun j hj => ?_⟩
          have hsz := HSZ.out
          by_cases e : j = k
          · subst e
            refine ⟨?_, ?_, ?_, ?_⟩
            · rw [set_else _ (by omega), set_else _ (by omega), set_else _ (by omega), set_self _ (by omega)]
            · rw [set_else _ (by omega), set_else _ (by omega), set_self _ (by simp; omega)] <;> (congr 2 <;> first | omega | (go_num))
            · rw [set_else _ (by omega), set_self _ (by simp; omega)] <;> (congr 2 <;> first | omega | (go_num))
            · rw [set_self _ (by simp; omega)] <;> (congr 2 <;> first | omega | (go_num))
          · obtain ⟨e1, e2, e3, e4⟩ := HDN.out j (by omega)
            refine ⟨?_, ?_, ?_, ?_⟩
            · rw [set_else _ (by omega), set_else _ (by omega), set_else _ (by omega), set_else _ (by omega)]; exact e1
            · rw [set_else _ (by omega), set_else _ (by omega), set_else _ (by omega), set_else _ (by omega)]; exact e2
            · rw [set_else _ (by omega), set_else _ (by omega), set_else _ (by omega), set_else _ (by omega)]; exact e3
            · rw [set_else _ (by omega), set_else _ (by omega), set_else _ (by omega), set_else _ (by omega)]; exact e4
      case measure => simp [intOf]; omega
    · go_wp2
      go_ret
      obtain ⟨cur, hblk, hsz, hdone⟩ := HC.out
      exact ⟨ret_int (by omega), HB.out, cur, hblk, fun j hj => hdone j (by omega)⟩




end Go.Proofs.Ytopbdjplpnojmaa
