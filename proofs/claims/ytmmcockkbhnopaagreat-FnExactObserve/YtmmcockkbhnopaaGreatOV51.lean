/-
  Marks in rows of sites, and whether they are held.
-/
import Derived.Test.YtmmcockkbhnopaaGreatOV49
import Derived.Test.YtmmcockkbhnopaaGreatOV41
import Derived.Test.YtmmcockkbhnopaaGreatOV37
namespace Go.Proofs.YtmmcockkbhnopaaGreat
open Go.RowKit

/-- The first n of a row bear marks from k0 on. -/
def Marked (w : World) (g t n : Nat) (k0 : Int) : Prop := ∃ cur : Array Value, w.heap[g]? = some (.cells cur t (0, 0)) ∧ ∀ j, j < n → cur[j * 4]? = some (.int .i64 (k0 + 4 * j)) ∧ cur[j * 4 + 1]? = some (.int .i64 (k0 + 4 * j + 1)) ∧ cur[j * 4 + 2]? = some (.int .i64 (k0 + 4 * j + 2)) ∧ cur[j * 4 + 3]? = some (.int .i64 (k0 + 4 * j + 3))
theorem Marked.mono {w w' : World} {g t n : Nat} {k0 : Int} (h : Marked w g t n k0) (hb : Below w.heap.size w w') : Marked w' g t n k0 := by
  obtain ⟨cur, h1, h2⟩ := h
  exact ⟨cur, block_kept h1 hb, h2⟩
set_option maxHeartbeats 1000000 in
theorem toSiteS_made (a : Option Addr) (ss : List Si) (cap : Nat) (w : World) (hn : ss.length ≤ 1048576) (hm : SitesAt w 0 a ss) :
    Calls Tryz.prog 10 #[.slice a ss.length cap] w fun e w' => e = .returned (.slice (some ⟨w.heap.size, 0, none⟩) ss.length ss.length) ∧ SitesAt w' w.heap.size (some ⟨w.heap.size, 0, none⟩) ss ∧ Below w.heap.size w w' ∧ (∃ cur, w'.heap[w.heap.size]? = some (.cells cur 68 (0, 0)) ∧ cur.size = ss.length * 4) := by
  obtain ⟨i0, hi, hz0, hz1, hz2⟩ := info_parts info68
  go_enter Tryz.func10, Tryz.ntmps10
  go_wp2_with (first | (at_make; refine wpList_make_full _ rfl _ _ 36 rfl w.heap.size 68 i0 (.agg #[.int .i64 0, .int .i64 0, .int .i64 0, .int .i64 0]) 4 Tryz.underlying36 hi hz0 hz1 _ _ _ _ ss.length rfl rfl rfl rfl (by rw [hz2]; omega) (by unfold maxLen; omega) (Nat.le_refl _) ?_; intro w1 hown hgrow))
  obtain ⟨cur0, hblk, hsz⟩ := made_block hown
  have hb0 : Below w.heap.size w w1 := (Below.refl _ _).grown hgrow (Nat.le_refl _) (by intro k hk; cases hk)
  clear hown hgrow hi hz0 hz1 hz2
  go_loopw [4] (fun i wr => ∃ (k : Nat) (cur : Array Value), k ≤ ss.length ∧ i = .int .i64 k ∧ wr.heap[w.heap.size]? = some (.cells cur 68 (0, 0)) ∧ cur.size = ss.length * 4 ∧ (∀ j (hj : j < ss.length), j < k → cur[j * 4]? = some (.int .i64 ss[j].f) ∧ cur[j * 4 + 1]? = some (.int .i64 ss[j].pc) ∧ cur[j * 4 + 2]? = some (.int .i64 ss[j].seen) ∧ cur[j * 4 + 3]? = some (.int .i64 ss[j].target)) ∧ Below w.heap.size w wr) (fun i _ => ss.length - (intOf i).toNat)
  case atStart => exact ⟨0, cur0, by omega, rfl, hblk, hsz, fun j _ h => by omega, hb0⟩
  case round =>
    obtain ⟨k, cur, hk, rfl, hblk, hsz, hdone, hb⟩ := hrel
    by_cases hlt : k < ss.length
    · obtain ⟨b, off, rfl, -, c1, c2, c3, c4⟩ := hm k hlt
      have c1' := cell_later hb c1
      have c2' := cell_later hb c2
      have c3' := cell_later hb c3
      have c4' := cell_later hb c4
      clear c1 c2 c3 c4
      go_wp2_with fail
      refine (toSite_any _ _ _ _ _).mono ?_
      rintro e w2 ⟨rfl, hb2⟩
      have hblk2 := block_kept hblk hb2
      have hfz := block_free hblk2
      have hcl : w2.cell? ⟨w.heap.size, k * 4, none⟩ = some cur[k * 4] := by rw [block_cell hblk2]; simp
      have hcl2 : w2.cell? ⟨w.heap.size, k * 4 + 1, none⟩ = some cur[k * 4 + 1] := by rw [block_cell hblk2]; simp
      have hcl3 : w2.cell? ⟨w.heap.size, k * 4 + 2, none⟩ = some cur[k * 4 + 2] := by rw [block_cell hblk2]; simp
      have hcl4 : w2.cell? ⟨w.heap.size, k * 4 + 3, none⟩ = some cur[k * 4 + 3] := by rw [block_cell hblk2]; simp
      have hb3 : Below w.heap.size w w2 := hb.trans (hb2.mono hb.size)
      go_wp2
      go_roundw
      case rel =>
        refine ⟨k + 1, (((cur.setIfInBounds (k * 4) (.int .i64 ss[k].f)).setIfInBounds (k * 4 + 1) (.int .i64 ss[k].pc)).setIfInBounds (k * 4 + 2) (.int .i64 ss[k].seen)).setIfInBounds (k * 4 + 3) (.int .i64 ss[k].target), by omega, by go_num, block_set (block_set (block_set (block_set hblk2 _) _) _) _, by simpa using hsz, ?_, (((hb3.setCell (Nat.le_refl _) _).setCell (Nat.le_refl _) _).setCell (Nat.le_refl _) _).setCell (Nat.le_refl _) _⟩
        intro j hj hjk
        by_cases e : j = k
        · subst e
          refine ⟨?_, ?_, ?_, ?_⟩
          · rw [set_else _ (by omega), set_else _ (by omega), set_else _ (by omega)]; exact set_self _ (by omega)
          · rw [set_else _ (by omega), set_else _ (by omega)]; exact set_self _ (by simp; omega)
          · rw [set_else _ (by omega)]; exact set_self _ (by simp; omega)
          · exact set_self _ (by simp; omega)
        · obtain ⟨d1, d2, d3, d4⟩ := hdone j hj (by omega)
          refine ⟨?_, ?_, ?_, ?_⟩
          · rw [set_else _ (by omega), set_else _ (by omega), set_else _ (by omega), set_else _ (by omega)]; exact d1
          · rw [set_else _ (by omega), set_else _ (by omega), set_else _ (by omega), set_else _ (by omega)]; exact d2
          · rw [set_else _ (by omega), set_else _ (by omega), set_else _ (by omega), set_else _ (by omega)]; exact d3
          · rw [set_else _ (by omega), set_else _ (by omega), set_else _ (by omega), set_else _ (by omega)]; exact d4
      case measure => simp [intOf]; omega
    · go_wp2
      go_ret
      refine ⟨rfl, fun j hj => ?_, hb, cur, hblk, hsz⟩
      obtain ⟨d1, d2, d3, d4⟩ := hdone j hj (by omega)
      exact ⟨w.heap.size, 0, rfl, Nat.le_refl _, by rw [block_cell hblk, Nat.zero_add]; exact d1, by rw [block_cell hblk, Nat.zero_add]; exact d2, by rw [block_cell hblk, Nat.zero_add]; exact d3, by rw [block_cell hblk, Nat.zero_add]; exact d4⟩


set_option maxHeartbeats 1000000 in
theorem markSites_any (g n cap : Nat) (k0 : Int) (w : World) (hn : n ≤ 1048576) (h0 : 0 ≤ k0) (h1 : k0 ≤ 100000000000000) (hb : ∃ cur, w.heap[g]? = some (.cells cur 68 (0, 0)) ∧ n * 4 ≤ cur.size) :
    Calls Tryz.prog 17 #[.slice (some ⟨g, 0, none⟩) n cap, .int .i64 k0] w fun e w' => e = .returned (.int .i64 (k0 + 4 * n)) ∧ But g w w' ∧ Marked w' g 68 n k0 := by
  obtain ⟨cur0, hb0, hs0⟩ := hb
  go_enter Tryz.func17, Tryz.ntmps17
  go_wp2
  go_loopw [1, 5] (fun q i wr => ∃ (k : Nat), k ≤ n ∧ i = .int .i64 k ∧ q = .int .i64 (k0 + 4 * k) ∧ Hid (But g w wr) ∧ Hid (∃ cur, wr.heap[g]? = some (.cells cur 68 (0, 0)) ∧ n * 4 ≤ cur.size ∧ ∀ j, j < k → cur[j * 4]? = some (.int .i64 (k0 + 4 * j)) ∧ cur[j * 4 + 1]? = some (.int .i64 (k0 + 4 * j + 1)) ∧ cur[j * 4 + 2]? = some (.int .i64 (k0 + 4 * j + 2)) ∧ cur[j * 4 + 3]? = some (.int .i64 (k0 + 4 * j + 3)))) (fun _ i _ => n - (intOf i).toNat)
  case atStart => exact ⟨0, by omega, rfl, by go_num, But.refl _ _, cur0, hb0, hs0, fun j hj => absurd hj (by omega)⟩
  case round =>
    obtain ⟨k, hk, rfl, rfl, HB, HC⟩ := hrel
    by_cases hlt : k < n
    · obtain ⟨cur, hblk, hsz, hdone⟩ := HC.out
      have hfz := block_free hblk
      have c0 : wr.cell? ⟨g, k * 4, none⟩ = some cur[k * 4] := by rw [block_cell hblk]; simp
      have c1 : wr.cell? ⟨g, k * 4 + 1, none⟩ = some cur[k * 4 + 1] := by rw [block_cell hblk]; simp
      have c2 : wr.cell? ⟨g, k * 4 + 2, none⟩ = some cur[k * 4 + 2] := by rw [block_cell hblk]; simp
      have c3 : wr.cell? ⟨g, k * 4 + 3, none⟩ = some cur[k * 4 + 3] := by rw [block_cell hblk]; simp
      have HBLK := hidz hblk
      have HSZ := hidz hsz
      have HDN := hidz hdone
      clear hdone HC
      go_wp2
      go_roundw
      case rel =>
        refine ⟨k + 1, by omega, by go_num, by go_num, ?_, ?_⟩
        · refine HB.out.trans ⟨?_, ?_, ?_, ?_, fun j _ hj => ?_⟩
          · rfl
          · rfl
          · rfl
          · simp
          · rw [Below.heap_setCell _ _ _ _ (by simpa using hj), Below.heap_setCell _ _ _ _ (by simpa using hj), Below.heap_setCell _ _ _ _ (by simpa using hj), Below.heap_setCell _ _ _ _ (by simpa using hj)]
        · refine ⟨_, block_set (block_set (block_set (block_set HBLK.out _) _) _) _, by simpa using HSZ.out, fun j hj => ?_⟩
          have hsz := HSZ.out
          by_cases e : j = k
          · subst e
            refine ⟨?_, ?_, ?_, ?_⟩
            · rw [set_else _ (by omega), set_else _ (by omega), set_else _ (by omega), set_self _ (by omega)]
            · rw [set_else _ (by omega), set_else _ (by omega), set_self _ (by simp; omega)] <;> (congr 2 <;> first | omega | (go_num))
            · rw [set_else _ (by omega), set_self _ (by simp; omega)] <;> (congr 2 <;> first | omega | (go_num))
            · rw [set_self _ (by simp; omega)] <;> (congr 2 <;> first | omega | (go_num))
          · obtain ⟨e1, e2, e3, e4⟩ := HDN.out j (by omega)
            refine ⟨?_, ?_, ?_, ?_⟩
            · rw [set_else _ (by omega), set_else _ (by omega), set_else _ (by omega), set_else _ (by omega)]; exact e1
            · rw [set_else _ (by omega), set_else _ (by omega), set_else _ (by omega), set_else _ (by omega)]; exact e2
            · rw [set_else _ (by omega), set_else _ (by omega), set_else _ (by omega), set_else _ (by omega)]; exact e3
            · rw [set_else _ (by omega), set_else _ (by omega), set_else _ (by omega), set_else _ (by omega)]; exact e4
      case measure => simp [intOf]; omega
    · go_wp2
      go_ret
      obtain ⟨cur, hblk, hsz, hdone⟩ := HC.out
      exact ⟨ret_int (by omega), HB.out, cur, hblk, fun j hj => hdone j (by omega)⟩


set_option maxHeartbeats 1000000 in
theorem heldSites_any (g n cap : Nat) (k0 : Int) (w : World) (hn : n ≤ 1048576) (h0 : 0 ≤ k0) (h1 : k0 ≤ 100000000000000) (hb : Marked w g 68 n k0) :
    Calls Tryz.prog 19 #[.slice (some ⟨g, 0, none⟩) n cap, .int .i64 k0] w fun e w' => e = .returned (.int .i64 (k0 + 4 * n)) ∧ Below w.heap.size w w' := by
  obtain ⟨cur, hblk, hmk⟩ := hb
  go_enter Tryz.func19, Tryz.ntmps19
  go_wp2
  go_loopw [1, 5] (fun q i wr => ∃ (k : Nat), k ≤ n ∧ i = .int .i64 k ∧ q = .int .i64 (k0 + 4 * k) ∧ Below w.heap.size w wr) (fun _ i _ => n - (intOf i).toNat)
  case atStart => exact ⟨0, by omega, rfl, by go_num, Below.refl _ _⟩
  case round =>
    obtain ⟨k, hk, rfl, rfl, hbr⟩ := hrel
    by_cases hlt : k < n
    · obtain ⟨e1, e2, e3, e4⟩ := hmk k hlt
      have hbk := block_cell (block_kept hblk hbr)
      have c0 : wr.cell? ⟨g, k * 4, none⟩ = some (.int .i64 (k0 + 4 * k)) := by rw [hbk]; exact e1
      have c1 : wr.cell? ⟨g, k * 4 + 1, none⟩ = some (.int .i64 (k0 + 4 * k + 1)) := by rw [hbk]; exact e2
      have c2 : wr.cell? ⟨g, k * 4 + 2, none⟩ = some (.int .i64 (k0 + 4 * k + 2)) := by rw [hbk]; exact e3
      have c3 : wr.cell? ⟨g, k * 4 + 3, none⟩ = some (.int .i64 (k0 + 4 * k + 3)) := by rw [hbk]; exact e4
      clear e1 e2 e3 e4 hbk
      go_wp2
      go_roundw
      case rel => exact ⟨k + 1, by omega, by go_num, by go_num, hbr⟩
      case measure => simp [intOf]; omega
    · go_wp2
      go_ret
      exact ⟨ret_int (by omega), hbr⟩
/-- The sites of a row bear marks from 1 on. -/
def RowM (w : World) (xa : Option Addr) (n : Nat) : Prop := n = 0 ∨ ∃ g, xa = some ⟨g, 0, none⟩ ∧ Marked w g 68 n 1
theorem RowM.mono {w w' : World} {xa : Option Addr} {n : Nat} (h : RowM w xa n) (hb : Below w.heap.size w w') : RowM w' xa n := by
  rcases h with h | ⟨g, h1, h2⟩
  · exact .inl h
  · exact .inr ⟨g, h1, h2.mono hb⟩
theorem But.grown {g : Nat} {w w' : World} (h : But g w w') : w.grownBy w' (some g) := ⟨h.os, h.tape, h.output, h.size, fun k hk hr => h.block k hk (fun e => hr (by rw [e]))⟩
theorem below_grown {r : Option Nat} {w w' : World} (h : Below w.heap.size w w') : w.grownBy w' r := ⟨h.os, h.tape, h.output, h.size, fun k hk _ => h.block k hk⟩
theorem grown_trans {r : Option Nat} {a b c : World} (h : a.grownBy b r) (k : b.grownBy c r) : a.grownBy c r :=
  ⟨k.os.trans h.os, k.tape.trans h.tape, k.output.trans h.output, Nat.le_trans h.size k.size, fun i hi hr => (k.block i (Nat.lt_of_lt_of_le hi h.size) hr).trans (h.block i hi hr)⟩
/-- A row of another type than the one that grows is as it was. -/
theorem grown_other {w w' : World} {base e size n k : Nat} {v : Value} {xs : List Value} {c : Array Value} {t : TypeId} {fr : Nat × Nat} (hown : w.ownsRow base e size v n xs) (ho : w.heap[k]? = some (.cells c t fr)) (ht : t ≠ e) (hg : w.grownBy w' v.ownBlock) : w'.heap[k]? = some (.cells c t fr) := by
  rw [hg.block k (lt_sizez ho) ?_]
  · exact ho
  · intro hkv
    rcases hown.2 with ⟨rfl, -⟩ | ⟨b, cap, cur, rfl, hb, hh, -⟩
    · simp [Value.ownBlock] at hkv
    · simp [Value.ownBlock] at hkv
      subst hkv
      rw [ho] at hh
      cases hh
      exact ht rfl

theorem markNone (c : Nat) (a : Option Addr) (k0 : Int) (w : World) : Calls Tryz.prog 17 #[.slice a 0 c, .int .i64 k0] w fun e w' => e = .returned (.int .i64 k0) ∧ w' = w := by
  go_enter Tryz.func17, Tryz.ntmps17
  go_wp2
  go_loopw [1, 5] (fun q i wr => q = .int .i64 k0 ∧ i = .int .i64 0 ∧ wr = w) (fun _ _ _ => 0)
  case atStart => exact ⟨rfl, rfl, rfl⟩
  case round =>
    obtain ⟨rfl, rfl, rfl⟩ := hrel
    go_wp2
    go_ret
    exact ⟨rfl, rfl⟩
theorem heldNone (c : Nat) (a : Option Addr) (k0 : Int) (w : World) : Calls Tryz.prog 19 #[.slice a 0 c, .int .i64 k0] w fun e w' => e = .returned (.int .i64 k0) ∧ w' = w := by
  go_enter Tryz.func19, Tryz.ntmps19
  go_wp2
  go_loopw [1, 5] (fun q i wr => q = .int .i64 k0 ∧ i = .int .i64 0 ∧ wr = w) (fun _ _ _ => 0)
  case atStart => exact ⟨rfl, rfl, rfl⟩
  case round =>
    obtain ⟨rfl, rfl, rfl⟩ := hrel
    go_wp2
    go_ret
    exact ⟨rfl, rfl⟩

theorem markSites_own (B n xc : Nat) (xa : Option Addr) (xs : List Value) (w : World) (hn : n ≤ 1048576) (ho : w.ownsRow B 68 4 (.slice xa n xc) n xs) :
    Calls Tryz.prog 17 #[.slice xa n xc, .int .i64 1] w fun e w' => e = .returned (.int .i64 (1 + 4 * n)) ∧ w.grownBy w' (Value.slice xa n xc).ownBlock ∧ RowM w' xa n := by
  by_cases h0 : n = 0
  · subst h0
    refine (markNone xc xa 1 w).mono ?_
    rintro e w' ⟨rfl, rfl⟩
    exact ⟨by simp, below_grown (Below.refl _ _), .inl rfl⟩
  · rcases ho.2 with ⟨e, h1⟩ | ⟨b, cap, cur, e, hb, hh, h1, h2, h3, h4⟩
    · exact absurd h1 h0
    · cases e
      refine (markSites_any b n xc 1 w hn (by omega) (by omega) ⟨cur, hh, by rw [h3]; omega⟩).mono ?_
      rintro e w' ⟨rfl, hB, hM⟩
      exact ⟨rfl, hB.grown, .inr ⟨b, rfl, hM⟩⟩
theorem heldSites_own (n xc : Nat) (xa : Option Addr) (w : World) (hn : n ≤ 1048576) (ho : RowM w xa n) :
    Calls Tryz.prog 19 #[.slice xa n xc, .int .i64 1] w fun e w' => e = .returned (.int .i64 (1 + 4 * n)) ∧ Below w.heap.size w w' := by
  rcases ho with rfl | ⟨g, rfl, hM⟩
  · refine (heldNone xc xa 1 w).mono ?_
    rintro e w' ⟨rfl, rfl⟩
    exact ⟨by simp, Below.refl _ _⟩
  · exact heldSites_any g n xc 1 w hn (by omega) (by omega) hM

theorem own_butz {w w' : World} {base e size n g : Nat} {v : Value} {xs : List Value} (h : w.ownsRow base e size v n xs) (hb : But g w w') (hg : g < base) : w'.ownsRow base e size v n xs := by
  refine ⟨h.1, ?_⟩
  rcases h.2 with ⟨e, hn⟩ | ⟨b, cap, cur, e, hb', hh, r⟩
  · exact .inl ⟨e, hn⟩
  · exact .inr ⟨b, cap, cur, e, hb', hb.kept (by omega) hh, r⟩
end Go.Proofs.YtmmcockkbhnopaaGreat
