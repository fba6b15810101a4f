/-
  Guesses that a call made: rows, comparing, marks.
-/
import Derived.Test.YtopbdjplpnojmaaBA
import Derived.Shelf.RegionOpen
namespace Go.Proofs.Ytopbdjplpnojmaa
open Go.RowKit

set_option maxHeartbeats 400000 in
theorem eqSpecE_same (f p s t : Int) (w : World) :
    Calls Try.prog 22 #[.agg #[.int .i64 f, .int .i64 p, .int .i64 s, .int .i64 t], .agg #[.int .i64 f, .int .i64 p, .int .i64 s, .int .i64 t]] w fun e w' => e = .returned (.bool true) ∧ Below w.heap.size w w' := by
  go_enter Try.func22, Try.ntmps22
  go_wp2
  go_ret
  exact ⟨rfl, ((Below.refl _ _).alloc (Nat.le_refl _) _).alloc (by simp) _⟩



set_option maxHeartbeats 1000000 in
theorem eqSpecS_any (a a2 : Option Addr) (ss : List Si) (cap cap2 : Nat) (w : World) (hn : ss.length ≤ 1048576) (hm : SitesAt w 0 a ss) (hm2 : SitesAt w 0 a2 ss) :
    Calls Try.prog 8 #[.slice a ss.length cap, .slice a2 ss.length cap2] w fun e w' => e = .returned (.bool true) ∧ Below w.heap.size w w' := by
  go_enter Try.func8, Try.ntmps8
  go_wp2
  go_loopw [5] (fun i wr => ∃ (k : Nat), k ≤ ss.length ∧ i = .int .i64 k ∧ Below w.heap.size w wr) (fun i _ => ss.length - (intOf i).toNat)
  case atStart => exact ⟨0, by omega, rfl, Below.refl _ _⟩
  case round =>
    obtain ⟨k, hk, rfl, hb⟩ := hrel
    by_cases hlt : k < ss.length
    · obtain ⟨b, off, rfl, -, c1, d1, e1, f1⟩ := hm k hlt
      obtain ⟨b2, off2, rfl, -, c2, d2, e2, f2⟩ := hm2 k hlt
      have c1' := cell_later hb c1
      have c2' := cell_later hb c2
      have d1' := cell_later hb d1
      have d2' := cell_later hb d2
      have e1' := cell_later hb e1
      have e2' := cell_later hb e2
      have f1' := cell_later hb f1
      have f2' := cell_later hb f2
      clear c1 c2 d1 d2 e1 e2 f1 f2
      go_wp2
      go_region_with (go_at_call 22; refine (eqSpecE_same _ _ _ _ _).mono ?_; rintro e w1 ⟨rfl, hb1⟩)
      all_goals
        go_wp2
        go_roundw
        case rel =>
          refine ⟨k + 1, by omega, by go_num, Below.trans ?_ (hb1.mono ?_)⟩
          · repeat (first | exact hb | apply Below.drew)
          · exact hb.size
        case measure => simp [intOf]; omega
    · go_wp2
      go_ret
      exact ⟨rfl, hb⟩

open Go.Deep Go.ChangeShapes Go.WideShapes Go.Joins


set_option maxHeartbeats 1000000 in
theorem markSpecs_any (g n cap : Nat) (k0 : Int) (w : World) (hn : n ≤ 1048576) (h0 : 0 ≤ k0) (h1 : k0 ≤ 100000000000000) (hb : ∃ cur, w.heap[g]? = some (.cells cur 60 (0, 0)) ∧ n * 4 ≤ cur.size) :
    Calls Try.prog 11 #[.slice (some ⟨g, 0, none⟩) n cap, .int .i64 k0] w fun e w' => e = .returned (.int .i64 (k0 + 4 * n)) ∧ But g w w' ∧ Marked w' g 60 n k0 := by
  obtain ⟨cur0, hb0, hs0⟩ := hb
  go_enter Try.func11, Try.ntmps11
  go_wp2
  go_loopw [1, 5] (fun q i wr => ∃ (k : Nat), k ≤ n ∧ i = .int .i64 k ∧ q = .int .i64 (k0 + 4 * k) ∧ Hid (But g w wr) ∧ Hid (∃ cur, wr.heap[g]? = some (.cells cur 60 (0, 0)) ∧ n * 4 ≤ cur.size ∧ ∀ j, j < k → cur[j * 4]? = some (.int .i64 (k0 + 4 * j)) ∧ cur[j * 4 + 1]? = some (.int .i64 (k0 + 4 * j + 1)) ∧ cur[j * 4 + 2]? = some (.int .i64 (k0 + 4 * j + 2)) ∧ cur[j * 4 + 3]? = some (.int .i64 (k0 + 4 * j + 3)))) (fun _ i _ => n - (intOf i).toNat)
  case atStart => exact ⟨0, by omega, rfl, by go_num, But.refl _ _, cur0, hb0, hs0, fun j hj => absurd hj (by omega)⟩
  case round =>
    obtain ⟨k, hk, rfl, rfl, HB, HC⟩ := hrel
    by_cases hlt : k < n
    · obtain ⟨cur, hblk, hsz, hdone⟩ := HC.out
      have hfz := block_free hblk
      have c0 : wr.cell? ⟨g, k * 4, none⟩ = some cur[k * 4] := by rw [block_cell hblk]; simp
      have c1 : wr.cell? ⟨g, k * 4 + 1, none⟩ = some cur[k * 4 + 1] := by rw [block_cell hblk]; simp
      have c2 : wr.cell? ⟨g, k * 4 + 2, none⟩ = some cur[k * 4 + 2] := by rw [block_cell hblk]; simp
      have c3 : wr.cell? ⟨g, k * 4 + 3, none⟩ = some cur[k * 4 + 3] := by rw [block_cell hblk]; simp
      have HBLK := hidz hblk
      have HSZ := hidz hsz
      have HDN := hidz hdone
      clear hdone HC
      go_wp2
      go_roundw
      case rel =>
        refine ⟨k + 1, by omega, by go_num, by go_num, ?_, ?_⟩
        · refine HB.out.trans ⟨?_, ?_, ?_, ?_, fun j _ hj => ?_⟩
          · rfl
          · rfl
          · rfl
          · simp
          · rw [Below.heap_setCell _ _ _ _ (by simpa using hj), Below.heap_setCell _ _ _ _ (by simpa using hj), Below.heap_setCell _ _ _ _ (by simpa using hj), Below.heap_setCell _ _ _ _ (by simpa using hj)]
        · refine ⟨_, block_set (block_set (block_set (block_set HBLK.out _) _) _) _, by simpa using HSZ.out, fun j hj => ?_⟩
          have hsz := HSZ.out
          by_cases e : j = k
          · subst e
            refine ⟨?_, ?_, ?_, ?_⟩
            · rw [set_else _ (by omega), set_else _ (by omega), set_else _ (by omega), set_self _ (by omega)]
            · rw [set_else _ (by omega), set_else _ (by omega), set_self _ (by simp; omega)] <;> (congr 2 <;> first | omega | (go_num))
            · rw [set_else _ (by omega), set_self _ (by simp; omega)] <;> (congr 2 <;> first | omega | (go_num))
            · rw [set_self _ (by simp; omega)] <;> (congr 2 <;> first | omega | (go_num))
          · obtain ⟨e1, e2, e3, e4⟩ := HDN.out j (by omega)
            refine ⟨?_, ?_, ?_, ?_⟩
            · rw [set_else _ (by omega), set_else _ (by omega), set_else _ (by omega), set_else _ (by omega)]; exact e1
            · rw [set_else _ (by omega), set_else _ (by omega), set_else _ (by omega), set_else _ (by omega)]; exact e2
            · rw [set_else _ (by omega), set_else _ (by omega), set_else _ (by omega), set_else _ (by omega)]; exact e3
            · rw [set_else _ (by omega), set_else _ (by omega), set_else _ (by omega), set_else _ (by omega)]; exact e4
      case measure => simp [intOf]; omega
    · go_wp2
      go_ret
      obtain ⟨cur, hblk, hsz, hdone⟩ := HC.out
      exact ⟨ret_int (by omega), HB.out, cur, hblk, fun j hj => hdone j (by omega)⟩




set_option maxHeartbeats 1000000 in
theorem heldSpecs_any (g n cap : Nat) (k0 : Int) (w : World) (hn : n ≤ 1048576) (h0 : 0 ≤ k0) (h1 : k0 ≤ 100000000000000) (hb : Marked w g 60 n k0) :
    Calls Try.prog 12 #[.slice (some ⟨g, 0, none⟩) n cap, .int .i64 k0] w fun e w' => e = .returned (.int .i64 (k0 + 4 * n)) ∧ Below w.heap.size w w' := by
  obtain ⟨cur, hblk, hmk⟩ := hb
  go_enter Try.func12, Try.ntmps12
  go_wp2
  go_loopw [1, 5] (fun q i wr => ∃ (k : Nat), k ≤ n ∧ i = .int .i64 k ∧ q = .int .i64 (k0 + 4 * k) ∧ Below w.heap.size w wr) (fun _ i _ => n - (intOf i).toNat)
  case atStart => exact ⟨0, by omega, rfl, by go_num, Below.refl _ _⟩
  case round =>
    obtain ⟨k, hk, rfl, rfl, hbr⟩ := hrel
    by_cases hlt : k < n
    · obtain ⟨e1, e2, e3, e4⟩ := hmk k hlt
      have hbk := block_cell (block_kept hblk hbr)
      have c0 : wr.cell? ⟨g, k * 4, none⟩ = some (.int .i64 (k0 + 4 * k)) := by rw [hbk]; exact e1
      have c1 : wr.cell? ⟨g, k * 4 + 1, none⟩ = some (.int .i64 (k0 + 4 * k + 1)) := by rw [hbk]; exact e2
      have c2 : wr.cell? ⟨g, k * 4 + 2, none⟩ = some (.int .i64 (k0 + 4 * k + 2)) := by rw [hbk]; exact e3
      have c3 : wr.cell? ⟨g, k * 4 + 3, none⟩ = some (.int .i64 (k0 + 4 * k + 3)) := by rw [hbk]; exact e4
      clear e1 e2 e3 e4 hbk
      go_wp2
      go_roundw
      case rel => exact ⟨k + 1, by omega, by go_num, by go_num, hbr⟩
      case measure => simp [intOf]; omega
    · go_wp2
      go_ret
      exact ⟨ret_int (by omega), hbr⟩


/-- The sites of a row bear marks from 1 on. -/
def RowM (w : World) (xa : Option Addr) (n : Nat) : Prop := n = 0 ∨ ∃ g, xa = some ⟨g, 0, none⟩ ∧ Marked w g 60 n 1


theorem RowM.mono {w w' : World} {xa : Option Addr} {n : Nat} (h : RowM w xa n) (hb : Below w.heap.size w w') : RowM w' xa n := by
  rcases h with h | ⟨g, h1, h2⟩
  · exact .inl h
  · exact .inr ⟨g, h1, h2.mono hb⟩


theorem markNone (c : Nat) (a : Option Addr) (k0 : Int) (w : World) : Calls Try.prog 11 #[.slice a 0 c, .int .i64 k0] w fun e w' => e = .returned (.int .i64 k0) ∧ w' = w := by
  go_enter Try.func11, Try.ntmps11
  go_wp2
  go_loopw [1, 5] (fun q i wr => q = .int .i64 k0 ∧ i = .int .i64 0 ∧ wr = w) (fun _ _ _ => 0)
  case atStart => exact ⟨rfl, rfl, rfl⟩
  case round =>
    obtain ⟨rfl, rfl, rfl⟩ := hrel
    go_wp2
    go_ret
    exact ⟨rfl, rfl⟩


theorem heldNone (c : Nat) (a : Option Addr) (k0 : Int) (w : World) : Calls Try.prog 12 #[.slice a 0 c, .int .i64 k0] w fun e w' => e = .returned (.int .i64 k0) ∧ w' = w := by
  go_enter Try.func12, Try.ntmps12
  go_wp2
  go_loopw [1, 5] (fun q i wr => q = .int .i64 k0 ∧ i = .int .i64 0 ∧ wr = w) (fun _ _ _ => 0)
  case atStart => exact ⟨rfl, rfl, rfl⟩
  case round =>
    obtain ⟨rfl, rfl, rfl⟩ := hrel
    go_wp2
    go_ret
    exact ⟨rfl, rfl⟩



theorem markSpecs_own (B n xc : Nat) (xa : Option Addr) (xs : List Value) (w : World) (hn : n ≤ 1048576) (ho : w.ownsRow B 60 4 (.slice xa n xc) n xs) :
    Calls Try.prog 11 #[.slice xa n xc, .int .i64 1] w fun e w' => e = .returned (.int .i64 (1 + 4 * n)) ∧ w.grownBy w' (Value.slice xa n xc).ownBlock ∧ RowM w' xa n := by
  by_cases h0 : n = 0
  · subst h0
    refine (markNone xc xa 1 w).mono ?_
    rintro e w' ⟨rfl, rfl⟩
    exact ⟨by simp, below_grown (Below.refl _ _), .inl rfl⟩
  · rcases ho.2 with ⟨e, h1⟩ | ⟨b, cap, cur, e, hb, hh, h1, h2, h3, h4⟩
    · exact absurd h1 h0
    · cases e
      refine (markSpecs_any b n xc 1 w hn (by omega) (by omega) ⟨cur, hh, by rw [h3]; omega⟩).mono ?_
      rintro e w' ⟨rfl, hB, hM⟩
      exact ⟨rfl, hB.grown, .inr ⟨b, rfl, hM⟩⟩


theorem heldSpecs_own (n xc : Nat) (xa : Option Addr) (w : World) (hn : n ≤ 1048576) (ho : RowM w xa n) :
    Calls Try.prog 12 #[.slice xa n xc, .int .i64 1] w fun e w' => e = .returned (.int .i64 (1 + 4 * n)) ∧ Below w.heap.size w w' := by
  rcases ho with rfl | ⟨g, rfl, hM⟩
  · refine (heldNone xc xa 1 w).mono ?_
    rintro e w' ⟨rfl, rfl⟩
    exact ⟨by simp, Below.refl _ _⟩
  · exact heldSpecs_any g n xc 1 w hn (by omega) (by omega) hM



/-- A row of sites that a call owns, read as sites. -/
theorem own_specs {w : World} {base n : Nat} {a : Option Addr} {c : Nat} {ss : List Si} (h : w.ownsRow base 60 4 (.slice a n c) n (flatS ss)) (hn : n = ss.length) : SitesAt w base a ss := by
  intro i hi
  rcases h.2 with ⟨e, h0⟩ | ⟨b, cp, cur, e, hb, hh, h1, h2, h3, h4⟩
  · omega
  · cases e
    obtain ⟨f1, f2, f3, f4⟩ := flatS_at ss i hi
    have hc : ∀ j v, (flatS ss)[j]? = some v → w.cell? ⟨b, j, none⟩ = some v := fun j v hj => by
      rw [block_cell hh, ← Array.getElem?_toList]
      rw [← h4] at hj
      rw [List.getElem?_take] at hj
      split at hj
      · exact hj
      · cases hj
    refine ⟨b, 0, rfl, hb, ?_, ?_, ?_, ?_⟩ <;> rw [Nat.zero_add]
    · exact hc _ _ f1
    · exact hc _ _ f2
    · exact hc _ _ f3
    · exact hc _ _ f4


end Go.Proofs.Ytopbdjplpnojmaa
