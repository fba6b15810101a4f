/-
  Rows of acts as plain data; which cells of memory hold them; what the laws' sizing, copying and comparing functions return of them.
-/
import Derived.Test.YtedjabgkdogkfaaDoorAC3
namespace Go.Proofs.YtedjabgkdogkfaaDoor
open Go.RowKit

theorem take_succ_mem {α : Type} {l : List α} {k : Nat} (h : k < l.length) {p : α → Prop} (h1 : ∀ x ∈ l.take k, p x) (h2 : p l[k]) : ∀ x ∈ l.take (k + 1), p x := by
  intro x hx
  rw [List.take_succ_eq_append_getElem h] at hx
  rcases List.mem_append.1 hx with hx | hx
  · exact h1 x hx
  · rw [List.mem_singleton.1 hx]; exact h2
theorem lt_block {w : World} {g : Nat} {o : Obj} (h : w.heap[g]? = some o) : g < w.heap.size := by
  rcases Nat.lt_or_ge g w.heap.size with h' | h'
  · exact h'
  · rw [Array.getElem?_eq_none h'] at h; cases h

structure Ac where
  k : Int
  a : Int
  b : Int
  l : Int
  s : Bool
  ss : List Si

def ActsAt (w : World) (a : Option Addr) (xs : List Ac) : Prop :=
  ∀ i (h : i < xs.length), ∃ b off sa cap, a = some ⟨b, off, none⟩ ∧ w.cell? ⟨b, off + i * 6, none⟩ = some (.int .i64 xs[i].k) ∧ w.cell? ⟨b, off + i * 6 + 1, none⟩ = some (.int .i64 xs[i].a) ∧ w.cell? ⟨b, off + i * 6 + 2, none⟩ = some (.int .i64 xs[i].b) ∧ w.cell? ⟨b, off + i * 6 + 3, none⟩ = some (.int .i64 xs[i].l) ∧ w.cell? ⟨b, off + i * 6 + 4, none⟩ = some (.bool xs[i].s) ∧ w.cell? ⟨b, off + i * 6 + 5, none⟩ = some (.slice sa xs[i].ss.length cap) ∧ SitesAt w 0 sa xs[i].ss
theorem ActsAt.mono {w w' : World} {a : Option Addr} {xs : List Ac} (h : ActsAt w a xs) (hb : Below w.heap.size w w') : ActsAt w' a xs := by
  intro i hi
  obtain ⟨b, off, sa, cap, h1, h2, h3, h4, h5, h6, h7, h8⟩ := h i hi
  exact ⟨b, off, sa, cap, h1, cell_later hb h2, cell_later hb h3, cell_later hb h4, cell_later hb h5, cell_later hb h6, cell_later hb h7, h8.mono hb⟩
theorem SitesAt.above {w w' : World} {lo : Nat} {a : Option Addr} {ss : List Si} (h : SitesAt w lo a ss) (hb : Above lo w w') : SitesAt w' lo a ss := by
  intro i hi
  obtain ⟨b, off, h1, h2, h3, h4, h5, h6⟩ := h i hi
  exact ⟨b, off, h1, h2, by rw [hb.cell h2]; exact h3, by rw [hb.cell h2]; exact h4, by rw [hb.cell h2]; exact h5, by rw [hb.cell h2]; exact h6⟩
def ActsMax (xs : List Ac) : Prop := ∀ x ∈ xs, x.ss.length ≤ maxLen
def ActsSmall (xs : List Ac) : Prop := ∀ x ∈ xs, x.ss.length ≤ 1048576

set_option maxHeartbeats 800000 in
theorem szActS_any (a : Option Addr) (xs : List Ac) (cap : Nat) (left : Int) (w : World) (h0 : 0 ≤ left) (h1 : left ≤ 1048576) (hn : xs.length ≤ maxLen) (hc : ActsMax xs) (hm : ActsAt w a xs) :
    Calls Tryd.prog 4 #[.slice a xs.length cap, .int .i64 left] w fun e w' => ∃ r : Int, e = .returned (.int .i64 r) ∧ r ≤ left ∧ (0 ≤ r → xs.length ≤ 1048576 ∧ ActsSmall xs) ∧ Below w.heap.size w w' := by
  unfold maxLen at hn
  by_cases h : left < xs.length
  · go_enter Tryd.func4, Tryd.ntmps4
    go_wp2
    go_ret
    exact ⟨-1, rfl, by omega, by omega, Below.refl _ _⟩
  · go_enter Tryd.func4, Tryd.ntmps4
    go_wp2
    go_loopw [1, 5] (fun l i wr => ∃ (k : Nat) (q : Int), k ≤ xs.length ∧ i = .int .i64 k ∧ l = .int .i64 q ∧ 0 ≤ q ∧ q ≤ left - xs.length ∧ Hid (∀ x ∈ xs.take k, x.ss.length ≤ 1048576) ∧ Below w.heap.size w wr) (fun _ i _ => xs.length - (intOf i).toNat)
    case atStart => exact ⟨0, _, by omega, rfl, rfl, by omega, by omega, by intro f hf; simp at hf, Below.refl _ _⟩
    case round =>
      obtain ⟨k, q, hk, rfl, rfl, hq0, hq1, hall, hb⟩ := hrel
      by_cases hlt : k < xs.length
      · obtain ⟨b, off, sa, cp, rfl, c1, c2, c3, c4, c5, c6, c7⟩ := hm k hlt
        have c1' := cell_later hb c1
        have c2' := cell_later hb c2
        have c3' := cell_later hb c3
        have c4' := cell_later hb c4
        have c5' := cell_later hb c5
        have c6' := cell_later hb c6
        clear c1 c2 c3 c4 c5 c6 c7
        have hck := hc xs[k] (List.getElem_mem hlt)
        go_wp2_with fail
        refine (szAct_any _ _ _ _ _ _ _ _ _ _ hq0 (by omega) hck).mono ?_
        rintro e w2 ⟨rfl, hb'⟩
        have hB := hb.trans (hb'.mono hb.size)
        clear c1' c2' c3' c4' c5' c6' hb'
        by_cases hr0 : q < xs[k].ss.length
        · rw [if_pos hr0]
          go_wp2
          go_ret
          exact ⟨-1, rfl, by omega, by omega, hB⟩
        · rw [if_neg hr0]
          have hr1 : ¬ q - (xs[k].ss.length : Int) < 0 := by omega
          have hs : xs[k].ss.length ≤ 1048576 := by omega
          go_wp2
          go_roundw
          case rel => exact ⟨k + 1, q - (xs[k].ss.length : Int), by omega, by go_num, rfl, by omega, by omega, take_succ_mem (p := fun (x : Ac) => x.ss.length ≤ 1048576) hlt hall.out hs, hB⟩
          case measure => simp [intOf]; omega
      · go_wp2
        go_ret
        exact ⟨q, rfl, by omega, fun _ => ⟨by omega, by have := hall.out; rwa [List.take_of_length_le (by omega)] at this⟩, hb⟩

theorem info37 : (Tryd.prog.info? 37).map (fun i => (i.zero, i.size, i.bytes)) = some (some (.agg #[.int .i64 0, .int .i64 0, .int .i64 0, .int .i64 0, .bool false, .slice none 0 0]), 6, 64) := by kernel_rfl

set_option maxHeartbeats 2000000 in
theorem toActS_any (a : Option Addr) (xs : List Ac) (cap : Nat) (w : World) (hn : xs.length ≤ 1048576) (hc : ActsSmall xs) (hm : ActsAt w a xs) :
    Calls Tryd.prog 6 #[.slice a xs.length cap] w fun e w' => e = .returned (.slice (some ⟨w.heap.size, 0, none⟩) xs.length xs.length) ∧ ActsAt w' (some ⟨w.heap.size, 0, none⟩) xs ∧ Below w.heap.size w w' := by
  obtain ⟨i0, hi, hz0, hz1, hz2⟩ := info_parts info37
  go_enter Tryd.func6, Tryd.ntmps6
  go_wp2_with (first | (at_make; refine wpList_make_full _ rfl _ _ 25 rfl w.heap.size 37 i0 (.agg #[.int .i64 0, .int .i64 0, .int .i64 0, .int .i64 0, .bool false, .slice none 0 0]) 6 Tryd.underlying25 hi hz0 hz1 _ _ _ _ xs.length rfl rfl rfl rfl (by rw [hz2]; omega) (by unfold maxLen; omega) (Nat.le_refl _) ?_; intro w1 hown hgrow))
  obtain ⟨cur0, hblk, hsz⟩ := made_block hown
  have hb0 : Below w.heap.size w w1 := (Below.refl _ _).grown hgrow (Nat.le_refl _) (by intro k hk; cases hk)
  clear hown hgrow hi hz0 hz1 hz2
  go_loopw [4] (fun i wr => ∃ (k : Nat) (cur : Array Value), k ≤ xs.length ∧ i = .int .i64 k ∧ wr.heap[w.heap.size]? = some (.cells cur 37 (0, 0)) ∧ cur.size = xs.length * 6 ∧
      (∀ j (hj : j < xs.length), j < k → cur[j * 6]? = some (.int .i64 xs[j].k) ∧ cur[j * 6 + 1]? = some (.int .i64 xs[j].a) ∧ cur[j * 6 + 2]? = some (.int .i64 xs[j].b) ∧ cur[j * 6 + 3]? = some (.int .i64 xs[j].l) ∧ cur[j * 6 + 4]? = some (.bool xs[j].s) ∧ ∃ g, cur[j * 6 + 5]? = some (.slice (some ⟨g, 0, none⟩) xs[j].ss.length xs[j].ss.length) ∧ SitesAt wr (w.heap.size + 1) (some ⟨g, 0, none⟩) xs[j].ss) ∧ Below w.heap.size w wr) (fun i _ => xs.length - (intOf i).toNat)
  case atStart => exact ⟨0, cur0, by omega, rfl, hblk, hsz, fun j _ h => by omega, hb0⟩
  case round =>
    obtain ⟨k, cur, hk, rfl, hblk, hsz, hdone, hb⟩ := hrel
    by_cases hlt : k < xs.length
    · obtain ⟨b, off, sa, cp, rfl, c1, c2, c3, c4, c5, c6, c7⟩ := hm k hlt
      have c1' := cell_later hb c1
      have c2' := cell_later hb c2
      have c3' := cell_later hb c3
      have c4' := cell_later hb c4
      have c5' := cell_later hb c5
      have c6' := cell_later hb c6
      clear c1 c2 c3 c4 c5 c6
      have hgs : w.heap.size < wr.heap.size := lt_block hblk
      have hck := hc xs[k] (List.getElem_mem hlt)
      go_wp2_with fail
      refine (toAct_any _ _ _ _ _ _ _ _ _ hck (c7.mono hb)).mono ?_
      rintro e w2 ⟨g, hg, rfl, hl, hb2⟩
      have hblk2 := block_kept hblk hb2
      have hfz := block_free hblk2
      have hcl : w2.cell? ⟨w.heap.size, k * 6, none⟩ = some cur[k * 6] := by rw [block_cell hblk2]; simp
      have hcl2 : w2.cell? ⟨w.heap.size, k * 6 + 1, none⟩ = some cur[k * 6 + 1] := by rw [block_cell hblk2]; simp
      have hcl3 : w2.cell? ⟨w.heap.size, k * 6 + 2, none⟩ = some cur[k * 6 + 2] := by rw [block_cell hblk2]; simp
      have hcl4 : w2.cell? ⟨w.heap.size, k * 6 + 3, none⟩ = some cur[k * 6 + 3] := by rw [block_cell hblk2]; simp
      have hcl5 : w2.cell? ⟨w.heap.size, k * 6 + 4, none⟩ = some cur[k * 6 + 4] := by rw [block_cell hblk2]; simp
      have hcl6 : w2.cell? ⟨w.heap.size, k * 6 + 5, none⟩ = some cur[k * 6 + 5] := by rw [block_cell hblk2]; simp
      have hb3 : Below w.heap.size w w2 := hb.trans (hb2.mono hb.size)
      go_wp2
      go_roundw
      case rel =>
        have hab : Above (w.heap.size + 1) w2 ((((((w2.setCell ⟨w.heap.size, k * 6, none⟩ (.int .i64 xs[k].k)).setCell ⟨w.heap.size, k * 6 + 1, none⟩ (.int .i64 xs[k].a)).setCell ⟨w.heap.size, k * 6 + 2, none⟩ (.int .i64 xs[k].b)).setCell ⟨w.heap.size, k * 6 + 3, none⟩ (.int .i64 xs[k].l)).setCell ⟨w.heap.size, k * 6 + 4, none⟩ (.bool xs[k].s)).setCell ⟨w.heap.size, k * 6 + 5, none⟩ (.slice (some ⟨g, 0, none⟩) xs[k].ss.length xs[k].ss.length)) :=
          ((((((Above.refl _ _).setCell (by simp) _).setCell (by simp) _).setCell (by simp) _).setCell (by simp) _).setCell (by simp) _).setCell (by simp) _
        refine ⟨k + 1, (((((cur.setIfInBounds (k * 6) (.int .i64 xs[k].k)).setIfInBounds (k * 6 + 1) (.int .i64 xs[k].a)).setIfInBounds (k * 6 + 2) (.int .i64 xs[k].b)).setIfInBounds (k * 6 + 3) (.int .i64 xs[k].l)).setIfInBounds (k * 6 + 4) (.bool xs[k].s)).setIfInBounds (k * 6 + 5) (.slice (some ⟨g, 0, none⟩) xs[k].ss.length xs[k].ss.length), by omega, by go_num, block_set (block_set (block_set (block_set (block_set (block_set hblk2 _) _) _) _) _) _, by simpa using hsz, ?_, (((((hb3.setCell (Nat.le_refl _) _).setCell (Nat.le_refl _) _).setCell (Nat.le_refl _) _).setCell (Nat.le_refl _) _).setCell (Nat.le_refl _) _).setCell (Nat.le_refl _) _⟩
        intro j hj hjk
        by_cases e : j = k
        · subst e
          refine ⟨?_, ?_, ?_, ?_, ?_, g, ?_, (hl.low (by omega)).above hab⟩
          · rw [set_else _ (by omega), set_else _ (by omega), set_else _ (by omega), set_else _ (by omega), set_else _ (by omega)]; exact set_self _ (by omega)
          · rw [set_else _ (by omega), set_else _ (by omega), set_else _ (by omega), set_else _ (by omega)]; exact set_self _ (by simp; omega)
          · rw [set_else _ (by omega), set_else _ (by omega), set_else _ (by omega)]; exact set_self _ (by simp; omega)
          · rw [set_else _ (by omega), set_else _ (by omega)]; exact set_self _ (by simp; omega)
          · rw [set_else _ (by omega)]; exact set_self _ (by simp; omega)
          · exact set_self _ (by simp; omega)
        · obtain ⟨d1, d2, d3, d4, d5, g', d6, d7⟩ := hdone j hj (by omega)
          refine ⟨?_, ?_, ?_, ?_, ?_, g', ?_, (d7.mono hb2).above hab⟩
          · rw [set_else _ (by omega), set_else _ (by omega), set_else _ (by omega), set_else _ (by omega), set_else _ (by omega), set_else _ (by omega)]; exact d1
          · rw [set_else _ (by omega), set_else _ (by omega), set_else _ (by omega), set_else _ (by omega), set_else _ (by omega), set_else _ (by omega)]; exact d2
          · rw [set_else _ (by omega), set_else _ (by omega), set_else _ (by omega), set_else _ (by omega), set_else _ (by omega), set_else _ (by omega)]; exact d3
          · rw [set_else _ (by omega), set_else _ (by omega), set_else _ (by omega), set_else _ (by omega), set_else _ (by omega), set_else _ (by omega)]; exact d4
          · rw [set_else _ (by omega), set_else _ (by omega), set_else _ (by omega), set_else _ (by omega), set_else _ (by omega), set_else _ (by omega)]; exact d5
          · rw [set_else _ (by omega), set_else _ (by omega), set_else _ (by omega), set_else _ (by omega), set_else _ (by omega), set_else _ (by omega)]; exact d6
      case measure => simp [intOf]; omega
    · go_wp2
      go_ret
      refine ⟨rfl, fun j hj => ?_, hb⟩
      obtain ⟨d1, d2, d3, d4, d5, g', d6, d7⟩ := hdone j hj (by omega)
      exact ⟨w.heap.size, 0, some ⟨g', 0, none⟩, xs[j].ss.length, rfl, by rw [block_cell hblk, Nat.zero_add]; exact d1, by rw [block_cell hblk, Nat.zero_add]; exact d2, by rw [block_cell hblk, Nat.zero_add]; exact d3, by rw [block_cell hblk, Nat.zero_add]; exact d4, by rw [block_cell hblk, Nat.zero_add]; exact d5, by rw [block_cell hblk, Nat.zero_add]; exact d6, d7.low (Nat.zero_le _)⟩

set_option maxHeartbeats 800000 in
theorem eqActS_any (a a2 : Option Addr) (xs : List Ac) (cap cap2 : Nat) (w : World) (hn : xs.length ≤ 1048576) (hc : ActsSmall xs) (hm : ActsAt w a xs) (hm2 : ActsAt w a2 xs) :
    Calls Tryd.prog 8 #[.slice a xs.length cap, .slice a2 xs.length cap2] w fun e w' => e = .returned (.bool true) ∧ Below w.heap.size w w' := by
  go_enter Tryd.func8, Tryd.ntmps8
  go_wp2
  go_loopw [5] (fun i wr => ∃ (k : Nat), k ≤ xs.length ∧ i = .int .i64 k ∧ Below w.heap.size w wr) (fun i _ => xs.length - (intOf i).toNat)
  case atStart => exact ⟨0, by omega, rfl, Below.refl _ _⟩
  case round =>
    obtain ⟨k, hk, rfl, hb⟩ := hrel
    by_cases hlt : k < xs.length
    · obtain ⟨b, off, sa, cp, rfl, c1, c2, c3, c4, c5, c6, c7⟩ := hm k hlt
      obtain ⟨b2, off2, sa2, cp2, rfl, d1, d2, d3, d4, d5, d6, d7⟩ := hm2 k hlt
      have c1' := cell_later hb c1
      have c2' := cell_later hb c2
      have c3' := cell_later hb c3
      have c4' := cell_later hb c4
      have c5' := cell_later hb c5
      have c6' := cell_later hb c6
      have d1' := cell_later hb d1
      have d2' := cell_later hb d2
      have d3' := cell_later hb d3
      have d4' := cell_later hb d4
      have d5' := cell_later hb d5
      have d6' := cell_later hb d6
      have hck := hc xs[k] (List.getElem_mem hlt)
      clear c1 c2 c3 c4 c5 c6 d1 d2 d3 d4 d5 d6
      go_wp2
      go_region_with (go_at_call 19; refine (eqAct_any _ _ _ _ _ _ _ _ _ _ _ hck (by exact c7.mono (by repeat (first | exact hb | apply Below.drew))) (by exact d7.mono (by repeat (first | exact hb | apply Below.drew)))).mono ?_; rintro e w1 ⟨rfl, hb1⟩)
      all_goals
        go_wp2
        go_roundw
        case rel =>
          refine ⟨k + 1, by omega, by go_num, Below.trans ?_ (hb1.mono ?_)⟩
          · repeat (first | exact hb | apply Below.drew)
          · exact hb.size
        case measure => simp [intOf]; omega
    · go_wp2
      go_ret
      exact ⟨rfl, hb⟩
end Go.Proofs.YtedjabgkdogkfaaDoor
