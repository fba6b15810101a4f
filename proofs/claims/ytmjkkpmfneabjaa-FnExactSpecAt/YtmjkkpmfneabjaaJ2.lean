/-
  SpecAt of both sides: the first guess of a plan at an instruction.
-/
import Derived.Test.YtmjkkpmfneabjaaJ1
namespace Go.Proofs.Ytmjkkpmfneabjaa
open Go.RowKit

/-- The first site of a list at an instruction, the zero site without one. -/
def siteAt (ss : List Si) (f pc : Int) : Si := (ss.find? (fun s => decide (s.f = f ∧ s.pc = pc))).getD ⟨0, 0, 0, 0⟩
theorem siteAt_hit {ss : List Si} {f pc : Int} {k : Nat} (hk : k < ss.length) (h1 : ss[k].f = f) (h2 : ss[k].pc = pc) (hno : ∀ j (hj : j < ss.length), j < k → ¬ (ss[j].f = f ∧ ss[j].pc = pc)) : siteAt ss f pc = ss[k] := by
  unfold siteAt
  rw [List.find?_eq_some_iff_getElem.2 ⟨by simp [h1, h2], k, hk, rfl, fun j hj => by simp only [Bool.not_eq_true', decide_eq_false_iff_not]; exact hno j (by omega) hj⟩]
  rfl
theorem siteAt_none {ss : List Si} {f pc : Int} (hno : ∀ j (hj : j < ss.length), ¬ (ss[j].f = f ∧ ss[j].pc = pc)) : siteAt ss f pc = ⟨0, 0, 0, 0⟩ := by
  unfold siteAt
  rw [List.find?_eq_none.2 (fun s hs => by obtain ⟨j, hj, rfl⟩ := List.getElem_of_mem hs; simp only [decide_eq_true_eq]; exact hno j hj)]
  rfl


theorem no_more {ss : List Si} {f pc : Int} {k : Nat} (h : ∀ j (hj : j < ss.length), j < k → ¬ (ss[j].f = f ∧ ss[j].pc = pc)) (hlt : k < ss.length) (hk : ¬ (ss[k].f = f ∧ ss[k].pc = pc)) : ∀ j (hj : j < ss.length), j < k + 1 → ¬ (ss[j].f = f ∧ ss[j].pc = pc) := by
  intro j hj hjk
  by_cases e : j = k
  · subst e; exact hk
  · exact h j hj (by omega)


set_option maxHeartbeats 1000000 in
theorem sSpecAt_any (a : Option Addr) (ss : List Si) (cap : Nat) (lay : Int) (bare : Bool) (f pc : Int) (w : World) (hn : ss.length ≤ 1048576) (hm : SitesAt w 0 a ss) :
    Calls Try.prog 14 #[.agg #[.slice a ss.length cap, .int .i64 lay, .bool bare], .int .i64 f, .int .i64 pc] w fun e w' => e = .returned (.agg (siteAt ss f pc).cells) ∧ Below w.heap.size w w' := by
  go_enter Try.func14, Try.ntmps14
  go_wp2
  go_loopw [7] (fun i wr => ∃ (k : Nat), k ≤ ss.length ∧ i = .int .i64 k ∧ Hid (∀ j (hj : j < ss.length), j < k → ¬ (ss[j].f = f ∧ ss[j].pc = pc)) ∧ wr.heap[w.heap.size]? = some (.cells #[.slice a ss.length cap, .int .i64 lay, .bool bare] 38 (0, 0)) ∧ wr.heap[w.heap.size + 1]? = some (.cells #[.int .i64 0, .int .i64 0, .int .i64 0, .int .i64 0] 44 (0, 0)) ∧ Below w.heap.size w wr) (fun i _ => ss.length - (intOf i).toNat)
  case atStart => exact ⟨0, by omega, rfl, fun _ _ h => absurd h (Nat.not_lt_zero _), block_old (block_new _ _ _) _, by simpa using block_new (w.alloc (.cells #[.slice a ss.length cap, .int .i64 lay, .bool bare] 38)) #[.int .i64 0, .int .i64 0, .int .i64 0, .int .i64 0] 44, ((Below.refl _ _).alloc (Nat.le_refl _) _).alloc (by simp) _⟩
  case round =>
    obtain ⟨k, hk, rfl, hno, hP, hR, hb⟩ := hrel
    have hsz := hb.size
    by_cases hlt : k < ss.length
    · obtain ⟨b, off, rfl, -, c1, c2, c3, c4⟩ := hm k hlt
      have c1' := cell_later hb c1
      have c2' := cell_later hb c2
      have c3' := cell_later hb c3
      have c4' := cell_later hb c4
      clear c1 c2 c3 c4
      have q1 := block_cell hP
      obtain ⟨x1, hx1⟩ : ∃ x1, x1 = ss[k].f := ⟨_, rfl⟩
      obtain ⟨x2, hx2⟩ : ∃ x2, x2 = ss[k].pc := ⟨_, rfl⟩
      rw [← hx1] at c1'
      rw [← hx2] at c2'
      have HX1 : Hid (x1 = ss[k].f) := hx1
      have HX2 : Hid (x2 = ss[k].pc) := hx2
      clear hx1 hx2
      by_cases h1 : x1 = f
      · subst h1
        by_cases h2 : x2 = pc
        · subst h2
          have r1 := block_cell hR
          have r2 := block_free hR
          go_wp2
          refine bodyPost_ret (v := .agg #[.int .i64 x1, .int .i64 x2, .int .i64 ss[k].seen, .int .i64 ss[k].target]) (by simp [results, Try.results14, go_sem, r1]) rfl ⟨?_, ?_⟩
          · rw [siteAt_hit hlt HX1.out.symm HX2.out.symm hno.out, HX1.out, HX2.out]; rfl
          · exact ((((hb.setCell (by simp) _).setCell (by simp) _).setCell (by simp) _).setCell (by simp) _)
        · go_wp2
          go_roundw
          case rel => exact ⟨k + 1, by omega, by go_num, no_more hno.out hlt (fun h => h2 (by rw [HX2.out]; exact h.2)), hP, hR, hb⟩
          case measure => simp [intOf]; omega
      · go_wp2
        go_roundw
        case rel => exact ⟨k + 1, by omega, by go_num, no_more hno.out hlt (fun h => h1 (by rw [HX1.out]; exact h.1)), hP, hR, hb⟩
        case measure => simp [intOf]; omega
    · have q1 := block_cell hP
      have r1 := block_cell hR
      have r2 := block_free hR
      go_wp2
      refine bodyPost_ret (v := .agg #[.int .i64 0, .int .i64 0, .int .i64 0, .int .i64 0]) (by simp [results, Try.results14, go_sem, r1]) rfl ⟨?_, ?_⟩
      · rw [siteAt_none (fun j hj => hno.out j hj (by omega))]; rfl
      · exact (((hb.setCell (by simp) _).setCell (by simp) _).setCell (by simp) _).setCell (by simp) _

set_option maxHeartbeats 1000000 in
theorem iSpecAt_any (a : Option Addr) (ss : List Si) (cap : Nat) (lay : Int) (bare : Bool) (f pc : Int) (w : World) (hn : ss.length ≤ 1048576) (hm : SitesAt w 0 a ss) :
    Calls Try.prog 15 #[.agg #[.slice a ss.length cap, .int .i64 lay, .bool bare], .int .i64 f, .int .i64 pc] w fun e w' => e = .returned (.agg (siteAt ss f pc).cells) ∧ Below w.heap.size w w' := by
  go_enter Try.func15, Try.ntmps15
  go_wp2
  go_loopw [12] (fun i wr => ∃ (k : Nat), k ≤ ss.length ∧ i = .int .i64 k ∧ Hid (∀ j (hj : j < ss.length), j < k → ¬ (ss[j].f = f ∧ ss[j].pc = pc)) ∧ wr.heap[w.heap.size]? = some (.cells #[.slice a ss.length cap, .int .i64 lay, .bool bare] 38 (0, 0)) ∧ wr.heap[w.heap.size + 1]? = some (.cells #[.int .i64 0, .int .i64 0, .int .i64 0, .int .i64 0] 44 (0, 0)) ∧ Below w.heap.size w wr) (fun i _ => ss.length - (intOf i).toNat)
  case atStart => exact ⟨0, by omega, rfl, fun _ _ h => absurd h (Nat.not_lt_zero _), block_old (block_new _ _ _) _, by simpa using block_new (w.alloc (.cells #[.slice a ss.length cap, .int .i64 lay, .bool bare] 38)) #[.int .i64 0, .int .i64 0, .int .i64 0, .int .i64 0] 44, ((Below.refl _ _).alloc (Nat.le_refl _) _).alloc (by simp) _⟩
  case round =>
    obtain ⟨k, hk, rfl, hno, hP, hR, hb⟩ := hrel
    have hsz := hb.size
    by_cases hlt : k < ss.length
    · obtain ⟨b, off, rfl, -, c1, c2, c3, c4⟩ := hm k hlt
      have c1' := cell_later hb c1
      have c2' := cell_later hb c2
      have c3' := cell_later hb c3
      have c4' := cell_later hb c4
      clear c1 c2 c3 c4
      have q1 := block_cell hP
      obtain ⟨x1, hx1⟩ : ∃ x1, x1 = ss[k].f := ⟨_, rfl⟩
      obtain ⟨x2, hx2⟩ : ∃ x2, x2 = ss[k].pc := ⟨_, rfl⟩
      rw [← hx1] at c1'
      rw [← hx2] at c2'
      have HX1 : Hid (x1 = ss[k].f) := hx1
      have HX2 : Hid (x2 = ss[k].pc) := hx2
      clear hx1 hx2
      by_cases h1 : x1 = f
      · subst h1
        by_cases h2 : x2 = pc
        · subst h2
          have r1 := block_cell (block_old hR (.cells #[.int .i64 x1, .int .i64 x2, .int .i64 ss[k].seen, .int .i64 ss[k].target] 44))
          have r2 := block_free (block_old hR (.cells #[.int .i64 x1, .int .i64 x2, .int .i64 ss[k].seen, .int .i64 ss[k].target] 44))
          go_wp2
          refine bodyPost_ret (v := .agg #[.int .i64 x1, .int .i64 x2, .int .i64 ss[k].seen, .int .i64 ss[k].target]) (by simp [results, Try.results15, go_sem, r1]) rfl ⟨?_, ?_⟩
          · rw [siteAt_hit hlt HX1.out.symm HX2.out.symm hno.out, HX1.out, HX2.out]; rfl
          · exact (((((hb.alloc hb.size _).setCell (by simp) _).setCell (by simp) _).setCell (by simp) _).setCell (by simp) _)
        · go_wp2
          go_roundw
          case rel => exact ⟨k + 1, by omega, by go_num, no_more hno.out hlt (fun h => h2 (by rw [HX2.out]; exact h.2)), block_old hP _, block_old hR _, hb.alloc hb.size _⟩
          case measure => simp [intOf]; omega
      · go_wp2
        go_roundw
        case rel => exact ⟨k + 1, by omega, by go_num, no_more hno.out hlt (fun h => h1 (by rw [HX1.out]; exact h.1)), block_old hP _, block_old hR _, hb.alloc hb.size _⟩
        case measure => simp [intOf]; omega
    · have q1 := block_cell hP
      have r1 := block_cell hR
      have r2 := block_free hR
      go_wp2
      refine bodyPost_ret (v := .agg #[.int .i64 0, .int .i64 0, .int .i64 0, .int .i64 0]) (by simp [results, Try.results15, go_sem, r1]) rfl ⟨?_, ?_⟩
      · rw [siteAt_none (fun j hj => hno.out j hj (by omega))]; rfl
      · exact (((hb.setCell (by simp) _).setCell (by simp) _).setCell (by simp) _).setCell (by simp) _

end Go.Proofs.Ytmjkkpmfneabjaa
