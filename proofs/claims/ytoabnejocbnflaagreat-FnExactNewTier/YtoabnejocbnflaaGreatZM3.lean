/-
  What the copying functions of the laws return of lists of values, frames and records.
  What toVm returns: a copy in new memory.
-/
import Derived.Test.YtoabnejocbnflaaGreatZNQ2
import Derived.Test.YtoabnejocbnflaaGreatZX1
import Derived.Test.YtoabnejocbnflaaGreatZW2
namespace Go.Proofs.YtoabnejocbnflaaGreat
open Go.RowKit

/-- A block of so many values. -/
def ValsBlk (w : World) (g n : Nat) : Prop := ∃ cur : Array Value, w.heap[g]? = some (Obj.cells cur 32 (0, 0)) ∧ cur.size = n * 3
theorem ValsBlk.mono {w w' : World} {g n : Nat} (h : ValsBlk w g n) (hb : Below w.heap.size w w') : ValsBlk w' g n := by
  obtain ⟨c, h1, h2⟩ := h
  exact ⟨c, block_kept h1 hb, h2⟩

theorem info32 : (Tryz.prog.info? 32).map (fun i => (i.zero, i.size, i.bytes)) = some (some (.agg #[.int .i64 0, .int .i64 0, .string ByteArray.empty]), 3, 32) := by kernel_rfl

set_option maxHeartbeats 400000 in
theorem toValueS_any (a : Option Addr) (vs : List Vl) (cap : Nat) (w : World) (hn : vs.length ≤ 1048576) (hm : ValsAt w 0 a vs) :
    Calls Tryz.prog 8 #[.slice a vs.length cap] w fun e w' => e = .returned (.slice (some ⟨w.heap.size, 0, none⟩) vs.length vs.length) ∧ ValsAt w' w.heap.size (some ⟨w.heap.size, 0, none⟩) vs ∧ ValsBlk w' w.heap.size vs.length ∧ Below w.heap.size w w' := by
  obtain ⟨i0, hi, hz0, hz1, hz2⟩ := info_parts info32
  go_enter Tryz.func8, Tryz.ntmps8
  go_wp2_with (first | (at_make; refine wpList_make_full _ rfl _ _ 46 rfl w.heap.size 32 i0 (.agg #[.int .i64 0, .int .i64 0, .string ByteArray.empty]) 3 Tryz.underlying46 hi hz0 hz1 _ _ _ _ vs.length rfl rfl rfl rfl (by rw [hz2]; omega) (by unfold maxLen; omega) (Nat.le_refl _) ?_; intro w1 hown hgrow))
  obtain ⟨cur0, hblk, hsz⟩ := made_block hown
  have hb0 : Below w.heap.size w w1 := (Below.refl _ _).grown hgrow (Nat.le_refl _) (by intro k hk; cases hk)
  clear hown hgrow hi hz0 hz1 hz2
  go_loopw [4] (fun i wr => ∃ (k : Nat) (cur : Array Value), k ≤ vs.length ∧ i = .int .i64 k ∧ wr.heap[w.heap.size]? = some (.cells cur 32 (0, 0)) ∧ cur.size = vs.length * 3 ∧ (∀ j (hj : j < vs.length), j < k → cur[j * 3]? = some (.int .i64 vs[j].k) ∧ cur[j * 3 + 1]? = some (.int .i64 vs[j].n) ∧ cur[j * 3 + 2]? = some (.string vs[j].s)) ∧ Below w.heap.size w wr) (fun i _ => vs.length - (intOf i).toNat)
  case atStart => exact ⟨0, cur0, by omega, rfl, hblk, hsz, fun j _ h => by omega, hb0⟩
  case round =>
    obtain ⟨k, cur, hk, rfl, hblk, hsz, hdone, hb⟩ := hrel
    by_cases hlt : k < vs.length
    · obtain ⟨b, off, rfl, -, c1, c2, c3⟩ := hm k hlt
      have c1' := cell_later hb c1
      have c2' := cell_later hb c2
      have c3' := cell_later hb c3
      clear c1 c2 c3
      go_wp2_with fail
      refine (toValue_any _ _ _ _).mono ?_
      rintro e w2 ⟨rfl, hb2⟩
      have hblk2 := block_kept hblk hb2
      have hfz := block_free hblk2
      have hcl : w2.cell? ⟨w.heap.size, k * 3, none⟩ = some cur[k * 3] := by rw [block_cell hblk2]; simp
      have hcl2 : w2.cell? ⟨w.heap.size, k * 3 + 1, none⟩ = some cur[k * 3 + 1] := by rw [block_cell hblk2]; simp
      have hcl3 : w2.cell? ⟨w.heap.size, k * 3 + 2, none⟩ = some cur[k * 3 + 2] := by rw [block_cell hblk2]; simp
      have hb3 : Below w.heap.size w w2 := hb.trans (hb2.mono hb.size)
      go_wp2
      go_roundw
      case rel =>
        refine ⟨k + 1, ((cur.setIfInBounds (k * 3) (.int .i64 vs[k].k)).setIfInBounds (k * 3 + 1) (.int .i64 vs[k].n)).setIfInBounds (k * 3 + 2) (.string vs[k].s), by omega, by go_num, block_set (block_set (block_set hblk2 _) _) _, by simpa using hsz, ?_, ((hb3.setCell (Nat.le_refl _) _).setCell (Nat.le_refl _) _).setCell (Nat.le_refl _) _⟩
        intro j hj hjk
        by_cases e : j = k
        · subst e
          refine ⟨?_, ?_, ?_⟩
          · rw [set_else _ (by omega), set_else _ (by omega)]; exact set_self _ (by omega)
          · rw [set_else _ (by omega)]; exact set_self _ (by simp; omega)
          · exact set_self _ (by simp; omega)
        · obtain ⟨d1, d2, d3⟩ := hdone j hj (by omega)
          refine ⟨?_, ?_, ?_⟩
          · rw [set_else _ (by omega), set_else _ (by omega), set_else _ (by omega)]; exact d1
          · rw [set_else _ (by omega), set_else _ (by omega), set_else _ (by omega)]; exact d2
          · rw [set_else _ (by omega), set_else _ (by omega), set_else _ (by omega)]; exact d3
      case measure => simp [intOf]; omega
    · go_wp2
      go_ret
      refine ⟨rfl, fun j hj => ?_, ⟨cur, hblk, hsz⟩, hb⟩
      obtain ⟨d1, d2, d3⟩ := hdone j hj (by omega)
      exact ⟨w.heap.size, 0, rfl, Nat.le_refl _, by rw [block_cell hblk, Nat.zero_add]; exact d1, by rw [block_cell hblk, Nat.zero_add]; exact d2, by rw [block_cell hblk, Nat.zero_add]; exact d3⟩

theorem info130 : (Tryz.prog.info? 130).map (fun i => (i.zero, i.size, i.bytes)) = some (some (.agg #[.slice none 0 0]), 1, 24) := by kernel_rfl
theorem info87 : (Tryz.prog.info? 87).map (fun i => (i.zero, i.size, i.bytes)) = some (some (.agg #[.int .i64 0, .int .i64 0, .slice none 0 0, .slice none 0 0]), 4, 64) := by kernel_rfl

end Go.Proofs.YtoabnejocbnflaaGreat
namespace Go.Proofs.YtoabnejocbnflaaGreat
open Go.RowKit

/-- The cells of a state. -/
def vmCells (fa ha oa : Option Addr) (fc hcp oc : Nat) (d : VmD) : Array Value := #[.slice fa d.frames.length fc, .slice ha d.heap.length hcp, .int .i64 d.made, .slice oa d.out.length oc, .int .i64 d.status, .int .i64 d.trap, .int .i64 d.value.k, .int .i64 d.value.n, .string d.value.s, .int .i64 d.steps]

structure VmAt (w : World) (lo : Nat) (fa ha oa : Option Addr) (d : VmD) : Prop where
  frs : FrsAt w lo fa d.frames
  recs : RecsAt w lo ha d.heap
  out : StrsAt w lo oa d.out
theorem VmAt.mono {w w' : World} {lo : Nat} {fa ha oa : Option Addr} {d : VmD} (h : VmAt w lo fa ha oa d) (hb : Below w.heap.size w w') : VmAt w' lo fa ha oa d := ⟨h.frs.mono hb, h.recs.mono hb, h.out.mono hb⟩
theorem VmAt.low {w : World} {lo lo' : Nat} {fa ha oa : Option Addr} {d : VmD} (h : VmAt w lo fa ha oa d) (hl : lo' ≤ lo) : VmAt w lo' fa ha oa d := ⟨h.frs.low hl, h.recs.low hl, h.out.low hl⟩
theorem VmAt.above {w w' : World} {lo : Nat} {fa ha oa : Option Addr} {d : VmD} (h : VmAt w lo fa ha oa d) (hb : Above lo w w') : VmAt w' lo fa ha oa d := ⟨h.frs.above hb, h.recs.above hb, h.out.above hb⟩

end Go.Proofs.YtoabnejocbnflaaGreat
