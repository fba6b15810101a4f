/-
  The texts of a row of values: impl.textsOf.
-/
import Derived.Test.YtfefbgemcakabaaGreatDoorTX3
import Derived.Laws.EntriesVeiled
namespace Go.Proofs.YtfefbgemcakabaaGreatDoor
open Go.RowKit

/-- What is asked of a value whose text is told. -/
def VOk (v : Vl) : Prop := v.s.size ≤ 60 ∧ nOk v.k v.n
/-- What is asked of the records. -/
structure HpOk (w : World) (ha : Option Addr) (hp : List (List Vl)) : Prop where
  len : hp.length ≤ 1048576
  each : ∀ r ∈ hp, r.length ≤ 1048576
  lies : RecsAt w 0 ha hp
theorem HpOk.mono {w w' : World} {ha : Option Addr} {hp : List (List Vl)} (h : HpOk w ha hp) (hb : Below w.heap.size w w') : HpOk w' ha hp := ⟨h.len, h.each, h.lies.mono hb⟩

set_option maxRecDepth 100000 in
set_option maxHeartbeats 1000000 in
theorem litV_any (v : Vl) (ha : Option Addr) (hp : List (List Vl)) (hc Hb : Nat) (w : World) (hv : VOk v) (hh : HpOk w ha hp) (htab : TabP w) (hH : w.heap[Hb]? = some (.cells #[.slice ha hp.length hc] 40 (0, 0))) :
    Calls Tryz.prog 52 #[.agg #[.int .i64 v.k, .int .i64 v.n, .string v.s], .pointer (some ⟨Hb, 0, none⟩)] w fun e w' => e = .returned (.string (vlT hp v)) ∧ Below w.heap.size w w' := by
  have hb0 : Below w.heap.size w (w.alloc (.cells #[.int .i64 v.k, .int .i64 v.n, .string v.s] 41)) := (Below.refl _ _).alloc (Nat.le_refl _) _
  have c0 := block_cell (block_kept hH hb0)
  have hsz : v.s.size ≤ 1048576 := by have := hv.1; omega
  have HC : Hid (Calls Tryz.prog 49 #[.agg #[.int .i64 v.k, .int .i64 v.n, .string v.s], .slice ha hp.length hc] (w.alloc (.cells #[.int .i64 v.k, .int .i64 v.n, .string v.s] 41)) fun e w' => e = .returned (.string (vT hp v.k v.n v.s)) ∧ Below (w.alloc (.cells #[.int .i64 v.k, .int .i64 v.n, .string v.s] 41)).heap.size (w.alloc (.cells #[.int .i64 v.k, .int .i64 v.n, .string v.s] 41)) w') :=
    iVText_any v.k v.n v.s ha hp hc _ hh.len hh.each hsz hv.2 (hh.mono hb0).lies (htab.below hb0)
  go_enter Tryz.func52, Tryz.ntmps52
  go_wp2_with fail
  refine HC.out.mono ?_
  rintro e w1 ⟨rfl, hb1⟩
  have hB1 := hb0.trans (hb1.mono hb0.size)
  clear hb0 hb1 c0 HC
  go_wp2
  go_ret
  exact ⟨rfl, hB1⟩

set_option maxRecDepth 100000 in
set_option maxHeartbeats 4000000 in
theorem eachV_any (a : Option Addr) (l : List Vl) (cap : Nat) (ha : Option Addr) (hp : List (List Vl)) (hc Hb : Nat) (w : World) (hn : l.length ≤ 1048576) (hv : ∀ v ∈ l, VOk v) (hm : ValsAt w 0 a l) (hh : HpOk w ha hp) (htab : TabP w) (hH : w.heap[Hb]? = some (.cells #[.slice ha hp.length hc] 40 (0, 0))) :
    Calls Tryz.prog 51 #[.slice a l.length cap, .func (.func 52) #[] #[.pointer (some ⟨Hb, 0, none⟩)]] w fun e w' => ∃ cur, e = .returned (.slice (some ⟨w.heap.size, 0, none⟩) l.length l.length) ∧ w'.heap[w.heap.size]? = some (.cells cur 9 (0, 0)) ∧ cur.size = l.length ∧ (∀ j (h : j < l.length), cur[j]? = some (.string (vlT hp l[j]))) ∧ Below w.heap.size w w' := by
  obtain ⟨i0, hi, hz0, hz1, hz2⟩ := info_parts (show (Tryz.prog.info? 9).map (fun i => (i.zero, i.size, i.bytes)) = some (some (.string ByteArray.empty), 1, 16) by kernel_rfl)
  go_enter Tryz.func51, Tryz.ntmps51
  go_wp2_with (first | (at_make; refine wpList_make_full _ rfl _ _ 22 rfl w.heap.size 9 i0 (.string ByteArray.empty) 1 Tryz.underlying22 hi hz0 hz1 _ _ _ _ l.length rfl rfl rfl rfl (by rw [hz2]; omega) (by unfold maxLen; omega) (Nat.le_refl _) ?_; intro w1 hown hgrow))
  obtain ⟨cur0, hblk, hsz⟩ := made_block hown
  have hb0 : Below w.heap.size w w1 := (Below.refl _ _).grown hgrow (Nat.le_refl _) (by intro k hk; cases hk)
  clear hown hgrow hi hz0 hz1 hz2
  go_loopw [13] (fun i wr => ∃ (k : Nat) (cur : Array Value), k ≤ l.length ∧ i = .int .i64 k ∧ wr.heap[w.heap.size]? = some (.cells cur 9 (0, 0)) ∧ cur.size = l.length ∧ (∀ j (h : j < l.length), j < k → cur[j]? = some (.string (vlT hp l[j]))) ∧ Below w.heap.size w wr) (fun i _ => l.length - (intOf i).toNat)
  case atStart => exact ⟨0, cur0, by omega, rfl, hblk, by omega, fun j _ h => by omega, hb0⟩
  case round =>
    obtain ⟨k, cur, hk, rfl, hblk, hsz, hdone, hbr⟩ := hrel
    by_cases hlt : k < l.length
    · obtain ⟨b, off, rfl, -, c0, c1, c2⟩ := (hm.mono hbr) k hlt
      have hbA : Below wr.heap.size wr (wr.alloc (.cells #[.int .i64 l[k].k, .int .i64 l[k].n, .string l[k].s] 41)) := (Below.refl _ _).alloc (Nat.le_refl _) _
      have hBA := hbr.trans (hbA.mono hbr.size)
      have hblkA := block_kept hblk hbA
      have HC : Hid (∀ w', Below w.heap.size w w' → Calls Tryz.prog 52 #[.agg #[.int .i64 l[k].k, .int .i64 l[k].n, .string l[k].s], .pointer (some ⟨Hb, 0, none⟩)] w' fun e w'' => e = .returned (.string (vlT hp l[k])) ∧ Below w'.heap.size w' w'') := fun w' hb => litV_any l[k] ha hp hc Hb w' (hv _ (List.getElem_mem hlt)) (hh.mono hb) (htab.below hb) (block_kept hH hb)
      have HD : Hid (∀ j (h : j < l.length), j < k → cur[j]? = some (.string (vlT hp l[j]))) := hdone
      obtain ⟨x, hx⟩ : ∃ x, x = vlT hp l[k] := ⟨_, rfl⟩
      rw [← hx] at HC
      have HX : Hid (x = vlT hp l[k]) := hx
      clear hdone hbA hx hbr
      go_wp2_with fail
      refine (HC.out _ hBA).mono ?_
      rintro e w2 ⟨rfl, hb2⟩
      have hblk2 := block_kept hblkA hb2
      have hfz := block_free hblk2
      have hcl : w2.cell? ⟨w.heap.size, k, none⟩ = some cur[k] := by rw [block_cell hblk2]; simp
      have HB : Hid (Below w.heap.size w w2) := hBA.trans (hb2.mono hBA.size)
      clear hb2 hBA hblkA c0 c1 c2 HC
      go_wp2
      go_roundw
      case rel =>
        refine ⟨k + 1, cur.setIfInBounds k (.string x), by omega, by go_num, block_set hblk2 _, by simpa using hsz, ?_, HB.out.setCell (Nat.le_refl _) _⟩
        intro j hj hjk
        by_cases e : j = k
        · subst e
          rw [← HX.out]
          exact set_self _ (by omega)
        · rw [set_else _ (by omega)]
          exact HD.out j hj (by omega)
      case measure => simp [intOf]; omega
    · have hkl : k = l.length := by omega
      have HD : Hid ((∀ j (h : j < l.length), cur[j]? = some (.string (vlT hp l[j]))) ∧ Below w.heap.size w wr) := ⟨fun j h => hdone j h (by omega), hbr⟩
      clear hdone hbr
      go_wp2
      go_ret
      exact ⟨cur, rfl, hblk, hsz, HD.out.1, HD.out.2⟩

set_option maxRecDepth 100000 in
set_option maxHeartbeats 1000000 in
theorem textsOf_any (a : Option Addr) (l : List Vl) (cap : Nat) (ha : Option Addr) (hp : List (List Vl)) (hc : Nat) (w : World) (hn : l.length ≤ 1048576) (hv : ∀ v ∈ l, VOk v) (hm : ValsAt w 0 a l) (hh : HpOk w ha hp) (htab : TabP w) :
    Calls Tryz.prog 28 #[.slice a l.length cap, .slice ha hp.length hc] w fun e w' => ∃ g cur, e = .returned (.slice (some ⟨g, 0, none⟩) l.length l.length) ∧ w'.heap[g]? = some (.cells cur 9 (0, 0)) ∧ w.heap.size ≤ g ∧ cur.size = l.length ∧ (∀ j (h : j < l.length), cur[j]? = some (.string (vlT hp l[j]))) ∧ Below w.heap.size w w' := by
  have hb0 : Below w.heap.size w (w.alloc (.cells #[.slice ha hp.length hc] 40)) := (Below.refl _ _).alloc (Nat.le_refl _) _
  have HC := eachV_any a l cap ha hp hc w.heap.size _ hn hv (hm.mono hb0) (hh.mono hb0) (htab.below hb0) (block_new w #[.slice ha hp.length hc] 40)
  have HCC : Hid (Calls Tryz.prog 51 #[.slice a l.length cap, .func (.func 52) #[] #[.pointer (some ⟨w.heap.size, 0, none⟩)]] (w.alloc (.cells #[.slice ha hp.length hc] 40)) fun e w' => ∃ g cur, e = .returned (.slice (some ⟨g, 0, none⟩) l.length l.length) ∧ w'.heap[g]? = some (.cells cur 9 (0, 0)) ∧ w.heap.size ≤ g ∧ cur.size = l.length ∧ (∀ j (h : j < l.length), cur[j]? = some (.string (vlT hp l[j]))) ∧ Below w.heap.size w w') := by
    refine HC.mono ?_
    rintro e w' ⟨cur, h1, h2, h3, h4, h5⟩
    exact ⟨_, cur, h1, h2, by simp, h3, h4, hb0.trans (h5.mono hb0.size)⟩
  clear HC hb0
  go_enter Tryz.func28, Tryz.ntmps28
  go_wp2_with fail
  refine HCC.out.mono ?_
  rintro e w1 ⟨g, cur, rfl, h2, h3, h4, h5, h6⟩
  have HD : Hid (∀ j (h : j < l.length), cur[j]? = some (.string (vlT hp l[j]))) := h5
  clear h5
  go_wp2
  go_ret
  exact ⟨g, cur, rfl, h2, h3, h4, HD.out, h6⟩
end Go.Proofs.YtfefbgemcakabaaGreatDoor
