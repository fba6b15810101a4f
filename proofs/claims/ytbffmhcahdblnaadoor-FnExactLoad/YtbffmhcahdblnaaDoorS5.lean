/-
  What the laws' functions over bytes (eqByteS, markByteS, heldByteS) and markText return.
-/
import Derived.Test.YtbffmhcahdblnaaDoorW1
import Derived.Test.YtbffmhcahdblnaaDoorMem3
namespace Go.Proofs.YtbffmhcahdblnaaDoor
open Go.RowKit

set_option maxHeartbeats 400000 in
theorem eqByteS_any (a a2 : Option Addr) (bs : List Int) (cap cap2 : Nat) (w : World) (hn : bs.length ≤ 1048576) (hm : BytesAt w 0 a bs) (hm2 : BytesAt w 0 a2 bs) :
    Calls Tryd.prog 17 #[.slice a bs.length cap, .slice a2 bs.length cap2] w fun e w' => e = .returned (.bool true) ∧ Below w.heap.size w w' := by
  go_enter Tryd.func17, Tryd.ntmps17
  go_wp2
  go_loopw [5] (fun i wr => ∃ (k : Nat), k ≤ bs.length ∧ i = .int .i64 k ∧ Below w.heap.size w wr) (fun i _ => bs.length - (intOf i).toNat)
  case atStart => exact ⟨0, by omega, rfl, Below.refl _ _⟩
  case round =>
    obtain ⟨k, hk, rfl, hb⟩ := hrel
    by_cases hlt : k < bs.length
    · obtain ⟨b, off, rfl, -, c1⟩ := hm k hlt
      obtain ⟨b2, off2, rfl, -, c2⟩ := hm2 k hlt
      have c1' := cell_later hb c1
      have c2' := cell_later hb c2
      clear c1 c2
      go_wp2
      go_quiet (fail)
      go_wp2
      go_roundw
      case rel => exact ⟨k + 1, by omega, by go_num, below_draws hb _⟩
      case measure => simp [intOf]; omega
    · go_wp2
      go_ret
      exact ⟨rfl, hb⟩

/-- The marks of n bytes, from k on. -/
def marks (k : Int) (n : Nat) : List Int := (List.range n).map fun (i : Nat) => (k + (i : Int)) % 256
theorem marks_len (k : Int) (n : Nat) : (marks k n).length = n := by simp [marks]
theorem marks_at (k : Int) (n i : Nat) (h : i < (marks k n).length) : (marks k n)[i] = (k + i) % 256 := by simp [marks]

set_option maxHeartbeats 400000 in
theorem markText_any (k0 : Int) (w : World) (h0 : 0 ≤ k0) (h1 : k0 ≤ 1000000000000000) :
    Calls Tryd.prog 59 #[.int .i64 k0] w fun e w' => ∃ s : ByteArray, e = .returned (.string s) ∧ Below w.heap.size w w' := by
  by_cases hz : k0 ≤ 0
  · go_enter Tryd.func59, Tryd.ntmps59
    go_wp2
    go_ret
    exact ⟨_, rfl, Below.refl _ _⟩
  · go_enter Tryd.func59, Tryd.ntmps59
    go_wp2
    go_loopw [0, 3] (fun q o wr => ∃ (x : Nat) (s : ByteArray), q = .int .i64 x ∧ o = .string s ∧ s.size + x ≤ k0 ∧ Below w.heap.size w wr) (fun q _ _ => (intOf q).toNat)
    case atStart => exact ⟨k0.toNat, ByteArray.empty, by go_num, rfl, by simp; omega, Below.refl _ _⟩
    case round =>
      obtain ⟨x, s, rfl, rfl, hsz, hb⟩ := hrel
      by_cases hx : 0 < x
      · have hx' : (0 : Int) < (x : Int) := by omega
        have hcv := run_convert_bytes_arg (P := Tryd.prog) (wr.alloc (.cells #[.int .u8 (48 + (x : Int) % 10)] 5)) 22 5 Tryd.underlying22 Tryd.underlying5 wr.heap.size 0 1 1 [48 + (x : Int) % 10] rfl
          (fun i hi => by have : i = 0 := by omega
                          subst this
                          rw [cell_new]; rfl) 9 Tryd.underlying9
        have hsn : (strOfNums [48 + (x : Int) % 10]).size ≤ 1 := by simp [strOfNums, ByteArray.size]
        generalize strOfNums [48 + (x : Int) % 10] = t at *
        go_wp2
        go_roundw
        case rel => exact ⟨x / 10, t ++ s, by go_num, rfl, by rw [ByteArray.size_append]; omega, hb.alloc hb.size _⟩
        case measure => simp [intOf]; omega
      · have hx' : (x : Int) ≤ 0 := by omega
        go_wp2
        go_ret
        exact ⟨_, rfl, hb⟩

set_option maxHeartbeats 400000 in
theorem markByteS_any (B : Nat) (a : Option Addr) (bs : List Int) (cap : Nat) (k0 : Int) (w : World) (hn : bs.length ≤ 1048576) (h0 : 0 ≤ k0) (h1 : k0 ≤ 1000) (hown : Buf w B (.slice a bs.length cap) bs) :
    Calls Tryd.prog 18 #[.slice a bs.length cap, .int .i64 k0] w fun e w' => e = .returned (.int .i64 (k0 + bs.length)) ∧ Buf w' B (.slice a bs.length cap) (marks k0 bs.length) ∧ Keeps B [5] w w' := by
  rcases hown.2 with ⟨hv, hnil⟩ | ⟨g, cp, cur0, hv, hgB, hblk0, hcap, hcm, hsz0, -⟩
  · have hb0 : bs = [] := List.eq_nil_of_length_eq_zero hnil
    subst hb0
    go_enter Tryd.func18, Tryd.ntmps18
    go_wp2
    go_loopw [1, 5] (fun q i wr => q = .int .i64 k0 ∧ i = .int .i64 0 ∧ wr = w) (fun _ i _ => (intOf i).toNat)
    case atStart => exact ⟨rfl, rfl, rfl⟩
    case round =>
      obtain ⟨rfl, rfl, rfl⟩ := hrel
      go_wp2
      go_ret
      exact ⟨ret_int (by simp), by simpa [marks] using hown, Keeps.refl _ _ _⟩
  · cases hv
    go_enter Tryd.func18, Tryd.ntmps18
    go_wp2
    go_loopw [1, 5] (fun q i wr => ∃ (k : Nat) (cur : Array Value), k ≤ bs.length ∧ i = .int .i64 k ∧ q = .int .i64 (k0 + k) ∧ wr.heap[g]? = some (.cells cur 5 (0, 0)) ∧ cur.size = cap * 1 ∧ (∀ j, j < k → cur[j]? = some (.int .u8 ((k0 + j) % 256))) ∧ Keeps B [5] w wr) (fun _ i _ => bs.length - (intOf i).toNat)
    case atStart => exact ⟨0, cur0, by omega, rfl, by go_num, hblk0, hsz0, fun j h => by omega, Keeps.refl _ _ _⟩
    case round =>
      obtain ⟨k, cur, hk, rfl, rfl, hblk, hsz, hdone, hkr⟩ := hrel
      by_cases hlt : k < bs.length
      · have hfz := block_free hblk k
        have hcl : wr.cell? ⟨g, k, none⟩ = some cur[k] := by rw [block_cell hblk k]; simp
        go_wp2
        go_roundw
        case rel =>
          refine ⟨k + 1, cur.setIfInBounds k (.int .u8 ((k0 + k) % 256)), by omega, by go_num, by go_num, block_set hblk _, by simpa using hsz, fun j hj => ?_, Keeps.set hkr hblk (by simp) hgB _ _⟩
          by_cases e : j = k
          · subst e; exact set_self _ (by omega)
          · rw [set_else _ e]; exact hdone j (by omega)
        case measure => simp [intOf]; omega
      · go_wp2
        go_ret
        refine ⟨ret_int (by omega), ⟨by simp [marks], .inr ⟨g, cap, cur, by simp [marks], hgB, hblk, by simpa [marks] using hcap, hcm, hsz, ?_⟩⟩, hkr⟩
        apply List.ext_getElem?
        intro j
        by_cases hj : j < bs.length
        · rw [List.getElem?_take_of_lt (by simpa [marks] using hj), Array.getElem?_toList, hdone j (by omega)]
          simp [marks, hj]
        · rw [List.getElem?_eq_none (by simp [marks]; omega), List.getElem?_eq_none (by simp [marks]; omega)]
end Go.Proofs.YtbffmhcahdblnaaDoor
