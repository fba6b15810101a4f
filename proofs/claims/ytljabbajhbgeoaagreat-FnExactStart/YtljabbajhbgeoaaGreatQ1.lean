/-
  Lists of values: impl.allIn and spec.l05Values tell whether all are ok.
-/
import Derived.Test.YtljabbajhbgeoaaGreatX6
import Derived.Test.YtljabbajhbgeoaaGreatM0
import Derived.Deep.RegionHeld3
namespace Go.Proofs.YtljabbajhbgeoaaGreat
open Go.RowKit

def okB (nf : Nat) (r : Int) (v : Vl) : Bool := valB v.k v.n v.s nf r
def valsB (vs : List Vl) (nf : Nat) (r : Int) : Bool := vs.all (okB nf r)

set_option maxRecDepth 100000 in
set_option maxHeartbeats 1000000 in
theorem lit_any (k n : Int) (s : ByteArray) (r : Int) (a1 a2 : Option Addr) (nt c1 nf c2 Mb Rb : Nat) (w : World) (hM : w.heap[Mb]? = some (.cells #[.slice a1 nt c1, .slice a2 nf c2] 39 (0, 0))) (hR : w.heap[Rb]? = some (.cells #[.int .i64 r] 3 (0, 0))) (hsz : s.size ≤ 1048576) :
    Calls Tryz.prog 50 #[.agg #[.int .i64 k, .int .i64 n, .string s], .pointer (some ⟨Mb, 0, none⟩), .pointer (some ⟨Rb, 0, none⟩)] w fun e w' => e = .returned (.bool (!valB k n s nf r)) ∧ Below w.heap.size w w' := by
  have hbA : Below w.heap.size w (w.alloc (.cells #[.int .i64 k, .int .i64 n, .string s] 32)) := (Below.refl _ _).alloc (Nat.le_refl _) _
  have x1 := block_cell (block_old hM (.cells #[.int .i64 k, .int .i64 n, .string s] 32))
  have x2 := block_cell (block_old hR (.cells #[.int .i64 k, .int .i64 n, .string s] 32))
  go_enter Tryz.func50, Tryz.ntmps50
  go_wp2_with fail
  refine (iIn_any _ _ _ _ _ _ _ _ _ _ _ hsz).mono ?_
  rintro e w1 ⟨rfl, hb⟩
  clear x1 x2
  go_wp2
  go_ret
  exact ⟨rfl, hbA.trans (hb.mono hbA.size)⟩

/-- What IndexFunc is to answer: a number that is at least 0 just where not all are ok. -/
def IxPost (b : Bool) (e : Ending) : Prop := ∃ i : Int, e = .returned (.int .i64 i) ∧ (0 ≤ i ↔ b = false)

set_option maxRecDepth 100000 in
set_option maxHeartbeats 1000000 in
theorem firstBad_any (a : Option Addr) (vs : List Vl) (cap : Nat) (r : Int) (a1 a2 : Option Addr) (nt c1 nf c2 Mb Rb : Nat) (w : World) (hM : w.heap[Mb]? = some (.cells #[.slice a1 nt c1, .slice a2 nf c2] 39 (0, 0))) (hR : w.heap[Rb]? = some (.cells #[.int .i64 r] 3 (0, 0))) (hs : ValsSmall vs) (hm : ValsAt w 0 a vs) :
    Calls Tryz.prog 68 #[.slice a vs.length cap, .func (.func 50) #[] #[.pointer (some ⟨Mb, 0, none⟩), .pointer (some ⟨Rb, 0, none⟩)]] w fun e w' => IxPost (valsB vs nf r) e ∧ Below w.heap.size w w' := by
  obtain ⟨hn, hc⟩ := hs
  go_enter Tryz.func68, Tryz.ntmps68
  go_wp2
  go_loopw [8] (fun i wr => ∃ (k : Nat), k ≤ vs.length ∧ i = .int .i64 k ∧ Hid ((vs.take k).all (okB nf r) = true) ∧ Below w.heap.size w wr) (fun i _ => vs.length - (intOf i).toNat)
  case atStart => exact ⟨0, by omega, rfl, rfl, Below.refl _ _⟩
  case round =>
    obtain ⟨k, hk, rfl, hall, hb⟩ := hrel
    by_cases hlt : k < vs.length
    · obtain ⟨b, off, rfl, -, d1, d2, d3⟩ := hm k hlt
      have d1' := cell_later hb d1
      have d2' := cell_later hb d2
      have d3' := cell_later hb d3
      clear d1 d2 d3
      have hck := hc vs[k] (List.getElem_mem hlt)
      have hMk := block_kept hM hb
      have hRk := block_kept hR hb
      go_wp2_with fail
      refine (lit_any _ _ _ r a1 a2 nt c1 nf c2 Mb Rb _ hMk hRk hck).mono ?_
      rintro e w1 ⟨rfl, hb1⟩
      have hB := hb.trans (hb1.mono hb.size)
      clear d1' d2' d3' hMk hRk hb1
      by_cases ho : valB vs[k].k vs[k].n vs[k].s nf r = true
      · have HO : Hid (valB vs[k].k vs[k].n vs[k].s nf r = true) := ho
        go_wp2
        go_roundw
        case rel => exact ⟨k + 1, by omega, by go_num, all_take hlt hall.out HO.out, hB⟩
        case measure => simp [intOf]; omega
      · have ho' : valB vs[k].k vs[k].n vs[k].s nf r = false := by simpa using ho
        have HO : Hid (valB vs[k].k vs[k].n vs[k].s nf r = false) := ho'
        clear ho
        go_wp2
        go_ret
        exact ⟨⟨(k : Int), rfl, by rw [show valsB vs nf r = false from all_no hlt HO.out]; simp⟩, hB⟩
    · go_wp2
      go_ret
      exact ⟨⟨-1, rfl, by rw [show valsB vs nf r = true from all_end (by omega) hall.out]; simp⟩, hb⟩

set_option maxRecDepth 100000 in
set_option maxHeartbeats 1000000 in
theorem hasBad_any (a : Option Addr) (vs : List Vl) (cap : Nat) (r : Int) (a1 a2 : Option Addr) (nt c1 nf c2 Mb Rb : Nat) (w : World) (hM : w.heap[Mb]? = some (.cells #[.slice a1 nt c1, .slice a2 nf c2] 39 (0, 0))) (hR : w.heap[Rb]? = some (.cells #[.int .i64 r] 3 (0, 0))) (hs : ValsSmall vs) (hm : ValsAt w 0 a vs) :
    Calls Tryz.prog 49 #[.slice a vs.length cap, .func (.func 50) #[] #[.pointer (some ⟨Mb, 0, none⟩), .pointer (some ⟨Rb, 0, none⟩)]] w fun e w' => e = .returned (.bool (!valsB vs nf r)) ∧ Below w.heap.size w w' := by
  go_enter Tryz.func49, Tryz.ntmps49
  go_wp2_with fail
  refine (firstBad_any a vs cap r a1 a2 nt c1 nf c2 Mb Rb _ hM hR hs hm).mono ?_
  rintro e w1 ⟨⟨i, rfl, hi⟩, hb⟩
  have HI : Hid (0 ≤ i ↔ valsB vs nf r = false) := hi
  clear hi
  go_wp2
  go_ret
  exact ⟨ret_bool (by rw [Bool.eq_iff_iff]; simpa using HI.out), hb⟩

set_option maxRecDepth 100000 in
set_option maxHeartbeats 1000000 in
theorem allIn_any (a : Option Addr) (vs : List Vl) (cap : Nat) (r : Int) (a1 a2 : Option Addr) (nt c1 nf c2 : Nat) (w : World) (hs : ValsSmall vs) (hm : ValsAt w 0 a vs) :
    Calls Tryz.prog 26 #[.agg #[.slice a1 nt c1, .slice a2 nf c2], .slice a vs.length cap, .int .i64 r] w fun e w' => e = .returned (.bool (valsB vs nf r)) ∧ Below w.heap.size w w' := by
  have hmf : ∀ (fn : Go.Fn) (first cap : Array Value) (w : World), (Instr.makeFunc fn first cap).run Tryz.prog w = .ok (.func fn first cap) w := fun _ _ _ _ => rfl
  have hbA : Below w.heap.size w ((w.alloc (.cells #[.slice a1 nt c1, .slice a2 nf c2] 39)).alloc (.cells #[.int .i64 r] 3)) := ((Below.refl _ _).alloc (Nat.le_refl _) _).alloc (by simp) _
  have hM := block_old (block_new w #[.slice a1 nt c1, .slice a2 nf c2] 39) (.cells #[.int .i64 r] 3)
  have hR := block_new (w.alloc (.cells #[.slice a1 nt c1, .slice a2 nf c2] 39)) #[.int .i64 r] 3
  simp only [World.size_alloc] at hR
  go_enter Tryz.func26, Tryz.ntmps26
  go_wp2_with fail
  refine (hasBad_any a vs cap r a1 a2 nt c1 nf c2 _ _ _ hM hR hs (hm.mono hbA)).mono ?_
  rintro e w1 ⟨rfl, hb⟩
  go_wp2
  go_ret
  exact ⟨ret_bool (by simp), hbA.trans (hb.mono hbA.size)⟩

end Go.Proofs.YtljabbajhbgeoaaGreat
