/-
  What the size functions of the laws return of lists of values, frames, records, and of states.
  What szVm returns.
-/
import Derived.Test.YtljabbajhbgeoaaGreatM0
import Derived.Test.YtljabbajhbgeoaaGreatX1
namespace Go.Proofs.YtljabbajhbgeoaaGreat
open Go.RowKit

set_option maxHeartbeats 400000 in
theorem szValueS_any (a : Option Addr) (vs : List Vl) (cap : Nat) (left : Int) (w : World) (h0 : 0 ≤ left) (h1 : left ≤ 1048576) (hx : ValsMax vs) (hm : ValsAt w 0 a vs) :
    Calls Tryz.prog 5 #[.slice a vs.length cap, .int .i64 left] w fun e w' => ∃ r : Int, e = .returned (.int .i64 r) ∧ r ≤ left ∧ (0 ≤ r → ValsSmall vs) ∧ Below w.heap.size w w' := by
  obtain ⟨hn, hc⟩ := hx
  have hn' := hn
  unfold maxLen at hn
  by_cases h : left < vs.length
  · go_enter Tryz.func5, Tryz.ntmps5
    go_wp2
    go_ret
    exact ⟨-1, rfl, by omega, by omega, Below.refl _ _⟩
  · go_enter Tryz.func5, Tryz.ntmps5
    go_wp2
    go_loopw [1, 5] (fun l i wr => ∃ (k : Nat) (q : Int), k ≤ vs.length ∧ i = .int .i64 k ∧ l = .int .i64 q ∧ 0 ≤ q ∧ q ≤ left - vs.length ∧ (∀ f ∈ vs.take k, f.s.size ≤ 1048576) ∧ Below w.heap.size w wr) (fun _ i _ => vs.length - (intOf i).toNat)
    case atStart => exact ⟨0, _, by omega, rfl, rfl, by omega, by omega, by simp, Below.refl _ _⟩
    case round =>
      obtain ⟨k, q, hk, rfl, rfl, hq0, hq1, hall, hb⟩ := hrel
      by_cases hlt : k < vs.length
      · obtain ⟨b, off, rfl, -, c1, c2, c3⟩ := hm k hlt
        have c1' := cell_later hb c1
        have c2' := cell_later hb c2
        have c3' := cell_later hb c3
        clear c1 c2 c3
        have hck := hc vs[k] (List.getElem_mem hlt)
        by_cases hs : q < vs[k].s.size
        · go_wp2_with (go_at_call 19; refine (szVal_any _ _ _ _ _ hq0 (by omega) hck).mono ?_; rintro e w' ⟨rfl, hb'⟩)
          go_ret
          exact ⟨_, rfl, by omega, by omega, hb.trans (hb'.mono hb.size)⟩
        · go_wp2_with (go_at_call 19; refine (szVal_any _ _ _ _ _ hq0 (by omega) hck).mono ?_; rintro e w' ⟨rfl, hb'⟩)
          go_roundw
          case rel => exact ⟨k + 1, q - vs[k].s.size, by omega, by go_num, by rw [if_neg (by omega)], by omega, by omega, take_succ_mem hlt hall (by omega), hb.trans (hb'.mono hb.size)⟩
          case measure => simp [intOf]; omega
      · go_wp2
        go_ret
        exact ⟨q, rfl, by omega, fun _ => ⟨by omega, by rwa [List.take_of_length_le (by omega)] at hall⟩, hb⟩

end Go.Proofs.YtljabbajhbgeoaaGreat
namespace Go.Proofs.YtljabbajhbgeoaaGreat
open Go.RowKit

end Go.Proofs.YtljabbajhbgeoaaGreat
