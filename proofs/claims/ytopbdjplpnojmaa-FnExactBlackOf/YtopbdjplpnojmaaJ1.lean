/-
  Guesses and plans: what the laws' sizing, copying and comparing functions return of them (a guess has four numbers, as a site has).
-/
import Derived.Test.YtopbdjplpnojmaaY1
namespace Go.Proofs.Ytopbdjplpnojmaa
open Go.RowKit

set_option maxHeartbeats 400000 in
theorem toSpec_any (f p s t : Int) (w : World) :
    Calls Try.prog 84 #[.agg #[.int .i64 f, .int .i64 p, .int .i64 s, .int .i64 t]] w fun e w' => e = .returned (.agg #[.int .i64 f, .int .i64 p, .int .i64 s, .int .i64 t]) ∧ Below w.heap.size w w' := by
  go_enter Try.func84, Try.ntmps84
  go_wp2
  refine bodyPost_ret (v := .agg #[.int .i64 f, .int .i64 p, .int .i64 s, .int .i64 t]) (by simp [results, Try.results84, go_sem]) rfl ⟨rfl, ?_⟩
  exact (((Below.refl _ _).alloc (Nat.le_refl _) _).alloc (by simp) _).alloc (by simp; omega) _

theorem info60 : (Try.prog.info? 60).map (fun i => (i.zero, i.size, i.bytes)) = some (some (.agg #[.int .i64 0, .int .i64 0, .int .i64 0, .int .i64 0]), 4, 32) := by kernel_rfl

set_option maxHeartbeats 400000 in
theorem eqSpec_same (f p s t : Int) (w : World) :
    Calls Try.prog 22 #[.agg #[.int .i64 f, .int .i64 p, .int .i64 s, .int .i64 t], .agg #[.int .i64 f, .int .i64 p, .int .i64 s, .int .i64 t]] w fun e w' => e = .returned (.bool true) ∧ Below w.heap.size w w' := by
  go_enter Try.func22, Try.ntmps22
  go_wp2
  go_ret
  exact ⟨rfl, ((Below.refl _ _).alloc (Nat.le_refl _) _).alloc (by simp) _⟩

theorem SitesAt.above {w w' : World} {lo : Nat} {a : Option Addr} {ss : List Si} (h : SitesAt w lo a ss) (hb : Above lo w w') : SitesAt w' lo a ss := by
  intro i hi
  obtain ⟨b, off, h1, h2, h3, h4, h5, h6⟩ := h i hi
  exact ⟨b, off, h1, h2, by rw [hb.cell h2]; exact h3, by rw [hb.cell h2]; exact h4, by rw [hb.cell h2]; exact h5, by rw [hb.cell h2]; exact h6⟩

end Go.Proofs.Ytopbdjplpnojmaa
