/-
  What bits.TrailingZeros64 returns, where its table is laid.
-/
import Derived.Test.YtenmbdegaldngaaDoorB1
namespace Go.Proofs.YtenmbdegaldngaaDoor
open Go.RowKit

/-- The table lies. -/
def DB (W : World) : Prop := ∀ i, i < 64 → W.cell? ⟨0, i, none⟩ = some (.int .u8 ((dbT[i]?.getD 0 : Nat) : Int))
theorem DB.mono {W W' : World} (h : DB W) (hb : Below W.heap.size W W') : DB W' := fun i hi => cell_later hb (h i hi)

set_option maxRecDepth 100000 in
set_option maxHeartbeats 1000000 in
theorem tz_walk (x y z q k : Nat) (W : World) (hx0 : ((x : Int) == 0) = false) (hn : IntKind.u64.wrap (-(x : Int)) = (y : Int)) (ha : bits .and .u64 (x : Int) (y : Int) = (z : Int))
    (hw : IntKind.u64.wrap ((z : Int) * 285870213051353865) / 288230376151711744 = (q : Int)) (hq : q < 64) (c1 : W.cell? ⟨0, q, none⟩ = some (.int .u8 (k : Int))) (hk : k < 64) :
    Calls Tryd.prog 57 #[.int .u64 (x : Int)] W fun e W' => e = .returned (.int .i64 (k : Int)) ∧ W' = W := by
  go_enter Tryd.func57, Tryd.ntmps57
  go_wp2
  go_ret
  exact ⟨rfl, rfl⟩

theorem form_lt {k m : Nat} (h : 2 ^ (k + 1) * m + 2 ^ k < 2 ^ 64) : k < 64 := by
  by_cases hk : k < 64
  · exact hk
  · have := Nat.pow_le_pow_right (n := 2) (by decide) (show 64 ≤ k by omega)
    omega
theorem wrap_neg {x : Nat} (h0 : x ≠ 0) (h : x < 18446744073709551616) : IntKind.u64.wrap (-(x : Int)) = ((18446744073709551616 - x : Nat) : Int) := by
  rw [IntKind.wrap_u64]; omega
theorem wrap_db (z : Nat) : IntKind.u64.wrap ((z : Int) * 285870213051353865) / 288230376151711744 = (((z * 285870213051353865 % 18446744073709551616) / 288230376151711744 : Nat) : Int) := by
  rw [IntKind.wrap_u64]; omega
theorem dbI_eq (k : Nat) : (2 ^ k * 285870213051353865 % 18446744073709551616) / 288230376151711744 = dbI k := rfl
theorem sub_lt {x : Nat} (h0 : x ≠ 0) (h : x < 18446744073709551616) : 18446744073709551616 - x < 18446744073709551616 := by omega

theorem tz_any (x k m : Nat) (W : World) (hx : x = 2 ^ (k + 1) * m + 2 ^ k) (hlt : x < 2 ^ 64) (hD : DB W) :
    Calls Tryd.prog 57 #[.int .u64 (x : Int)] W fun e W' => e = .returned (.int .i64 (k : Int)) ∧ W' = W := by
  have hk : k < 64 := form_lt (m := m) (by rw [← hx]; exact hlt)
  have hx0 : x ≠ 0 := by
    have := Nat.two_pow_pos k
    omega
  have hx1 : ¬ (x : Int) = 0 := by omega
  have hlt' : x < 18446744073709551616 := hlt
  refine tz_walk x (18446744073709551616 - x) (2 ^ k) (dbI k) k W (by simpa using hx1) (wrap_neg hx0 hlt') ?_ (by rw [wrap_db, dbI_eq]) (dbI_lt k) (by rw [hD _ (dbI_lt k), dbT_at k hk]; rfl) hk
  rw [bits_and hlt (sub_lt hx0 hlt')]
  have := keep_low (k := k) (m := m) (by rw [← hx]; exact hlt)
  rw [← hx] at this
  exact congrArg _ this
end Go.Proofs.YtenmbdegaldngaaDoor
