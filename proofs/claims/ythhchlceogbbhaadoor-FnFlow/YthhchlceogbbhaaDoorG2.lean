/-
  What bits.TrailingZeros64 returns, where its table is laid.
  What the table of math/bits holds when a law begins.
  What the size functions of the laws (sz..) and spec.l01Between return, for every argument within the stated sizes.
-/
import Derived.Test.YthhchlceogbbhaaDoorG1
import Derived.Test.YthhchlceogbbhaaDoorRows
import Derived.Lib.LaidTab
import Derived.MakeChecks
import Derived.Stop.LaidErr
import Derived.Test.YthhchlceogbbhaaDoorProg
import Derived.Test.YthhchlceogbbhaaDoorMem
import Derived.WalkKit
import Derived.WalkSpells
import Derived.WalkLawsBesides
import Derived.Deep.QuietTactic
import Derived.BigQuiet
import Derived.Deep.RegionWith
namespace Go.Proofs.YthhchlceogbbhaaDoor
open Go.RowKit

/-- The table lies. -/
def DB (W : World) : Prop := ∀ i, i < 64 → W.cell? ⟨0, i, none⟩ = some (.int .u8 ((dbT[i]?.getD 0 : Nat) : Int))
theorem DB.mono {W W' : World} (h : DB W) (hb : Below W.heap.size W W') : DB W' := fun i hi => cell_later hb (h i hi)

set_option maxRecDepth 100000 in
set_option maxHeartbeats 1000000 in
theorem tz_walk (x y z q k : Nat) (W : World) (hx0 : ((x : Int) == 0) = false) (hn : IntKind.u64.wrap (-(x : Int)) = (y : Int)) (ha : bits .and .u64 (x : Int) (y : Int) = (z : Int))
    (hw : IntKind.u64.wrap ((z : Int) * 285870213051353865) / 288230376151711744 = (q : Int)) (hq : q < 64) (c1 : W.cell? ⟨0, q, none⟩ = some (.int .u8 (k : Int))) (hk : k < 64) :
    Calls Tryd.prog 52 #[.int .u64 (x : Int)] W fun e W' => e = .returned (.int .i64 (k : Int)) ∧ W' = W := by
  go_enter Tryd.func52, Tryd.ntmps52
  go_wp2
  go_ret
  exact ⟨rfl, rfl⟩

theorem form_lt {k m : Nat} (h : 2 ^ (k + 1) * m + 2 ^ k < 2 ^ 64) : k < 64 := by
  by_cases hk : k < 64
  · exact hk
  · have := Nat.pow_le_pow_right (n := 2) (by decide) (show 64 ≤ k by omega)
    omega
theorem wrap_neg {x : Nat} (h0 : x ≠ 0) (h : x < 18446744073709551616) : IntKind.u64.wrap (-(x : Int)) = ((18446744073709551616 - x : Nat) : Int) := by
  rw [IntKind.wrap_u64]; omega
theorem wrap_db (z : Nat) : IntKind.u64.wrap ((z : Int) * 285870213051353865) / 288230376151711744 = (((z * 285870213051353865 % 18446744073709551616) / 288230376151711744 : Nat) : Int) := by
  rw [IntKind.wrap_u64]; omega
theorem dbI_eq (k : Nat) : (2 ^ k * 285870213051353865 % 18446744073709551616) / 288230376151711744 = dbI k := rfl
theorem sub_lt {x : Nat} (h0 : x ≠ 0) (h : x < 18446744073709551616) : 18446744073709551616 - x < 18446744073709551616 := by omega

theorem tz_any (x k m : Nat) (W : World) (hx : x = 2 ^ (k + 1) * m + 2 ^ k) (hlt : x < 2 ^ 64) (hD : DB W) :
    Calls Tryd.prog 52 #[.int .u64 (x : Int)] W fun e W' => e = .returned (.int .i64 (k : Int)) ∧ W' = W := by
  have hk : k < 64 := form_lt (m := m) (by rw [← hx]; exact hlt)
  have hx0 : x ≠ 0 := by
    have := Nat.two_pow_pos k
    omega
  have hx1 : ¬ (x : Int) = 0 := by omega
  have hlt' : x < 18446744073709551616 := hlt
  refine tz_walk x (18446744073709551616 - x) (2 ^ k) (dbI k) k W (by simpa using hx1) (wrap_neg hx0 hlt') ?_ (by rw [wrap_db, dbI_eq]) (dbI_lt k) (by rw [hD _ (dbI_lt k), dbT_at k hk]; rfl) hk
  rw [bits_and hlt (sub_lt hx0 hlt')]
  have := keep_low (k := k) (m := m) (by rw [← hx]; exact hlt)
  rw [← hx] at this
  exact congrArg _ this
end Go.Proofs.YthhchlceogbbhaaDoor

namespace Go.Proofs.YthhchlceogbbhaaDoor
open Go.RowKit

theorem gTab : Tryd.prog.globalNamed "math/bits.deBruijn64tab" = some 0 := by kernel_rfl
def dbZ : List Int := dbT.map fun (k : Nat) => (k : Int)
theorem eTab : (Rows.laid_math_bits_deBruijn64tab : DataW Unit) = Lib.tabData .u8 dbZ := by kernel_rfl
theorem dbZ_at (i : Nat) : dbZ.getD i 0 = ((dbT[i]?.getD 0 : Nat) : Int) := by
  unfold dbZ
  rw [List.getD_eq_getElem?_getD, List.getElem?_map]
  cases dbT[i]? <;> rfl
theorem of_laid {L : List (String × DataW Unit)} {W : World} (hL : L = [("math/bits.deBruijn64tab", Rows.laid_math_bits_deBruijn64tab)]) (h : laidMetH Tryd.prog L W) : DB W := by
  subst hL
  rw [MakeChecks.laidMetH_plain _ _ _ (by kernel_rfl)] at h
  rw [eTab] at h
  have ht := Lib.tabIs_of_head gTab (t := 94) (e := 5) (by kernel_rfl) Tryd.underlying94 Tryd.underlying5 (by kernel_rfl) (by kernel_rfl) h
  intro i hi
  have := ht.cell gTab i hi
  rw [this, dbZ_at]
end Go.Proofs.YthhchlceogbbhaaDoor

namespace Go.Proofs.YthhchlceogbbhaaDoor
open Go.RowKit

theorem below_draws {B : Nat} {a w : World} (h : Below B a w) (n : Nat) : Below B a (w.drewN n) := h.trans ⟨rfl, rfl, rfl, Nat.le_refl _, fun _ _ => rfl⟩

set_option maxHeartbeats 400000 in
theorem between_any (n lo hi : Int) (w : World) :
    Calls Tryd.prog 37 #[.int .i64 n, .int .i64 lo, .int .i64 hi] w fun e w' => e = .returned (.bool (decide (lo ≤ n) && decide (n ≤ hi))) ∧ w' = w := by
  by_cases h1 : lo ≤ n
  · by_cases h2 : n ≤ hi
    all_goals
      go_enter Tryd.func37, Tryd.ntmps37
      go_wp2
      go_ret
      exact ⟨ret_bool (by rw [Bool.eq_iff_iff]; simp; omega), rfl⟩
  · go_enter Tryd.func37, Tryd.ntmps37
    go_wp2
    go_ret
    exact ⟨ret_bool (by rw [Bool.eq_iff_iff]; simp; omega), rfl⟩

theorem take_succ_mem {α : Type} {l : List α} {k : Nat} (h : k < l.length) {p : α → Prop} (h1 : ∀ x ∈ l.take k, p x) (h2 : p l[k]) : ∀ x ∈ l.take (k + 1), p x := by
  intro x hx
  rw [List.take_succ_eq_append_getElem h] at hx
  rcases List.mem_append.1 hx with hx | hx
  · exact h1 x hx
  · rw [List.mem_singleton.1 hx]; exact h2

end Go.Proofs.YthhchlceogbbhaaDoor
