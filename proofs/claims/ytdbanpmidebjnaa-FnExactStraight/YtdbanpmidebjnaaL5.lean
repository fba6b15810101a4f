/-
  The document's l08Mark, l08Leaders and l08Heads.
-/
import Derived.Test.YtdbanpmidebjnaaL4
import Derived.Maps.AppendAt
namespace Go.Proofs.Ytdbanpmidebjnaa
open Go.RowKit

theorem infoB : (Try.prog.info? 4).map (fun i => (i.zero, i.size, i.bytes)) = some (some (.bool false), 1, 1) := by kernel_rfl

/-- A row of marks: those at which P holds. -/
def MkP (w : World) (g n : Nat) (P : Nat → Prop) : Prop := ∃ c : Array Value, w.heap[g]? = some (.cells c 4 (0, 0)) ∧ c.size = n ∧ ∀ j, j < n → c[j]? = some (.bool (pB (P j)))
theorem MkP.mono {w w' : World} {g n : Nat} {P : Nat → Prop} (h : MkP w g n P) (hb : Below w.heap.size w w') : MkP w' g n P := by
  obtain ⟨c, h1, h2, h3⟩ := h
  exact ⟨c, block_kept h1 hb, h2, h3⟩
theorem MkP.cell {w : World} {g n j : Nat} {P : Nat → Prop} (h : MkP w g n P) (hj : j < n) : w.cell? ⟨g, j, none⟩ = some (.bool (pB (P j))) := by
  obtain ⟨c, h1, h2, h3⟩ := h
  rw [block_cell h1]; exact h3 j hj
theorem MkP.free {w : World} {g n : Nat} {P : Nat → Prop} (h : MkP w g n P) (j : Nat) : w.frozen? ⟨g, j, none⟩ = false := by
  obtain ⟨c, h1, -⟩ := h
  exact block_free h1 j
theorem MkP.lt {w : World} {g n : Nat} {P : Nat → Prop} (h : MkP w g n P) : g < w.heap.size := by
  obtain ⟨c, h1, -⟩ := h
  exact lt_block h1
theorem MkP.as {w : World} {g n : Nat} {P Q : Nat → Prop} (h : MkP w g n P) (hq : ∀ j, j < n → (P j ↔ Q j)) : MkP w g n Q := by
  obtain ⟨c, h1, h2, h3⟩ := h
  exact ⟨c, h1, h2, fun j hj => by rw [h3 j hj]; simp only [show P j = Q j from propext (hq j hj)]⟩
theorem MkP.set {w : World} {g n i : Nat} {P : Nat → Prop} (h : MkP w g n P) (hi : i < n) : MkP (w.setCell ⟨g, i, none⟩ (.bool true)) g n (fun j => P j ∨ j = i) := by
  obtain ⟨c, h1, h2, h3⟩ := h
  refine ⟨_, block_set h1 _, by simpa using h2, fun j hj => ?_⟩
  by_cases e : j = i
  · subst e
    rw [set_self _ (by omega), pB_yes (.inr rfl)]
  · rw [set_else _ e, h3 j hj]
    simp only [show (P j ∨ j = i) = P j from propext ⟨fun h => h.elim id (fun h => absurd h e), .inl⟩]
theorem MkP.other {w : World} {g n B i : Nat} {P : Nat → Prop} {v : Value} (h : MkP w g n P) (hne : g ≠ B) : MkP (w.setCell ⟨B, i, none⟩ v) g n P := by
  obtain ⟨c, h1, h2, h3⟩ := h
  exact ⟨c, by rw [Below.heap_setCell _ _ _ _ hne]; exact h1, h2, h3⟩

theorem own_dsl {w : World} {B : Nat} {v : Value} {n : Nat} {d : List Int} (h : w.ownsRow B 3 1 v n (d.map (Value.int .i64))) (hn : n = d.length) : DSl w B v d := by
  by_cases h0 : 0 < n
  · obtain ⟨g, cap, hv, hg, hH⟩ := Ht.own h rfl hn h0
    exact .inr ⟨g, cap, by rw [hv, hn], hg, hH⟩
  · have hd : d = [] := List.eq_nil_of_length_eq_zero (by omega)
    rcases h.2 with ⟨hv, -⟩ | ⟨g, cap, cur, hv, -⟩
    · exact .inl ⟨hd, _, _, by rw [hv]⟩
    · exact .inl ⟨hd, _, _, by rw [hv, show n = 0 by omega]⟩

set_option maxRecDepth 100000 in
set_option maxHeartbeats 1000000 in
theorem sMark_any (g n : Nat) (P : Nat → Prop) (w : World) (hn : n ≤ 120) (hM : MkP w g n P) :
    Calls Try.prog 32 #[.slice (some ⟨g, 0, none⟩) n n] w fun e w' => ∃ v, e = .returned v ∧ DSl w' w.heap.size v (lstI P n) ∧ Below w.heap.size w w' := by
  obtain ⟨i0, hi, hz0, hz1, hz2⟩ := info_parts info3
  have hE0 : (w.alloc (.cells #[] 3)).ownsRow w.heap.size 3 1 (.slice (some ⟨w.heap.size, 0, none⟩) 0 0) 0 [] := by
    have := World.ownsRow_made (base := w.heap.size) (e := 3) (size := 1) w #[] 0 (Nat.le_refl _) (by unfold maxLen; omega) rfl
    simpa using this
  go_enter Try.func32, Try.ntmps32
  go_wp2
  go_loopw [3, 4] (fun o i wr => ∃ (k : Nat), k ≤ n ∧ i = .int .i64 k ∧ wr.ownsRow w.heap.size 3 1 o (lstI P k).length ((lstI P k).map (Value.int .i64)) ∧ Below w.heap.size w wr) (fun _ i _ => n - (intOf i).toNat)
  case atStart => exact ⟨0, by omega, rfl, hE0, (Below.refl _ _).alloc (Nat.le_refl _) _⟩
  case round =>
    obtain ⟨k, hk, rfl, hown, hb⟩ := hrel
    clear hE0
    by_cases hlt : k < n
    · have hcl := (hM.mono hb).cell hlt
      have hln := lstI_len P k
      by_cases hp : P k
      · rw [pB_yes hp] at hcl
        have HY : Hid (lstI P (k + 1) = lstI P k ++ [(k : Int)]) := lstI_yes hp
        have hszr := hb.size
        go_wp2_with (first | (at_builtin; refine wpList_append_lies _ rfl _ _ 57 rfl w.heap.size 3 i0 (.int .i64 0) 1 8 Try.underlying57 hi hz0 hz1 hz2 rfl (by decide) _ _ _ rfl (World.ownsRow.alloc hown _) ⟨wr.heap.size, 0, none⟩ 1 1 [.int .i64 (k : Int)] rfl rfl (cell_one_new _ _ _) (by intro u hu; simp at hu; subst hu; rfl) (by decide) (by unfold maxLen; omega) (by omega) (by simp; omega) _ rfl ?_; intro g1 cap w1 hown1 hgrow1 hat1 hlt1))
        have hk1 := Keeps.grown (ts := [3]) (World.ownsRow.alloc hown _) hgrow1 (by simp)
        have hb1 : Below w.heap.size w w1 := (hb.alloc hb.size _).trans (hk1.toBelow (by simp; omega))
        go_roundw
        case rel => exact ⟨k + 1, by omega, by go_num, by rw [HY.out]; simpa using hown1, hb1⟩
        case measure => simp [intOf]; omega
      · rw [pB_no hp] at hcl
        have HY : Hid (lstI P (k + 1) = lstI P k) := lstI_no hp
        go_wp2
        go_roundw
        case rel => exact ⟨k + 1, by omega, by go_num, by rw [HY.out]; exact hown, hb⟩
        case measure => simp [intOf]; omega
    · have hkn : k = n := by omega
      subst hkn
      have hds := own_dsl hown rfl
      obtain ⟨a, cap, rfl, -⟩ := hds.form
      go_wp2
      go_ret
      exact ⟨_, rfl, hds, hb⟩
end Go.Proofs.Ytdbanpmidebjnaa
