/-
  The program's line reader: what takeText does.
-/
import Derived.Test.YtpmkfdinkomaiaaGreatDoorR5
import Derived.Test.YtpmkfdinkomaiaaGreatDoorOwn
import Derived.Deep.RegionLaw
import Derived.Deep.CutRange
namespace Go.Proofs.YtpmkfdinkomaiaaGreatDoor
open Go.RowKit

/-- The reader in block R: the map, the texts and the functions so far. -/
def LineAt (w : World) (R : Nat) (mv : Value) (a1 : Option Addr) (n1 c1 : Nat) (a2 : Option Addr) (n2 c2 : Nat) : Prop := w.heap[R]? = some (Obj.cells #[mv, .slice a1 n1 c1, .slice a2 n2 c2] 60 (0, 0))
def TextPost (R base : Nat) (mv : Value) (a2 : Option Addr) (c2 : Nat) (ts : List ByteArray) (fs : List Fn) (cs : List (Option Addr × Nat)) (rest : ByteArray) (w : World) (e : Ending) (w' : World) : Prop :=
  (Lib.hasSuffix rest.data.toList [34] = true ∧ e = .returned (.bool true) ∧ ∃ a1 c1, LineAt w' R mv a1 (ts.length + 1) c1 a2 fs.length c2 ∧ ModOwn w' base a1 c1 a2 c2 (ts ++ [⟨(Lib.trimSuffix rest.data.toList [34]).toArray⟩]) fs cs ∧ Below R w w') ∨
  (Lib.hasSuffix rest.data.toList [34] = false ∧ e = .returned (.bool false) ∧ w' = w)

set_option maxRecDepth 100000 in
set_option maxHeartbeats 4000000 in
theorem takeText_any (R base : Nat) (mv : Value) (a1 a2 : Option Addr) (c1 c2 : Nat) (ts : List ByteArray) (fs : List Fn) (cs : List (Option Addr × Nat)) (rest : ByteArray) (w : World)
    (hR : LineAt w R mv a1 ts.length c1 a2 fs.length c2) (hm : ModOwn w base a1 c1 a2 c2 ts fs cs) (hRb : R < base) (hbw : base ≤ w.heap.size) (hts : ts.length ≤ 1048576) (hrs : rest.size ≤ 1048576) :
    Calls Tryz.prog 44 #[.pointer (some ⟨R, 0, none⟩), .string rest] w (TextPost R base mv a2 c2 ts fs cs rest w) := by
  obtain ⟨i0, hi, hz0, hz1, hz2⟩ := info_parts info9c
  cases hsf : Lib.hasSuffix rest.data.toList [34]
  · go_enter Tryz.func44, Tryz.ntmps44
    go_wp2_with (go_at_call 59; refine (Tryz.strings_CutSuffix rest ⟨#[34]⟩ _ (by omega)).mono ?_; rintro e w1 ⟨rfl, rfl⟩)
    go_ret
    exact Or.inr ⟨hsf, rfl, rfl⟩
  · have htz : (⟨(Lib.trimSuffix rest.data.toList [34]).toArray⟩ : ByteArray).size ≤ 1048576 := by
      have h1 : rest.data.toList.length ≤ 1048576 := by rw [Array.length_toList]; exact hrs
      have h2 : (Lib.trimSuffix rest.data.toList [34]).length ≤ rest.data.toList.length := by
        unfold Lib.trimSuffix
        rw [if_pos hsf, List.length_take]
        omega
      simp [ByteArray.size]
      simp at h2 h1
      omega
    have rc := block_cell hR
    have rf := block_free hR
    unfold TextPost
    generalize hx : (⟨(Lib.trimSuffix rest.data.toList [34]).toArray⟩ : ByteArray) = x at *
    go_enter Tryz.func44, Tryz.ntmps44
    go_wp2_with (go_at_call 59; refine (Tryz.strings_CutSuffix rest ⟨#[34]⟩ _ (by omega)).mono ?_; rintro e w1 ⟨rfl, rfl⟩)
    have hbd : Below w1.heap.size w1 w1.drew := (Below.refl _ _).drew
    have hRd : w1.drew.heap[R]? = some (Obj.cells #[mv, .slice a1 ts.length c1, .slice a2 fs.length c2] 60 (0, 0)) := hR
    have hmd : ModOwn w1.drew base a1 c1 a2 c2 ts fs cs := hm.below hbd
    have rcd := block_cell hRd
    have hzd : base ≤ w1.drew.heap.size := hbw
    go_region_law (first
      | (refine step_append_lies _ (by rfl) _ _ _ (by rfl) base 9 i0 (.string ByteArray.empty) 1 16 Tryz.underlying24 hi hz0 hz1 hz2 rfl (by decide) _ _ _ (by rfl) (World.ownsRow.alloc hm2.texts _) ⟨w2.heap.size, 0, none⟩ 1 1 [.string x] (by rfl) (by rfl) (World.news_of_block (cs := #[.string x]) (t := 9) (fr := (0, 0)) (heap_alloc_new w2 _)) (by simp [Value.oneCell']) (by decide) (by unfold maxLen; omega) (by omega) (by simp; omega) (w2.heap.size + 1) (by simp) ?_; intro g cp w4 hown4 hgrow4 hat4 hlt4; have hR4 := grown_kept (World.ownsRow.alloc hm2.texts _) hRb (block_old hR2 _) hgrow4; have rc4 := block_cell hR4; have rf4 := block_free hR4)
      | (go_simp; go_at_call 60; refine (clone_any x _ htz).mono ?_; rintro e w2 ⟨rfl, hb2⟩; have hR2 := block_kept hRd hb2; have rc2 := block_cell hR2; have rcA := block_cell (block_old hR2 (.cells #[.string x] 9)); have rf2 := block_free hR2; have hm2 := hmd.below hb2; have hz2' : base ≤ w2.heap.size := Nat.le_trans hzd hb2.size))
    all_goals
      have hk4 : Keeps base [9] (w2.alloc (.cells #[.string x] 9)) w4 := Keeps.grown (World.ownsRow.alloc hm2.texts _) hgrow4 (by simp)
      have hbA : Below w2.heap.size w2 (w2.alloc (.cells #[.string x] 9)) := (Below.refl _ _).alloc (Nat.le_refl _) _
      have hm4 : ModOwn w4 base (some ⟨g, 0, none⟩) cp a2 c2 (ts ++ [x]) fs cs := ⟨by simpa using hown4, own_keeps (World.ownsRow.alloc hm2.funcs _) hk4 (by simp), (hm2.codes.below hbA).keeps hk4 (by simp)⟩
      have hm5 := hm4.set (p := ⟨R, 1, none⟩) hRb (.slice (some ⟨g, 0, none⟩) (ts.length + 1) cp)
      have hR5 : LineAt (w4.setCell ⟨R, 1, none⟩ (.slice (some ⟨g, 0, none⟩) (ts.length + 1) cp)) R mv (some ⟨g, 0, none⟩) (ts.length + 1) cp a2 fs.length c2 := by
        have := block_set (i := 1) hR4 (.slice (some ⟨g, 0, none⟩) (ts.length + 1) cp)
        simpa [LineAt] using this
      have hb4 : Below R w1 w4 := (((hbd.trans (hb2.mono hbd.size)).mono (by omega)).trans (hbA.mono (by omega))).trans ((hk4.toBelow (by simp; omega)).mono (by omega))
      have hb5 : Below R w1 (w4.setCell ⟨R, 1, none⟩ (.slice (some ⟨g, 0, none⟩) (ts.length + 1) cp)) := hb4.setCell (Nat.le_refl _) _
      clear hk4 hbA hm4 hb4 hown4 hgrow4 hat4 hR4 rc4 rf4 hm2 hR2 rc2 rcA rf2 hmd hRd rcd rc rf hR hm
      generalize (w4.setCell ⟨R, 1, none⟩ (.slice (some ⟨g, 0, none⟩) (ts.length + 1) cp)) = w5 at hm5 hR5 hb5 ⊢
      go_wp2
      go_ret
      exact Or.inl ⟨hsf, rfl, some ⟨g, 0, none⟩, cp, hR5, hm5, hb5⟩
end Go.Proofs.YtpmkfdinkomaiaaGreatDoor
