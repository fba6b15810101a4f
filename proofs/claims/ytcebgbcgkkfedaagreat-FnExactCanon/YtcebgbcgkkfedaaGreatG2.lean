/-
  The document's l06: values numbered anew, in a new row.
-/
import Derived.Test.YtcebgbcgkkfedaaGreatG1
namespace Go.Proofs.YtcebgbcgkkfedaaGreat
open Go.RowKit

theorem Keeps.grownNew {B e size n : Nat} {ts : List Nat} {v : Value} {xs : List Value} {a w w' : World} (h : Keeps B ts a w) (hown : w.ownsRow a.heap.size e size v n xs) (hg : w.grownBy w' v.ownBlock) : Keeps B ts a w' := by
  refine ⟨hg.os.trans h.os, hg.tape.trans h.tape, hg.output.trans h.output, Nat.le_trans h.size hg.size, fun k o hk ho => ?_⟩
  exact grown_kept hown (lt_block hk) (h.block k o hk ho) hg
theorem WalkAt.grown {w w' : World} {Wb B0 B H base e size n : Nat} {hv nv lv v : Value} {ms : List Nat} {xs : List Value} (h : WalkAt w Wb B0 B hv H nv lv ms) (hown : w.ownsRow base e size v n xs) (hg : w.grownBy w' v.ownBlock) (h87 : 87 ≠ e) (h3 : 3 ≠ e) : WalkAt w' Wb B0 B hv H nv lv ms := by
  have ow : ∀ {B1 m : Nat} {u : Value} {ys : List Value}, w.ownsRow B1 3 1 u m ys → w'.ownsRow B1 3 1 u m ys := fun {B1 m u ys} ho => by
    refine ⟨ho.1, ?_⟩
    rcases ho.2 with ⟨e, hn⟩ | ⟨b, cap, cur, e, hb', hh, r⟩
    · exact .inl ⟨e, hn⟩
    · exact .inr ⟨b, cap, cur, e, hb', grown_other hown hh h3 hg, r⟩
  exact ⟨grown_other hown h.blk h87 hg, ow h.news, ow h.list, h.low, h.wb, h.bb⟩

theorem flat_snoc (vs : List Vl) (v : Vl) : flat (vs ++ [v]) = flat vs ++ [.int .i64 v.k, .int .i64 v.n, .string v.s] := by rw [flat_app]; rfl

set_option maxRecDepth 100000 in
set_option maxHeartbeats 2000000 in
theorem sValues_is (Wb B : Nat) (hv : Value) (H : Nat) (nv lv : Value) (ms : List Nat) (a : Option Addr) (vs : List Vl) (cap : Nat) (w00 w : World) (hW : WalkAt w Wb w00.heap.size B hv H nv lv ms) (hB : B ≤ w.heap.size) (h00 : Below w00.heap.size w00 w)
    (hm : ValsAt w00 0 a vs) (hl : vs.length ≤ 1048576) (hn : ∀ v ∈ vs, Named H v) (hM : Met H ms) (hH : H ≤ 1048576) :
    Calls Tryz.prog 51 #[.pointer (some ⟨Wb, 0, none⟩), .slice a vs.length cap] w fun e w' => ∃ xa xc, e = .returned (.slice xa vs.length xc) ∧ w'.ownsRow w.heap.size 36 3 (.slice xa vs.length xc) vs.length (flat (lV ms vs)) ∧ (∃ nv' lv', WalkAt w' Wb w00.heap.size B hv H nv' lv' (lS ms vs)) ∧ Keeps w00.heap.size [87, 3] w w' := by
  obtain ⟨i0, hi, hz0, hz1, hz2⟩ := info_parts info36
  have hbA : Below w.heap.size w (w.alloc (.cells #[] 36)) := (Below.refl _ _).alloc (Nat.le_refl _) _
  go_enter Tryz.func51, Tryz.ntmps51
  go_wp2
  go_loopw [5, 6] (fun o i wr => ∃ (k : Nat), k ≤ vs.length ∧ i = .int .i64 k ∧ wr.ownsRow w.heap.size 36 3 o k (flat (lV ms (vs.take k))) ∧ Hid (∃ nv' lv', WalkAt wr Wb w00.heap.size B hv H nv' lv' (lS ms (vs.take k))) ∧ Hid (Keeps w00.heap.size [87, 3] w wr)) (fun _ i _ => vs.length - (intOf i).toNat)
  case atStart =>
    refine ⟨0, by omega, rfl, ⟨rfl, .inr ⟨w.heap.size, 0, #[], rfl, Nat.le_refl _, block_new _ _ _, by omega, by unfold maxLen; omega, rfl, rfl⟩⟩, ⟨nv, lv, hW.mono hbA⟩, Keeps.below hbA⟩
  case round =>
    obtain ⟨k, hk, rfl, hown, HW, HK⟩ := hrel
    by_cases hlt : k < vs.length
    · have hbr : Below w00.heap.size w00 wr := h00.trans (HK.out.toBelow h00.size)
      obtain ⟨b, off, rfl, -, c1, c2, c3⟩ := hm k hlt
      have c1' := cell_later hbr c1
      have c2' := cell_later hbr c2
      have c3' := cell_later hbr c3
      clear c1 c2 c3
      obtain ⟨nv1, lv1, hW1⟩ := HW.out
      have hsv := sValue_any Wb w00.heap.size B hv H nv1 lv1 (lS ms (vs.take k)) vs[k] wr hW1 (Nat.le_trans hB HK.out.size) (hn _ (List.getElem_mem hlt)) (hM.lS fun v hx => hn v (List.mem_of_mem_take hx)) hH
      have HO := hid hown
      have HBr := hid hbr
      clear hW1 hbr
      obtain ⟨xa, xc, hxe⟩ : ∃ xa xc, u5 = Value.slice xa k xc := by
        rcases hown.2 with ⟨e, h0⟩ | ⟨b, cp, cu, e, -⟩
        · exact ⟨none, 0, by rw [e, h0]⟩
        · exact ⟨_, cp, e⟩
      subst hxe
      clear hown
      go_wp2_with fail
      refine hsv.mono ?_
      rintro e w2 ⟨rfl, ⟨nv2, lv2, hW2⟩, hK2⟩
      obtain ⟨u, hu⟩ : ∃ u, u = mV (lS ms (vs.take k)) vs[k] := ⟨_, rfl⟩
      have HU := hid hu
      rw [← hu]
      have hown2 := own_keep HO.out hK2 (by decide)
      have hsz2 : w.heap.size ≤ w2.heap.size := Nat.le_trans HK.out.size hK2.size
      obtain ⟨L0, hL0⟩ : ∃ L0, L0 = flat (lV ms (vs.take k)) := ⟨_, rfl⟩
      have HL0 := hid hL0
      rw [← hL0] at hown2
      have HW2 := hid hW2
      have HK2 := hid hK2
      clear hsv c1' c2' c3' hu hL0 hW2 hK2
      go_wp2_with (at_builtin; refine wpList_append_lies _ rfl _ _ 88 rfl w.heap.size 36 i0 (.agg #[.int .i64 0, .int .i64 0, .string ByteArray.empty]) 3 32 Tryz.underlying88 hi hz0 hz1 hz2 rfl (by decide) _ _ _ rfl (World.ownsRow.alloc hown2 _) ⟨w2.heap.size, 0, none⟩ 1 1 [.int .i64 u.k, .int .i64 u.n, .string u.s] rfl rfl (World.news_of_block (cs := #[.int .i64 u.k, .int .i64 u.n, .string u.s]) (t := 36) (fr := (0, 0)) (heap_alloc_new w2 _)) (by simp [Value.oneCell']) (by decide) (by unfold maxLen; omega) (by omega) (by simp; omega) _ rfl ?_; intro g3 cap3 w3 hown3 hgrow3 hat3 hlt3)
      go_roundw
      case rel =>
        have hownA := World.ownsRow.alloc hown2 (.cells #[.int .i64 u.k, .int .i64 u.n, .string u.s] 36)
        have hbA2 : Below w2.heap.size w2 (w2.alloc (.cells #[.int .i64 u.k, .int .i64 u.n, .string u.s] 36)) := (Below.refl _ _).alloc (Nat.le_refl _) _
        refine ⟨k + 1, by omega, by go_num, ?_, ⟨nv2, lv2, ?_⟩, ?_⟩
        · rw [lV_more hlt, flat_snoc, ← HL0.out, ← HU.out]
          exact hown3
        · rw [lS_more hlt]
          exact (HW2.out.mono hbA2).grown hownA hgrow3 (by decide) (by decide)
        · exact (HK.out.trans (HK2.out.trans (Keeps.below hbA2))).grownNew hownA hgrow3
      case measure => simp [intOf]; omega
    · have hkn : k = vs.length := by omega
      subst hkn
      obtain ⟨xa, xc, hxe⟩ : ∃ xa xc, u5 = Value.slice xa vs.length xc := by
        rcases hown.2 with ⟨e, h0⟩ | ⟨b, cp, cu, e, -⟩
        · exact ⟨none, 0, by rw [e, h0]⟩
        · exact ⟨_, cp, e⟩
      subst hxe
      have HO := hid hown
      clear hown
      go_wp2
      go_ret
      have h1 := HO.out
      have h2 := HW.out
      rw [List.take_length] at h1 h2
      exact ⟨xa, xc, rfl, h1, h2, HK.out⟩
end Go.Proofs.YtcebgbcgkkfedaaGreat
