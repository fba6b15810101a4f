/-
  Marks in a copy of a state: what they may write.
-/
import Derived.Test.YtopbdjplpnojmaaE1
import Derived.Test.YtopbdjplpnojmaaN5
import Derived.Test.YtopbdjplpnojmaaMK5
namespace Go.Proofs.Ytopbdjplpnojmaa
open Go.RowKit

theorem hid {p : Prop} (h : p) : Hid p := h

/-- Nothing but blocks of S was written. -/
structure Only (S : Nat → Prop) (w w' : World) : Prop where
  below : ∀ B, (∀ k, S k → B ≤ k) → B ≤ w.heap.size → Below B w w'
  size : w.heap.size ≤ w'.heap.size
  block : ∀ k, k < w.heap.size → ¬ S k → w'.heap[k]? = w.heap[k]?
theorem Only.refl (S : Nat → Prop) (w : World) : Only S w w := ⟨fun _ _ _ => Below.refl _ _, Nat.le_refl _, fun _ _ _ => rfl⟩
theorem Only.trans {S : Nat → Prop} {a b c : World} (h : Only S a b) (k : Only S b c) : Only S a c :=
  ⟨fun B hB h2 => (h.below B hB h2).trans (k.below B hB (Nat.le_trans h2 h.size)), Nat.le_trans h.size k.size, fun i hi hS => (k.block i (Nat.lt_of_lt_of_le hi h.size) hS).trans (h.block i hi hS)⟩
theorem Only.just {S : Nat → Prop} {g : Nat} {a b : World} (h : Just g a b) (hS : S g) : Only S a b := ⟨fun B hB h2 => h.below B (hB g hS) h2, h.size, fun _ hk hs => h.block _ hk (fun e => hs (e ▸ hS))⟩
theorem Only.of {S : Nat → Prop} {a b : World} (h : Below a.heap.size a b) : Only S a b := ⟨fun _ _ h2 => h.mono h2, h.size, fun k hk _ => h.block k hk⟩
theorem Only.set {S : Nat → Prop} {g i : Nat} {a b : World} (h : Only S a b) (hS : S g) (v : Value) : Only S a (b.setCell ⟨g, i, none⟩ v) :=
  ⟨fun B hB h2 => (h.below B hB h2).setCell (hB g hS) _, by simpa using h.size, fun k hk hs => by rw [Below.heap_setCell _ _ _ _ (fun e => hs (by rw [show k = g from e]; exact hS))]; exact h.block k hk hs⟩
theorem Only.kept {S : Nat → Prop} {k : Nat} {a b : World} {o : Obj} (h : Only S a b) (ho : a.heap[k]? = some o) (hk : ¬ S k) : b.heap[k]? = some o := by rw [h.block k (lt_block ho) hk]; exact ho
theorem Only.wide {S S' : Nat → Prop} {a b : World} (h : Only S a b) (hS : ∀ k, S k → S' k) : Only S' a b := ⟨fun B hB h2 => h.below B (fun k hk => hB k (hS k hk)) h2, h.size, fun k hk hs => h.block k hk (fun e => hs (hS k e))⟩

/-- Between lo and hi. -/
def Rng (lo hi b : Nat) : Prop := lo ≤ b ∧ b < hi

theorem ValsBlk.shape {w w' : World} {g n : Nat} (h : ValsBlk w g n) (hs : SameShape w w') : ValsBlk w' g n := by
  obtain ⟨c, h1, h2⟩ := h
  obtain ⟨c', h3, h4⟩ := hs g c 39 h1
  exact ⟨c', h3, h4.trans h2⟩
theorem just_keeps {w w' : World} {g n k0 lo hi : Nat} (hb : ValsBlk w g n) (hj : Just g w w') (hm : MarkV w' g n n k0) (hl : lo ≤ g) (hh : g < hi) : Keeps lo [39] w w' ∧ SameShape w w' ∧ Only (Rng lo hi) w w' := by
  obtain ⟨c, h1, h2⟩ := hb
  obtain ⟨c', h3, h4, -⟩ := hm
  have h0 := hj.below 0 (Nat.zero_le _) (Nat.zero_le _)
  refine ⟨⟨h0.os, h0.tape, h0.output, hj.size, fun k o hk ho => ?_⟩, fun b x t hbx => ?_, Only.just hj ⟨hl, hh⟩⟩
  · by_cases e : k = g
    · subst e
      rw [h1] at hk
      cases hk
      rcases ho with ho | ho
      · omega
      · exact absurd (by simp [ofTypes]) ho
    · exact hj.kept hk e
  · by_cases e : b = g
    · subst e
      rw [h1] at hbx
      cases hbx
      exact ⟨c', h3, by omega⟩
    · exact ⟨x, hj.kept hbx e, rfl⟩

set_option maxHeartbeats 400000 in
theorem markValueS_w (lo hi g n cap k0 : Nat) (w : World) (hn : n ≤ 1048576) (h1 : k0 ≤ 100000000000000) (hl : lo ≤ g) (hh : g < hi) (hb : ValsBlk w g n) :
    Calls Try.prog 68 #[.slice (some ⟨g, 0, none⟩) n cap, .int .i64 (k0 : Int)] w fun e w' => e = .returned (.int .i64 ((k0 + 3 * n : Nat) : Int)) ∧ Keeps lo [39] w w' ∧ SameShape w w' ∧ Only (Rng lo hi) w w' :=
  (markValueS_is g n cap k0 w hn h1 hb).mono fun _ _ ⟨he, hj, hm⟩ => ⟨he, just_keeps hb hj hm hl hh⟩

/-- The slices of frames in a block, and the blocks of their values. -/
def FSh (w : World) (lo hi F : Nat) (fr : List Fr) : Prop := ∃ cur : Array Value, w.heap[F]? = some (.cells cur 122 (0, 0)) ∧ cur.size = fr.length * 4 ∧
  ∀ j (hj : j < fr.length), ∃ g g2, cur[j * 4 + 2]? = some (.slice (some ⟨g, 0, none⟩) fr[j].locals.length fr[j].locals.length) ∧ cur[j * 4 + 3]? = some (.slice (some ⟨g2, 0, none⟩) fr[j].stack.length fr[j].stack.length) ∧ Rng lo hi g ∧ Rng lo hi g2 ∧ ValsBlk w g fr[j].locals.length ∧ ValsBlk w g2 fr[j].stack.length
theorem FB.sh {w : World} {lo : Nat} {a : Option Addr} {fr : List Fr} (h : FB w lo a fr) : ∃ F, a = some ⟨F, 0, none⟩ ∧ lo ≤ F ∧ F < w.heap.size ∧ FSh w lo w.heap.size F fr := by
  obtain ⟨F, cur, h1, h2, h3, h4, h5⟩ := h
  refine ⟨F, h1, h2, lt_block h3, cur, h3, h4, fun j hj => ?_⟩
  obtain ⟨-, -, g, g2, d3, d4, ⟨-, x, e, e2, e3⟩, ⟨-, y, f, f2, f3⟩⟩ := h5 j hj
  cases e
  cases f
  exact ⟨g, g2, d3, d4, ⟨e2, by obtain ⟨c, hc, -⟩ := e3; exact lt_block hc⟩, ⟨f2, by obtain ⟨c, hc, -⟩ := f3; exact lt_block hc⟩, e3, f3⟩
theorem FSh.keep {w w' : World} {lo hi F : Nat} {fr : List Fr} (h : FSh w lo hi F fr) (hk : Keeps lo [39] w w') (hs : SameShape w w') : FSh w' lo hi F fr := by
  obtain ⟨cur, h1, h2, h3⟩ := h
  refine ⟨cur, hk.cell h1 (by decide), h2, fun j hj => ?_⟩
  obtain ⟨g, g2, d1, d2, d3, d4, d5, d6⟩ := h3 j hj
  exact ⟨g, g2, d1, d2, d3, d4, d5.shape hs, d6.shape hs⟩
theorem FSh.set {w : World} {lo hi F i : Nat} {fr : List Fr} {v : Value} (h : FSh w lo hi F fr) (h42 : i % 4 < 2) : FSh (w.setCell ⟨F, i, none⟩ v) lo hi F fr := by
  obtain ⟨cur, h1, h2, h3⟩ := h
  refine ⟨cur.setIfInBounds i v, block_set h1 v, by simpa using h2, fun j hj => ?_⟩
  obtain ⟨g, g2, d1, d2, d3, d4, ⟨c5, d5, e5⟩, ⟨c6, d6, e6⟩⟩ := h3 j hj
  refine ⟨g, g2, by rw [set_else _ (by omega)]; exact d1, by rw [set_else _ (by omega)]; exact d2, d3, d4, ⟨c5, ?_, e5⟩, ⟨c6, ?_, e6⟩⟩
  · rw [Below.heap_setCell _ _ _ _ (fun e => by rw [show g = F from e, h1] at d5; cases d5)]; exact d5
  · rw [Below.heap_setCell _ _ _ _ (fun e => by rw [show g2 = F from e, h1] at d6; cases d6)]; exact d6

set_option maxRecDepth 100000 in
set_option maxHeartbeats 2000000 in
theorem markFrameS_w (lo hi F cap k0 : Nat) (fr : List Fr) (w : World) (hn : fr.length ≤ 1048576) (hc : ∀ f ∈ fr, f.locals.length ≤ 1048576 ∧ f.stack.length ≤ 1048576) (h1 : k0 ≤ 10000000000000) (hl : lo ≤ F) (hh : F < hi) (hF : FSh w lo hi F fr) :
    Calls Try.prog 51 #[.slice (some ⟨F, 0, none⟩) fr.length cap, .int .i64 (k0 : Int)] w fun e w' => ∃ k1 : Nat, e = .returned (.int .i64 (k1 : Int)) ∧ k0 ≤ k1 ∧ k1 ≤ k0 + fr.length * 8000000 ∧ Keeps lo [122, 39] w w' ∧ SameShape w w' ∧ Only (Rng lo hi) w w' := by
  go_enter Try.func51, Try.ntmps51
  go_wp2
  go_loopw [1, 5] (fun q i wr => ∃ (k : Nat) (m : Nat), k ≤ fr.length ∧ i = .int .i64 k ∧ q = .int .i64 (m : Int) ∧ Hid (k0 ≤ m ∧ m ≤ k0 + k * 8000000) ∧ Hid (Keeps lo [122, 39] w wr) ∧ Hid (SameShape w wr) ∧ Hid (Only (Rng lo hi) w wr) ∧ Hid (FSh wr lo hi F fr)) (fun _ i _ => fr.length - (intOf i).toNat)
  case atStart => exact ⟨0, k0, by omega, rfl, rfl, ⟨by omega, by omega⟩, Keeps.refl _ _ _, SameShape.refl _, Only.refl _ _, hF⟩
  case round =>
    obtain ⟨k, m, hk, rfl, rfl, HM, HK, HS, HO, HF⟩ := hrel
    by_cases hlt : k < fr.length
    · have hmz : m ≤ 20000000000000 := by have := HM.out; omega
      obtain ⟨cur, hC, hcs, hcd⟩ := HF.out
      have hfz := block_free hC
      obtain ⟨y1, hy1⟩ : ∃ v, wr.cell? ⟨F, k * 4, none⟩ = some v := ⟨cur[k * 4]'(by omega), by rw [block_cell hC]; exact Array.getElem?_eq_getElem _⟩
      obtain ⟨y2, hy2⟩ : ∃ v, wr.cell? ⟨F, k * 4 + 1, none⟩ = some v := ⟨cur[k * 4 + 1]'(by omega), by rw [block_cell hC]; exact Array.getElem?_eq_getElem _⟩
      obtain ⟨g, g2, d1, d2, dl, dl2, db, db2⟩ := hcd k hlt
      obtain ⟨wx, hwx⟩ : ∃ wx, wx = (wr.setCell ⟨F, k * 4, none⟩ (.int .i64 (m : Int))).setCell ⟨F, k * 4 + 1, none⟩ (.int .i64 ((m : Int) + 1)) := ⟨_, rfl⟩
      have hFx : FSh wx lo hi F fr := by rw [hwx]; exact (HF.out.set (by omega)).set (by omega)
      have hKx : Keeps lo [122, 39] w wx := by
        rw [hwx]
        exact (HK.out.set hC (by simp) hl _ _).set (block_set hC _) (by simp) hl _ _
      have hSx : SameShape w wx := by
        rw [hwx]
        exact (HS.out.set hC _ _).set (block_set hC _) _ _
      have hOx : Only (Rng lo hi) w wx := by
        rw [hwx]
        exact (HO.out.set ⟨hl, hh⟩ _).set ⟨hl, hh⟩ _
      have HOX := hid hOx
      have z2 : wr.cell? ⟨F, k * 4 + 2, none⟩ = some (.slice (some ⟨g, 0, none⟩) fr[k].locals.length fr[k].locals.length) := by rw [block_cell hC]; exact d1
      have z3 : wr.cell? ⟨F, k * 4 + 3, none⟩ = some (.slice (some ⟨g2, 0, none⟩) fr[k].stack.length fr[k].stack.length) := by rw [block_cell hC]; exact d2
      have hcl := (hc _ (List.getElem_mem hlt)).1
      have hcs2 := (hc _ (List.getElem_mem hlt)).2
      have hgF : ∀ b, ValsBlk wr b fr[k].locals.length → b ≠ F := fun b hb e => by obtain ⟨c, hcb, -⟩ := hb; rw [e, hC] at hcb; cases hcb
      obtain ⟨gx, hgx⟩ : ∃ c, c = hFx := ⟨_, rfl⟩
      clear gx hgx
      have dbx : ValsBlk wx g fr[k].locals.length := by
        obtain ⟨c, hcb, hcz⟩ := db
        refine ⟨c, ?_, hcz⟩
        rw [hwx, Below.heap_setCell _ _ _ _ (hgF g ⟨c, hcb, hcz⟩), Below.heap_setCell _ _ _ _ (hgF g ⟨c, hcb, hcz⟩)]
        exact hcb
      have hmk := markValueS_w lo hi g fr[k].locals.length fr[k].locals.length (m + 2) wx hcl (by omega) dl.1 dl.2 dbx
      have HKX := hid hKx
      have HSX := hid hSx
      have HFX := hid hFx
      have e1 : ((m + 2 : Nat) : Int) = (m : Int) + 1 + 1 := by omega
      rw [e1] at hmk
      clear hC hcs hcd db db2 dbx hKx hSx hFx HF HK HS hgF e1 d1 d2
      go_wp2_with fail
      rw [← hwx]
      clear hwx y1 hy1 y2 hy2 hfz z2 z3
      refine hmk.mono ?_
      rintro e w2 ⟨rfl, hk2, hs2, ho2⟩
      have HO2 := hid (HOX.out.trans ho2)
      have hF2 := HFX.out.keep hk2 hs2
      obtain ⟨cur2, hC2, hcs22, hcd2⟩ := hF2
      obtain ⟨h, h2, q1, q2, ql, ql2, qb, qb2⟩ := hcd2 k hlt
      have z3 : w2.cell? ⟨F, k * 4 + 3, none⟩ = some (.slice (some ⟨h2, 0, none⟩) fr[k].stack.length fr[k].stack.length) := by rw [block_cell hC2]; exact q2
      have hmk2 := markValueS_w lo hi h2 fr[k].stack.length fr[k].stack.length (m + 2 + 3 * fr[k].locals.length) w2 hcs2 (by omega) ql2.1 ql2.2 qb2
      have HF2 : Hid (FSh w2 lo hi F fr) := ⟨cur2, hC2, hcs22, hcd2⟩
      have HK2 := hid (HKX.out.trans (hk2.mono (Nat.le_refl _) (by simp)))
      have HS2 := hid (HSX.out.trans hs2)
      clear hmk hk2 hs2 ho2 hOx HO HOX hC2 hcs22 hcd2 qb qb2 q1 q2 HKX HSX HFX
      obtain ⟨A0, hA0⟩ : ∃ A0 : Nat, A0 = m + 2 + 3 * fr[k].locals.length := ⟨_, rfl⟩
      have HA0 := hid hA0
      rw [← hA0] at hmk2 ⊢
      have hA0z : A0 ≤ 50000000000000 := by omega
      clear hA0
      go_wp2_with fail
      clear z3
      refine hmk2.mono ?_
      rintro e w3 ⟨rfl, hk3, hs3, ho3⟩
      have HO3 := hid (HO2.out.trans ho3)
      have HF3 := hid (HF2.out.keep hk3 hs3)
      have HK3 := hid (HK2.out.trans (hk3.mono (Nat.le_refl _) (by simp)))
      have HS3 := hid (HS2.out.trans hs3)
      clear hmk2 hk3 hs3 ho3
      go_wp2
      go_roundw
      case rel => exact ⟨k + 1, A0 + 3 * fr[k].stack.length, by omega, by go_num, rfl, by have h1 := HM.out; have h2 := HA0.out; show _ ∧ _; omega, HK3, HS3, HO3, HF3⟩
      case measure => simp [intOf]; omega
    · have hkn : k = fr.length := by omega
      subst hkn
      go_wp2
      go_ret
      exact ⟨m, rfl, HM.out.1, HM.out.2, HK.out, HS.out, HO.out⟩
end Go.Proofs.Ytopbdjplpnojmaa
