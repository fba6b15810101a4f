/-
  Marks in a copy of a state: what they may write.
  Marks in a copy of a state: records, texts, and the state.
  Marks in a copy of a state: the state.
  Exact marks in a state that lies in blocks of its own: frames.
-/
import Derived.Test.YtcfbahaokmhbkaaGreatE1
import Derived.Test.YtcfbahaokmhbkaaGreatN5
import Derived.Test.YtcfbahaokmhbkaaGreatKC16
import Derived.Test.YtcfbahaokmhbkaaGreatKC8
import Derived.Test.YtcfbahaokmhbkaaGreatKC26
namespace Go.Proofs.YtcfbahaokmhbkaaGreat
open Go.RowKit

/-- Nothing but blocks of S was written. -/
structure Only (S : Nat → Prop) (w w' : World) : Prop where
  below : ∀ B, (∀ k, S k → B ≤ k) → B ≤ w.heap.size → Below B w w'
  size : w.heap.size ≤ w'.heap.size
  block : ∀ k, k < w.heap.size → ¬ S k → w'.heap[k]? = w.heap[k]?
theorem Only.refl (S : Nat → Prop) (w : World) : Only S w w := ⟨fun _ _ _ => Below.refl _ _, Nat.le_refl _, fun _ _ _ => rfl⟩
theorem Only.trans {S : Nat → Prop} {a b c : World} (h : Only S a b) (k : Only S b c) : Only S a c :=
  ⟨fun B hB h2 => (h.below B hB h2).trans (k.below B hB (Nat.le_trans h2 h.size)), Nat.le_trans h.size k.size, fun i hi hS => (k.block i (Nat.lt_of_lt_of_le hi h.size) hS).trans (h.block i hi hS)⟩
theorem Only.just {S : Nat → Prop} {g : Nat} {a b : World} (h : Just g a b) (hS : S g) : Only S a b := ⟨fun B hB h2 => h.below B (hB g hS) h2, h.size, fun _ hk hs => h.block _ hk (fun e => hs (e ▸ hS))⟩
theorem Only.of {S : Nat → Prop} {a b : World} (h : Below a.heap.size a b) : Only S a b := ⟨fun _ _ h2 => h.mono h2, h.size, fun k hk _ => h.block k hk⟩
theorem Only.set {S : Nat → Prop} {g i : Nat} {a b : World} (h : Only S a b) (hS : S g) (v : Value) : Only S a (b.setCell ⟨g, i, none⟩ v) :=
  ⟨fun B hB h2 => (h.below B hB h2).setCell (hB g hS) _, by simpa using h.size, fun k hk hs => by rw [Below.heap_setCell _ _ _ _ (fun e => hs (by rw [show k = g from e]; exact hS))]; exact h.block k hk hs⟩
theorem Only.kept {S : Nat → Prop} {k : Nat} {a b : World} {o : Obj} (h : Only S a b) (ho : a.heap[k]? = some o) (hk : ¬ S k) : b.heap[k]? = some o := by rw [h.block k (lt_block ho) hk]; exact ho
theorem Only.wide {S S' : Nat → Prop} {a b : World} (h : Only S a b) (hS : ∀ k, S k → S' k) : Only S' a b := ⟨fun B hB h2 => h.below B (fun k hk => hB k (hS k hk)) h2, h.size, fun k hk hs => h.block k hk (fun e => hs (hS k e))⟩

/-- Between lo and hi. -/
def Rng (lo hi b : Nat) : Prop := lo ≤ b ∧ b < hi

theorem ValsBlk.shape {w w' : World} {g n : Nat} (h : ValsBlk w g n) (hs : SameShape w w') : ValsBlk w' g n := by
  obtain ⟨c, h1, h2⟩ := h
  obtain ⟨c', h3, h4⟩ := hs g c 36 h1
  exact ⟨c', h3, h4.trans h2⟩
theorem just_keeps {w w' : World} {g n k0 lo hi : Nat} (hb : ValsBlk w g n) (hj : Just g w w') (hm : MarkV w' g n n k0) (hl : lo ≤ g) (hh : g < hi) : Keeps lo [36] w w' ∧ SameShape w w' ∧ Only (Rng lo hi) w w' := by
  obtain ⟨c, h1, h2⟩ := hb
  obtain ⟨c', h3, h4, -⟩ := hm
  have h0 := hj.below 0 (Nat.zero_le _) (Nat.zero_le _)
  refine ⟨⟨h0.os, h0.tape, h0.output, hj.size, fun k o hk ho => ?_⟩, fun b x t hbx => ?_, Only.just hj ⟨hl, hh⟩⟩
  · by_cases e : k = g
    · subst e
      rw [h1] at hk
      cases hk
      rcases ho with ho | ho
      · omega
      · exact absurd (by simp [ofTypes]) ho
    · exact hj.kept hk e
  · by_cases e : b = g
    · subst e
      rw [h1] at hbx
      cases hbx
      exact ⟨c', h3, by omega⟩
    · exact ⟨x, hj.kept hbx e, rfl⟩

set_option maxHeartbeats 400000 in
theorem markValueS_w (lo hi g n cap k0 : Nat) (w : World) (hn : n ≤ 1048576) (h1 : k0 ≤ 100000000000000) (hl : lo ≤ g) (hh : g < hi) (hb : ValsBlk w g n) :
    Calls Tryz.prog 71 #[.slice (some ⟨g, 0, none⟩) n cap, .int .i64 (k0 : Int)] w fun e w' => e = .returned (.int .i64 ((k0 + 3 * n : Nat) : Int)) ∧ Keeps lo [36] w w' ∧ SameShape w w' ∧ Only (Rng lo hi) w w' :=
  (markValueS_is g n cap k0 w hn h1 hb).mono fun _ _ ⟨he, hj, hm⟩ => ⟨he, just_keeps hb hj hm hl hh⟩

/-- The slices of frames in a block, and the blocks of their values. -/
def FSh (w : World) (lo hi F : Nat) (fr : List Fr) : Prop := ∃ cur : Array Value, w.heap[F]? = some (.cells cur 90 (0, 0)) ∧ cur.size = fr.length * 4 ∧
  ∀ j (hj : j < fr.length), ∃ g g2, cur[j * 4 + 2]? = some (.slice (some ⟨g, 0, none⟩) fr[j].locals.length fr[j].locals.length) ∧ cur[j * 4 + 3]? = some (.slice (some ⟨g2, 0, none⟩) fr[j].stack.length fr[j].stack.length) ∧ Rng lo hi g ∧ Rng lo hi g2 ∧ ValsBlk w g fr[j].locals.length ∧ ValsBlk w g2 fr[j].stack.length
theorem FB.sh {w : World} {lo : Nat} {a : Option Addr} {fr : List Fr} (h : FB w lo a fr) : ∃ F, a = some ⟨F, 0, none⟩ ∧ lo ≤ F ∧ F < w.heap.size ∧ FSh w lo w.heap.size F fr := by
  obtain ⟨F, cur, h1, h2, h3, h4, h5⟩ := h
  refine ⟨F, h1, h2, lt_block h3, cur, h3, h4, fun j hj => ?_⟩
  obtain ⟨-, -, g, g2, d3, d4, ⟨-, x, e, e2, e3⟩, ⟨-, y, f, f2, f3⟩⟩ := h5 j hj
  cases e
  cases f
  exact ⟨g, g2, d3, d4, ⟨e2, by obtain ⟨c, hc, -⟩ := e3; exact lt_block hc⟩, ⟨f2, by obtain ⟨c, hc, -⟩ := f3; exact lt_block hc⟩, e3, f3⟩
theorem FSh.keep {w w' : World} {lo hi F : Nat} {fr : List Fr} (h : FSh w lo hi F fr) (hk : Keeps lo [36] w w') (hs : SameShape w w') : FSh w' lo hi F fr := by
  obtain ⟨cur, h1, h2, h3⟩ := h
  refine ⟨cur, hk.cell h1 (by decide), h2, fun j hj => ?_⟩
  obtain ⟨g, g2, d1, d2, d3, d4, d5, d6⟩ := h3 j hj
  exact ⟨g, g2, d1, d2, d3, d4, d5.shape hs, d6.shape hs⟩
theorem FSh.set {w : World} {lo hi F i : Nat} {fr : List Fr} {v : Value} (h : FSh w lo hi F fr) (h42 : i % 4 < 2) : FSh (w.setCell ⟨F, i, none⟩ v) lo hi F fr := by
  obtain ⟨cur, h1, h2, h3⟩ := h
  refine ⟨cur.setIfInBounds i v, block_set h1 v, by simpa using h2, fun j hj => ?_⟩
  obtain ⟨g, g2, d1, d2, d3, d4, ⟨c5, d5, e5⟩, ⟨c6, d6, e6⟩⟩ := h3 j hj
  refine ⟨g, g2, by rw [set_else _ (by omega)]; exact d1, by rw [set_else _ (by omega)]; exact d2, d3, d4, ⟨c5, ?_, e5⟩, ⟨c6, ?_, e6⟩⟩
  · rw [Below.heap_setCell _ _ _ _ (fun e => by rw [show g = F from e, h1] at d5; cases d5)]; exact d5
  · rw [Below.heap_setCell _ _ _ _ (fun e => by rw [show g2 = F from e, h1] at d6; cases d6)]; exact d6

set_option maxRecDepth 100000 in
set_option maxHeartbeats 2000000 in
theorem markFrameS_w (lo hi F cap k0 : Nat) (fr : List Fr) (w : World) (hn : fr.length ≤ 1048576) (hc : ∀ f ∈ fr, f.locals.length ≤ 1048576 ∧ f.stack.length ≤ 1048576) (h1 : k0 ≤ 10000000000000) (hl : lo ≤ F) (hh : F < hi) (hF : FSh w lo hi F fr) :
    Calls Tryz.prog 39 #[.slice (some ⟨F, 0, none⟩) fr.length cap, .int .i64 (k0 : Int)] w fun e w' => ∃ k1 : Nat, e = .returned (.int .i64 (k1 : Int)) ∧ k0 ≤ k1 ∧ k1 ≤ k0 + fr.length * 8000000 ∧ Keeps lo [90, 36] w w' ∧ SameShape w w' ∧ Only (Rng lo hi) w w' := by
  go_enter Tryz.func39, Tryz.ntmps39
  go_wp2
  go_loopw [1, 5] (fun q i wr => ∃ (k : Nat) (m : Nat), k ≤ fr.length ∧ i = .int .i64 k ∧ q = .int .i64 (m : Int) ∧ Hid (k0 ≤ m ∧ m ≤ k0 + k * 8000000) ∧ Hid (Keeps lo [90, 36] w wr) ∧ Hid (SameShape w wr) ∧ Hid (Only (Rng lo hi) w wr) ∧ Hid (FSh wr lo hi F fr)) (fun _ i _ => fr.length - (intOf i).toNat)
  case atStart => exact ⟨0, k0, by omega, rfl, rfl, ⟨by omega, by omega⟩, Keeps.refl _ _ _, SameShape.refl _, Only.refl _ _, hF⟩
  case round =>
    obtain ⟨k, m, hk, rfl, rfl, HM, HK, HS, HO, HF⟩ := hrel
    by_cases hlt : k < fr.length
    · have hmz : m ≤ 20000000000000 := by have := HM.out; omega
      obtain ⟨cur, hC, hcs, hcd⟩ := HF.out
      have hfz := block_free hC
      obtain ⟨y1, hy1⟩ : ∃ v, wr.cell? ⟨F, k * 4, none⟩ = some v := ⟨cur[k * 4]'(by omega), by rw [block_cell hC]; exact Array.getElem?_eq_getElem _⟩
      obtain ⟨y2, hy2⟩ : ∃ v, wr.cell? ⟨F, k * 4 + 1, none⟩ = some v := ⟨cur[k * 4 + 1]'(by omega), by rw [block_cell hC]; exact Array.getElem?_eq_getElem _⟩
      obtain ⟨g, g2, d1, d2, dl, dl2, db, db2⟩ := hcd k hlt
      obtain ⟨wx, hwx⟩ : ∃ wx, wx = (wr.setCell ⟨F, k * 4, none⟩ (.int .i64 (m : Int))).setCell ⟨F, k * 4 + 1, none⟩ (.int .i64 ((m : Int) + 1)) := ⟨_, rfl⟩
      have hFx : FSh wx lo hi F fr := by rw [hwx]; exact (HF.out.set (by omega)).set (by omega)
      have hKx : Keeps lo [90, 36] w wx := by
        rw [hwx]
        exact (HK.out.set hC (by simp) hl _ _).set (block_set hC _) (by simp) hl _ _
      have hSx : SameShape w wx := by
        rw [hwx]
        exact (HS.out.set hC _ _).set (block_set hC _) _ _
      have hOx : Only (Rng lo hi) w wx := by
        rw [hwx]
        exact (HO.out.set ⟨hl, hh⟩ _).set ⟨hl, hh⟩ _
      have HOX := hid hOx
      have z2 : wr.cell? ⟨F, k * 4 + 2, none⟩ = some (.slice (some ⟨g, 0, none⟩) fr[k].locals.length fr[k].locals.length) := by rw [block_cell hC]; exact d1
      have z3 : wr.cell? ⟨F, k * 4 + 3, none⟩ = some (.slice (some ⟨g2, 0, none⟩) fr[k].stack.length fr[k].stack.length) := by rw [block_cell hC]; exact d2
      have hcl := (hc _ (List.getElem_mem hlt)).1
      have hcs2 := (hc _ (List.getElem_mem hlt)).2
      have hgF : ∀ b, ValsBlk wr b fr[k].locals.length → b ≠ F := fun b hb e => by obtain ⟨c, hcb, -⟩ := hb; rw [e, hC] at hcb; cases hcb
      obtain ⟨gx, hgx⟩ : ∃ c, c = hFx := ⟨_, rfl⟩
      clear gx hgx
      have dbx : ValsBlk wx g fr[k].locals.length := by
        obtain ⟨c, hcb, hcz⟩ := db
        refine ⟨c, ?_, hcz⟩
        rw [hwx, Below.heap_setCell _ _ _ _ (hgF g ⟨c, hcb, hcz⟩), Below.heap_setCell _ _ _ _ (hgF g ⟨c, hcb, hcz⟩)]
        exact hcb
      have hmk := markValueS_w lo hi g fr[k].locals.length fr[k].locals.length (m + 2) wx hcl (by omega) dl.1 dl.2 dbx
      have HKX := hid hKx
      have HSX := hid hSx
      have HFX := hid hFx
      have e1 : ((m + 2 : Nat) : Int) = (m : Int) + 1 + 1 := by omega
      rw [e1] at hmk
      clear hC hcs hcd db db2 dbx hKx hSx hFx HF HK HS hgF e1 d1 d2
      go_wp2_with fail
      rw [← hwx]
      clear hwx y1 hy1 y2 hy2 hfz z2 z3
      refine hmk.mono ?_
      rintro e w2 ⟨rfl, hk2, hs2, ho2⟩
      have HO2 := hid (HOX.out.trans ho2)
      have hF2 := HFX.out.keep hk2 hs2
      obtain ⟨cur2, hC2, hcs22, hcd2⟩ := hF2
      obtain ⟨h, h2, q1, q2, ql, ql2, qb, qb2⟩ := hcd2 k hlt
      have z3 : w2.cell? ⟨F, k * 4 + 3, none⟩ = some (.slice (some ⟨h2, 0, none⟩) fr[k].stack.length fr[k].stack.length) := by rw [block_cell hC2]; exact q2
      have hmk2 := markValueS_w lo hi h2 fr[k].stack.length fr[k].stack.length (m + 2 + 3 * fr[k].locals.length) w2 hcs2 (by omega) ql2.1 ql2.2 qb2
      have HF2 : Hid (FSh w2 lo hi F fr) := ⟨cur2, hC2, hcs22, hcd2⟩
      have HK2 := hid (HKX.out.trans (hk2.mono (Nat.le_refl _) (by simp)))
      have HS2 := hid (HSX.out.trans hs2)
      clear hmk hk2 hs2 ho2 hOx HO HOX hC2 hcs22 hcd2 qb qb2 q1 q2 HKX HSX HFX
      obtain ⟨A0, hA0⟩ : ∃ A0 : Nat, A0 = m + 2 + 3 * fr[k].locals.length := ⟨_, rfl⟩
      have HA0 := hid hA0
      rw [← hA0] at hmk2 ⊢
      have hA0z : A0 ≤ 50000000000000 := by omega
      clear hA0
      go_wp2_with fail
      clear z3
      refine hmk2.mono ?_
      rintro e w3 ⟨rfl, hk3, hs3, ho3⟩
      have HO3 := hid (HO2.out.trans ho3)
      have HF3 := hid (HF2.out.keep hk3 hs3)
      have HK3 := hid (HK2.out.trans (hk3.mono (Nat.le_refl _) (by simp)))
      have HS3 := hid (HS2.out.trans hs3)
      clear hmk2 hk3 hs3 ho3
      go_wp2
      go_roundw
      case rel => exact ⟨k + 1, A0 + 3 * fr[k].stack.length, by omega, by go_num, rfl, by have h1 := HM.out; have h2 := HA0.out; show _ ∧ _; omega, HK3, HS3, HO3, HF3⟩
      case measure => simp [intOf]; omega
    · have hkn : k = fr.length := by omega
      subst hkn
      go_wp2
      go_ret
      exact ⟨m, rfl, HM.out.1, HM.out.2, HK.out, HS.out, HO.out⟩
end Go.Proofs.YtcfbahaokmhbkaaGreat

namespace Go.Proofs.YtcfbahaokmhbkaaGreat
open Go.RowKit

/-- The slices of records in a block, and the blocks of their fields. -/
def RSh (w : World) (lo hi R : Nat) (rs : List (List Vl)) : Prop := ∃ cur : Array Value, w.heap[R]? = some (.cells cur 94 (0, 0)) ∧ cur.size = rs.length ∧
  ∀ j (hj : j < rs.length), ∃ g, cur[j]? = some (.slice (some ⟨g, 0, none⟩) rs[j].length rs[j].length) ∧ Rng lo hi g ∧ ValsBlk w g rs[j].length
theorem RB.sh {w : World} {lo : Nat} {a : Option Addr} {rs : List (List Vl)} (h : RB w lo a rs) : ∃ R, a = some ⟨R, 0, none⟩ ∧ lo ≤ R ∧ RSh w lo w.heap.size R rs := by
  obtain ⟨R, cur, h1, h2, h3, h4, h5⟩ := h
  refine ⟨R, h1, h2, cur, h3, by omega, fun j hj => ?_⟩
  obtain ⟨g, d3, ⟨-, x, e, e2, e3⟩⟩ := h5 j hj
  cases e
  exact ⟨g, d3, ⟨e2, by obtain ⟨c, hc, -⟩ := e3; exact lt_block hc⟩, e3⟩
theorem RSh.keep {w w' : World} {lo hi R : Nat} {rs : List (List Vl)} (h : RSh w lo hi R rs) {ts : List Nat} (hk : Keeps lo ts w w') (ht : 94 ∉ ts) (hs : SameShape w w') : RSh w' lo hi R rs := by
  obtain ⟨cur, h1, h2, h3⟩ := h
  refine ⟨cur, hk.cell h1 ht, h2, fun j hj => ?_⟩
  obtain ⟨g, d1, d3, d5⟩ := h3 j hj
  exact ⟨g, d1, d3, d5.shape hs⟩

set_option maxRecDepth 100000 in
set_option maxHeartbeats 2000000 in
theorem markRecS_w (lo hi R cap k0 : Nat) (rs : List (List Vl)) (w : World) (hn : rs.length ≤ 1048576) (hc : ∀ r ∈ rs, r.length ≤ 1048576) (h1 : k0 ≤ 20000000000000) (hR : RSh w lo hi R rs) :
    Calls Tryz.prog 40 #[.slice (some ⟨R, 0, none⟩) rs.length cap, .int .i64 (k0 : Int)] w fun e w' => ∃ k1 : Nat, e = .returned (.int .i64 (k1 : Int)) ∧ k0 ≤ k1 ∧ k1 ≤ k0 + rs.length * 4000000 ∧ Keeps lo [36] w w' ∧ SameShape w w' ∧ Only (Rng lo hi) w w' := by
  go_enter Tryz.func40, Tryz.ntmps40
  go_wp2
  go_loopw [1, 5] (fun q i wr => ∃ (k : Nat) (m : Nat), k ≤ rs.length ∧ i = .int .i64 k ∧ q = .int .i64 (m : Int) ∧ Hid (k0 ≤ m ∧ m ≤ k0 + k * 4000000) ∧ Hid (Keeps lo [36] w wr) ∧ Hid (SameShape w wr) ∧ Hid (Only (Rng lo hi) w wr) ∧ Hid (RSh wr lo hi R rs)) (fun _ i _ => rs.length - (intOf i).toNat)
  case atStart => exact ⟨0, k0, by omega, rfl, rfl, ⟨by omega, by omega⟩, Keeps.refl _ _ _, SameShape.refl _, Only.refl _ _, hR⟩
  case round =>
    obtain ⟨k, m, hk, rfl, rfl, HM, HK, HS, HO, HF⟩ := hrel
    by_cases hlt : k < rs.length
    · have hmz : m ≤ 40000000000000 := by have := HM.out; omega
      obtain ⟨cur, hC, hcs, hcd⟩ := HF.out
      obtain ⟨g, d1, dl, db⟩ := hcd k hlt
      have z2 : wr.cell? ⟨R, k, none⟩ = some (.slice (some ⟨g, 0, none⟩) rs[k].length rs[k].length) := by rw [block_cell hC]; exact d1
      have hcl := hc _ (List.getElem_mem hlt)
      have hmk := markValueS_w lo hi g rs[k].length rs[k].length m wr hcl (by omega) dl.1 dl.2 db
      clear hC hcs hcd db d1
      go_wp2_with fail
      refine hmk.mono ?_
      rintro e w2 ⟨rfl, hk2, hs2, ho2⟩
      have HO2 := hid (HO.out.trans ho2)
      have HF2 := hid (HF.out.keep hk2 (by decide) hs2)
      have HK2 := hid (HK.out.trans hk2)
      have HS2 := hid (HS.out.trans hs2)
      clear hmk hk2 hs2 ho2 z2
      go_wp2
      go_roundw
      case rel => exact ⟨k + 1, m + 3 * rs[k].length, by omega, by go_num, rfl, by have h1 := HM.out; show _ ∧ _; omega, HK2, HS2, HO2, HF2⟩
      case measure => simp [intOf]; omega
    · have hkn : k = rs.length := by omega
      subst hkn
      go_wp2
      go_ret
      exact ⟨m, rfl, HM.out.1, HM.out.2, HK.out, HS.out, HO.out⟩
end Go.Proofs.YtcfbahaokmhbkaaGreat

namespace Go.Proofs.YtcfbahaokmhbkaaGreat
open Go.RowKit

set_option maxHeartbeats 400000 in
theorem markStringS_w (lo hi g n cap : Nat) (k0 : Int) (w : World) (hn : n ≤ 1048576) (h0 : 0 ≤ k0) (h1 : k0 ≤ 100000000000000) (hg : lo ≤ g) (hh : g < hi) (hblk0 : TextBlk w g n) :
    Calls Tryz.prog 37 #[.slice (some ⟨g, 0, none⟩) n cap, .int .i64 k0] w fun e w' => e = .returned (.int .i64 (k0 + n)) ∧ Keeps lo [9] w w' ∧ SameShape w w' ∧ Only (Rng lo hi) w w' := by
  go_enter Tryz.func37, Tryz.ntmps37
  go_wp2
  go_loopw [1, 5] (fun q i wr => ∃ (k : Nat), k ≤ n ∧ i = .int .i64 k ∧ q = .int .i64 (k0 + k) ∧ Keeps lo [9] w wr ∧ SameShape w wr ∧ Only (Rng lo hi) w wr) (fun _ i _ => n - (intOf i).toNat)
  case atStart => exact ⟨0, by omega, rfl, by go_num, Keeps.refl _ _ _, SameShape.refl _, Only.refl _ _⟩
  case round =>
    obtain ⟨k, hk, rfl, rfl, hkr, hsh, hor⟩ := hrel
    by_cases hlt : k < n
    · go_wp2_with fail
      refine (markText_any (k0 + k) _ (by omega) (by omega)).mono ?_
      rintro e w1 ⟨s, rfl, hb⟩
      have hk1 : Keeps lo [9] w w1 := hkr.trans (Keeps.below hb)
      have ho1 : Only (Rng lo hi) w w1 := hor.trans (Only.of hb)
      have hs1 : SameShape w w1 := hsh.trans (SameShape.below hb)
      obtain ⟨cur, hblk, hsz⟩ := hblk0.shape hs1
      have hfz := block_free hblk k
      have hcl : w1.cell? ⟨g, k, none⟩ = some cur[k] := by rw [block_cell hblk k]; simp
      go_wp2
      go_roundw
      case rel => exact ⟨k + 1, by omega, by go_num, by go_num, Keeps.set hk1 hblk (by simp) hg _ _, SameShape.set hs1 hblk _ _, ho1.set ⟨hg, hh⟩ _⟩
      case measure => simp [intOf]; omega
    · go_wp2
      go_ret
      exact ⟨ret_int (by omega), hkr, hsh, hor⟩

set_option maxRecDepth 100000 in
set_option maxHeartbeats 2000000 in
theorem markVm_w (lo hi F R g fc hcp oc : Nat) (d : VmD) (k0 : Nat) (w : World) (hx : VmSmall d) (h1 : k0 ≤ 10000000000000) (hl : lo ≤ F) (hl3 : lo ≤ g) (hh : F < hi) (hh3 : g < hi) (hF : FSh w lo hi F d.frames) (hR : RSh w lo hi R d.heap) (hO : TextBlk w g d.out.length) :
    Calls Tryz.prog 14 #[.agg (vmCells (some ⟨F, 0, none⟩) (some ⟨R, 0, none⟩) (some ⟨g, 0, none⟩) fc hcp oc d), .int .i64 (k0 : Int)] w fun e w' => ∃ k1 : Nat, e = .returned (.int .i64 (k1 : Int)) ∧ k0 ≤ k1 ∧ k1 ≤ 100000000000000 ∧ Keeps lo [90, 36, 9] w w' ∧ SameShape w w' ∧ Only (Rng lo hi) w w' := by
  conv => arg 3; unfold vmCells
  obtain ⟨wA, hwA⟩ : ∃ wA, wA = w.alloc (.cells #[.slice (some ⟨F, 0, none⟩) d.frames.length fc, .slice (some ⟨R, 0, none⟩) d.heap.length hcp, .int .i64 d.made, .slice (some ⟨g, 0, none⟩) d.out.length oc, .int .i64 d.status, .int .i64 d.trap, .int .i64 d.value.k, .int .i64 d.value.n, .string d.value.s, .int .i64 d.steps] 38) := ⟨_, rfl⟩
  have hbA : Below w.heap.size w wA := by rw [hwA]; exact (Below.refl _ _).alloc (Nat.le_refl _) _
  have hI : wA.heap[w.heap.size]? = some (.cells #[.slice (some ⟨F, 0, none⟩) d.frames.length fc, .slice (some ⟨R, 0, none⟩) d.heap.length hcp, .int .i64 d.made, .slice (some ⟨g, 0, none⟩) d.out.length oc, .int .i64 d.status, .int .i64 d.trap, .int .i64 d.value.k, .int .i64 d.value.n, .string d.value.s, .int .i64 d.steps] 38 (0, 0)) := by rw [hwA]; exact block_new _ _ _
  have hkA : Keeps lo [] w wA := Keeps.below hbA
  have hsA : SameShape w wA := SameShape.below hbA
  have hFA : FSh wA lo hi F d.frames := hF.keep (hkA.mono (Nat.le_refl _) (by simp)) hsA
  have hRA : RSh wA lo hi R d.heap := hR.keep hkA (by simp) hsA
  have hOA : TextBlk wA g d.out.length := hO.mono hbA
  go_enter Tryz.func14, Tryz.ntmps14
  have i1 := block_cell hI
  have hm1 := markFrameS_w lo hi F fc k0 d.frames wA hx.frames (fun f hf => ⟨(hx.locals f hf).1, (hx.stack f hf).1⟩) (by omega) hl hh hFA
  go_wp2_with fail
  rw [← hwA]
  refine hm1.mono ?_
  rintro e w1 ⟨k1, rfl, ha1, hb1, hk1, hs1, ho1⟩
  have hO1x : Only (Rng lo hi) w w1 := (Only.of hbA).trans ho1
  have hI1 := hk1.cell hI (by decide)
  have hR1 := hRA.keep hk1 (by decide) hs1
  have hO1 := hOA.shape hs1
  have hK1 : Keeps lo [90, 36, 9] w w1 := (hkA.mono (Nat.le_refl _) (by simp)).trans (hk1.mono (Nat.le_refl _) (by simp))
  have hS1 := hsA.trans hs1
  have hfz := hx.frames
  have hk1z : k1 ≤ 20000000000000 := by omega
  clear hm1 hwA hbA hI hkA hsA hFA hRA hOA hk1 hs1 i1 hb1
  have i1 := block_cell hI1
  have hm2 := markRecS_w lo hi R hcp k1 d.heap w1 hx.heap (fun r hr => (hx.fields r hr).1) (by omega) hR1
  go_wp2_with fail
  refine hm2.mono ?_
  rintro e w2 ⟨k2, rfl, ha2, hb2, hk2, hs2, ho2⟩
  have hO2x := hO1x.trans ho2
  have hI2 := hk2.cell hI1 (by decide)
  have hO2 := hO1.shape hs2
  have hK2 : Keeps lo [90, 36, 9] w w2 := hK1.trans (hk2.mono (Nat.le_refl _) (by simp))
  have hS2 := hS1.trans hs2
  have hhz := hx.heap
  have hk2z : k2 ≤ 30000000000000 := by omega
  clear hm2 hI1 hR1 hO1 hK1 hS1 hk2 hs2 i1 hb2
  have i1 := block_cell hI2
  have hoz := hx.out
  have hm3 := markStringS_w lo hi g d.out.length oc (k2 : Int) w2 hx.out (by omega) (by omega) hl3 hh3 hO2
  go_wp2_with fail
  refine hm3.mono ?_
  rintro e w3 ⟨rfl, hk3, hs3, ho3⟩
  have hO3x := hO2x.trans ho3
  have hK3 : Keeps lo [90, 36, 9] w w3 := hK2.trans (hk3.mono (Nat.le_refl _) (by simp))
  have hS3 := hS2.trans hs3
  clear hm3 hI2 hO2 hK2 hS2 hk3 hs3 i1
  go_wp2
  go_ret
  exact ⟨k2 + d.out.length, by simp, by omega, by omega, hK3, hS3, hO3x⟩
end Go.Proofs.YtcfbahaokmhbkaaGreat

namespace Go.Proofs.YtcfbahaokmhbkaaGreat
open Go.RowKit

/-- How many marks frames take. -/
def fsz (fr : List Fr) : Nat := (fr.map fun f => 2 + 3 * f.locals.length + 3 * f.stack.length).sum
theorem fsz_more {fr : List Fr} {k : Nat} (h : k < fr.length) : fsz (fr.take (k + 1)) = fsz (fr.take k) + (2 + 3 * fr[k].locals.length + 3 * fr[k].stack.length) := by
  unfold fsz
  rw [List.take_succ_eq_append_getElem h, List.map_append, List.sum_append]
  simp
theorem fsz_le {fr : List Fr} (hc : ∀ f ∈ fr, f.locals.length ≤ 1048576 ∧ f.stack.length ≤ 1048576) (k : Nat) (hk : k ≤ fr.length) : fsz (fr.take k) ≤ k * 8000000 := by
  induction k with
  | zero => simp [fsz]
  | succ n ih =>
    have := ih (by omega)
    have h1 := hc fr[n] (List.getElem_mem (by omega))
    rw [fsz_more (by omega)]
    omega

structure FAp (n : Nat) (la sa : Nat → Nat) : Prop where
  li : ∀ i j, i < n → j < n → la i = la j → i = j
  si : ∀ i j, i < n → j < n → sa i = sa j → i = j
  ls : ∀ i j, i < n → j < n → la i ≠ sa j

/-- Frames in blocks of their own, the first m of them marked. -/
def FMk (w : World) (F : Nat) (la sa : Nat → Nat) (fr : List Fr) (k0 m : Nat) : Prop := ∃ cur : Array Value, w.heap[F]? = some (.cells cur 90 (0, 0)) ∧ cur.size = fr.length * 4 ∧
  ∀ j (hj : j < fr.length), cur[j * 4 + 2]? = some (.slice (some ⟨la j, 0, none⟩) fr[j].locals.length fr[j].locals.length) ∧ cur[j * 4 + 3]? = some (.slice (some ⟨sa j, 0, none⟩) fr[j].stack.length fr[j].stack.length) ∧
    (j < m → cur[j * 4]? = some (.int .i64 ((k0 + fsz (fr.take j) : Nat) : Int)) ∧ cur[j * 4 + 1]? = some (.int .i64 ((k0 + fsz (fr.take j) : Nat) + 1 : Int)) ∧ MarkV w (la j) fr[j].locals.length fr[j].locals.length (k0 + fsz (fr.take j) + 2) ∧ MarkV w (sa j) fr[j].stack.length fr[j].stack.length (k0 + fsz (fr.take j) + 2 + 3 * fr[j].locals.length)) ∧
    (m ≤ j → ValsBlk w (la j) fr[j].locals.length ∧ ValsBlk w (sa j) fr[j].stack.length)

theorem FMk.kept {w w' : World} {F k0 m : Nat} {la sa : Nat → Nat} {fr : List Fr} (h : FMk w F la sa fr k0 m) (hk : ∀ b o, (b = F ∨ ∃ i, i < fr.length ∧ (b = la i ∨ b = sa i)) → w.heap[b]? = some o → w'.heap[b]? = some o) : FMk w' F la sa fr k0 m := by
  obtain ⟨cur, h1, h2, h3⟩ := h
  refine ⟨cur, hk F _ (.inl rfl) h1, h2, fun j hj => ?_⟩
  obtain ⟨d1, d2, d3, d4⟩ := h3 j hj
  have L : ∀ o, w.heap[la j]? = some o → w'.heap[la j]? = some o := fun o => hk _ o (.inr ⟨j, hj, .inl rfl⟩)
  have S : ∀ o, w.heap[sa j]? = some o → w'.heap[sa j]? = some o := fun o => hk _ o (.inr ⟨j, hj, .inr rfl⟩)
  refine ⟨d1, d2, fun e => ?_, fun e => ?_⟩
  · obtain ⟨x1, x2, ⟨c, x3, x4⟩, ⟨c', x5, x6⟩⟩ := d3 e
    exact ⟨x1, x2, ⟨c, L _ x3, x4⟩, ⟨c', S _ x5, x6⟩⟩
  · obtain ⟨⟨c, x3, x4⟩, ⟨c', x5, x6⟩⟩ := d4 e
    exact ⟨⟨c, L _ x3, x4⟩, ⟨c', S _ x5, x6⟩⟩

theorem FMk.step {wr w2 w3 : World} {F k0 k : Nat} {la sa : Nat → Nat} {fr : List Fr} (h : FMk wr F la sa fr k0 k) (hA : FAp fr.length la sa) (hk : k < fr.length)
    (j1 : Just (la k) ((wr.setCell ⟨F, k * 4, none⟩ (.int .i64 ((k0 + fsz (fr.take k) : Nat) : Int))).setCell ⟨F, k * 4 + 1, none⟩ (.int .i64 ((k0 + fsz (fr.take k) : Nat) + 1 : Int))) w2) (m1 : MarkV w2 (la k) fr[k].locals.length fr[k].locals.length (k0 + fsz (fr.take k) + 2))
    (j2 : Just (sa k) w2 w3) (m2 : MarkV w3 (sa k) fr[k].stack.length fr[k].stack.length (k0 + fsz (fr.take k) + 2 + 3 * fr[k].locals.length)) : FMk w3 F la sa fr k0 (k + 1) := by
  obtain ⟨cur, h1, h2, h3⟩ := h
  have hF := block_set (block_set h1 (i := k * 4) (.int .i64 ((k0 + fsz (fr.take k) : Nat) : Int))) (i := k * 4 + 1) (.int .i64 ((k0 + fsz (fr.take k) : Nat) + 1 : Int))
  obtain ⟨e1, e2, e3, e4⟩ := h3 k hk
  obtain ⟨⟨cl, el, -⟩, ⟨cs, es, -⟩⟩ := e4 (Nat.le_refl _)
  have nL : F ≠ la k := fun e => by rw [← e, h1] at el; cases el
  have nS : F ≠ sa k := fun e => by rw [← e, h1] at es; cases es
  have hF3 := j2.kept (j1.kept hF nL) nS
  have K : ∀ b c, wr.heap[b]? = some (.cells c 36 (0, 0)) → b ≠ la k → b ≠ sa k → w3.heap[b]? = some (.cells c 36 (0, 0)) := fun b c hb n1 n2 => by
    have nF : b ≠ F := fun e => by rw [e, h1] at hb; cases hb
    refine j2.kept (j1.kept ?_ n1) n2
    rw [Below.heap_setCell _ _ _ _ (show b ≠ F from nF), Below.heap_setCell _ _ _ _ (show b ≠ F from nF)]
    exact hb
  refine ⟨_, hF3, by simpa using h2, fun j hj => ?_⟩
  obtain ⟨d1, d2, d3, d4⟩ := h3 j hj
  have s2 : ((cur.setIfInBounds (k * 4) (.int .i64 ((k0 + fsz (fr.take k) : Nat) : Int))).setIfInBounds (k * 4 + 1) (.int .i64 ((k0 + fsz (fr.take k) : Nat) + 1 : Int)))[j * 4 + 2]? = cur[j * 4 + 2]? := by rw [set_else _ (by omega), set_else _ (by omega)]
  have s3 : ((cur.setIfInBounds (k * 4) (.int .i64 ((k0 + fsz (fr.take k) : Nat) : Int))).setIfInBounds (k * 4 + 1) (.int .i64 ((k0 + fsz (fr.take k) : Nat) + 1 : Int)))[j * 4 + 3]? = cur[j * 4 + 3]? := by rw [set_else _ (by omega), set_else _ (by omega)]
  refine ⟨by rw [s2]; exact d1, by rw [s3]; exact d2, fun e => ?_, fun e => ?_⟩
  · by_cases ejk : j = k
    · subst ejk
      obtain ⟨c, m3, m4⟩ := m1
      refine ⟨?_, ?_, ⟨c, j2.kept m3 (hA.ls j j hj hj), m4⟩, m2⟩
      · rw [set_else _ (by omega)]
        exact set_self _ (by omega)
      · exact set_self _ (by simp; omega)
    · obtain ⟨x1, x2, ⟨c, x3, x4⟩, ⟨c', x5, x6⟩⟩ := d3 (by omega)
      refine ⟨by rw [set_else _ (by omega), set_else _ (by omega)]; exact x1, by rw [set_else _ (by omega), set_else _ (by omega)]; exact x2, ⟨c, K _ _ x3 (fun e => ejk (hA.li _ _ hj hk e)) (hA.ls _ _ hj hk), x4⟩, ⟨c', K _ _ x5 (fun e => hA.ls _ _ hk hj e.symm) (fun e => ejk (hA.si _ _ hj hk e)), x6⟩⟩
  · obtain ⟨⟨c, x3, x4⟩, ⟨c', x5, x6⟩⟩ := d4 (by omega)
    have ejk : j ≠ k := by omega
    exact ⟨⟨c, K _ _ x3 (fun e => ejk (hA.li _ _ hj hk e)) (hA.ls _ _ hj hk), x4⟩, ⟨c', K _ _ x5 (fun e => hA.ls _ _ hk hj e.symm) (fun e => ejk (hA.si _ _ hj hk e)), x6⟩⟩
end Go.Proofs.YtcfbahaokmhbkaaGreat
