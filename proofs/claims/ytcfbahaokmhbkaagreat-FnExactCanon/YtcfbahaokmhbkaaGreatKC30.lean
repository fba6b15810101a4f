/-
  Exact marks in frames, and what holds them.
  Exact marks in records, and what holds them.
-/
import Derived.Test.YtcfbahaokmhbkaaGreatKC29
namespace Go.Proofs.YtcfbahaokmhbkaaGreat
open Go.RowKit

set_option maxRecDepth 100000 in
set_option maxHeartbeats 2000000 in
theorem markFrameS_is (S : Nat → Prop) (F cap k0 : Nat) (fr : List Fr) (la sa : Nat → Nat) (w : World) (hn : fr.length ≤ 1048576) (hc : ∀ f ∈ fr, f.locals.length ≤ 1048576 ∧ f.stack.length ≤ 1048576) (h1 : k0 ≤ 1000000000) (hA : FAp fr.length la sa) (hS : S F) (hS2 : ∀ i, i < fr.length → S (la i) ∧ S (sa i)) (hF : FMk w F la sa fr k0 0) :
    Calls Tryz.prog 39 #[.slice (some ⟨F, 0, none⟩) fr.length cap, .int .i64 (k0 : Int)] w fun e w' => e = .returned (.int .i64 ((k0 + fsz fr : Nat) : Int)) ∧ Only S w w' ∧ FMk w' F la sa fr k0 fr.length := by
  go_enter Tryz.func39, Tryz.ntmps39
  go_wp2
  go_loopw [1, 5] (fun q i wr => ∃ (k : Nat), k ≤ fr.length ∧ i = .int .i64 k ∧ q = .int .i64 ((k0 + fsz (fr.take k) : Nat) : Int) ∧ Hid (Only S w wr) ∧ Hid (FMk wr F la sa fr k0 k)) (fun _ i _ => fr.length - (intOf i).toNat)
  case atStart => exact ⟨0, by omega, rfl, by simp [fsz], Only.refl _ _, hF⟩
  case round =>
    obtain ⟨k, hk, rfl, rfl, HK, HF⟩ := hrel
    by_cases hlt : k < fr.length
    · have hle := fsz_le hc k hk
      obtain ⟨m, hm⟩ : ∃ m, m = k0 + fsz (fr.take k) := ⟨_, rfl⟩
      have HM := hid hm
      have hmz : m ≤ 20000000000000 := by omega
      rw [← hm]
      obtain ⟨cur, hC, hcs, hcd⟩ := HF.out
      have hfz := block_free hC
      obtain ⟨y1, hy1⟩ : ∃ v, wr.cell? ⟨F, k * 4, none⟩ = some v := ⟨cur[k * 4]'(by omega), by rw [block_cell hC]; exact Array.getElem?_eq_getElem _⟩
      obtain ⟨y2, hy2⟩ : ∃ v, wr.cell? ⟨F, k * 4 + 1, none⟩ = some v := ⟨cur[k * 4 + 1]'(by omega), by rw [block_cell hC]; exact Array.getElem?_eq_getElem _⟩
      obtain ⟨d1, d2, -, d4⟩ := hcd k hlt
      obtain ⟨db, db2⟩ := d4 (Nat.le_refl _)
      obtain ⟨wx, hwx⟩ : ∃ wx, wx = (wr.setCell ⟨F, k * 4, none⟩ (.int .i64 (m : Int))).setCell ⟨F, k * 4 + 1, none⟩ (.int .i64 ((m : Int) + 1)) := ⟨_, rfl⟩
      have HWX := hid hwx
      have hKx : Only S wr wx := by rw [hwx]; exact ((Only.refl _ _).set hS _).set hS _
      have z2 : wr.cell? ⟨F, k * 4 + 2, none⟩ = some (.slice (some ⟨la k, 0, none⟩) fr[k].locals.length fr[k].locals.length) := by rw [block_cell hC]; exact d1
      have z3 : wr.cell? ⟨F, k * 4 + 3, none⟩ = some (.slice (some ⟨sa k, 0, none⟩) fr[k].stack.length fr[k].stack.length) := by rw [block_cell hC]; exact d2
      have hcl := (hc _ (List.getElem_mem hlt)).1
      have hcs2 := (hc _ (List.getElem_mem hlt)).2
      have K : ∀ b n, ValsBlk wr b n → ValsBlk wx b n := fun b n hb => by
        obtain ⟨c, hcb, hcz⟩ := hb
        have nF : b ≠ F := fun e => by rw [e, hC] at hcb; cases hcb
        refine ⟨c, ?_, hcz⟩
        rw [hwx, Below.heap_setCell _ _ _ _ nF, Below.heap_setCell _ _ _ _ nF]
        exact hcb
      have nLF : F ≠ la k := fun e => by obtain ⟨c, hcb, -⟩ := db; rw [← e, hC] at hcb; cases hcb
      have hmk := markValueS_is (la k) fr[k].locals.length fr[k].locals.length (m + 2) wx hcl (by omega) (K _ _ db)
      have hbx2 := hid (K _ _ db2)
      have hFx := block_set (block_set hC (i := k * 4) (.int .i64 (m : Int))) (i := k * 4 + 1) (.int .i64 ((m : Int) + 1))
      have hFx2 := hid (show wx.heap[F]? = some _ by rw [hwx]; exact hFx)
      have e1 : ((m + 2 : Nat) : Int) = (m : Int) + 1 + 1 := by omega
      rw [e1] at hmk
      have hD2 : ((cur.setIfInBounds (k * 4) (.int .i64 (m : Int))).setIfInBounds (k * 4 + 1) (.int .i64 ((m : Int) + 1)))[k * 4 + 3]? = some (.slice (some ⟨sa k, 0, none⟩) fr[k].stack.length fr[k].stack.length) := by rw [set_else _ (by omega), set_else _ (by omega)]; exact d2
      have HKX := hid hKx
      have HD2 := hid hD2
      clear hC hcs hcd db db2 hKx e1 d1 d2 d4 K hFx hle hm hD2
      go_wp2_with fail
      rw [← hwx]
      clear hwx y1 hy1 y2 hy2 hfz z2 z3
      refine hmk.mono ?_
      rintro e w2 ⟨rfl, hj2, hm2⟩
      have hFy := hj2.kept hFx2.out nLF
      have z3 : w2.cell? ⟨F, k * 4 + 3, none⟩ = some (.slice (some ⟨sa k, 0, none⟩) fr[k].stack.length fr[k].stack.length) := by rw [block_cell hFy]; exact HD2.out
      have hb2 : ValsBlk w2 (sa k) fr[k].stack.length := by
        obtain ⟨c, hcb, hcz⟩ := hbx2.out
        exact ⟨c, hj2.kept hcb (fun e => hA.ls k k hlt hlt e.symm), hcz⟩
      have hmk2 := markValueS_is (sa k) fr[k].stack.length fr[k].stack.length (m + 2 + 3 * fr[k].locals.length) w2 hcs2 (by omega) hb2
      have HJ2 := hid hj2
      have HM2 := hid hm2
      clear hmk hj2 hm2 hFy hb2 hbx2 hFx2 HD2
      obtain ⟨A0, hA0⟩ : ∃ A0 : Nat, A0 = m + 2 + 3 * fr[k].locals.length := ⟨_, rfl⟩
      have HA0 := hid hA0
      rw [← hA0] at hmk2 ⊢
      have hA0z : A0 ≤ 50000000000000 := by omega
      clear hA0
      go_wp2_with fail
      clear z3
      refine hmk2.mono ?_
      rintro e w3 ⟨rfl, hj3, hm3⟩
      have hstep : FMk w3 F la sa fr k0 (k + 1) := by
        have j1 := HJ2.out
        have m1 := HM2.out
        have m3 := hm3
        rw [HWX.out, HM.out] at j1
        rw [HM.out] at m1
        rw [HA0.out, HM.out] at m3
        exact HF.out.step hA hlt j1 m1 hj3 m3
      have HO := hid (((HK.out.trans HKX.out).trans (Only.just HJ2.out (hS2 k hlt).1)).trans (Only.just hj3 (hS2 k hlt).2))
      have HST := hid hstep
      clear hmk2 hj3 hm3 hstep
      go_wp2
      go_roundw
      case rel => exact ⟨k + 1, by omega, by go_num, by rw [fsz_more hlt]; congr 1; have h1 := HM.out; have h2 := HA0.out; omega, HO, HST⟩
      case measure => simp [intOf]; omega
    · have hkn : k = fr.length := by omega
      subst hkn
      rw [List.take_length]
      go_wp2
      go_ret
      exact ⟨rfl, HK.out, HF.out⟩

set_option maxRecDepth 100000 in
set_option maxHeartbeats 2000000 in
theorem heldValueS_w (g n cap k0 : Nat) (w : World) (hn : n ≤ 1048576) (h0 : 0 < k0) (h1 : k0 ≤ 100000000000000) (hk : MarkV w g n n k0) :
    Calls Tryz.prog 72 #[.slice (some ⟨g, 0, none⟩) n cap, .int .i64 (k0 : Int)] w fun e w' => e = .returned (.int .i64 ((k0 + 3 * n : Nat) : Int)) ∧ Below w.heap.size w w' := by
  go_enter Tryz.func72, Tryz.ntmps72
  go_wp2
  go_loopw [1, 5] (fun q i wr => ∃ (k : Nat), k ≤ n ∧ i = .int .i64 k ∧ q = .int .i64 ((k0 + 3 * k : Nat) : Int) ∧ Below w.heap.size w wr) (fun _ i _ => n - (intOf i).toNat)
  case atStart => exact ⟨0, by omega, rfl, rfl, Below.refl _ _⟩
  case round =>
    obtain ⟨k, hkn, rfl, rfl, hb⟩ := hrel
    by_cases hlt : k < n
    · obtain ⟨cur, hC, -, hd⟩ := hk
      obtain ⟨d1, d2, d3⟩ := hd k hlt
      have c1 := cell_later hb (show w.cell? ⟨g, k * 3, none⟩ = _ by rw [block_cell hC]; exact d1)
      have c2 := cell_later hb (show w.cell? ⟨g, k * 3 + 1, none⟩ = _ by rw [block_cell hC]; exact d2)
      have c3 := cell_later hb (show w.cell? ⟨g, k * 3 + 2, none⟩ = _ by rw [block_cell hC]; exact d3)
      clear hd d1 d2 d3
      obtain ⟨A0, hA0⟩ : ∃ A0 : Int, A0 = ((k0 + 3 * k : Nat) : Int) := ⟨_, rfl⟩
      have hA1 : Hid (A0 = ((k0 + 3 * k : Nat) : Int)) := hA0
      have hAlo : 0 ≤ A0 := by omega
      have hAhi : A0 ≤ 200000000000000 := by omega
      rw [← hA0] at c1 ⊢
      rw [show ((k0 + 3 * k + 1 : Nat) : Int) = A0 + 1 by omega] at c2
      have hmt := fun W => markText_is (k0 + 3 * k + 2) W (by omega) (by omega)
      rw [show ((k0 + 3 * k + 2 : Nat) : Int) = A0 + 1 + 1 by omega] at hmt
      have HMT : Hid (∀ W, Calls Tryz.prog 69 #[.int .i64 (A0 + 1 + 1)] W fun e w' => e = .returned (.string (mText (k0 + 3 * k + 2))) ∧ Below W.heap.size W w') := hmt
      obtain ⟨T, hT⟩ : ∃ T, T = mText (k0 + 3 * k + 2) := ⟨_, rfl⟩
      rw [← hT] at c3 HMT
      clear hA0 hmt hT
      have HSv : Hid (∀ w', Below wr.heap.size wr w' → w'.cell? ⟨g, k * 3 + 2, none⟩ = some (.string T)) := fun w' hb' => cell_later hb' c3
      have q : Below wr.heap.size wr wr.drew := (Below.refl _ _).drew
      go_wp2
      go_region_held3 (fun w' => w'.cell? ⟨g, k * 3 + 2, none⟩ = some (.string T))
        (first | exact c3 | exact HSv.out _ q)
        (first
          | (go_at_call 69; refine (HMT.out _).mono ?_; rintro e w5 ⟨rfl, kd⟩; have q := q.trans (kd.mono q.size)))
      have hB := hb.trans (q.mono hb.size)
      go_wp2
      go_roundw
      case rel => exact ⟨k + 1, by omega, by go_num, by rw [show ((k0 + 3 * (k + 1) : Nat) : Int) = A0 + 1 + 1 + 1 by have := hA1.out; omega], hB⟩
      case measure => simp [intOf]; omega
    · have hkn2 : k = n := by omega
      subst hkn2
      go_wp2
      go_ret
      exact ⟨rfl, hb⟩

set_option maxRecDepth 100000 in
set_option maxHeartbeats 2000000 in
theorem heldFrameS_is (F cap k0 : Nat) (fr : List Fr) (la sa : Nat → Nat) (w : World) (hn : fr.length ≤ 1048576) (hc : ∀ f ∈ fr, f.locals.length ≤ 1048576 ∧ f.stack.length ≤ 1048576) (h0 : 0 < k0) (h1 : k0 ≤ 1000000000) (hF : FMk w F la sa fr k0 fr.length) :
    Calls Tryz.prog 41 #[.slice (some ⟨F, 0, none⟩) fr.length cap, .int .i64 (k0 : Int)] w fun e w' => e = .returned (.int .i64 ((k0 + fsz fr : Nat) : Int)) ∧ Below w.heap.size w w' := by
  go_enter Tryz.func41, Tryz.ntmps41
  go_wp2
  go_loopw [1, 5] (fun q i wr => ∃ (k : Nat), k ≤ fr.length ∧ i = .int .i64 k ∧ q = .int .i64 ((k0 + fsz (fr.take k) : Nat) : Int) ∧ Hid (Below w.heap.size w wr)) (fun _ i _ => fr.length - (intOf i).toNat)
  case atStart => exact ⟨0, by omega, rfl, by simp [fsz], Below.refl _ _⟩
  case round =>
    obtain ⟨k, hk, rfl, rfl, HB⟩ := hrel
    by_cases hlt : k < fr.length
    · have hle := fsz_le hc k hk
      obtain ⟨m, hm⟩ : ∃ m, m = k0 + fsz (fr.take k) := ⟨_, rfl⟩
      have HM := hid hm
      have hmz : m ≤ 20000000000000 := by omega
      have hm0 : 0 < m := by omega
      rw [← hm]
      obtain ⟨cur, hC, hcs, hcd⟩ := hF
      obtain ⟨d1, d2, d3, -⟩ := hcd k hlt
      obtain ⟨t1, t2, t3, t4⟩ := d3 hlt
      rw [← hm] at t1 t2 t3 t4
      have hCr := block_kept hC HB.out
      have y1 : wr.cell? ⟨F, k * 4, none⟩ = some (.int .i64 (m : Int)) := by rw [block_cell hCr]; exact t1
      have y2 : wr.cell? ⟨F, k * 4 + 1, none⟩ = some (.int .i64 ((m : Int) + 1)) := by rw [block_cell hCr]; exact t2
      have z2 : wr.cell? ⟨F, k * 4 + 2, none⟩ = some (.slice (some ⟨la k, 0, none⟩) fr[k].locals.length fr[k].locals.length) := by rw [block_cell hCr]; exact d1
      have hcl := (hc _ (List.getElem_mem hlt)).1
      have hcs2 := (hc _ (List.getElem_mem hlt)).2
      have hmk := heldValueS_w (la k) fr[k].locals.length fr[k].locals.length (m + 2) wr hcl (by omega) (by omega) (t3.mono HB.out)
      have e1 : ((m + 2 : Nat) : Int) = (m : Int) + 1 + 1 := by omega
      rw [e1] at hmk
      have HC := hid hC
      have HD2 := hid d2
      have HT4 := hid t4
      clear hC hcs hcd d1 d2 d3 t1 t2 t3 t4 hCr hle hm e1
      go_wp2_with fail
      clear y1 y2 z2
      refine hmk.mono ?_
      rintro e w2 ⟨rfl, hb2⟩
      have HB2 := hid (HB.out.trans (hb2.mono HB.out.size))
      have z3 : w2.cell? ⟨F, k * 4 + 3, none⟩ = some (.slice (some ⟨sa k, 0, none⟩) fr[k].stack.length fr[k].stack.length) := by rw [block_cell (block_kept HC.out HB2.out)]; exact HD2.out
      have hmk2 := heldValueS_w (sa k) fr[k].stack.length fr[k].stack.length (m + 2 + 3 * fr[k].locals.length) w2 hcs2 (by omega) (by omega) (HT4.out.mono HB2.out)
      clear hmk hb2
      obtain ⟨A0, hA0⟩ : ∃ A0 : Nat, A0 = m + 2 + 3 * fr[k].locals.length := ⟨_, rfl⟩
      have HA0 := hid hA0
      rw [← hA0] at hmk2 ⊢
      have hA0z : A0 ≤ 50000000000000 := by omega
      clear hA0
      go_wp2_with fail
      clear z3
      refine hmk2.mono ?_
      rintro e w3 ⟨rfl, hb3⟩
      have HB3 := hid (HB2.out.trans (hb3.mono HB2.out.size))
      clear hmk2 hb3
      obtain ⟨A1, hA1⟩ : ∃ A1 : Nat, A1 = A0 + 3 * fr[k].stack.length := ⟨_, rfl⟩
      have HA1 := hid hA1
      rw [← hA1]
      have hA1z : A1 ≤ 60000000000000 := by omega
      clear hA1
      go_wp2
      go_roundw
      case rel => exact ⟨k + 1, by omega, by go_num, by rw [fsz_more hlt]; congr 1; have h1 := HM.out; have h2 := HA0.out; have h3 := HA1.out; omega, HB3⟩
      case measure => simp [intOf]; omega
    · have hkn : k = fr.length := by omega
      subst hkn
      rw [List.take_length]
      go_wp2
      go_ret
      exact ⟨rfl, HB.out⟩
end Go.Proofs.YtcfbahaokmhbkaaGreat

namespace Go.Proofs.YtcfbahaokmhbkaaGreat
open Go.RowKit

/-- How many marks records take. -/
def rsz (rs : List (List Vl)) : Nat := (rs.map fun r => 3 * r.length).sum
theorem rsz_more {rs : List (List Vl)} {k : Nat} (h : k < rs.length) : rsz (rs.take (k + 1)) = rsz (rs.take k) + 3 * rs[k].length := by
  unfold rsz
  rw [List.take_succ_eq_append_getElem h, List.map_append, List.sum_append]
  simp
theorem rsz_le {rs : List (List Vl)} (hc : ∀ r ∈ rs, r.length ≤ 1048576) (k : Nat) (hk : k ≤ rs.length) : rsz (rs.take k) ≤ k * 4000000 := by
  induction k with
  | zero => simp [rsz]
  | succ n ih =>
    have := ih (by omega)
    have h1 := hc rs[n] (List.getElem_mem (by omega))
    rw [rsz_more (by omega)]
    omega

/-- Records in blocks of their own, the first m of them marked. -/
structure RMk (w : World) (ha : Option Addr) (rb : Nat → Nat) (rs : List (List Vl)) (k0 m : Nat) : Prop where
  row : ∀ j (hj : j < rs.length), ∃ R cur, ha = some ⟨R, 0, none⟩ ∧ w.heap[R]? = some (.cells cur 94 (0, 0)) ∧ cur[j]? = some (.slice (some ⟨rb j, 0, none⟩) rs[j].length rs[j].length)
  done : ∀ j (hj : j < rs.length), j < m → MarkV w (rb j) rs[j].length rs[j].length (k0 + rsz (rs.take j))
  todo : ∀ j (hj : j < rs.length), m ≤ j → ValsBlk w (rb j) rs[j].length

theorem RMk.kept {w w' : World} {ha : Option Addr} {k0 m : Nat} {rb : Nat → Nat} {rs : List (List Vl)} (h : RMk w ha rb rs k0 m) (hk : ∀ b c t, (t = 94 ∨ (t = 36 ∧ ∃ i, i < rs.length ∧ b = rb i)) → w.heap[b]? = some (.cells c t (0, 0)) → w'.heap[b]? = some (.cells c t (0, 0))) : RMk w' ha rb rs k0 m := by
  refine ⟨fun j hj => ?_, fun j hj e => ?_, fun j hj e => ?_⟩
  · obtain ⟨R, cur, e, h1, h2⟩ := h.row j hj
    exact ⟨R, cur, e, hk _ _ _ (.inl rfl) h1, h2⟩
  · obtain ⟨c, h1, h2⟩ := h.done j hj e
    exact ⟨c, hk _ _ _ (.inr ⟨rfl, j, hj, rfl⟩) h1, h2⟩
  · obtain ⟨c, h1, h2⟩ := h.todo j hj e
    exact ⟨c, hk _ _ _ (.inr ⟨rfl, j, hj, rfl⟩) h1, h2⟩

theorem RMk.step {wr w2 : World} {ha : Option Addr} {k0 k : Nat} {rb : Nat → Nat} {rs : List (List Vl)} (h : RMk wr ha rb rs k0 k) (hA : ∀ i j, i < rs.length → j < rs.length → rb i = rb j → i = j) (hk : k < rs.length)
    (j1 : Just (rb k) wr w2) (m1 : MarkV w2 (rb k) rs[k].length rs[k].length (k0 + rsz (rs.take k))) : RMk w2 ha rb rs k0 (k + 1) := by
  obtain ⟨cl, el, -⟩ := h.todo k hk (Nat.le_refl _)
  refine ⟨fun j hj => ?_, fun j hj e => ?_, fun j hj e => ?_⟩
  · obtain ⟨R, cur, e, h1, h2⟩ := h.row j hj
    exact ⟨R, cur, e, j1.kept h1 (fun e => by rw [e, el] at h1; cases h1), h2⟩
  · by_cases ejk : j = k
    · subst ejk
      exact m1
    · obtain ⟨c, h1, h2⟩ := h.done j hj (by omega)
      exact ⟨c, j1.kept h1 (fun e => ejk (hA _ _ hj hk e)), h2⟩
  · obtain ⟨c, h1, h2⟩ := h.todo j hj (by omega)
    exact ⟨c, j1.kept h1 (fun e => by have := hA _ _ hj hk e; omega), h2⟩

set_option maxRecDepth 100000 in
set_option maxHeartbeats 2000000 in
theorem markRecS_is (S : Nat → Prop) (ha : Option Addr) (cap k0 : Nat) (rs : List (List Vl)) (rb : Nat → Nat) (w : World) (hn : rs.length ≤ 1048576) (hc : ∀ r ∈ rs, r.length ≤ 1048576) (h1 : k0 ≤ 10000000000000) (hA : ∀ i j, i < rs.length → j < rs.length → rb i = rb j → i = j) (hS : ∀ i, i < rs.length → S (rb i)) (hR : RMk w ha rb rs k0 0) :
    Calls Tryz.prog 40 #[.slice ha rs.length cap, .int .i64 (k0 : Int)] w fun e w' => e = .returned (.int .i64 ((k0 + rsz rs : Nat) : Int)) ∧ Only S w w' ∧ RMk w' ha rb rs k0 rs.length := by
  go_enter Tryz.func40, Tryz.ntmps40
  go_wp2
  go_loopw [1, 5] (fun q i wr => ∃ (k : Nat), k ≤ rs.length ∧ i = .int .i64 k ∧ q = .int .i64 ((k0 + rsz (rs.take k) : Nat) : Int) ∧ Hid (Only S w wr) ∧ Hid (RMk wr ha rb rs k0 k)) (fun _ i _ => rs.length - (intOf i).toNat)
  case atStart => exact ⟨0, by omega, rfl, by simp [rsz], Only.refl _ _, hR⟩
  case round =>
    obtain ⟨k, hk, rfl, rfl, HK, HF⟩ := hrel
    by_cases hlt : k < rs.length
    · have hle := rsz_le hc k hk
      obtain ⟨m, hm⟩ : ∃ m, m = k0 + rsz (rs.take k) := ⟨_, rfl⟩
      have HM := hid hm
      have hmz : m ≤ 20000000000000 := by omega
      rw [← hm]
      obtain ⟨R, cur, he, hC, hd⟩ := HF.out.row k hlt
      subst he
      have z2 : wr.cell? ⟨R, k, none⟩ = some (.slice (some ⟨rb k, 0, none⟩) rs[k].length rs[k].length) := by rw [block_cell hC]; exact hd
      have hcl := hc _ (List.getElem_mem hlt)
      have hmk := markValueS_is (rb k) rs[k].length rs[k].length m wr hcl (by omega) (HF.out.todo k hlt (Nat.le_refl _))
      clear hC hd hle hm
      go_wp2_with fail
      clear z2
      refine hmk.mono ?_
      rintro e w2 ⟨rfl, hj2, hm2⟩
      have HST := hid (HF.out.step hA hlt hj2 (by rw [← HM.out]; exact hm2))
      have HO := hid (HK.out.trans (Only.just hj2 (hS k hlt)))
      clear hmk hj2 hm2
      obtain ⟨A0, hA0⟩ : ∃ A0 : Nat, A0 = m + 3 * rs[k].length := ⟨_, rfl⟩
      have HA0 := hid hA0
      rw [← hA0]
      have hA0z : A0 ≤ 50000000000000 := by omega
      clear hA0
      go_wp2
      go_roundw
      case rel => exact ⟨k + 1, by omega, by go_num, by rw [rsz_more hlt]; congr 1; have h1 := HM.out; have h2 := HA0.out; omega, HO, HST⟩
      case measure => simp [intOf]; omega
    · have hkn : k = rs.length := by omega
      subst hkn
      rw [List.take_length]
      go_wp2
      go_ret
      exact ⟨rfl, HK.out, HF.out⟩

set_option maxRecDepth 100000 in
set_option maxHeartbeats 2000000 in
theorem heldRecS_is (ha : Option Addr) (cap k0 : Nat) (rs : List (List Vl)) (rb : Nat → Nat) (w : World) (hn : rs.length ≤ 1048576) (hc : ∀ r ∈ rs, r.length ≤ 1048576) (h0 : 0 < k0) (h1 : k0 ≤ 10000000000000) (hR : RMk w ha rb rs k0 rs.length) :
    Calls Tryz.prog 42 #[.slice ha rs.length cap, .int .i64 (k0 : Int)] w fun e w' => e = .returned (.int .i64 ((k0 + rsz rs : Nat) : Int)) ∧ Below w.heap.size w w' := by
  go_enter Tryz.func42, Tryz.ntmps42
  go_wp2
  go_loopw [1, 5] (fun q i wr => ∃ (k : Nat), k ≤ rs.length ∧ i = .int .i64 k ∧ q = .int .i64 ((k0 + rsz (rs.take k) : Nat) : Int) ∧ Hid (Below w.heap.size w wr)) (fun _ i _ => rs.length - (intOf i).toNat)
  case atStart => exact ⟨0, by omega, rfl, by simp [rsz], Below.refl _ _⟩
  case round =>
    obtain ⟨k, hk, rfl, rfl, HB⟩ := hrel
    by_cases hlt : k < rs.length
    · have hle := rsz_le hc k hk
      obtain ⟨m, hm⟩ : ∃ m, m = k0 + rsz (rs.take k) := ⟨_, rfl⟩
      have HM := hid hm
      have hmz : m ≤ 20000000000000 := by omega
      have hm0 : 0 < m := by omega
      rw [← hm]
      obtain ⟨R, cur, he, hC, hd⟩ := hR.row k hlt
      have t3 := hR.done k hlt hlt
      rw [← hm] at t3
      subst he
      have z2 : wr.cell? ⟨R, k, none⟩ = some (.slice (some ⟨rb k, 0, none⟩) rs[k].length rs[k].length) := by rw [block_cell (block_kept hC HB.out)]; exact hd
      have hcl := hc _ (List.getElem_mem hlt)
      have hmk := heldValueS_w (rb k) rs[k].length rs[k].length m wr hcl (by omega) (by omega) (t3.mono HB.out)
      clear hC hd hle hm t3
      go_wp2_with fail
      clear z2
      refine hmk.mono ?_
      rintro e w2 ⟨rfl, hb2⟩
      have HB2 := hid (HB.out.trans (hb2.mono HB.out.size))
      clear hmk hb2
      obtain ⟨A0, hA0⟩ : ∃ A0 : Nat, A0 = m + 3 * rs[k].length := ⟨_, rfl⟩
      have HA0 := hid hA0
      rw [← hA0]
      have hA0z : A0 ≤ 50000000000000 := by omega
      clear hA0
      go_wp2
      go_roundw
      case rel => exact ⟨k + 1, by omega, by go_num, by rw [rsz_more hlt]; congr 1; have h1 := HM.out; have h2 := HA0.out; omega, HB2⟩
      case measure => simp [intOf]; omega
    · have hkn : k = rs.length := by omega
      subst hkn
      rw [List.take_length]
      go_wp2
      go_ret
      exact ⟨rfl, HB.out⟩

/-- Texts in a block, the first m of them marked. -/
def OMk (w : World) (O n k0 m : Nat) : Prop := ∃ cur : Array Value, w.heap[O]? = some (.cells cur 9 (0, 0)) ∧ cur.size = n ∧ ∀ j, j < m → cur[j]? = some (.string (mText (k0 + j)))
theorem OMk.mono {w w' : World} {O n k0 m : Nat} (h : OMk w O n k0 m) (hb : Below w.heap.size w w') : OMk w' O n k0 m := by
  obtain ⟨c, h1, h2⟩ := h
  exact ⟨c, block_kept h1 hb, h2⟩

set_option maxRecDepth 100000 in
set_option maxHeartbeats 2000000 in
theorem markStringS_is (O n cap k0 : Nat) (w : World) (hn : n ≤ 1048576) (h0 : 0 < k0) (h1 : k0 ≤ 100000000000000) (hO : TextBlk w O n) :
    Calls Tryz.prog 37 #[.slice (some ⟨O, 0, none⟩) n cap, .int .i64 (k0 : Int)] w fun e w' => e = .returned (.int .i64 ((k0 + n : Nat) : Int)) ∧ Just O w w' ∧ OMk w' O n k0 n := by
  go_enter Tryz.func37, Tryz.ntmps37
  go_wp2
  go_loopw [1, 5] (fun q i wr => ∃ (k : Nat), k ≤ n ∧ i = .int .i64 k ∧ q = .int .i64 ((k0 + k : Nat) : Int) ∧ Hid (Just O w wr) ∧ Hid (OMk wr O n k0 k)) (fun _ i _ => n - (intOf i).toNat)
  case atStart =>
    obtain ⟨c, h2, h3⟩ := hO
    exact ⟨0, by omega, rfl, rfl, Just.refl _ _, c, h2, h3, fun j hj => by omega⟩
  case round =>
    obtain ⟨k, hk, rfl, rfl, HJ, HO⟩ := hrel
    by_cases hlt : k < n
    · obtain ⟨m, hm⟩ : ∃ m, m = k0 + k := ⟨_, rfl⟩
      have HM := hid hm
      have hmz : m ≤ 200000000000000 := by omega
      have hm0 : 0 < m := by omega
      rw [← hm]
      have hmt := markText_is m wr hm0 (by omega)
      clear hm
      go_wp2_with fail
      refine hmt.mono ?_
      rintro e w1 ⟨rfl, hb⟩
      obtain ⟨cur, hblk, hsz, hd⟩ := HO.out.mono hb
      have hfz := block_free hblk k
      have hcl : w1.cell? ⟨O, k, none⟩ = some cur[k] := by rw [block_cell hblk k]; simp
      have HD := hid hd
      have HBK := hid hblk
      have HJ1 := hid ((HJ.out.trans (Just.of hb)).set (i := k) (.string (mText m)))
      have HZ := hid hsz
      obtain ⟨T, hT⟩ : ∃ T, T = mText m := ⟨_, rfl⟩
      have HT := hid hT
      rw [← hT]
      clear hmt hd hblk hb hT
      go_wp2
      go_roundw
      case rel =>
        refine ⟨k + 1, by omega, by go_num, by congr 1; have := HM.out; omega, by rw [HT.out]; exact HJ1, _, block_set HBK.out _, by simpa using HZ.out, fun j hj => ?_⟩
        by_cases e : j = k
        · subst e
          rw [set_self _ (by have := HZ.out; omega), HT.out, HM.out]
        · rw [set_else _ e]
          exact HD.out j (by omega)
      case measure => simp [intOf]; omega
    · have hkn : k = n := by omega
      subst hkn
      go_wp2
      go_ret
      exact ⟨rfl, HJ.out, HO.out⟩
end Go.Proofs.YtcfbahaokmhbkaaGreat
