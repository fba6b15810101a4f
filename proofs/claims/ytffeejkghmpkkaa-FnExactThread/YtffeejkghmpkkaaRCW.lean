/-
  The passes done one behind the other: impl.settled, for cutUnreached.
-/
import Derived.Test.YtffeejkghmpkkaaRMT7
namespace Go.Proofs.Ytffeejkghmpkkaa
open Go.RowKit

/-- A row of instructions in memory of one's own. -/
def CRow (w : World) (B : Nat) (v : Value) (ys : List (Int × Int)) : Prop := ∃ a c, v = .slice a ys.length c ∧ w.ownsRow B 54 2 (.slice a ys.length c) ys.length (codeVals ys)

theorem goneL_none {g : Nat → Bool} {n : Nat} (h : ∀ i, i < n → g i = false) : ∀ k, k ≤ n → goneL g k = [] := by
  intro k
  induction k with
  | zero => exact fun _ => rfl
  | succ k ih => exact fun hk => by rw [goneL_no (h k (by omega)), ih (by omega)]

set_option maxRecDepth 100000 in
set_option maxHeartbeats 8000000 in
theorem setCutN_any (n : Nat) (hn : Hid (n = 1)) (w0 w : World) (a1 a2 : Option Addr) (nt c1 c2 pb B cap : Nat) (fs : List Fn) (code : List (Int × Int)) (d : List Int) (ca : Option Addr) (hfn : FnsAt w0 0 a2 fs) (hp : w0.cell? ⟨pb, 0, none⟩ = some (.func (.func 23) #[] #[])) (hb : Below w0.heap.size w0 w) (hBw : B ≤ w.heap.size) (F : Fine fs code) (hD : Done fs code d) (L : Lab fs code d)
    (hown : w.ownsRow B 54 2 (.slice ca code.length cap) code.length (codeVals code)) :
    Calls Try.prog 41 #[.agg #[.slice a1 nt c1, .slice a2 fs.length c2], .slice ca code.length cap, .slice (some ⟨pb, 0, none⟩) n n] w fun e w' => ∃ v, e = .returned v ∧ CRow w' B v (cutOf fs code) ∧ Below B w w' := by
  obtain ⟨hL2, hF2, hN2⟩ := cut_lab F L
  have hcut : cutOf fs code = takeOut (goneD d) code := by unfold cutOf; rw [dOf_eq hD]
  obtain ⟨ys, hys⟩ : ∃ ys, ys = cutOf fs code := ⟨_, rfl⟩
  have hyt : takeOut (goneD d) code = ys := by rw [hys, hcut]
  rw [← hcut, ← hys] at hL2 hF2 hN2
  have hid2 := takeOut_id hF2 hN2
  have hg2 := goneL_none hN2 _ (Nat.le_refl _)
  have hbA : Below w.heap.size w (w.alloc (.cells #[.slice a1 nt c1, .slice a2 fs.length c2] 29)) := (Below.refl _ _).alloc (Nat.le_refl _) _
  have hM := block_new w #[.slice a1 nt c1, .slice a2 fs.length c2] 29
  have hb0 : Below w0.heap.size w0 (w.alloc (.cells #[.slice a1 nt c1, .slice a2 fs.length c2] 29)) := hb.trans (hbA.mono hb.size)
  have hBA : Below B w (w.alloc (.cells #[.slice a1 nt c1, .slice a2 fs.length c2] 29)) := hbA.mono hBw
  have hownA := own_keeps (B := 0) (ts := []) hown (Keeps.below hbA) (by simp)
  -- what the pass does
  have P1 : Hid (∀ (W : World) (a : Option Addr) (c : Nat), Below w0.heap.size w0 W → W.ownsRow B 54 2 (.slice a code.length c) code.length (codeVals code) → B ≤ W.heap.size → Calls Try.prog 23 #[.agg #[.slice a1 nt c1, .slice a2 fs.length c2], .slice a code.length c] W fun e w' => ∃ G ch, e = .returned (.tuple #[.slice (some ⟨G, 0, none⟩) ys.length ys.length, .bool ch]) ∧ w'.ownsRow B 54 2 (.slice (some ⟨G, 0, none⟩) ys.length ys.length) ys.length (codeVals ys) ∧ Below W.heap.size W w') := fun W a c hW ho hBW => by
    obtain ⟨g, rfl, -⟩ := own_ptr ho F.one
    refine (cutU_any a1 a2 nt c1 c2 g 0 c fs code d W (hfn.mono hW) ((code_at ho).low (Nat.zero_le _)) F L (own_cap ho)).mono ?_
    rintro e w' ⟨G, rfl, h1, h2⟩
    rw [hyt] at h1 ⊢
    exact ⟨G, _, rfl, own_low h1 hBW, h2⟩
  have P2 : Hid (∀ (W : World) (a : Option Addr) (c : Nat), Below w0.heap.size w0 W → W.ownsRow B 54 2 (.slice a ys.length c) ys.length (codeVals ys) → B ≤ W.heap.size → Calls Try.prog 23 #[.agg #[.slice a1 nt c1, .slice a2 fs.length c2], .slice a ys.length c] W fun e w' => ∃ G, e = .returned (.tuple #[.slice (some ⟨G, 0, none⟩) ys.length ys.length, .bool false]) ∧ w'.ownsRow B 54 2 (.slice (some ⟨G, 0, none⟩) ys.length ys.length) ys.length (codeVals ys) ∧ Below W.heap.size W w') := fun W a c hW ho hBW => by
    obtain ⟨g, rfl, -⟩ := own_ptr ho hF2.one
    refine (cutU_any a1 a2 nt c1 c2 g 0 c fs ys _ W (hfn.mono hW) ((code_at ho).low (Nat.zero_le _)) hF2 hL2 (own_cap ho)).mono ?_
    rintro e w' ⟨G, rfl, h1, h2⟩
    rw [hid2] at h1 ⊢
    rw [hg2]
    exact ⟨G, rfl, own_low h1 hBW, h2⟩
  rw [← hys]
  have HP := hid hp
  have hszB : B ≤ (w.alloc (.cells #[.slice a1 nt c1, .slice a2 fs.length c2] 29)).heap.size := by rw [World.size_alloc]; omega
  go_enter Try.func41, Try.ntmps41
  obtain ⟨wA, hwA⟩ : ∃ wA, wA = w.alloc (.cells #[.slice a1 nt c1, .slice a2 fs.length c2] 29) := ⟨_, rfl⟩
  go_upto_region 1 with fail
  rw [← hwA]
  rw [← hwA] at hb0 hBA hownA hszB
  have hMA : wA.heap[w.heap.size]? = some (.cells #[.slice a1 nt c1, .slice a2 fs.length c2] 29 (0, 0)) := by rw [hwA]; exact hM
  have HMLT : Hid (w.heap.size < wA.heap.size) := lt_block hMA
  clear hwA hM hbA hown hcut hys hyt hid2 hg2 hL2 hF2 hN2 hfn hp hD L F hb
  go_wp2
  go_loopw [1, 13] (fun v i wr => ∃ (k : Nat), k ≤ n ∧ i = .int .i64 k ∧ Hid (k = 0 → CRow wr B v code) ∧ Hid (k = 1 → CRow wr B v ys) ∧ Below w0.heap.size w0 wr ∧ Below B w wr ∧ B ≤ wr.heap.size ∧ wr.heap[w.heap.size]? = some (.cells #[.slice a1 nt c1, .slice a2 fs.length c2] 29 (0, 0))) (fun _ i _ => n - (intOf i).toNat)
  case atStart => exact ⟨0, by omega, rfl, fun _ => ⟨ca, cap, rfl, hownA⟩, fun h => by omega, hb0, hBA, hszB, hMA⟩
  case round =>
    obtain ⟨k, hk, rfl, HR0, HR1, hb0r, hBr, hsz, hMr⟩ := hrel
    clear hb0 hBA hownA hszB hMA
    have hn9 : n ≤ 9 := by have := hn.out; omega
    by_cases hlt : k < n
    · have hk0 : k = 0 := by have := hn.out; omega
      obtain ⟨a, c, rfl, hrow⟩ := HR0.out hk0
      have hpc : wr.cell? ⟨pb, k, none⟩ = some (.func (.func 23) #[] #[]) := by rw [hk0]; exact cell_later hb0r HP.out
      have HK0 := hid hk0
      clear hk0
      obtain ⟨wo, hwo⟩ : ∃ wo, wo = wr := ⟨_, rfl⟩
      rw [← hwo] at hb0r hBr hsz hMr hrow hpc
      subst hwo
      clear HR0 HR1
      go_wp2
      go_loopw [1, 9, 10] (fun v ch i wr => ∃ (t : Nat) (b : Bool), t ≤ 2 ∧ i = .int .i64 t ∧ ch = .bool b ∧ Hid (t = 0 → b = true ∧ CRow wr B v code) ∧ Hid (1 ≤ t → CRow wr B v ys) ∧ Hid (t = 2 → b = false) ∧ Below w0.heap.size w0 wr ∧ Below B w wr ∧ B ≤ wr.heap.size ∧ wr.heap[w.heap.size]? = some (.cells #[.slice a1 nt c1, .slice a2 fs.length c2] 29 (0, 0))) (fun _ _ i _ => 2 - (intOf i).toNat)
      case atStart => exact ⟨0, true, by omega, rfl, rfl, fun _ => ⟨rfl, a, c, rfl, hrow⟩, fun h => by omega, fun h => by omega, hb0r, hBr, hsz, hMr⟩
      case round =>
        obtain ⟨t, b, ht, rfl, rfl, HT0, HT1, HT2, hb0x, hBx, hszx, hMx⟩ := hrel
        clear hb0r hBr hsz hMr hrow
        have m1 := block_cell hMx
        cases b with
        | true =>
          by_cases h0 : t = 0
          · obtain ⟨-, ax, cx, rfl, hrowx⟩ := HT0.out h0
            have HT := hid h0
            have ht1 : t ≤ 1 := by omega
            clear h0
            go_wp2_with fail
            refine (P1.out _ ax cx (by exact hb0x) (by exact hrowx) (by exact hszx)).mono ?_
            rintro e w3 ⟨G, ch, rfl, hrow3, hb3⟩
            have hM3 := block_kept hMx hb3
            have hb03 := hb0x.trans (hb3.mono hb0x.size)
            have hB3 := hBx.trans (hb3.mono hszx)
            have hsz3 : B ≤ w3.heap.size := Nat.le_trans hszx hb3.size
            have HR3 := hid hrow3
            clear hrow3 hb3 hrowx HT0 HT1 HT2 m1
            go_wp2
            go_roundw
            case rel => exact ⟨t + 1, ch, by omega, by go_num, rfl, fun h => by omega, fun _ => ⟨_, _, rfl, HR3.out⟩, fun h => by have := HT.out; omega, hb03, hB3, hsz3, hM3⟩
            case measure => simp [intOf]; have := HT.out; omega
          · have h1 : t = 1 := by
              by_cases h2 : t = 2
              · have := HT2.out h2; cases this
              · omega
            obtain ⟨ax, cx, rfl, hrowx⟩ := HT1.out (by omega)
            have HT := hid h1
            have ht1 : t ≤ 1 := by omega
            clear h1 h0
            go_wp2_with fail
            refine (P2.out _ ax cx (by exact hb0x) (by exact hrowx) (by exact hszx)).mono ?_
            rintro e w3 ⟨G, rfl, hrow3, hb3⟩
            have hM3 := block_kept hMx hb3
            have hb03 := hb0x.trans (hb3.mono hb0x.size)
            have hB3 := hBx.trans (hb3.mono hszx)
            have hsz3 : B ≤ w3.heap.size := Nat.le_trans hszx hb3.size
            have HR3 := hid hrow3
            clear hrow3 hb3 hrowx HT0 HT1 HT2 m1
            go_wp2
            go_roundw
            case rel => exact ⟨t + 1, false, by omega, by go_num, rfl, fun h => by omega, fun _ => ⟨_, _, rfl, HR3.out⟩, fun _ => rfl, hb03, hB3, hsz3, hM3⟩
            case measure => simp [intOf]; have := HT.out; omega
        | false =>
          have HRX : Hid (1 ≤ t) := by
            by_cases h0 : t = 0
            · have := (HT0.out h0).1; cases this
            · show _ ≤ _; omega
          obtain ⟨ax, cx, rfl, hrowx⟩ := HT1.out HRX.out
          have HR3 := hid hrowx
          clear HT0 HT1 HT2 hrowx m1 HRX
          go_wp2
          go_roundw
          case rel => exact ⟨k + 1, by omega, by go_num, fun h => by have := HK0.out; omega, fun _ => ⟨_, _, rfl, HR3.out⟩, hb0x, hBx, hszx, hMx⟩
          case measure => simp [intOf]; omega
    · have hk1 : k = 1 := by have := hn.out; omega
      obtain ⟨a, c, rfl, hrow⟩ := HR1.out hk1
      have HR3 := hid hrow
      clear HR0 HR1 hrow
      go_wp2
      go_ret
      exact ⟨_, rfl, ⟨_, _, rfl, HR3.out⟩, hBr⟩
end Go.Proofs.Ytffeejkghmpkkaa
