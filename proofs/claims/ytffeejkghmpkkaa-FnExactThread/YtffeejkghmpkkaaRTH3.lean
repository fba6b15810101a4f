/-
  The passes done one behind the other: impl.settled, for those of Thread.
-/
import Derived.Test.YtffeejkghmpkkaaRTH2
namespace Go.Proofs.Ytffeejkghmpkkaa
open Go.RowKit

/-- As often as may be. -/
def hopZ (k : Nat) (base : List (Int × Int)) : List (Int × Int) := hopN k 120 base
theorem hopZ_end {k t : Nat} {base : List (Int × Int)} (ht : t ≤ 120) (h : hopC k (hopN k t base) = hopN k t base) : hopZ k base = hopN k t base := hopN_end ht h
theorem hopZ_all {k t : Nat} {base : List (Int × Int)} (ht : t = 120) : hopZ k base = hopN k t base := by subst ht; rfl
theorem thrTo_z (code : List (Int × Int)) (k : Nat) : thrTo code (k + 1) = hopZ k (thrTo code k) := rfl

set_option maxRecDepth 100000 in
set_option maxHeartbeats 8000000 in
theorem setThr_any (w0 w : World) (a1 a2 pa : Option Addr) (nt nf c1 c2 pc B cap n : Nat) (code : List (Int × Int)) (ca : Option Addr) (hH : HopsAt w0 (.slice pa 120 pc) 120) (hb : Below w0.heap.size w0 w) (hB0 : w0.heap.size ≤ B) (hBw : B ≤ w.heap.size) (hJ : JIn n code) (h1 : 1 ≤ n) (h120 : n ≤ 120)
    (hown : w.ownsRow B 54 2 (.slice ca n cap) n (codeVals code)) :
    Calls Try.prog 41 #[.agg #[.slice a1 nt c1, .slice a2 nf c2], .slice ca n cap, .slice pa 120 pc] w fun e w' => ∃ v, e = .returned v ∧ CRow w' B v (thrOf code) ∧ Below B w w' := by
  have hbA : Below w.heap.size w (w.alloc (.cells #[.slice a1 nt c1, .slice a2 nf c2] 29)) := (Below.refl _ _).alloc (Nat.le_refl _) _
  have hM := block_new w #[.slice a1 nt c1, .slice a2 nf c2] 29
  have hb0 : Below w0.heap.size w0 (w.alloc (.cells #[.slice a1 nt c1, .slice a2 nf c2] 29)) := hb.trans (hbA.mono hb.size)
  have hBA : Below B w (w.alloc (.cells #[.slice a1 nt c1, .slice a2 nf c2] 29)) := hbA.mono hBw
  have hownA := own_keeps (B := 0) (ts := []) hown (Keeps.below hbA) (by simp)
  obtain ⟨pa', pc', hpe, hcell⟩ := hH
  obtain ⟨rfl, rfl⟩ : pa = pa' ∧ pc = pc' := by simp only [Value.slice.injEq] at hpe; exact ⟨hpe.1, hpe.2.2⟩
  have HCELL : Hid (∀ j, j < 120 → ∃ g x, pa = some ⟨g, 0, none⟩ ∧ w0.cell? ⟨g, j, none⟩ = some (.func (.func 49) #[] #[.pointer (some ⟨x, 0, none⟩)]) ∧ w0.cell? ⟨x, 0, none⟩ = some (.int .i64 (j : Int))) := hcell
  have hlen := hJ.1
  have HLE : Hid (code.length ≤ 120) := (show code.length ≤ 120 by omega)
  have HJ := hid hJ
  have HB0 := hid hB0
  clear hB0
  -- what a pass does
  have P1 : Hid (∀ (W : World) (a : Option Addr) (c k x : Nat) (ys : List (Int × Int)), JIn n ys → W.ownsRow B 54 2 (.slice a ys.length c) ys.length (codeVals ys) → B ≤ W.heap.size → W.cell? ⟨x, 0, none⟩ = some (.int .i64 (k : Int)) → Calls Try.prog 49 #[.agg #[.slice a1 nt c1, .slice a2 nf c2], .slice a ys.length c, .pointer (some ⟨x, 0, none⟩)] W fun e w' => HopRes B k ys W e w') := fun W a c k x ys hj ho hBW hx => by
    obtain ⟨g, rfl, -⟩ := own_ptr ho (by have := hj.1; omega)
    exact hops1_any B g ys.length c k x nt nf c1 c2 a1 a2 ys W rfl (by have := hj.1; omega) (by rw [hj.1]; exact hj) hBW ho hx
  have hszB : B ≤ (w.alloc (.cells #[.slice a1 nt c1, .slice a2 nf c2] 29)).heap.size := by rw [World.size_alloc]; omega
  have hcr : CRow (w.alloc (.cells #[.slice a1 nt c1, .slice a2 nf c2] 29)) B (.slice ca n cap) code := by
    rw [← hlen] at hownA ⊢
    exact ⟨_, _, rfl, hownA⟩
  clear hpe hcell
  go_enter Try.func41, Try.ntmps41
  obtain ⟨wA, hwA⟩ : ∃ wA, wA = w.alloc (.cells #[.slice a1 nt c1, .slice a2 nf c2] 29) := ⟨_, rfl⟩
  go_upto_region 1 with fail
  rw [← hwA]
  rw [← hwA] at hb0 hBA hcr hszB
  have hMA : wA.heap[w.heap.size]? = some (.cells #[.slice a1 nt c1, .slice a2 nf c2] 29 (0, 0)) := by rw [hwA]; exact hM
  have HCR := hid hcr
  clear hwA hM hbA hown hb hownA hcr hlen hJ
  go_wp2
  go_loopw [1, 13] (fun v i wr => ∃ (k : Nat), k ≤ 120 ∧ i = .int .i64 k ∧ Hid (CRow wr B v (thrTo code k)) ∧ Below w0.heap.size w0 wr ∧ Below B w wr ∧ B ≤ wr.heap.size ∧ wr.heap[w.heap.size]? = some (.cells #[.slice a1 nt c1, .slice a2 nf c2] 29 (0, 0))) (fun _ i _ => 120 - (intOf i).toNat)
  case atStart => exact ⟨0, by omega, rfl, HCR.out, hb0, hBA, hszB, hMA⟩
  case round =>
    obtain ⟨k, hk, rfl, HR0, hb0r, hBr, hsz, hMr⟩ := hrel
    clear hb0 hBA hszB hMA HCR
    obtain ⟨a, c, rfl, hrow⟩ := HR0.out
    by_cases hlt : k < 120
    · obtain ⟨g, x, rfl, hc1, hc2⟩ := HCELL.out k hlt
      have hltI : (k : Int) < 120 := by omega
      have hpc := cell_later hb0r hc1
      have HX := hid hc2
      obtain ⟨base, hbase⟩ : ∃ base, base = thrTo code k := ⟨_, rfl⟩
      have HBASE := hid hbase
      have HJB : Hid (JIn n base) := by show JIn n base; rw [hbase]; exact thrTo_in HJ.out k
      rw [← hbase] at hrow ⊢
      obtain ⟨wo, hwo⟩ : ∃ wo, wo = wr := ⟨_, rfl⟩
      rw [← hwo] at hb0r hBr hsz hMr hrow hpc
      subst hwo
      clear HR0 hc1 hc2 hbase
      go_wp2
      go_loopw [1, 9, 10] (fun v ch i wr => ∃ (t : Nat) (b : Bool), t ≤ 120 ∧ i = .int .i64 t ∧ ch = .bool b ∧ Hid (CRow wr B v (hopN k t base)) ∧ Hid (b = false → hopZ k base = hopN k t base) ∧ Below w0.heap.size w0 wr ∧ Below B w wr ∧ B ≤ wr.heap.size ∧ wr.heap[w.heap.size]? = some (.cells #[.slice a1 nt c1, .slice a2 nf c2] 29 (0, 0))) (fun _ _ i _ => 120 - (intOf i).toNat)
      case atStart => exact ⟨0, true, by omega, rfl, rfl, ⟨a, c, rfl, hrow⟩, fun h => (by cases h), hb0r, hBr, hsz, hMr⟩
      case round =>
        obtain ⟨t, b, ht, rfl, rfl, HT0, HT1, hb0x, hBx, hszx, hMx⟩ := hrel
        clear hb0r hBr hsz hMr hrow
        have m1 := block_cell hMx
        obtain ⟨ys, hys⟩ : ∃ ys, ys = hopN k t base := ⟨_, rfl⟩
        have HYS := hid hys
        have HJY : Hid (JIn n ys) := by show JIn n ys; rw [hys]; exact hopN_in HJB.out t
        rw [← hys] at HT0 HT1
        clear hys
        obtain ⟨ax, cx, rfl, hrowx⟩ := HT0.out
        have hx0 := cell_later hb0x HX.out
        have hnext : Hid (ys.length = base.length) := by show _ = _; rw [HJY.out.1, HJB.out.1]
        cases b with
        | true =>
          by_cases hlt2 : t < 120
          · go_wp2_with fail
            refine (P1.out _ ax cx k x ys HJY.out (by exact hrowx) (by exact hszx) (by exact hx0)).mono ?_
            rintro e w3 ⟨v3, b3, rfl, hr3, hs3, hb3⟩
            have hM3 := hb3.cell hMx (by simp)
            have hb03 : Below w0.heap.size w0 w3 := hb0x.trans ((hb3.toBelow hszx).mono HB0.out)
            have hB3 := hBx.trans (hb3.toBelow hszx)
            have hsz3 : B ≤ w3.heap.size := Nat.le_trans hszx hb3.size
            have HR3 : Hid (CRow w3 B v3 (hopN k (t + 1) base) ∧ (b3 = false → hopZ k base = hopN k (t + 1) base)) := by
              have e : hopN k (t + 1) base = hopC k ys := by show hopC k (hopN k t base) = _; rw [← HYS.out]
              rw [e]
              refine ⟨hr3, fun h => ?_⟩
              rw [hs3 h, HYS.out]
              exact hopZ_end (by omega) (by rw [← HYS.out]; exact hs3 h)
            clear hr3 hs3 hb3 hrowx HT0 HT1 m1
            go_wp2
            go_roundw
            case rel => exact ⟨t + 1, b3, by omega, by go_num, rfl, HR3.out.1, HR3.out.2, hb03, hB3, hsz3, hM3⟩
            case measure => simp [intOf]; omega
          · have hte : t = 120 := by omega
            have HR3 : Hid (CRow wr B (.slice ax ys.length cx) (thrTo code (k + 1))) := by
              have e : thrTo code (k + 1) = ys := by rw [thrTo_z, ← HBASE.out, HYS.out, hopZ_all hte]
              rw [e]
              exact ⟨_, _, rfl, hrowx⟩
            clear HT0 HT1 hrowx m1
            go_wp2
            go_roundw
            case rel => exact ⟨k + 1, by omega, by go_num, HR3.out, hb0x, hBx, hszx, hMx⟩
            case measure => simp [intOf]; omega
        | false =>
          have HR3 : Hid (CRow wr B (.slice ax ys.length cx) (thrTo code (k + 1))) := by
            have e : thrTo code (k + 1) = ys := by rw [thrTo_z, ← HBASE.out, HT1.out rfl]
            rw [e]
            exact ⟨_, _, rfl, hrowx⟩
          clear HT0 HT1 hrowx m1
          go_wp2
          go_roundw
          case rel => exact ⟨k + 1, by omega, by go_num, HR3.out, hb0x, hBx, hszx, hMx⟩
          case measure => simp [intOf]; omega
    · have hke : k = 120 := by omega
      have HR3 : Hid (CRow wr B (.slice a (thrTo code k).length c) (thrOf code)) := by
        rw [← thrTo_more (code := code) (n := k) (by rw [hke]; exact HLE.out)]
        exact ⟨_, _, rfl, hrow⟩
      clear HR0 hrow
      generalize (thrTo code k).length = L at HR3 ⊢
      go_wp2
      go_ret
      exact ⟨_, rfl, HR3.out, hBr⟩
end Go.Proofs.Ytffeejkghmpkkaa
