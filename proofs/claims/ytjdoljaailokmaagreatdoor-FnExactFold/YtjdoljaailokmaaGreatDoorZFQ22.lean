/-
  The passes done one behind the other: impl.settled, for foldFirst.
  Nothing of its own: what stood here stands in Mem3.
  What the copying functions of the laws (to..) return: a copy in new memory, in blocks that may be written; nothing that was there is written.
-/
import Derived.Test.YtjdoljaailokmaaGreatDoorZFF5
import Derived.Test.YtjdoljaailokmaaGreatDoorZFQ19
import Derived.Test.YtjdoljaailokmaaGreatDoorZFQ5
import Derived.Test.YtjdoljaailokmaaGreatDoorZW2
namespace Go.Proofs.YtjdoljaailokmaaGreatDoor
open Go.RowKit

set_option maxRecDepth 100000 in
set_option maxHeartbeats 8000000 in
theorem setFoldN_any (n : Nat) (hn : Hid (n = 1)) (w0 w : World) (a1 a2 : Option Addr) (nt c1 c2 pb B cap : Nat) (fs : List Fn) (code : List (Int × Int)) (d : List Int) (ca : Option Addr) (E0 E1 E2 : Addr) (hfn : FnsAt w0 0 a2 fs) (hp : w0.cell? ⟨pb, 0, none⟩ = some (.func (.func 21) #[] #[])) (hE : Errs w0 E0 E1 E2) (hb : Below w0.heap.size w0 w) (hBw : B ≤ w.heap.size) (K0 : InS fs code 0 code d)
    (hown : w.ownsRow B 44 2 (.slice ca code.length cap) code.length (codeVals code)) :
    Calls Tryz.prog 40 #[.agg #[.slice a1 nt c1, .slice a2 fs.length c2], .slice ca code.length cap, .slice (some ⟨pb, 0, none⟩) n n] w fun e w' => ∃ v, e = .returned v ∧ CRow w' B v (foldOf fs code) ∧ Below B w w' := by
  have hmost := K0.ok.fine.most
  have hbA : Below w.heap.size w (w.alloc (.cells #[.slice a1 nt c1, .slice a2 fs.length c2] 29)) := (Below.refl _ _).alloc (Nat.le_refl _) _
  have hM := block_new w #[.slice a1 nt c1, .slice a2 fs.length c2] 29
  have hb0 : Below w0.heap.size w0 (w.alloc (.cells #[.slice a1 nt c1, .slice a2 fs.length c2] 29)) := hb.trans (hbA.mono hb.size)
  have hBA : Below B w (w.alloc (.cells #[.slice a1 nt c1, .slice a2 fs.length c2] 29)) := hbA.mono hBw
  have hownA := own_keeps (B := 0) (ts := []) hown (Keeps.below hbA) (by simp)
  -- what the pass does
  have P1 : Hid (∀ (W : World) (g cc : Nat) (c : List (Int × Int)) (e : List Int) (t : Nat), Below w0.heap.size w0 W → InS fs code t c e → W.ownsRow B 44 2 (.slice (some ⟨g, 0, none⟩) c.length cc) c.length (codeVals c) → B ≤ W.heap.size → Calls Tryz.prog 21 #[.agg #[.slice a1 nt c1, .slice a2 fs.length c2], .slice (some ⟨g, 0, none⟩) c.length cc] W fun en w' => StepPost c e B g cc en w' ∧ Below W.heap.size W w') := fun W g cc c e t hW hI ho hBW =>
    foldFirst_any a1 a2 nt c1 c2 g cc B fs c e E0 E1 E2 W (hfn.mono hW) hI.ok ho hBW (hE.later hW)
  obtain ⟨ys, hys⟩ : ∃ ys, ys = foldOf fs code := ⟨_, rfl⟩
  have HYS := hid hys
  rw [← hys]
  have HP := hid hp
  have HK0 := hid K0
  have hszB : B ≤ (w.alloc (.cells #[.slice a1 nt c1, .slice a2 fs.length c2] 29)).heap.size := by rw [World.size_alloc]; omega
  go_enter Tryz.func40, Tryz.ntmps40
  obtain ⟨wA, hwA⟩ : ∃ wA, wA = w.alloc (.cells #[.slice a1 nt c1, .slice a2 fs.length c2] 29) := ⟨_, rfl⟩
  go_upto_region 1 with fail
  rw [← hwA]
  rw [← hwA] at hb0 hBA hownA hszB
  have hMA : wA.heap[w.heap.size]? = some (.cells #[.slice a1 nt c1, .slice a2 fs.length c2] 29 (0, 0)) := by rw [hwA]; exact hM
  clear hwA hM hbA hown hys hfn hp hE hb K0
  go_wp2
  go_loopw [1, 13] (fun v i wr => ∃ (k : Nat), k ≤ n ∧ i = .int .i64 k ∧ Hid (k = 0 → CRow wr B v code) ∧ Hid (k = 1 → CRow wr B v ys) ∧ Below w0.heap.size w0 wr ∧ Below B w wr ∧ B ≤ wr.heap.size ∧ wr.heap[w.heap.size]? = some (.cells #[.slice a1 nt c1, .slice a2 fs.length c2] 29 (0, 0))) (fun _ i _ => n - (intOf i).toNat)
  case atStart => exact ⟨0, by omega, rfl, fun _ => ⟨ca, cap, rfl, hownA⟩, fun h => by omega, hb0, hBA, hszB, hMA⟩
  case round =>
    obtain ⟨k, hk, rfl, HR0, HR1, hb0r, hBr, hsz, hMr⟩ := hrel
    clear hb0 hBA hownA hszB hMA
    have hn9 : n ≤ 9 := by have := hn.out; omega
    by_cases hlt : k < n
    · have hk0 : k = 0 := by have := hn.out; omega
      obtain ⟨a, c, rfl, hrow⟩ := HR0.out hk0
      have hpc : wr.cell? ⟨pb, k, none⟩ = some (.func (.func 21) #[] #[]) := by rw [hk0]; exact cell_later hb0r HP.out
      have HKK := hid hk0
      clear hk0
      obtain ⟨wo, hwo⟩ : ∃ wo, wo = wr := ⟨_, rfl⟩
      rw [← hwo] at hb0r hBr hsz hMr hrow hpc
      subst hwo
      have HROW := hid hrow
      clear HR0 HR1 hrow
      go_wp2
      go_loopw [1, 9, 10] (fun v ch i wr => ∃ (t : Nat) (b : Bool), t ≤ 120 ∧ i = .int .i64 t ∧ ch = .bool b ∧ Hid (b = true → ∃ c e, InS fs code t c e ∧ CRow wr B v c) ∧ Hid (b = false → CRow wr B v ys) ∧ Below w0.heap.size w0 wr ∧ Below B w wr ∧ B ≤ wr.heap.size ∧ wr.heap[w.heap.size]? = some (.cells #[.slice a1 nt c1, .slice a2 fs.length c2] 29 (0, 0))) (fun _ _ i _ => 120 - (intOf i).toNat)
      case atStart => exact ⟨0, true, by omega, rfl, rfl, fun _ => ⟨code, d, HK0.out, a, c, rfl, HROW.out⟩, fun h => (by cases h), hb0r, hBr, hsz, hMr⟩
      case round =>
        obtain ⟨t, b, ht, rfl, rfl, HT0, HT1, hb0x, hBx, hszx, hMx⟩ := hrel
        clear hb0r hBr hsz hMr
        have m1 := block_cell hMx
        cases b with
        | true =>
          obtain ⟨cx, ex, hI, ax, cc, rfl, hrowx⟩ := HT0.out rfl
          have hone := hI.ok.fine.one
          have ht1 : t < 120 := by have := hI.len; omega
          obtain ⟨g, rfl, -⟩ := own_ptr hrowx hone
          have HC := hid (P1.out _ g cc cx ex t hb0x hI hrowx hszx)
          have HI := hid hI
          have HRX := hid hrowx
          clear hI hrowx HT0 HT1 hone
          go_wp2_with fail
          refine HC.out.mono ?_
          rintro en w3 ⟨hS, hb3⟩
          have hM3 := block_kept hMx hb3
          have hb03 := hb0x.trans (hb3.mono hb0x.size)
          have hB3 := hBx.trans (hb3.mono hszx)
          have hsz3 : B ≤ w3.heap.size := Nat.le_trans hszx hb3.size
          rcases hS with ⟨i, v, u, hF, rfl, hrow3⟩ | ⟨hN, rfl⟩
          · have HNX := hid (HI.out.next hF)
            have HR3 := hid hrow3
            obtain ⟨a3, c3, rfl, -⟩ := hrow3
            clear hF hb3 hMx hb0x hBx hszx m1
            go_wp2
            go_roundw
            case rel => exact ⟨t + 1, true, by omega, by go_num, rfl, fun _ => ⟨_, _, HNX.out, HR3.out⟩, fun h => (by cases h), hb03, hB3, hsz3, hM3⟩
            case measure => simp [intOf]; omega
          · have HR3 : Hid (CRow w3 B (.slice (some ⟨g, 0, none⟩) cx.length cc) ys) := by
              have e := HI.out.last hN
              have hr := own_keeps (B := 0) (ts := []) HRX.out (Keeps.below hb3) (by simp)
              have e2 : ys = cx := by rw [HYS.out, ← e]
              rw [e2]
              exact ⟨_, _, rfl, hr⟩
            clear hN hb3 hMx hb0x hBx hszx m1
            go_wp2
            go_roundw
            case rel => exact ⟨t + 1, false, by omega, by go_num, rfl, fun h => (by cases h), fun _ => HR3.out, hb03, hB3, hsz3, hM3⟩
            case measure => simp [intOf]; omega
        | false =>
          have HR3 := hid (HT1.out rfl)
          clear HT0 HT1 m1
          go_wp2
          go_roundw
          case rel => exact ⟨k + 1, by omega, by go_num, fun h => by have := HKK.out; omega, fun _ => HR3.out, hb0x, hBx, hszx, hMx⟩
          case measure => simp [intOf]; omega
    · have hk1 : k = 1 := by have := hn.out; omega
      have HR3 := hid (HR1.out hk1)
      clear HR0 HR1
      go_wp2
      go_ret
      exact ⟨_, rfl, HR3.out, hBr⟩

theorem setc_fold {W : World} {a1 a2 : Option Addr} {c1 c2 pb : Nat} {ts : List ByteArray} {fs : List Fn} {E0 E1 E2 : Addr} (hG : Good ts fs) (hfn : FnsAt W 0 a2 fs) (hp : W.cell? ⟨pb, 0, none⟩ = some (.func (.func 21) #[] #[])) (hE : Errs W E0 E1 E2) : SetC W a1 a2 c1 c2 ts fs (.slice (some ⟨pb, 0, none⟩) 1 1) (foldOf fs) := by
  intro w B cap code ca hb hB hBw hF hown
  obtain ⟨F, hF, rfl⟩ := hF
  obtain ⟨k, hk, rfl⟩ := List.getElem_of_mem hF
  obtain ⟨d, hI⟩ := InS.init hG hk
  exact setFoldN_any 1 rfl W w a1 a2 ts.length c1 c2 pb B cap fs _ d ca E0 E1 E2 hfn hp hE hb hBw hI hown
end Go.Proofs.YtjdoljaailokmaaGreatDoor



namespace Go.Proofs.YtjdoljaailokmaaGreatDoor
open Go.RowKit

set_option maxHeartbeats 400000 in
theorem toStringS_made (a : Option Addr) (ss : List ByteArray) (cap : Nat) (w : World) (hn : ss.length ≤ 1048576) (hm : StrsAt w 0 a ss) :
    Calls Tryz.prog 18 #[.slice a ss.length cap] w fun e w' => e = .returned (.slice (some ⟨w.heap.size, 0, none⟩) ss.length ss.length) ∧ StrsAt w' w.heap.size (some ⟨w.heap.size, 0, none⟩) ss ∧ Below w.heap.size w w' ∧ TextBlk w' w.heap.size ss.length := by
  obtain ⟨i0, hi, hz0, hz1, hz2⟩ := info_parts info9
  go_enter Tryz.func18, Tryz.ntmps18
  go_wp2_with (first | (at_make; refine wpList_make_full _ rfl _ _ 22 rfl w.heap.size 9 i0 (.string ByteArray.empty) 1 Tryz.underlying22 hi hz0 hz1 _ _ _ _ ss.length rfl rfl rfl rfl (by rw [hz2]; omega) (by unfold maxLen; omega) (Nat.le_refl _) ?_; intro w1 hown hgrow))
  obtain ⟨cur0, hblk, hsz⟩ := made_block hown
  have hb0 : Below w.heap.size w w1 := (Below.refl _ _).grown hgrow (Nat.le_refl _) (by intro k hk; cases hk)
  clear hown hgrow hi hz0 hz1 hz2
  go_loopw [4] (fun i wr => ∃ (k : Nat) (cur : Array Value), k ≤ ss.length ∧ i = .int .i64 k ∧ wr.heap[w.heap.size]? = some (.cells cur 9 (0, 0)) ∧ cur.size = ss.length * 1 ∧ (∀ j (hj : j < ss.length), j < k → cur[j]? = some (.string ss[j])) ∧ Below w.heap.size w wr) (fun i _ => ss.length - (intOf i).toNat)
  case atStart => exact ⟨0, cur0, by omega, rfl, hblk, hsz, fun j _ h => by omega, hb0⟩
  case round =>
    obtain ⟨k, cur, hk, rfl, hblk, hsz, hdone, hb⟩ := hrel
    by_cases hlt : k < ss.length
    · obtain ⟨b, off, rfl, -, c1⟩ := hm k hlt
      have c1' := cell_later hb c1
      clear c1
      have hfz := block_free hblk k
      have hcl : wr.cell? ⟨w.heap.size, k, none⟩ = some cur[k] := by rw [block_cell hblk k]; simp
      go_wp2
      go_roundw
      case rel =>
        refine ⟨k + 1, cur.setIfInBounds k (.string ss[k]), by omega, by go_num, block_set hblk _, by simpa using hsz, ?_, hb.setCell (Nat.le_refl _) _⟩
        intro j hj hjk
        by_cases e : j = k
        · subst e; exact set_self _ (by omega)
        · rw [set_else _ e]; exact hdone j hj (by omega)
      case measure => simp [intOf]; omega
    · go_wp2
      go_ret
      exact ⟨rfl, fun j hj => ⟨w.heap.size, 0, rfl, Nat.le_refl _, by rw [block_cell hblk, Nat.zero_add]; exact hdone j hj (by omega)⟩, hb, ⟨cur, hblk, by omega⟩⟩

set_option maxHeartbeats 400000 in
theorem toInsS_made (a : Option Addr) (xs : List (Int × Int)) (cap : Nat) (w : World) (hn : xs.length ≤ 1048576) (hm : CodeAt w 0 a xs) :
    Calls Tryz.prog 57 #[.slice a xs.length cap] w fun e w' => e = .returned (.slice (some ⟨w.heap.size, 0, none⟩) xs.length xs.length) ∧ CodeAt w' w.heap.size (some ⟨w.heap.size, 0, none⟩) xs ∧ Below w.heap.size w w' ∧ CodeBlk w' w.heap.size xs.length := by
  obtain ⟨i0, hi, hz0, hz1, hz2⟩ := info_parts info44
  go_enter Tryz.func57, Tryz.ntmps57
  go_wp2_with (first | (at_make; refine wpList_make_full _ rfl _ _ 38 rfl w.heap.size 44 i0 (.agg #[.int .i64 0, .int .i64 0]) 2 Tryz.underlying38 hi hz0 hz1 _ _ _ _ xs.length rfl rfl rfl rfl (by rw [hz2]; omega) (by unfold maxLen; omega) (Nat.le_refl _) ?_; intro w1 hown hgrow))
  obtain ⟨cur0, hblk, hsz⟩ := made_block hown
  have hb0 : Below w.heap.size w w1 := (Below.refl _ _).grown hgrow (Nat.le_refl _) (by intro k hk; cases hk)
  clear hown hgrow hi hz0 hz1 hz2
  go_loopw [4] (fun i wr => ∃ (k : Nat) (cur : Array Value), k ≤ xs.length ∧ i = .int .i64 k ∧ wr.heap[w.heap.size]? = some (.cells cur 44 (0, 0)) ∧ cur.size = xs.length * 2 ∧ (∀ j (hj : j < xs.length), j < k → cur[j * 2]? = some (.int .i64 xs[j].1) ∧ cur[j * 2 + 1]? = some (.int .i64 xs[j].2)) ∧ Below w.heap.size w wr) (fun i _ => xs.length - (intOf i).toNat)
  case atStart => exact ⟨0, cur0, by omega, rfl, hblk, hsz, fun j _ h => by omega, hb0⟩
  case round =>
    obtain ⟨k, cur, hk, rfl, hblk, hsz, hdone, hb⟩ := hrel
    by_cases hlt : k < xs.length
    · obtain ⟨b, off, rfl, -, c1, c2⟩ := hm k hlt
      have c1' := cell_later hb c1
      have c2' := cell_later hb c2
      clear c1 c2
      go_wp2_with fail
      refine (toIns_any _ _ _).mono ?_
      rintro e w2 ⟨rfl, hb2⟩
      have hblk2 := block_kept hblk hb2
      have hfz := block_free hblk2 (k * 2)
      have hfz2 := block_free hblk2 (k * 2 + 1)
      have hcl : w2.cell? ⟨w.heap.size, k * 2, none⟩ = some cur[k * 2] := by rw [block_cell hblk2]; simp
      have hcl2 : w2.cell? ⟨w.heap.size, k * 2 + 1, none⟩ = some cur[k * 2 + 1] := by rw [block_cell hblk2]; simp
      have hb3 : Below w.heap.size w w2 := hb.trans (hb2.mono hb.size)
      go_wp2
      go_roundw
      case rel =>
        refine ⟨k + 1, (cur.setIfInBounds (k * 2) (.int .i64 xs[k].1)).setIfInBounds (k * 2 + 1) (.int .i64 xs[k].2), by omega, by go_num, block_set (block_set hblk2 _) _, by simpa using hsz, ?_, (hb3.setCell (Nat.le_refl _) _).setCell (Nat.le_refl _) _⟩
        intro j hj hjk
        by_cases e : j = k
        · subst e; exact ⟨by rw [set_else _ (by omega)]; exact set_self _ (by omega), set_self _ (by simp; omega)⟩
        · rw [set_else _ (by omega), set_else _ (by omega), set_else _ (by omega), set_else _ (by omega)]; exact hdone j hj (by omega)
      case measure => simp [intOf]; omega
    · go_wp2
      go_ret
      exact ⟨rfl, fun j hj => ⟨w.heap.size, 0, rfl, Nat.le_refl _, by rw [block_cell hblk, Nat.zero_add]; exact (hdone j hj (by omega)).1, by rw [block_cell hblk, Nat.zero_add]; exact (hdone j hj (by omega)).2⟩, hb, ⟨cur, hblk, hsz⟩⟩

set_option maxHeartbeats 400000 in
theorem toFunc_made (p l : Int) (a : Option Addr) (xs : List (Int × Int)) (cap : Nat) (w : World) (hn : xs.length ≤ 1048576) (hm : CodeAt w 0 a xs) :
    Calls Tryz.prog 34 #[.agg #[.int .i64 p, .int .i64 l, .slice a xs.length cap]] w fun e w' => ∃ g, w.heap.size ≤ g ∧ e = .returned (.agg #[.int .i64 p, .int .i64 l, .slice (some ⟨g, 0, none⟩) xs.length xs.length]) ∧ CodeAt w' w.heap.size (some ⟨g, 0, none⟩) xs ∧ Below w.heap.size w w' ∧ CodeBlk w' g xs.length := by
  go_enter Tryz.func34, Tryz.ntmps34
  go_wp2_with fail
  have hbA : Below w.heap.size w (((w.alloc (.cells #[.int .i64 p, .int .i64 l, .slice a xs.length cap] 58)).alloc (.cells #[.int .i64 0, .int .i64 0, .slice none 0 0] 40)).alloc (.cells #[.int .i64 p, .int .i64 l, .slice none 0 0] 40)) :=
    (((Below.refl _ _).alloc (Nat.le_refl _) _).alloc (by simp) _).alloc (by simp; omega) _
  refine (toInsS_made a xs cap _ hn (hm.mono hbA)).mono ?_
  rintro e w1 ⟨rfl, hcode, hb, hcb⟩
  have hR := block_kept (block_old (block_new (w.alloc (.cells #[.int .i64 p, .int .i64 l, .slice a xs.length cap] 58)) #[.int .i64 0, .int .i64 0, .slice none 0 0] 40) (.cells #[.int .i64 p, .int .i64 l, .slice none 0 0] 40)) hb
  have hO := block_kept (block_new ((w.alloc (.cells #[.int .i64 p, .int .i64 l, .slice a xs.length cap] 58)).alloc (.cells #[.int .i64 0, .int .i64 0, .slice none 0 0] 40)) #[.int .i64 p, .int .i64 l, .slice none 0 0] 40) hb
  simp only [World.size_alloc] at hR hO hcode hcb
  have r1 := block_cell hR
  have r2 := block_free hR
  have o1 := block_cell hO
  have o2 := block_free hO
  have hb1 : Below w.heap.size w w1 := hbA.trans (hb.mono (by simp; omega))
  go_wp2
  refine bodyPost_ret (v := .agg #[.int .i64 p, .int .i64 l, .slice (some ⟨w.heap.size + 1 + 1 + 1, 0, none⟩) xs.length xs.length]) (by simp [results, Tryz.results34, go_sem, r1]) rfl ⟨_, by omega, rfl, ?_, ?_, ?_⟩
  · exact (hcode.above (((((Above.refl _ _).setCell (by simp) _).setCell (by simp) _).setCell (by simp) _).setCell (by simp) _)).low (by omega)
  · exact (((hb1.setCell (by simp; omega) _).setCell (by simp) _).setCell (by simp) _).setCell (by simp) _
  · exact hcb.above (((((Above.refl _ _).setCell (by simp) _).setCell (by simp) _).setCell (by simp) _).setCell (by simp) _) (Nat.le_refl _)

set_option maxHeartbeats 400000 in
theorem toFuncS_made (a : Option Addr) (fs : List Fn) (cap : Nat) (w : World) (hn : fs.length ≤ 1048576) (hc : ∀ f ∈ fs, f.code.length ≤ 1048576) (hm : FnsAt w 0 a fs) :
    Calls Tryz.prog 19 #[.slice a fs.length cap] w fun e w' => e = .returned (.slice (some ⟨w.heap.size, 0, none⟩) fs.length fs.length) ∧ FnsAt w' w.heap.size (some ⟨w.heap.size, 0, none⟩) fs ∧ Below w.heap.size w w' ∧ FnsBlk w' w.heap.size w.heap.size fs := by
  obtain ⟨i0, hi, hz0, hz1, hz2⟩ := info_parts info40
  go_enter Tryz.func19, Tryz.ntmps19
  go_wp2_with (first | (at_make; refine wpList_make_full _ rfl _ _ 27 rfl w.heap.size 40 i0 (.agg #[.int .i64 0, .int .i64 0, .slice none 0 0]) 3 Tryz.underlying27 hi hz0 hz1 _ _ _ _ fs.length rfl rfl rfl rfl (by rw [hz2]; omega) (by unfold maxLen; omega) (Nat.le_refl _) ?_; intro w1 hown hgrow))
  obtain ⟨cur0, hblk, hsz⟩ := made_block hown
  have hb0 : Below w.heap.size w w1 := (Below.refl _ _).grown hgrow (Nat.le_refl _) (by intro k hk; cases hk)
  clear hown hgrow hi hz0 hz1 hz2
  go_loopw [4] (fun i wr => ∃ (k : Nat) (cur : Array Value), k ≤ fs.length ∧ i = .int .i64 k ∧ wr.heap[w.heap.size]? = some (.cells cur 40 (0, 0)) ∧ cur.size = fs.length * 3 ∧
      (∀ j (hj : j < fs.length), j < k → cur[j * 3]? = some (.int .i64 fs[j].params) ∧ cur[j * 3 + 1]? = some (.int .i64 fs[j].locals) ∧ ∃ g, cur[j * 3 + 2]? = some (.slice (some ⟨g, 0, none⟩) fs[j].code.length fs[j].code.length) ∧ CodeAt wr (w.heap.size + 1) (some ⟨g, 0, none⟩) fs[j].code ∧ w.heap.size + 1 ≤ g ∧ CodeBlk wr g fs[j].code.length) ∧ Below w.heap.size w wr) (fun i _ => fs.length - (intOf i).toNat)
  case atStart => exact ⟨0, cur0, by omega, rfl, hblk, hsz, fun j _ h => by omega, hb0⟩
  case round =>
    obtain ⟨k, cur, hk, rfl, hblk, hsz, hdone, hb⟩ := hrel
    by_cases hlt : k < fs.length
    · obtain ⟨b, off, ca, cc, rfl, -, c1, c2, c3, c4⟩ := hm k hlt
      have c1' := cell_later hb c1
      have c2' := cell_later hb c2
      have c3' := cell_later hb c3
      clear c1 c2 c3
      have hgs : w.heap.size < wr.heap.size := by
        rcases Nat.lt_or_ge w.heap.size wr.heap.size with h | h
        · exact h
        · rw [Array.getElem?_eq_none h] at hblk; cases hblk
      have hck := hc fs[k] (List.getElem_mem hlt)
      go_wp2_with fail
      refine (toFunc_made _ _ _ _ _ _ hck (c4.mono hb)).mono ?_
      rintro e w2 ⟨g, hg, rfl, hcode, hb2, hcb⟩
      have hblk2 := block_kept hblk hb2
      have hfz := block_free hblk2
      have hcl : w2.cell? ⟨w.heap.size, k * 3, none⟩ = some cur[k * 3] := by rw [block_cell hblk2]; simp
      have hcl2 : w2.cell? ⟨w.heap.size, k * 3 + 1, none⟩ = some cur[k * 3 + 1] := by rw [block_cell hblk2]; simp
      have hcl3 : w2.cell? ⟨w.heap.size, k * 3 + 2, none⟩ = some cur[k * 3 + 2] := by rw [block_cell hblk2]; simp
      have hb3 : Below w.heap.size w w2 := hb.trans (hb2.mono hb.size)
      go_wp2
      go_roundw
      case rel =>
        have hab : Above (w.heap.size + 1) w2 (((w2.setCell ⟨w.heap.size, k * 3, none⟩ (.int .i64 fs[k].params)).setCell ⟨w.heap.size, k * 3 + 1, none⟩ (.int .i64 fs[k].locals)).setCell ⟨w.heap.size, k * 3 + 2, none⟩ (.slice (some ⟨g, 0, none⟩) fs[k].code.length fs[k].code.length)) :=
          (((Above.refl _ _).setCell (by simp) _).setCell (by simp) _).setCell (by simp) _
        refine ⟨k + 1, ((cur.setIfInBounds (k * 3) (.int .i64 fs[k].params)).setIfInBounds (k * 3 + 1) (.int .i64 fs[k].locals)).setIfInBounds (k * 3 + 2) (.slice (some ⟨g, 0, none⟩) fs[k].code.length fs[k].code.length), by omega, by go_num, block_set (block_set (block_set hblk2 _) _) _, by simpa using hsz, ?_, ((hb3.setCell (Nat.le_refl _) _).setCell (Nat.le_refl _) _).setCell (Nat.le_refl _) _⟩
        intro j hj hjk
        by_cases e : j = k
        · subst e
          refine ⟨?_, ?_, g, ?_, (hcode.low (by omega)).above hab, by omega, hcb.above hab (by omega)⟩
          · rw [set_else _ (by omega), set_else _ (by omega)]; exact set_self _ (by omega)
          · rw [set_else _ (by omega)]; exact set_self _ (by simp; omega)
          · exact set_self _ (by simp; omega)
        · obtain ⟨d1, d2, g', d3, d4, d5, d6⟩ := hdone j hj (by omega)
          refine ⟨?_, ?_, g', ?_, (d4.mono hb2).above hab, d5, (d6.mono hb2).above hab d5⟩
          · rw [set_else _ (by omega), set_else _ (by omega), set_else _ (by omega)]; exact d1
          · rw [set_else _ (by omega), set_else _ (by omega), set_else _ (by omega)]; exact d2
          · rw [set_else _ (by omega), set_else _ (by omega), set_else _ (by omega)]; exact d3
      case measure => simp [intOf]; omega
    · go_wp2
      go_ret
      refine ⟨rfl, fun j hj => ?_, hb, ⟨cur, hblk, hsz, fun j hj => ?_⟩⟩
      rotate_left
      · obtain ⟨-, -, g', d3, -, d5, d6⟩ := hdone j hj (by omega)
        exact ⟨g', d3, by omega, d6⟩
      obtain ⟨d1, d2, g', d3, d4, -, -⟩ := hdone j hj (by omega)
      exact ⟨w.heap.size, 0, some ⟨g', 0, none⟩, fs[j].code.length, rfl, Nat.le_refl _, by rw [block_cell hblk, Nat.zero_add]; exact d1, by rw [block_cell hblk, Nat.zero_add]; exact d2, by rw [block_cell hblk, Nat.zero_add]; exact d3, d4.low (by omega)⟩

set_option maxHeartbeats 400000 in
theorem toModule_made (a a2 : Option Addr) (ts : List ByteArray) (fs : List Fn) (cap cap2 : Nat) (w : World) (hs : Small ts fs) (hm : StrsAt w 0 a ts) (hm2 : FnsAt w 0 a2 fs) :
    Calls Tryz.prog 6 #[.agg #[.slice a ts.length cap, .slice a2 fs.length cap2]] w fun e w' => ∃ g g2, w.heap.size ≤ g ∧ w.heap.size ≤ g2 ∧ e = .returned (.agg #[.slice (some ⟨g, 0, none⟩) ts.length ts.length, .slice (some ⟨g2, 0, none⟩) fs.length fs.length]) ∧
      StrsAt w' w.heap.size (some ⟨g, 0, none⟩) ts ∧ FnsAt w' w.heap.size (some ⟨g2, 0, none⟩) fs ∧ Below w.heap.size w w' ∧ TextBlk w' g ts.length ∧ FnsBlk w' w.heap.size g2 fs := by
  go_enter Tryz.func6, Tryz.ntmps6
  go_wp2_with fail
  have hbA : Below w.heap.size w (((w.alloc (.cells #[.slice a ts.length cap, .slice a2 fs.length cap2] 25)).alloc (.cells #[.slice none 0 0, .slice none 0 0] 29)).alloc (.cells #[.slice none 0 0, .slice none 0 0] 29)) :=
    (((Below.refl _ _).alloc (Nat.le_refl _) _).alloc (by simp) _).alloc (by simp; omega) _
  refine (toStringS_made a ts cap _ hs.texts (hm.mono hbA)).mono ?_
  rintro e w1 ⟨rfl, hst, hb, htb⟩
  have hB := block_kept (block_old (block_old (block_new w #[.slice a ts.length cap, .slice a2 fs.length cap2] 25) (.cells #[.slice none 0 0, .slice none 0 0] 29)) (.cells #[.slice none 0 0, .slice none 0 0] 29)) hb
  have hR := block_kept (block_old (block_new (w.alloc (.cells #[.slice a ts.length cap, .slice a2 fs.length cap2] 25)) #[.slice none 0 0, .slice none 0 0] 29) (.cells #[.slice none 0 0, .slice none 0 0] 29)) hb
  have hO := block_kept (block_new ((w.alloc (.cells #[.slice a ts.length cap, .slice a2 fs.length cap2] 25)).alloc (.cells #[.slice none 0 0, .slice none 0 0] 29)) #[.slice none 0 0, .slice none 0 0] 29) hb
  simp only [World.size_alloc] at hB hR hO hst htb
  have hz1 := hb.size
  simp only [World.size_alloc] at hz1
  have hb1 : Below w.heap.size w w1 := hbA.trans (hb.mono (by simp; omega))
  have b1 := block_cell hB
  have o1 := block_cell hO
  have o2 := block_free hO
  go_wp2_with fail
  have hb1' : Below w.heap.size w (w1.setCell ⟨w.heap.size + 1 + 1, 0, none⟩ (.slice (some ⟨w.heap.size + 1 + 1 + 1, 0, none⟩) ts.length ts.length)) := hb1.setCell (by simp; omega) _
  refine (toFuncS_made a2 fs cap2 _ hs.funcs hs.code (hm2.mono hb1')).mono ?_
  rintro e w2 ⟨rfl, hfn, hb2, hfb⟩
  have hR2 := block_kept (w' := w2) (show (w1.setCell ⟨w.heap.size + 1 + 1, 0, none⟩ (.slice (some ⟨w.heap.size + 1 + 1 + 1, 0, none⟩) ts.length ts.length)).heap[w.heap.size + 1]? = _ by rw [Below.heap_setCell _ _ _ _ (by simp)]; exact hR) hb2
  have hO2 := block_kept (w' := w2) (block_set (i := 0) hO (.slice (some ⟨w.heap.size + 1 + 1 + 1, 0, none⟩) ts.length ts.length)) hb2
  have hst2 : StrsAt w2 (w.heap.size + 1 + 1 + 1) (some ⟨w.heap.size + 1 + 1 + 1, 0, none⟩) ts := (hst.above ((Above.refl _ _).setCell (p := ⟨w.heap.size + 1 + 1, 0, none⟩) (by simp) (.slice (some ⟨w.heap.size + 1 + 1 + 1, 0, none⟩) ts.length ts.length))).mono hb2
  have htb2 := (htb.above ((Above.refl (w.heap.size + 1 + 1 + 1) _).setCell (p := ⟨w.heap.size + 1 + 1, 0, none⟩) (by simp) (.slice (some ⟨w.heap.size + 1 + 1 + 1, 0, none⟩) ts.length ts.length)) (Nat.le_refl _)).mono hb2
  simp only [World.size_setCell] at hfn hb2 hfb ⊢
  have hb3 : Below w.heap.size w w2 := hb1'.trans (hb2.mono (by omega))
  simp at hO2
  have r1 := block_cell hR2
  have r2 := block_free hR2
  have p1 := block_cell hO2
  have p2 := block_free hO2
  clear hB hR hO b1 o1 o2 hR2 hO2 hst hb hb2 hbA hb1'
  go_wp2
  refine bodyPost_ret (v := .agg #[(.slice (some ⟨w.heap.size + 1 + 1 + 1, 0, none⟩) ts.length ts.length), .slice (some ⟨w1.heap.size, 0, none⟩) fs.length fs.length]) (by simp [results, Tryz.results6, go_sem, r1]) rfl ⟨w.heap.size + 1 + 1 + 1, w1.heap.size, by omega, by omega, rfl, ?_, ?_, ?_, ?_, ?_⟩
  · exact (hst2.above ((((Above.refl _ _).setCell (by simp) _).setCell (by simp) _).setCell (by simp) _)).low (by omega)
  · exact (hfn.above ((((Above.refl _ _).setCell (by simp; omega) _).setCell (by simp; omega) _).setCell (by simp; omega) _)).low (by omega)
  · exact ((hb3.setCell (by simp; omega) _).setCell (by simp) _).setCell (by simp) _
  · exact htb2.above ((((Above.refl _ _).setCell (by simp) _).setCell (by simp) _).setCell (by simp) _) (Nat.le_refl _)
  · exact (hfb.above ((((Above.refl (w.heap.size + 1 + 1 + 1) _).setCell (by simp) _).setCell (by simp) _).setCell (by simp) _) (by omega) (by omega)).low (by omega)
end Go.Proofs.YtjdoljaailokmaaGreatDoor
