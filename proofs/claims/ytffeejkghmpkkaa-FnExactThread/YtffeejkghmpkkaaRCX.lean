/-
  A function of a module with the passes done: impl.rewritten's closure.
-/
import Derived.Test.YtffeejkghmpkkaaRCW
import Derived.Test.YtffeejkghmpkkaaRGT
namespace Go.Proofs.Ytffeejkghmpkkaa
open Go.RowKit

/-- What settled does with the instructions of each function of this module. -/
def SetC (w0 : World) (a1 a2 : Option Addr) (c1 c2 : Nat) (ts : List ByteArray) (fs : List Fn) (pv : Value) (f : List (Int × Int) → List (Int × Int)) : Prop :=
  ∀ (w : World) (B cap : Nat) (code : List (Int × Int)) (ca : Option Addr), Below w0.heap.size w0 w → w0.heap.size ≤ B → B ≤ w.heap.size → (∃ F ∈ fs, F.code = code) → w.ownsRow B 54 2 (.slice ca code.length cap) code.length (codeVals code) →
    Calls Try.prog 41 #[.agg #[.slice a1 ts.length c1, .slice a2 fs.length c2], .slice ca code.length cap, pv] w fun e w' => ∃ v, e = .returned v ∧ CRow w' B v (f code) ∧ Below B w w'

set_option maxRecDepth 100000 in
set_option maxHeartbeats 8000000 in
theorem rew1_any (w0 w : World) (a1 a2 : Option Addr) (c1 c2 Mb Pb b off cc : Nat) (ts : List ByteArray) (fs : List Fn) (pv : Value) (p l : Int) (code : List (Int × Int)) (f : List (Int × Int) → List (Int × Int)) (hset : SetC w0 a1 a2 c1 c2 ts fs pv f) (hb : Below w0.heap.size w0 w) (hF : ∃ F ∈ fs, F.code = code)
    (h1 : 1 ≤ code.length) (h120 : code.length ≤ 120) (hcode : CodeAt w 0 (some ⟨b, off, none⟩) code)
    (hM : w.heap[Mb]? = some (.cells #[.slice a1 ts.length c1, .slice a2 fs.length c2] 29 (0, 0))) (hP : w.heap[Pb]? = some (.cells #[pv] 49 (0, 0))) :
    Calls Try.prog 40 #[.agg #[.int .i64 p, .int .i64 l, .slice (some ⟨b, off, none⟩) code.length cc], .pointer (some ⟨Mb, 0, none⟩), .pointer (some ⟨Pb, 0, none⟩)] w fun e w' => ∃ a' c', e = .returned (.agg #[.int .i64 p, .int .i64 l, .slice a' (f code).length c']) ∧ w'.ownsRow w.heap.size 54 2 (.slice a' (f code).length c') (f code).length (codeVals (f code)) ∧ Below w.heap.size w w' := by
  obtain ⟨wA, hwA⟩ : ∃ wA, wA = (w.alloc (.cells #[.int .i64 p, .int .i64 l, .slice (some ⟨b, off, none⟩) code.length cc] 44)).alloc (.cells #[.int .i64 0, .int .i64 0, .slice none 0 0] 44) := ⟨_, rfl⟩
  have hbA : Below w.heap.size w wA := by rw [hwA]; exact ((Below.refl _ _).alloc (Nat.le_refl _) _).alloc (by simp) _
  have hFn : wA.heap[w.heap.size]? = some (.cells #[.int .i64 p, .int .i64 l, .slice (some ⟨b, off, none⟩) code.length cc] 44 (0, 0)) := by rw [hwA]; exact block_old (block_new _ _ _) _
  have hRn : wA.heap[w.heap.size + 1]? = some (.cells #[.int .i64 0, .int .i64 0, .slice none 0 0] 44 (0, 0)) := by rw [hwA]; simpa using block_new (w.alloc (.cells #[.int .i64 p, .int .i64 l, .slice (some ⟨b, off, none⟩) code.length cc] 44)) #[.int .i64 0, .int .i64 0, .slice none 0 0] 44
  have hMA := block_kept hM hbA
  have hPA := block_kept hP hbA
  have hszA : w.heap.size + 2 ≤ wA.heap.size := by rw [hwA]; simp
  have HSZ := hid hszA
  have HBA := hid hbA
  have HCL : Hid (∀ W, Below wA.heap.size wA W → Calls Try.prog 42 #[.slice (some ⟨b, off, none⟩) code.length cc] W fun e w' => ∃ g cap, e = .returned (.slice (some ⟨g, 0, none⟩) code.length cap) ∧ w'.ownsRow W.heap.size 54 2 (.slice (some ⟨g, 0, none⟩) code.length cap) code.length (codeVals code) ∧ Below W.heap.size W w') := fun W hW => insClone_any b off code.length cc code W rfl ((hcode.mono hbA).mono hW) h1 h120
  have HST : Hid (∀ (W : World) (g cap : Nat), Below wA.heap.size wA W → W.ownsRow wA.heap.size 54 2 (.slice (some ⟨g, 0, none⟩) code.length cap) code.length (codeVals code) → Calls Try.prog 41 #[.agg #[.slice a1 ts.length c1, .slice a2 fs.length c2], .slice (some ⟨g, 0, none⟩) code.length cap, pv] W fun e w' => ∃ v, e = .returned v ∧ CRow w' wA.heap.size v (f code) ∧ Below wA.heap.size W w') := fun W g cap hW ho =>
    hset W wA.heap.size cap code (some ⟨g, 0, none⟩) ((hb.trans (hbA.mono hb.size)).trans (hW.mono (Nat.le_trans hb.size hbA.size))) (Nat.le_trans hb.size hbA.size) hW.size hF ho
  have HFX : Hid (∀ w', Below wA.heap.size wA w' → w'.heap[w.heap.size]? = some (.cells #[.int .i64 p, .int .i64 l, .slice (some ⟨b, off, none⟩) code.length cc] 44 (0, 0))) := fun w' q => block_kept hFn q
  have HS : Hid (∀ w', Below wA.heap.size wA w' → w'.cell? ⟨Mb, 0, none⟩ = some (.slice a1 ts.length c1) ∧ w'.cell? ⟨Mb, 1, none⟩ = some (.slice a2 fs.length c2) ∧ w'.cell? ⟨Pb, 0, none⟩ = some pv ∧ w'.cell? ⟨w.heap.size, 2, none⟩ = some (.slice (some ⟨b, off, none⟩) code.length cc)) := fun w' q => ⟨by rw [block_cell (block_kept hMA q)]; rfl, by rw [block_cell (block_kept hMA q)]; rfl, by rw [block_cell (block_kept hPA q)]; rfl, by rw [block_cell (block_kept hFn q)]; rfl⟩
  clear hset hcode hM hP hMA hPA hF
  go_enter Try.func40, Try.ntmps40
  go_upto_region 1 with fail
  rw [← hwA]
  clear hwA hbA hszA
  have hh : (fun w' : World => w'.cell? ⟨Mb, 0, none⟩ = some (.slice a1 ts.length c1) ∧ w'.cell? ⟨Mb, 1, none⟩ = some (.slice a2 fs.length c2) ∧ w'.cell? ⟨Pb, 0, none⟩ = some pv ∧ w'.cell? ⟨w.heap.size, 2, none⟩ = some (.slice (some ⟨b, off, none⟩) code.length cc)) wA.drew := HS.out _ (Below.refl _ _).drew
  refine wp_region_T (RS [7] (fun w' : World => w'.cell? ⟨Mb, 0, none⟩ = some (.slice a1 ts.length c1) ∧ w'.cell? ⟨Mb, 1, none⟩ = some (.slice a2 fs.length c2) ∧ w'.cell? ⟨Pb, 0, none⟩ = some pv ∧ w'.cell? ⟨w.heap.size, 2, none⟩ = some (.slice (some ⟨b, off, none⟩) code.length cc))) (by kernel_rfl) ?_
  refine tkS (i := 0) [5, 7] (v := ?_) rfl (by kernel_rfl) (by kernel_rfl) (fun _ _ _ h => h) ?_ hh ?_
  rotate_left
  · intro w' hSw
    obtain ⟨s0, s1, s2, s3⟩ := hSw
    go_simp
    try with_reducible rfl
  simp only [Act.put, List.setIfInBounds_toArray]
  refine tkP (i := 1) (v := ?_) rfl (by kernel_rfl) (fun _ _ _ h => h) ?_ ?_
  rotate_left
  · intro w'
    go_simp
    try with_reducible rfl
  simp only [Act.put]
  refine tkS (i := 2) [3, 5, 7] (v := ?_) rfl (by kernel_rfl) (by kernel_rfl) (fun _ _ _ h => h) ?_ hh ?_
  rotate_left
  · intro w' hSw
    obtain ⟨s0, s1, s2, s3⟩ := hSw
    go_simp
    try with_reducible rfl
  simp only [Act.put]
  refine tkS (i := 4) [5, 7] (v := ?_) rfl (by kernel_rfl) (by kernel_rfl) (fun _ _ _ h => h) ?_ hh ?_
  rotate_left
  · intro w' hSw
    obtain ⟨s0, s1, s2, s3⟩ := hSw
    go_simp
    try with_reducible rfl
  simp only [Act.put]
  refine wpAnyT_one (i := 3) (o := _) (by kernel_rfl) rfl (fun Kq hK => ?_)
  go_simp
  go_at_call 42
  refine (HCL.out _ (Below.refl _ _).drew).mono ?_
  rintro e w5 ⟨g5, cp5, rfl, hown5, hb5⟩
  have q5 : Below wA.heap.size wA w5 := (Below.refl _ _).drew.trans hb5
  refine hK.out _ _ (.inr fun _ => HS.out w5 q5) ?_
  clear hK Kq
  try simp only [Act.put]
  refine wpAnyT_one (i := 5) (o := _) (by kernel_rfl) rfl (fun Kq hK => ?_)
  go_simp
  go_at_call 41
  refine (HST.out w5 g5 cp5 q5 hown5).mono ?_
  rintro e w6 ⟨v6, rfl, hrow6, hb6⟩
  have q6 : Below wA.heap.size wA w6 := q5.trans hb6
  have f2 := block_cell (HFX.out w6 q6)
  have f3 := block_free (HFX.out w6 q6)
  refine hK.out _ _ (.inr fun _ => HS.out w6 q6) ?_
  clear hK Kq
  try simp only [Act.put]
  refine tkP (i := 6) (v := ?_) rfl (by kernel_rfl) (fun _ _ _ h => h) ?_ ?_
  rotate_left
  · intro w'
    go_simp
    try with_reducible rfl
  simp only [Act.put]
  refine wpAnyT_one (i := 7) (o := _) (by kernel_rfl) rfl (fun Kq hK => ?_)
  obtain ⟨a6, c6, rfl, hown6⟩ := hrow6
  go_simp
  refine hK.out _ _ (.inl (by decide)) ?_
  clear hK Kq
  try simp only [Act.put]
  refine wpAnyT_done (by kernel_rfl) ?_ _
  have hFn6 := HFX.out w6 q6
  have hRn6 := block_kept hRn q6
  have hFs := block_set (i := 2) hFn6 (.slice a6 (f code).length c6)
  have hRs : (w6.setCell ⟨w.heap.size, 2, none⟩ (.slice a6 (f code).length c6)).heap[w.heap.size + 1]? = some (.cells #[.int .i64 0, .int .i64 0, .slice none 0 0] 44 (0, 0)) := by rw [Below.heap_setCell _ _ _ _ (by simp)]; exact hRn6
  have y1 := block_cell hFs
  have y2 := block_cell hRs
  have y3 := block_free hRs
  have hq1 := block_set (i := 0) hRs (.int .i64 p)
  have hq2 := block_set (i := 1) hq1 (.int .i64 l)
  have hq3 := block_set (i := 2) hq2 (.slice a6 (f code).length c6)
  have rr := block_cell hq3
  have HF : Hid ((∃ a' c', (Ending.returned (.agg #[.int .i64 p, .int .i64 l, .slice a6 (f code).length c6]) = .returned (.agg #[.int .i64 p, .int .i64 l, .slice a' (f code).length c'])) ∧ ((((w6.setCell ⟨w.heap.size, 2, none⟩ (.slice a6 (f code).length c6)).setCell ⟨w.heap.size + 1, 0, none⟩ (.int .i64 p)).setCell ⟨w.heap.size + 1, 1, none⟩ (.int .i64 l)).setCell ⟨w.heap.size + 1, 2, none⟩ (.slice a6 (f code).length c6)).ownsRow w.heap.size 54 2 (.slice a' (f code).length c') (f code).length (codeVals (f code)) ∧ Below w.heap.size w ((((w6.setCell ⟨w.heap.size, 2, none⟩ (.slice a6 (f code).length c6)).setCell ⟨w.heap.size + 1, 0, none⟩ (.int .i64 p)).setCell ⟨w.heap.size + 1, 1, none⟩ (.int .i64 l)).setCell ⟨w.heap.size + 1, 2, none⟩ (.slice a6 (f code).length c6)))) := by
    refine ⟨a6, c6, rfl, ?_, ?_⟩
    · have := own_low (ownsRow_setCell_below (ownsRow_setCell_below (ownsRow_setCell_below (ownsRow_setCell_below hown6 (a := ⟨w.heap.size, 2, none⟩) (by have := HSZ.out; simp; omega) (.slice a6 (f code).length c6)) (a := ⟨w.heap.size + 1, 0, none⟩) (by have := HSZ.out; simp; omega) (.int .i64 p)) (a := ⟨w.heap.size + 1, 1, none⟩) (by have := HSZ.out; simp; omega) (.int .i64 l)) (a := ⟨w.heap.size + 1, 2, none⟩) (by have := HSZ.out; simp; omega) (.slice a6 (f code).length c6)) (show w.heap.size ≤ wA.heap.size by have := HSZ.out; omega)
      exact this
    · exact ((((HBA.out.trans (q6.mono HBA.out.size)).setCell (p := ⟨w.heap.size, 2, none⟩) (Nat.le_refl _) (.slice a6 (f code).length c6)).setCell (p := ⟨w.heap.size + 1, 0, none⟩) (by simp) (.int .i64 p)).setCell (p := ⟨w.heap.size + 1, 1, none⟩) (by simp) (.int .i64 l)).setCell (p := ⟨w.heap.size + 1, 2, none⟩) (by simp) (.slice a6 (f code).length c6)
  clear hFs hRs hq1 hq2 hq3 hown6 hb6 q6 hown5 hb5 q5 hFn6 hRn6 hRn hFn f2 f3 hh
  go_simp
  go_wp2
  refine bodyPost_ret (v := .agg #[.int .i64 p, .int .i64 l, .slice a6 (f code).length c6]) (by simp [results, Try.results40, go_sem, rr]) rfl HF.out
end Go.Proofs.Ytffeejkghmpkkaa
