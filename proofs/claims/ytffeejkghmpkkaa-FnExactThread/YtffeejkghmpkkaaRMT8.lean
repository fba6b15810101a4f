/-
  impl.Thread.
  impl.Cut.
  Nothing of its own: what stood here stands in Mem3.
-/
import Derived.Test.YtffeejkghmpkkaaRTH3
import Derived.Test.YtffeejkghmpkkaaRCZ
import Derived.Test.YtffeejkghmpkkaaRMT2
import Derived.Test.YtffeejkghmpkkaaRMem3
namespace Go.Proofs.Ytffeejkghmpkkaa
open Go.RowKit

theorem HopsAt.mono {w w' : World} {v : Value} {k : Nat} (h : HopsAt w v k) (hb : Below w.heap.size w w') : HopsAt w' v k := by
  obtain ⟨pa, pc, h1, h2⟩ := h
  refine ⟨pa, pc, h1, fun j hj => ?_⟩
  obtain ⟨g, x, q1, q2, q3⟩ := h2 j hj
  exact ⟨g, x, q1, cell_later hb q2, cell_later hb q3⟩
theorem fine_in {fs : List Fn} {code : List (Int × Int)} (F : Fine fs code) : JIn code.length code := ⟨rfl, fun i hi hj => by
  rw [getD_code hi] at hj ⊢
  exact F.jump i hi hj⟩
theorem setc_thr {W : World} {a1 a2 pa : Option Addr} {c1 c2 pc : Nat} {ts : List ByteArray} {fs : List Fn} (hG : Good ts fs) (hH : HopsAt W (.slice pa 120 pc) 120) : SetC W a1 a2 c1 c2 ts fs (.slice pa 120 pc) thrOf := by
  intro w B cap code ca hb hB hBw hF hown
  obtain ⟨F, hF, rfl⟩ := hF
  obtain ⟨k, hk, rfl⟩ := List.getElem_of_mem hF
  have FF := good_fine hG hk
  exact setThr_any W w a1 a2 pa ts.length fs.length c1 c2 pc B cap _ _ ca hH hb hB hBw (fine_in FF) FF.one FF.most hown

set_option maxRecDepth 100000 in
set_option maxHeartbeats 4000000 in
theorem iThread_any (a1 a2 : Option Addr) (c1 c2 : Nat) (ts : List ByteArray) (fs : List Fn) (w : World) (hs : Small ts fs) (hst : StrsAt w 0 a1 ts) (hfn : FnsAt w 0 a2 fs) :
    Calls Try.prog 13 #[.agg #[.slice a1 ts.length c1, .slice a2 fs.length c2]] w fun e w' => IPost thrOf ts fs w e w' := by
  obtain ⟨wA, hwA⟩ : ∃ wA, wA = (w.alloc (.cells #[.slice a1 ts.length c1, .slice a2 fs.length c2] 29)).alloc (.cells #[.slice none 0 0, .slice none 0 0] 29) := ⟨_, rfl⟩
  have hbA : Below w.heap.size w wA := by rw [hwA]; exact ((Below.refl _ _).alloc (Nat.le_refl _) _).alloc (by simp) _
  have hM : wA.heap[w.heap.size]? = some (.cells #[.slice a1 ts.length c1, .slice a2 fs.length c2] 29 (0, 0)) := by rw [hwA]; exact block_old (block_new _ _ _) _
  have hR : wA.heap[w.heap.size + 1]? = some (.cells #[.slice none 0 0, .slice none 0 0] 29 (0, 0)) := by rw [hwA]; simpa using block_new (w.alloc (.cells #[.slice a1 ts.length c1, .slice a2 fs.length c2] 29)) #[.slice none 0 0, .slice none 0 0] 29
  have hszA : w.heap.size + 2 ≤ wA.heap.size := by rw [hwA]; simp
  have HSZ := hid hszA
  have HBA := hid hbA
  have HRB := hid hR
  have HC : Hid (∀ (W : World) (pa : Option Addr) (pc : Nat), Below wA.heap.size wA W → HopsAt W (.slice pa 120 pc) 120 → Calls Try.prog 22 #[.agg #[.slice a1 ts.length c1, .slice a2 fs.length c2], .slice pa 120 pc] W fun e w' => IPost thrOf ts fs W e w') := fun W pa pc hW hH => by
    have hbW := hbA.trans (hW.mono hbA.size)
    exact rew_any W a1 a2 pa c1 c2 120 pc ts fs thrOf hs (hst.mono hbW) (hfn.mono hbW) (fun hG W' hW' => setc_thr hG (hH.mono hW'))
  have HS : Hid (∀ w', Below wA.heap.size wA w' → w'.cell? ⟨w.heap.size, 0, none⟩ = some (.slice a1 ts.length c1) ∧ w'.cell? ⟨w.heap.size, 1, none⟩ = some (.slice a2 fs.length c2)) := fun w' q => ⟨by rw [block_cell (block_kept hM q)]; rfl, by rw [block_cell (block_kept hM q)]; rfl⟩
  have HS2 : Hid (∀ w5, Below wA.heap.size wA w5 → ∀ v1 v2, (fun w' : World => w'.cell? ⟨w.heap.size, 0, none⟩ = some (.slice a1 ts.length c1) ∧ w'.cell? ⟨w.heap.size, 1, none⟩ = some (.slice a2 fs.length c2)) ((w5.setCell ⟨w.heap.size + 1, 0, none⟩ v1).setCell ⟨w.heap.size + 1, 1, none⟩ v2)) := fun w5 q v1 v2 =>
    ⟨by rw [block_cell (g := w.heap.size) (by rw [Below.heap_setCell _ _ _ _ (by simp), Below.heap_setCell _ _ _ _ (by simp)]; exact block_kept hM q)]; rfl,
     by rw [block_cell (g := w.heap.size) (by rw [Below.heap_setCell _ _ _ _ (by simp), Below.heap_setCell _ _ _ _ (by simp)]; exact block_kept hM q)]; rfl⟩
  clear hst hfn hbA hs hM hR
  go_enter Try.func13, Try.ntmps13
  go_upto_region 1 with fail
  rw [← hwA]
  clear hwA hszA
  have hh : (fun w' : World => w'.cell? ⟨w.heap.size, 0, none⟩ = some (.slice a1 ts.length c1) ∧ w'.cell? ⟨w.heap.size, 1, none⟩ = some (.slice a2 fs.length c2)) _ := HS.out _ (Below.refl _ _).drew
  refine h_begin (fun w' : World => w'.cell? ⟨w.heap.size, 0, none⟩ = some (.slice a1 ts.length c1) ∧ w'.cell? ⟨w.heap.size, 1, none⟩ = some (.slice a2 fs.length c2)) (by kernel_rfl) ?_
  refine h_take (i := 0) (oi := _) (v := ?_) rfl (by kernel_rfl) (by kernel_rfl) (by kernel_rfl) (fun _ _ _ h => h) (by kernel_rfl) ?_ hh ?_
  rotate_left
  · intro w' hSw
    obtain ⟨s0, s1⟩ := hSw
    go_simp
    try with_reducible rfl
  simp only [Act.put, List.setIfInBounds_toArray]
  refine h_one (i := 1) (o := _) (by kernel_rfl) rfl (fun K hK => ?_)
  go_simp
  go_at_call 30
  refine (hops_any _).mono ?_
  rintro e wB ⟨pa, pc, rfl, hHB, hbB⟩
  have qB : Below wA.heap.size wA wB := (Below.refl _ _).drew.trans hbB
  have hh : (fun w' : World => w'.cell? ⟨w.heap.size, 0, none⟩ = some (.slice a1 ts.length c1) ∧ w'.cell? ⟨w.heap.size, 1, none⟩ = some (.slice a2 fs.length c2)) _ := HS.out wB qB
  refine hK.out _ _ hh ?_
  clear hK K
  try simp only [Act.put]
  refine h_one (i := 2) (o := _) (by kernel_rfl) rfl (fun K hK => ?_)
  go_simp
  go_at_call 22
  refine (HC.out wB pa pc qB hHB).mono ?_
  rintro e w3 ⟨ts', fs', cs, b1, d1, b2, d2, HR, rfl, hmo, hb3⟩
  have q3 : Below wA.heap.size wA w3 := qB.trans (hb3.mono qB.size)
  have hR3 := block_kept HRB.out q3
  have r1 := block_cell hR3
  have r2 := block_free hR3
  have hh : (fun w' : World => w'.cell? ⟨w.heap.size, 0, none⟩ = some (.slice a1 ts.length c1) ∧ w'.cell? ⟨w.heap.size, 1, none⟩ = some (.slice a2 fs.length c2)) _ := HS.out w3 q3
  refine hK.out _ _ hh ?_
  clear hK K
  try simp only [Act.put]
  refine h_one (i := 3) (o := _) (by kernel_rfl) rfl (fun K hK => ?_)
  go_simp
  have hh : (fun w' : World => w'.cell? ⟨w.heap.size, 0, none⟩ = some (.slice a1 ts.length c1) ∧ w'.cell? ⟨w.heap.size, 1, none⟩ = some (.slice a2 fs.length c2)) _ := HS2.out w3 q3 (.slice b1 ts'.length d1) (.slice b2 fs'.length d2)
  refine hK.out _ _ hh ?_
  clear hK K
  try simp only [Act.put]
  refine wpAnyH_done (by kernel_rfl) ?_ _
  have hr1 := block_set (i := 0) hR3 (.slice b1 ts'.length d1)
  have hr2 := block_set (i := 1) hr1 (.slice b2 fs'.length d2)
  have rr := block_cell hr2
  have HF : Hid (ModOwn ((w3.setCell ⟨w.heap.size + 1, 0, none⟩ (.slice b1 ts'.length d1)).setCell ⟨w.heap.size + 1, 1, none⟩ (.slice b2 fs'.length d2)) w.heap.size b1 d1 b2 d2 ts' fs' cs ∧ Below w.heap.size w ((w3.setCell ⟨w.heap.size + 1, 0, none⟩ (.slice b1 ts'.length d1)).setCell ⟨w.heap.size + 1, 1, none⟩ (.slice b2 fs'.length d2))) := by
    have hz := HSZ.out
    have hzB := qB.size
    have hb := HBA.out.trans (q3.mono HBA.out.size)
    exact ⟨((hmo.set (p := ⟨w.heap.size + 1, 0, none⟩) (by simp; omega) _).set (p := ⟨w.heap.size + 1, 1, none⟩) (by simp; omega) _).low (by omega), (hb.setCell (p := ⟨w.heap.size + 1, 0, none⟩) (by simp) _).setCell (p := ⟨w.heap.size + 1, 1, none⟩) (by simp) _⟩
  clear hr1 hr2 hmo hb3 q3 qB hbB hHB hR3 r1 r2 hh
  go_simp
  go_wp2
  refine bodyPost_ret (v := .agg #[.slice b1 ts'.length d1, .slice b2 fs'.length d2]) (by simp [results, Try.results13, go_sem, rr]) rfl ?_
  exact ⟨ts', fs', cs, b1, d1, b2, d2, HR, rfl, HF.out.1, HF.out.2⟩
theorem thr_len (code : List (Int × Int)) : (thrOf code).length = code.length := thrTo_len _ _
end Go.Proofs.Ytffeejkghmpkkaa

namespace Go.Proofs.Ytffeejkghmpkkaa
open Go.RowKit

theorem setc_cut {W : World} {a1 a2 : Option Addr} {c1 c2 pb : Nat} {ts : List ByteArray} {fs : List Fn} (hG : Good ts fs) (hfn : FnsAt W 0 a2 fs) (hp : W.cell? ⟨pb, 0, none⟩ = some (.func (.func 23) #[] #[])) : SetC W a1 a2 c1 c2 ts fs (.slice (some ⟨pb, 0, none⟩) 1 1) (cutOf fs) := by
  intro w B cap code ca hb hB hBw hF hown
  obtain ⟨F, hF, rfl⟩ := hF
  obtain ⟨k, hk, rfl⟩ := List.getElem_of_mem hF
  have FF := good_fine hG hk
  obtain ⟨d, hD⟩ := done_is FF
  exact setCutN_any 1 rfl W w a1 a2 ts.length c1 c2 pb B cap fs _ d ca hfn hp hb hBw FF hD (good_lab hG hk hD) hown

set_option maxRecDepth 100000 in
set_option maxHeartbeats 4000000 in
theorem iCut_any (a1 a2 : Option Addr) (c1 c2 : Nat) (ts : List ByteArray) (fs : List Fn) (w : World) (hs : Small ts fs) (hst : StrsAt w 0 a1 ts) (hfn : FnsAt w 0 a2 fs) :
    Calls Try.prog 8 #[.agg #[.slice a1 ts.length c1, .slice a2 fs.length c2]] w fun e w' => IPost (cutOf fs) ts fs w e w' := by
  obtain ⟨wA, hwA⟩ : ∃ wA, wA = (w.alloc (.cells #[.slice a1 ts.length c1, .slice a2 fs.length c2] 29)).alloc (.cells #[.slice none 0 0, .slice none 0 0] 29) := ⟨_, rfl⟩
  have hbA : Below w.heap.size w wA := by rw [hwA]; exact ((Below.refl _ _).alloc (Nat.le_refl _) _).alloc (by simp) _
  have hM : wA.heap[w.heap.size]? = some (.cells #[.slice a1 ts.length c1, .slice a2 fs.length c2] 29 (0, 0)) := by rw [hwA]; exact block_old (block_new _ _ _) _
  have hR : wA.heap[w.heap.size + 1]? = some (.cells #[.slice none 0 0, .slice none 0 0] 29 (0, 0)) := by rw [hwA]; simpa using block_new (w.alloc (.cells #[.slice a1 ts.length c1, .slice a2 fs.length c2] 29)) #[.slice none 0 0, .slice none 0 0] 29
  have hszA : w.heap.size + 2 ≤ wA.heap.size := by rw [hwA]; simp
  have HSZ := hid hszA
  obtain ⟨wB, hwB⟩ : ∃ wB, wB = wA.alloc (.cells #[.func (.func 23) #[] #[]] 85) := ⟨_, rfl⟩
  have hbAB : Below wA.heap.size wA wB := by rw [hwB]; exact (Below.refl _ _).alloc (Nat.le_refl _) _
  have hbB := hbA.trans (hbAB.mono hbA.size)
  have hPc : wB.cell? ⟨wA.heap.size, 0, none⟩ = some (.func (.func 23) #[] #[]) := by rw [hwB]; exact cell_new wA _ _ 0
  have HC : Hid (Calls Try.prog 22 #[.agg #[.slice a1 ts.length c1, .slice a2 fs.length c2], .slice (some ⟨wA.heap.size, 0, none⟩) 1 1] wB fun e w' => IPost (cutOf fs) ts fs wB e w') :=
    rew_any wB a1 a2 _ c1 c2 1 1 ts fs (cutOf fs) hs (hst.mono hbB) (hfn.mono hbB) (fun hG W hW => setc_cut hG ((hfn.mono hbB).mono hW) (cell_later hW hPc))
  have hRB := block_kept hR hbAB
  have HB := hid (And.intro hbB (Nat.le_trans HSZ.out hbAB.size))
  have m0 := block_cell hM
  clear hst hfn hPc hbAB hbB hbA hs
  go_enter Try.func8, Try.ntmps8
  go_upto_region 1 with fail
  rw [← hwA]
  clear hwA hszA
  go_wp2_with fail
  rw [← hwB]
  refine HC.out.mono ?_
  rintro e w3 ⟨ts', fs', cs, b1, d1, b2, d2, HR, rfl, hmo, hb3⟩
  have hR3 := block_kept hRB hb3
  have r1 := block_cell hR3
  have r2 := block_free hR3
  have hr1 := block_set (i := 0) hR3 (.slice b1 ts'.length d1)
  have hr2 := block_set (i := 1) hr1 (.slice b2 fs'.length d2)
  have rr := block_cell hr2
  have HF : Hid (ModOwn ((w3.setCell ⟨w.heap.size + 1, 0, none⟩ (.slice b1 ts'.length d1)).setCell ⟨w.heap.size + 1, 1, none⟩ (.slice b2 fs'.length d2)) w.heap.size b1 d1 b2 d2 ts' fs' cs ∧ Below w.heap.size w ((w3.setCell ⟨w.heap.size + 1, 0, none⟩ (.slice b1 ts'.length d1)).setCell ⟨w.heap.size + 1, 1, none⟩ (.slice b2 fs'.length d2))) := by
    have hz := HB.out.2
    have hb := HB.out.1.trans (hb3.mono HB.out.1.size)
    exact ⟨((hmo.set (p := ⟨w.heap.size + 1, 0, none⟩) (by simp; omega) _).set (p := ⟨w.heap.size + 1, 1, none⟩) (by simp; omega) _).low (by omega), (hb.setCell (p := ⟨w.heap.size + 1, 0, none⟩) (by simp) _).setCell (p := ⟨w.heap.size + 1, 1, none⟩) (by simp) _⟩
  clear hr1 hr2 hmo hb3 hRB hwB HC
  go_wp2
  refine bodyPost_ret (v := .agg #[.slice b1 ts'.length d1, .slice b2 fs'.length d2]) (by simp [results, Try.results8, go_sem, rr]) rfl ?_
  exact ⟨ts', fs', cs, b1, d1, b2, d2, HR, rfl, HF.out.1, HF.out.2⟩
end Go.Proofs.Ytffeejkghmpkkaa


