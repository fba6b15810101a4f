/-
  impl.ReadModule: an ok module that has this text, or none has.
-/
import Derived.Test.YtpmkfdinkomaiaaGreatDoorGQ14
import Derived.Test.YtpmkfdinkomaiaaGreatDoorU5
import Derived.Test.YtpmkfdinkomaiaaGreatDoorGQ16
namespace Go.Proofs.YtpmkfdinkomaiaaGreatDoor
open Go.RowKit Go.Maps

/-- What both readers are to answer. -/
def ReadPost (text : ByteArray) (w : World) (e : Ending) (w' : World) : Prop :=
  Below w.heap.size w w' ∧ ((∃ ts fs a1 c1 a2 c2 cs, e = .returned (.tuple #[.agg #[.slice a1 ts.length c1, .slice a2 fs.length c2], .bool true]) ∧ modB ts fs = true ∧ text = showB ts fs ∧ ModOwn w' w.heap.size a1 c1 a2 c2 ts fs cs) ∨
    (e = .returned (.tuple #[.agg #[.slice none 0 0, .slice none 0 0], .bool false]) ∧ ∀ T F, modB T F = true → text ≠ showB T F))

theorem cut_sizes (l : List UInt8) : (Lib.cut l [10]).1.length ≤ l.length ∧ ((Lib.cut l [10]).2.2 = true → (Lib.cut l [10]).2.1.length + 1 ≤ l.length) := by
  have hr := Lib.index_room l [10]
  unfold Lib.cut
  split
  · rename_i h
    have := hr h
    simp only [List.length_take, List.length_drop, List.length_cons, List.length_nil] at *
    omega
  · exact ⟨Nat.le_refl _, fun h => by cases h⟩
/-- What is read so far is not longer than what was read of the text. -/
structure Room (r : Nat) (ts : List ByteArray) (fs : List Fn) : Prop where
  texts : ts.length + r ≤ 1048576
  text : ∀ s ∈ ts, s.size ≤ 1048576
  funcs : fs.length + r ≤ 1048576
  code : ∀ f ∈ fs, f.code.length + r ≤ 1048576
theorem Room.small {r : Nat} {ts : List ByteArray} {fs : List Fn} (h : Room r ts fs) : Small ts fs :=
  ⟨by have := h.texts; omega, h.text, by have := h.funcs; omega, fun f hf => by have := h.code f hf; omega⟩
theorem Room.step {r r' n : Nat} {ts ts' : List ByteArray} {fs fs' : List Fn} (h : Room r ts fs) (hg : Grew n ts fs ts' fs') (hr : r' + 1 ≤ r) (hn : n ≤ 1048576) : Room r' ts' fs' := by
  have h1 := h.texts
  have h2 := h.funcs
  have g1 := hg.texts
  have g2 := hg.funcs
  refine ⟨by omega, fun s hs => ?_, by omega, fun f hf => ?_⟩
  · rcases hg.text s hs with q | q
    · exact h.text s q
    · omega
  · rcases hg.code f hf with q | ⟨f0, q0, q⟩
    · omega
    · have := h.code f0 q0; omega

/-- A module laid into the answer's block. -/
theorem twoR_cells {wq : World} {Z : Nat} {x y : Value} (h : wq.heap[Z]? = some (.cells #[.slice none 0 0, .slice none 0 0] 27 (0, 0))) : ((wq.setCell ⟨Z, 0, none⟩ x).setCell ⟨Z, 1, none⟩ y).heap[Z]? = some (.cells #[x, y] 27 (0, 0)) := by
  have := block_set (i := 1) (block_set (i := 0) h x) y
  simpa using this
theorem read_no {text : ByteArray} {w wq : World} (hB : Below w.heap.size w wq) (h : ∀ T F, modB T F = true → text ≠ showB T F) :
    ReadPost text w (.returned (.tuple #[.agg #[.slice none 0 0, .slice none 0 0], .bool false])) ((wq.setCell ⟨w.heap.size, 0, none⟩ (.slice none 0 0)).setCell ⟨w.heap.size, 1, none⟩ (.slice none 0 0)) :=
  ⟨(hB.setCell (p := ⟨w.heap.size, 0, none⟩) (Nat.le_refl _) _).setCell (p := ⟨w.heap.size, 1, none⟩) (Nat.le_refl _) _, .inr ⟨rfl, h⟩⟩

set_option maxRecDepth 100000 in
set_option maxHeartbeats 4000000 in
theorem iRead_any (text : ByteArray) (w : World) (ht : text.size ≤ 1048576) (hw : Hid (∀ k s, words[k]? = some s → w.cell? ⟨0, k, none⟩ = some (.string s))) (htab : Lib.TabIs Tryz.prog w "internal/strconv.uint64pow10" .u64 Lib.pow10Tab) (hv : Vars w) :
    Calls Tryz.prog 9 #[.string text] w (ReadPost text w) := by
  obtain ⟨wA, hwA⟩ : ∃ wA, wA = w.alloc (.cells #[.slice none 0 0, .slice none 0 0] 27) := ⟨_, rfl⟩
  have hbA : Below w.heap.size w wA := by rw [hwA]; exact (Below.refl _ _).alloc (Nat.le_refl _) _
  have hZA : wA.heap[w.heap.size]? = some (.cells #[.slice none 0 0, .slice none 0 0] 27 (0, 0)) := by rw [hwA]; exact block_new _ _ _
  have hzA : wA.heap.size = w.heap.size + 1 := by rw [hwA]; simp
  go_enter Tryz.func9, Tryz.ntmps9
  go_wp2_with fail
  rw [← hwA]
  clear hwA
  refine (ops_any (H := Unit) wA (fun k s h => cell_later hbA (hw.out k s h))).mono ?_
  rintro e w1 ⟨rfl, hO, hb1⟩
  have hZ1 := block_kept hZA hb1
  obtain ⟨K, hKe⟩ : ∃ K, K = wA.heap.size := ⟨_, rfl⟩
  rw [← hKe] at hO ⊢
  have hK1 : K < w1.heap.size := World.ownsMap.lt hO
  obtain ⟨R, hRe⟩ : ∃ R, R = w1.heap.size := ⟨_, rfl⟩
  obtain ⟨w2, hw2⟩ : ∃ w2, w2 = w1.alloc (.cells #[.map (some K), .slice none 0 0, .slice none 0 0] 60) := ⟨_, rfl⟩
  have hb2 : Below w1.heap.size w1 w2 := by rw [hw2]; exact (Below.refl _ _).alloc (Nat.le_refl _) _
  have hR2 : LineAt w2 R (.map (some K)) none 0 0 none 0 0 := by rw [hw2, hRe]; exact block_new _ _ _
  have hz2 : w2.heap.size = R + 1 := by rw [hw2, hRe]; simp
  have hZ2 := block_kept hZ1 hb2
  have hO2 : OpsAt w2 K := map_block hO (hb2.block K hK1)
  have hB2 : Below w.heap.size w w2 := (hbA.trans (hb1.mono (by omega))).trans (hb2.mono (by omega))
  have hm2 : ModOwn w2 (R + 1) none 0 none 0 [] [] [] := ⟨World.ownsRow_nil _ _ _ _, World.ownsRow_nil _ _ _ _, CodesOwn.nil _ _⟩
  have HC2 : Hid (Come text [] [] text ∧ Room text.size [] []) := ⟨Come.start text, by simp; omega, by simp, by simp; omega, by simp⟩
  have hKR : K < R := by omega
  have hZR : w.heap.size < K := by omega
  clear hKe hzA
  go_wp2
  rw [← hRe, ← hw2]
  clear hw2 hO hZA hZ1 hb1 hb2 hbA hRe hK1
  go_loopw [5] (fun v wr => ∃ (r : ByteArray) (ts : List ByteArray) (fs : List Fn) (cs : List (Option Addr × Nat)) (a1 : Option Addr) (c1 : Nat) (a2 : Option Addr) (c2 : Nat), v = .string r ∧ LineAt wr R (.map (some K)) a1 ts.length c1 a2 fs.length c2 ∧ ModOwn wr (R + 1) a1 c1 a2 c2 ts fs cs ∧ Hid (Come text ts fs r ∧ Room r.size ts fs) ∧ Below R w2 wr) (fun v _ => match v with | .string r => r.size | _ => 0)
  case atStart => exact ⟨text, [], [], [], none, 0, none, 0, rfl, hR2, hm2, HC2, Below.refl _ _⟩
  case round =>
    clear HC2 hR2 hm2
    obtain ⟨r, ts, fs, cs, a1, c1, a2, c2, rfl, hRr, hmr, HCR, hbr⟩ := hrel
    obtain ⟨wq, rfl⟩ : ∃ wq, wq = wr := ⟨_, rfl⟩
    have hZr : wq.heap[w.heap.size]? = some (.cells #[.slice none 0 0, .slice none 0 0] 27 (0, 0)) := (hbr.block _ (by omega)).trans hZ2
    have hOr : OpsAt wq K := map_block hO2 (hbr.block K hKR)
    have hzr : R + 1 ≤ wq.heap.size := by rw [← hz2]; exact hbr.size
    have hBr : Below w.heap.size w wq := hB2.trans (hbr.mono (by omega))
    have hvr := hv.below hBr
    have hrs : r.size ≤ 1048576 := by have := HCR.out.2.texts; omega
    by_cases hr0 : r.data.toList = []
    · have hr1 : (r.toList == []) = true := by rw [ByteArray.toList_eq, hr0]; rfl
      have HD : Hid (∀ T F, modB T F = true → text = showB T F → ts = T ∧ fs = F) := HCR.out.1.done hr0
      have hsm := HCR.out.2.small
      have rc := block_cell hRr
      have hst := hmr.strs.low (Nat.zero_le _)
      have hfn := hmr.fns.low (Nat.zero_le _)
      clear HCR hr0
      go_wp2_with fail
      refine (iModuleOk_any a1 a2 ts fs c1 c2 wq hsm hst hfn).mono ?_
      rintro e w5 ⟨rfl, hb5⟩
      have hZ5 := block_kept hZr hb5
      have hR5 : LineAt w5 R (.map (some K)) a1 ts.length c1 a2 fs.length c2 := block_kept hRr hb5
      have hB5 : Below w.heap.size w w5 := hBr.trans (hb5.mono hBr.size)
      have hm5 := hmr.below hb5
      have rc5 := block_cell hR5
      clear rc
      cases hmod : modB ts fs
      · have HNO : Hid (∀ T F, modB T F = true → text ≠ showB T F) := fun T F h1 h2 => by
          obtain ⟨rfl, rfl⟩ := HD.out T F h1 h2
          rw [hmod] at h1
          cases h1
        have zc := block_cell hZ5
        have zf := block_free hZ5
        have z4 := block_cell (twoR_cells (x := .slice none 0 0) (y := .slice none 0 0) hZ5)
        have HF : Hid (ReadPost text w (.returned (.tuple #[.agg #[.slice none 0 0, .slice none 0 0], .bool false])) _) := read_no hB5 HNO.out
        go_wp2
        exact bodyPost_ret (v := .tuple #[.agg #[.slice none 0 0, .slice none 0 0], .bool false]) (by simp [results, Tryz.results9, go_sem, z4]) rfl HF.out
      go_wp2_with fail
      refine (iShow_any a1 a2 ts fs c1 c2 w5 hsm (hst.mono hb5) (hfn.mono hb5) (fun k s h => cell_later hB5 (hw.out k s h)) (Lib.tabBelow_of_tabIs htab _ hB5)).mono ?_
      rintro e w6 ⟨rfl, hb6⟩
      have hsh : shown ts fs = showB ts fs := by unfold shown; rw [if_pos hmod]
      rw [hsh]
      have hZ6 := block_kept hZ5 hb6
      have hR6 : LineAt w6 R (.map (some K)) a1 ts.length c1 a2 fs.length c2 := block_kept hR5 hb6
      have hB6 : Below w.heap.size w w6 := hB5.trans (hb6.mono hB5.size)
      have hm6 := hm5.below hb6
      have rc6 := block_cell hR6
      clear rc5 hm5 hmr hsh
      by_cases heq : showB ts fs = text
      · have hq : ((showB ts fs).toList == text.toList) = true := by rw [heq]; simp
        have HP : Hid (ReadPost text w (.returned (.tuple #[.agg #[.slice a1 ts.length c1, .slice a2 fs.length c2], .bool true])) ((w6.setCell ⟨w.heap.size, 0, none⟩ (.slice a1 ts.length c1)).setCell ⟨w.heap.size, 1, none⟩ (.slice a2 fs.length c2))) :=
          ⟨(hB6.setCell (p := ⟨w.heap.size, 0, none⟩) (Nat.le_refl _) _).setCell (p := ⟨w.heap.size, 1, none⟩) (Nat.le_refl _) _, .inl ⟨ts, fs, a1, c1, a2, c2, cs, rfl, hmod, heq.symm, ((hm6.set (p := ⟨w.heap.size, 0, none⟩) (by show w.heap.size < R + 1; omega) _).set (p := ⟨w.heap.size, 1, none⟩) (by show w.heap.size < R + 1; omega) _).low (by omega)⟩⟩
        have zc := block_cell hZ6
        have zf := block_free hZ6
        have z4 := block_cell (twoR_cells (x := .slice a1 ts.length c1) (y := .slice a2 fs.length c2) hZ6)
        clear hm6
        generalize showB ts fs = sh at hq
        go_wp2
        exact bodyPost_ret (v := .tuple #[.agg #[.slice a1 ts.length c1, .slice a2 fs.length c2], .bool true]) (by simp [results, Tryz.results9, go_sem, z4]) rfl HP.out
      · have hq : ((showB ts fs).toList == text.toList) = false := by
          rw [ByteArray.toList_eq, ByteArray.toList_eq, beq_eq_false_iff_ne]
          intro e
          exact heq (ByteArray.ext (by rw [← Array.toList_inj]; exact e))
        have HNO : Hid (∀ T F, modB T F = true → text ≠ showB T F) := fun T F h1 h2 => by
          obtain ⟨rfl, rfl⟩ := HD.out T F h1 h2
          exact heq h2.symm
        clear hm6 rc6
        generalize showB ts fs = sh at hq
        have zc := block_cell hZ6
        have zf := block_free hZ6
        have z4 := block_cell (twoR_cells (x := .slice none 0 0) (y := .slice none 0 0) hZ6)
        have HF : Hid (ReadPost text w (.returned (.tuple #[.agg #[.slice none 0 0, .slice none 0 0], .bool false])) _) := read_no hB6 HNO.out
        go_wp2
        exact bodyPost_ret (v := .tuple #[.agg #[.slice none 0 0, .slice none 0 0], .bool false]) (by simp [results, Tryz.results9, go_sem, z4]) rfl HF.out
    · have hr1 : (r.toList == []) = false := by rw [ByteArray.toList_eq]; simpa using hr0
      obtain ⟨m, hm1⟩ := hvr.cut
      have HN : Hid (∀ T F, modB T F = true → text = showB T F → _) := HCR.out.1.next hr0
      have hcs := cut_sizes r.data.toList
      go_wp2_with fail
      refine (Tryz.strings_Cut r ⟨#[10]⟩ m wq (by omega) hm1).mono ?_
      rintro e w3 ⟨rfl, nn, hw3⟩
      have hb3 : Below wq.heap.size wq w3 := by rw [hw3]; exact below_draws (Below.refl _ _) _
      clear hw3
      have hlen : r.data.toList.length = r.size := by rw [Array.length_toList]; rfl
      rw [hlen] at hcs
      have HN' := HN.out
      change ∀ T F, modB T F = true → text = showB T F → ∃ x : It, x.ok ∧ (∀ o a, x = .i o a → fs ≠ []) ∧ (Lib.cut r.data.toList (⟨#[10]⟩ : ByteArray).data.toList).1 = x.body.data.toList ∧ (Lib.cut r.data.toList (⟨#[10]⟩ : ByteArray).data.toList).2.2 = true ∧ ∃ l0 l1, items T F = l0 ++ l1 ∧ ap (ts, fs) x = l0.foldl ap ([], []) ∧ (Lib.cut r.data.toList (⟨#[10]⟩ : ByteArray).data.toList).2.1 = bytesOf l1 at HN'
      change (Lib.cut r.data.toList (⟨#[10]⟩ : ByteArray).data.toList).1.length ≤ r.size ∧ ((Lib.cut r.data.toList (⟨#[10]⟩ : ByteArray).data.toList).2.2 = true → (Lib.cut r.data.toList (⟨#[10]⟩ : ByteArray).data.toList).2.1.length + 1 ≤ r.size) at hcs
      clear HN
      generalize Lib.cut r.data.toList (⟨#[10]⟩ : ByteArray).data.toList = cu at HN' hcs ⊢
      obtain ⟨l1, l2, en⟩ := cu
      dsimp only at HN' hcs ⊢
      have hZ3 := block_kept hZr hb3
      have hB3 : Below w.heap.size w w3 := hBr.trans (hb3.mono hBr.size)
      have hR3 : LineAt w3 R (.map (some K)) a1 ts.length c1 a2 fs.length c2 := block_kept hRr hb3
      have hm3 := hmr.below hb3
      have hO3 : OpsAt w3 K := hOr.below hb3
      have hz3 : R + 1 ≤ w3.heap.size := Nat.le_trans hzr hb3.size
      have HN3 : Hid _ := HN'
      clear HN'
      cases en
      · have HNO : Hid (∀ T F, modB T F = true → text ≠ showB T F) := fun T F h1 h2 => by
          obtain ⟨x, -, -, -, h, -⟩ := HN3.out T F h1 h2
          cases h
        have zc := block_cell hZ3
        have zf := block_free hZ3
        have z4 := block_cell (twoR_cells (x := .slice none 0 0) (y := .slice none 0 0) hZ3)
        have HF : Hid (ReadPost text w (.returned (.tuple #[.agg #[.slice none 0 0, .slice none 0 0], .bool false])) _) := read_no hB3 HNO.out
        go_wp2
        exact bodyPost_ret (v := .tuple #[.agg #[.slice none 0 0, .slice none 0 0], .bool false]) (by simp [results, Tryz.results9, go_sem, z4]) rfl HF.out
      · have hl1 : (⟨l1.toArray⟩ : ByteArray).size ≤ 1048576 := by
          show l1.toArray.size ≤ _
          rw [List.size_toArray]
          omega
        have hl2 : (⟨l2.toArray⟩ : ByteArray).size + 1 ≤ r.size := by
          show l2.toArray.size + 1 ≤ _
          rw [List.size_toArray]
          exact hcs.2 rfl
        obtain ⟨line, hline⟩ : ∃ line : ByteArray, line = ⟨l1.toArray⟩ := ⟨_, rfl⟩
        obtain ⟨beh, hbeh⟩ : ∃ beh : ByteArray, beh = ⟨l2.toArray⟩ := ⟨_, rfl⟩
        have HL : Hid (line.data.toList = l1 ∧ beh.data.toList = l2) := by rw [hline, hbeh]; exact ⟨by simp, by simp⟩
        rw [← hline] at hl1 ⊢
        rw [← hbeh] at hl2 ⊢
        clear hline hbeh
        have HRM : Hid (Room r.size ts fs) := HCR.out.2
        have hts : ts.length ≤ 1048576 := by have := HRM.out.texts; omega
        have hfs : fs.length ≤ 1048576 := by have := HRM.out.funcs; omega
        have hcd : ∀ f ∈ fs, f.code.length ≤ 1048576 := fun f hf => by have := HRM.out.code f hf; omega
        have hTL := takeLine_any R (R + 1) K a1 a2 c1 c2 ts fs cs line w3 hR3 hm3 hO3 (by omega) (by omega) hz3 hts hfs hcd hl1 (hvr.below hb3)
        clear hcd hcs HCR
        go_wp2_with fail
        refine hTL.mono ?_
        intro e w4 hp
        obtain ⟨hB4, hcase⟩ := line_step hp
        clear hp hTL
        have hB4' : Below w.heap.size w w4 := hB3.trans (hB4.mono (by omega))
        have hZ4 : w4.heap[w.heap.size]? = some (.cells #[.slice none 0 0, .slice none 0 0] 27 (0, 0)) := (hB4.block _ (by omega)).trans hZ3
        rcases hcase with ⟨rfl, ts', fs', a1', c1', a2', c2', cs', k1, k2, hg, hx⟩ | ⟨rfl, hx⟩
        · have HC4 : Hid (Come text ts' fs' beh ∧ Room beh.size ts' fs') := ⟨fun T F h1 h2 => by
            obtain ⟨x, q1, q2, q3, -, l0, l3, q4, q5, q6⟩ := HN3.out T F h1 h2
            refine ⟨l0, l3, q4, ?_, HL.out.2.trans q6⟩
            rw [← q5]
            exact hx x q1 (ByteArray.ext (by rw [← Array.toList_inj, HL.out.1]; exact q3)) q2, HRM.out.step hg hl2 hl1⟩
          have hbw : Below R w2 w4 := (hbr.trans (hb3.mono (by omega))).trans hB4
          clear hx hg
          go_wp2
          go_roundw
          case rel => exact ⟨beh, ts', fs', cs', a1', c1', a2', c2', rfl, k1, k2, HC4, hbw⟩
          case measure => show beh.size < r.size; omega
        · have HNO : Hid (∀ T F, modB T F = true → text ≠ showB T F) := fun T F h1 h2 => by
            obtain ⟨x, q1, q2, q3, -⟩ := HN3.out T F h1 h2
            exact hx x q1 (ByteArray.ext (by rw [← Array.toList_inj, HL.out.1]; exact q3)) q2
          clear hx
          have zc := block_cell hZ4
          have zf := block_free hZ4
          have z4 := block_cell (twoR_cells (x := .slice none 0 0) (y := .slice none 0 0) hZ4)
          have HF : Hid (ReadPost text w (.returned (.tuple #[.agg #[.slice none 0 0, .slice none 0 0], .bool false])) _) := read_no hB4' HNO.out
          go_wp2
          exact bodyPost_ret (v := .tuple #[.agg #[.slice none 0 0, .slice none 0 0], .bool false]) (by simp [results, Tryz.results9, go_sem, z4]) rfl HF.out
end Go.Proofs.YtpmkfdinkomaiaaGreatDoor
