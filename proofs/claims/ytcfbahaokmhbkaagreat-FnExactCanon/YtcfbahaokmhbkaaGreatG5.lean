/-
  The document's l06Canon, walked.
-/
import Derived.Test.YtcfbahaokmhbkaaGreatKC17
import Derived.Test.YtcfbahaokmhbkaaGreatKC8
import Derived.Test.YtcfbahaokmhbkaaGreatKC6
import Derived.Deep.CutRange
namespace Go.Proofs.YtcfbahaokmhbkaaGreat
open Go.RowKit

theorem newsRow_nil (H : Nat) : List.replicate H (Value.int .i64 (-1)) = newsRow H [] := by
  unfold newsRow newOf
  apply List.ext_getElem?
  intro j
  rcases Nat.lt_or_ge j H with h | h
  · simp [h]
  · rw [List.getElem?_eq_none (by simpa using h), List.getElem?_eq_none (by simpa using h)]

theorem FrsOwn.at' {w : World} {lo fc n : Nat} {fa : Option Addr} {fr : List Fr} {L : List Value} (h : FrsOwn w lo (.slice fa n fc) fr L) (hn : fr.length = n) : FrsAt w lo fa fr := by
  subst hn
  exact h.at
theorem RecsOwn.at' {w : World} {lo fc n : Nat} {fa : Option Addr} {rs : List (List Vl)} {L : List Value} (h : RecsOwn w lo (.slice fa n fc) rs L) (hn : rs.length = n) : RecsAt w lo fa rs := by
  subst hn
  exact h.at
def CanonPost (d : VmD) (w : World) (e : Ending) (w' : World) : Prop := ∃ xa xc ya yc za zc, e = .returned (.agg (vmCells xa ya za xc yc zc (canonD d))) ∧ VmAt w' w.heap.size xa ya za (canonD d) ∧ Below w.heap.size w w'
theorem lS_two {fr : List Fr} {k : Nat} {ms : List Nat} (h : k < fr.length) (hm : ms = fS [] (fr.take k)) : fS [] (fr.take (k + 1)) = lS (lS ms fr[k].locals) fr[k].stack := by
  rw [fS_more h, hm]
theorem own_empty {w : World} {B e size g : Nat} (hg : w.heap[g]? = some (.cells #[] e (0, 0))) (hB : B ≤ g) : w.ownsRow B e size (.slice (some ⟨g, 0, none⟩) 0 0) 0 [] :=
  ⟨by simp, .inr ⟨g, 0, #[], rfl, hB, hg, Nat.le_refl _, by unfold maxLen; omega, by simp, by simp⟩⟩
theorem news_strs {w w' : World} {b off : Nat} {ss : List ByteArray} (hm : StrsAt w 0 (some ⟨b, off, none⟩) ss) (hb : Below w.heap.size w w') : ∀ j u, (ss.map Value.string)[j]? = some u → w'.cell? ((⟨b, off, none⟩ : Addr).add j) = some u := by
  intro j u hj
  rw [List.getElem?_map] at hj
  have hl : j < ss.length := by
    rcases Nat.lt_or_ge j ss.length with h | h
    · exact h
    · rw [List.getElem?_eq_none h] at hj; cases hj
  rw [List.getElem?_eq_getElem hl] at hj
  cases hj
  obtain ⟨b', off', e, -, hc⟩ := hm j hl
  cases e
  rw [Go.WideShapes.add_plain]
  exact cell_later hb hc
/-- All ten cells of a state written. -/
def put10 (w : World) (V : Nat) (a0 a1 a2 a3 a4 a5 a6 a7 a8 a9 : Value) : World := (((((((((w.setCell ⟨V, 0, none⟩ a0).setCell ⟨V, 1, none⟩ a1).setCell ⟨V, 2, none⟩ a2).setCell ⟨V, 3, none⟩ a3).setCell ⟨V, 4, none⟩ a4).setCell ⟨V, 5, none⟩ a5).setCell ⟨V, 6, none⟩ a6).setCell ⟨V, 7, none⟩ a7).setCell ⟨V, 8, none⟩ a8).setCell ⟨V, 9, none⟩ a9
theorem put10_block {w : World} {V : Nat} (hV : w.heap[V]? = some (.cells #[.slice none 0 0, .slice none 0 0, .int .i64 0, .slice none 0 0, .int .i64 0, .int .i64 0, .int .i64 0, .int .i64 0, .string ⟨#[]⟩, .int .i64 0] 38 (0, 0))) (a0 a1 a2 a3 a4 a5 a6 a7 a8 a9 : Value) : (put10 w V a0 a1 a2 a3 a4 a5 a6 a7 a8 a9).heap[V]? = some (.cells #[a0, a1, a2, a3, a4, a5, a6, a7, a8, a9] 38 (0, 0)) := by
  have h := block_set (i := 9) (block_set (i := 8) (block_set (i := 7) (block_set (i := 6) (block_set (i := 5) (block_set (i := 4) (block_set (i := 3) (block_set (i := 2) (block_set (i := 1) (block_set (i := 0) hV a0) a1) a2) a3) a4) a5) a6) a7) a8) a9
  simpa [put10] using h
theorem put10_other {w : World} {V k : Nat} (hk : k ≠ V) (a0 a1 a2 a3 a4 a5 a6 a7 a8 a9 : Value) : (put10 w V a0 a1 a2 a3 a4 a5 a6 a7 a8 a9).heap[k]? = w.heap[k]? := by
  unfold put10
  iterate 10 (rw [Below.heap_setCell _ _ _ _ hk])
theorem put10_below {B V : Nat} {a w : World} (h : Below B a w) (hV : B ≤ V) (a0 a1 a2 a3 a4 a5 a6 a7 a8 a9 : Value) : Below B a (put10 w V a0 a1 a2 a3 a4 a5 a6 a7 a8 a9) := by
  unfold put10
  iterate 10 (refine Below.setCell ?_ hV _)
  exact h
theorem put10_own {w : World} {V B e size n : Nat} {c : Array Value} {v : Value} {xs : List Value} (hV : w.heap[V]? = some (.cells c 38 (0, 0))) (he : 38 ≠ e) (h : w.ownsRow B e size v n xs) (a0 a1 a2 a3 a4 a5 a6 a7 a8 a9 : Value) : (put10 w V a0 a1 a2 a3 a4 a5 a6 a7 a8 a9).ownsRow B e size v n xs := by
  refine ⟨h.1, ?_⟩
  rcases h.2 with ⟨e, hn⟩ | ⟨b, cap, cur, e, hb', hh, r⟩
  · exact .inl ⟨e, hn⟩
  · refine .inr ⟨b, cap, cur, e, hb', ?_, r⟩
    rw [put10_other (fun e2 => ?_)]
    · exact hh
    · rw [e2, hV] at hh; cases hh; exact he rfl
/-- The state that is made, at its beginning. -/
theorem SInv.start {w wb wx : World} {V : Nat} {d : VmD} {hv nv ov : Value} {IA RA : Array Value} (hW : WalkAt wb (w.heap.size + 1 + 1) w.heap.size wb.heap.size hv d.heap.length nv (.slice none 0 0) []) (hI : wb.heap[w.heap.size]? = some (.cells IA 38 (0, 0))) (hR : wb.heap[w.heap.size + 1]? = some (.cells RA 38 (0, 0)))
    (hb : Below w.heap.size w wb) (hx : Below wb.heap.size wb wx) (hV : wx.heap[V]? = some (.cells #[.slice none 0 0, .slice none 0 0, .int .i64 d.made, ov, .int .i64 d.status, .int .i64 d.trap, .int .i64 0, .int .i64 0, .string ⟨#[]⟩, .int .i64 0] 38 (0, 0))) (hvb : w.heap.size + 1 < V)
    (hs : wx.ownsRow w.heap.size 9 1 ov d.out.length (d.out.map Value.string)) : SInv w wx wb.heap.size V d hv (.slice none 0 0) (.slice none 0 0) ov [] [] [] [] nilV [] IA RA :=
  ⟨⟨nv, _, hW.mono hx⟩, hV, ⟨World.ownsRow_nil _ _ _ _, fun _ hi => absurd hi (Nat.not_lt_zero _)⟩, ⟨World.ownsRow_nil _ _ _ _, fun _ hi => absurd hi (Nat.not_lt_zero _)⟩, hs, block_kept hI hx, block_kept hR hx, hb.trans (hx.mono hb.size), hx.size, hvb, Met.nil _⟩

set_option maxRecDepth 100000 in
set_option maxHeartbeats 16000000 in
theorem sCanon_any (fa ha oa : Option Addr) (fc hcp oc : Nat) (d : VmD) (w : World) (hx : VmSmall d) (hm : VmAt w 0 fa ha oa d) (hA : AllNamed d) :
    Calls Tryz.prog 24 #[.agg (vmCells fa ha oa fc hcp oc d)] w (CanonPost d w) := by
  obtain ⟨i3, hi3, hz30, hz31, hz32⟩ := info_parts info3
  have hhl := hx.heap
  have hfl := hx.frames
  have hol := hx.out
  conv => arg 3; unfold vmCells
  obtain ⟨wA, hwA⟩ : ∃ wA, wA = ((w.alloc (.cells #[.slice fa d.frames.length fc, .slice ha d.heap.length hcp, .int .i64 d.made, .slice oa d.out.length oc, .int .i64 d.status, .int .i64 d.trap, .int .i64 d.value.k, .int .i64 d.value.n, .string d.value.s, .int .i64 d.steps] 38)).alloc (.cells #[.slice none 0 0, .slice none 0 0, .int .i64 0, .slice none 0 0, .int .i64 0, .int .i64 0, .int .i64 0, .int .i64 0, .string ⟨#[]⟩, .int .i64 0] 38)).alloc (.cells #[.slice ha d.heap.length hcp, .slice none 0 0, .slice none 0 0] 87) := ⟨_, rfl⟩
  have hbA : Below w.heap.size w wA := by rw [hwA]; exact (((Below.refl _ _).alloc (Nat.le_refl _) _).alloc (by simp) _).alloc (by simp; omega) _
  have hI : wA.heap[w.heap.size]? = some (.cells #[.slice fa d.frames.length fc, .slice ha d.heap.length hcp, .int .i64 d.made, .slice oa d.out.length oc, .int .i64 d.status, .int .i64 d.trap, .int .i64 d.value.k, .int .i64 d.value.n, .string d.value.s, .int .i64 d.steps] 38 (0, 0)) := by rw [hwA]; exact block_old (block_old (block_new _ _ _) _) _
  have hR : wA.heap[w.heap.size + 1]? = some (.cells #[.slice none 0 0, .slice none 0 0, .int .i64 0, .slice none 0 0, .int .i64 0, .int .i64 0, .int .i64 0, .int .i64 0, .string ⟨#[]⟩, .int .i64 0] 38 (0, 0)) := by rw [hwA]; exact block_old (block_new_at _ _ _ _ (by simp)) _
  have hW : wA.heap[w.heap.size + 1 + 1]? = some (.cells #[.slice ha d.heap.length hcp, .slice none 0 0, .slice none 0 0] 87 (0, 0)) := by rw [hwA]; exact block_new_at _ _ _ _ (by simp)
  go_enter Tryz.func24, Tryz.ntmps24
  go_wp2
  rw [← hwA]
  clear hwA
  go_loopw [4] (fun i wr => ∃ (k : Nat) (nv : Value), k ≤ d.heap.length ∧ i = .int .i64 k ∧ wr.heap[w.heap.size + 1 + 1]? = some (.cells #[.slice ha d.heap.length hcp, nv, .slice none 0 0] 87 (0, 0)) ∧ wr.ownsRow w.heap.size 3 1 nv k (List.replicate k (.int .i64 (-1))) ∧ wr.heap[w.heap.size]? = some (.cells #[.slice fa d.frames.length fc, .slice ha d.heap.length hcp, .int .i64 d.made, .slice oa d.out.length oc, .int .i64 d.status, .int .i64 d.trap, .int .i64 d.value.k, .int .i64 d.value.n, .string d.value.s, .int .i64 d.steps] 38 (0, 0)) ∧ wr.heap[w.heap.size + 1]? = some (.cells #[.slice none 0 0, .slice none 0 0, .int .i64 0, .slice none 0 0, .int .i64 0, .int .i64 0, .int .i64 0, .int .i64 0, .string ⟨#[]⟩, .int .i64 0] 38 (0, 0)) ∧ Below w.heap.size w wr) (fun i _ => d.heap.length - (intOf i).toNat)
  case atStart => exact ⟨0, _, by omega, rfl, hW, World.ownsRow_nil _ _ _ _, hI, hR, hbA⟩
  case round =>
    obtain ⟨k, nv, hk, rfl, hWr, hown, hIr, hRr, hb⟩ := hrel
    clear hW hI hR hbA
    obtain ⟨na, nc, rfl⟩ : ∃ na nc, nv = .slice na k nc := by
      rcases hown.2 with ⟨e, h0⟩ | ⟨b, cp, cu, e, -⟩
      · exact ⟨none, 0, by rw [e, h0]⟩
      · exact ⟨_, cp, e⟩
    have ii := block_cell hIr
    by_cases hlt : k < d.heap.length
    · skip
      have w1 := block_cell hWr
      have w1A := block_cell (block_old hWr (.cells #[.int .i64 (-1)] 3))
      have hsz := hb.size
      go_wp2_with (at_builtin; refine wpList_append_lies _ rfl _ _ 85 rfl w.heap.size 3 i3 (.int .i64 0) 1 8 Tryz.underlying85 hi3 hz30 hz31 hz32 rfl (by decide) _ _ _ rfl (World.ownsRow.alloc hown _) ⟨wr.heap.size, 0, none⟩ 1 1 [.int .i64 (-1)] rfl rfl (World.news_of_block (cs := #[.int .i64 (-1)]) (t := 3) (fr := (0, 0)) (heap_alloc_new wr _)) (by simp [Value.oneCell']) (by decide) (by unfold maxLen; omega) (by omega) (by simp; omega) _ rfl ?_; intro g3 cap3 w3 hown3 hgrow3 hat3 hlt3; have hW3 := grown_other (World.ownsRow.alloc hown _) (block_old hWr _) (by decide) hgrow3; have w3c := block_cell hW3; have w3f := block_free hW3)
      go_roundw
      case rel =>
        have hownA := World.ownsRow.alloc hown (.cells #[.int .i64 (-1)] 3)
        have hbA2 : Below wr.heap.size wr (wr.alloc (.cells #[.int .i64 (-1)] 3)) := (Below.refl _ _).alloc (Nat.le_refl _) _
        have hI3 := grown_other hownA (block_kept hIr hbA2) (by decide) hgrow3
        have hR3 := grown_other hownA (block_kept hRr hbA2) (by decide) hgrow3
        have hB3 : Below w.heap.size w w3 := (hb.trans (hbA2.mono hb.size)).trans ((Keeps.grown (ts := [3]) hownA hgrow3 (by simp)).toBelow (by simp; omega))
        refine ⟨k + 1, .slice (some ⟨g3, 0, none⟩) (k + 1) cap3, by omega, by go_num, ?_, ?_, ?_, ?_, hB3.setCell (by show w.heap.size ≤ w.heap.size + 1 + 1; omega) _⟩
        · simpa using block_set (i := 1) hW3 (.slice (some ⟨g3, 0, none⟩) (k + 1) cap3)
        · rw [List.replicate_succ']
          exact own_setT hown3 hW3 (by decide)
        · rw [Below.heap_setCell _ _ _ _ (by show w.heap.size ≠ w.heap.size + 1 + 1; omega)]; exact hI3
        · rw [Below.heap_setCell _ _ _ _ (by show w.heap.size + 1 ≠ w.heap.size + 1 + 1; omega)]; exact hR3
      case measure => simp [intOf]; omega
    · skip
      have hkn : k = d.heap.length := by omega
      subst hkn
      obtain ⟨wb, hwb⟩ : ∃ wb, wb = wr := ⟨_, rfl⟩
      subst hwb
      rw [newsRow_nil] at hown
      have hWk : WalkAt wb (w.heap.size + 1 + 1) w.heap.size wb.heap.size (.slice ha d.heap.length hcp) d.heap.length (.slice na d.heap.length nc) (.slice none 0 0) [] := ⟨hWr, hown, World.ownsRow_nil _ _ _ _, fun g hg => by
        rcases hown.2 with ⟨e, -⟩ | ⟨b, cp, cu, e, hb', hh, -⟩
        · rw [e] at hg; cases hg
        · rw [e] at hg; cases hg; exact lt_block hh, by omega, hb.size⟩
      go_upto_region 6 with fail
      have hIz := lt_block hRr
      have HWk := hid hWk
      have HI := hid hIr
      have HR := hid hRr
      have HB := hid hb
      clear hWr hown hWk hRr
      go_cut [5] from 30 to 40 (fun s5 wx => ∃ V za zc, s5 = .pointer (some ⟨V, 0, none⟩) ∧ SInv w wx wb.heap.size V d (.slice ha d.heap.length hcp) (.slice none 0 0) (.slice none 0 0) (.slice za d.out.length zc) [] [] [] [] nilV [] #[.slice fa d.frames.length fc, .slice ha d.heap.length hcp, .int .i64 d.made, .slice oa d.out.length oc, .int .i64 d.status, .int .i64 d.trap, .int .i64 d.value.k, .int .i64 d.value.n, .string d.value.s, .int .i64 d.steps] #[.slice none 0 0, .slice none 0 0, .int .i64 0, .slice none 0 0, .int .i64 0, .int .i64 0, .int .i64 0, .int .i64 0, .string ⟨#[]⟩, .int .i64 0])
      case first =>
        skip
        have hS : ∀ w', Below wb.heap.size wb w' → w'.cell? ⟨w.heap.size, 2, none⟩ = some (.int .i64 d.made) ∧ w'.cell? ⟨w.heap.size, 3, none⟩ = some (.slice oa d.out.length oc) ∧ w'.cell? ⟨w.heap.size, 4, none⟩ = some (.int .i64 d.status) ∧ w'.cell? ⟨w.heap.size, 5, none⟩ = some (.int .i64 d.trap) := fun w' q => ⟨by rw [block_cell (block_kept hIr q)]; rfl, by rw [block_cell (block_kept hIr q)]; rfl, by rw [block_cell (block_kept hIr q)]; rfl, by rw [block_cell (block_kept hIr q)]; rfl⟩
        have HS := hid hS
        have q0 : Below wb.heap.size wb wb := Below.refl _ _
        clear hS hIr ii hb
        have hbz := HB.out.size
        by_cases h0 : d.out.length = 0
        · skip
          rw [h0] at HS
          have H0 := hid h0
          clear h0
          rcases oa with _ | ad
          · skip
            go_region_held3 (fun w' => w'.cell? ⟨w.heap.size, 2, none⟩ = some (.int .i64 d.made) ∧ w'.cell? ⟨w.heap.size, 3, none⟩ = some (.slice none 0 oc) ∧ w'.cell? ⟨w.heap.size, 4, none⟩ = some (.int .i64 d.status) ∧ w'.cell? ⟨w.heap.size, 5, none⟩ = some (.int .i64 d.trap))
              ((refine HS.out _ ?_; repeat (first | refine Below.setCell ?_ (by first | omega | (simp; omega) | simp) _ | refine Below.alloc ?_ (by first | omega | (simp; omega) | simp) _ | refine Below.drew ?_ | exact q0 | exact q6)))
              (first | fail)
            all_goals
              skip
              go_wp2_with fail
              go_meet
              case rel =>
                first
                | exact ⟨wb.heap.size + 1, some ⟨wb.heap.size, 0, none⟩, 0, rfl, SInv.start HWk.out HI.out HR.out HB.out (((Below.refl _ _).alloc (Nat.le_refl _) _).alloc (by simp) _).drew (by rw [H0.out]; exact block_new_at _ _ _ _ (by simp)) (by omega) (by rw [H0.out, show d.out = [] from List.length_eq_zero_iff.1 H0.out]; exact own_empty (block_old (block_new _ _ _) _) (by omega))⟩
                | exact ⟨wb.heap.size, some ⟨wb.heap.size + 1, 0, none⟩, 0, rfl, SInv.start HWk.out HI.out HR.out HB.out (((Below.refl _ _).alloc (Nat.le_refl _) _).alloc (by simp) _).drew (by rw [H0.out]; exact block_old (block_new _ _ _) _) (by omega) (by rw [H0.out, show d.out = [] from List.length_eq_zero_iff.1 H0.out]; exact own_empty (block_new_at _ _ _ _ (by simp)) (by omega))⟩
          · skip
            go_region_held3 (fun w' => w'.cell? ⟨w.heap.size, 2, none⟩ = some (.int .i64 d.made) ∧ w'.cell? ⟨w.heap.size, 3, none⟩ = some (.slice (some ad) 0 oc) ∧ w'.cell? ⟨w.heap.size, 4, none⟩ = some (.int .i64 d.status) ∧ w'.cell? ⟨w.heap.size, 5, none⟩ = some (.int .i64 d.trap))
              ((refine HS.out _ ?_; repeat (first | refine Below.setCell ?_ (by first | omega | (simp; omega) | simp) _ | refine Below.alloc ?_ (by first | omega | (simp; omega) | simp) _ | refine Below.drew ?_ | exact q0 | exact q6)))
              (first | fail)
            all_goals
              skip
              go_wp2_with fail
              go_meet
              case rel =>
                first
                | exact ⟨wb.heap.size + 1, some ⟨wb.heap.size, 0, none⟩, 0, rfl, SInv.start HWk.out HI.out HR.out HB.out (((Below.refl _ _).alloc (Nat.le_refl _) _).alloc (by simp) _).drew (by rw [H0.out]; exact block_new_at _ _ _ _ (by simp)) (by omega) (by rw [H0.out, show d.out = [] from List.length_eq_zero_iff.1 H0.out]; exact own_empty (block_old (block_new _ _ _) _) (by omega))⟩
                | exact ⟨wb.heap.size, some ⟨wb.heap.size + 1, 0, none⟩, 0, rfl, SInv.start HWk.out HI.out HR.out HB.out (((Below.refl _ _).alloc (Nat.le_refl _) _).alloc (by simp) _).drew (by rw [H0.out]; exact block_old (block_new _ _ _) _) (by omega) (by rw [H0.out, show d.out = [] from List.length_eq_zero_iff.1 H0.out]; exact own_empty (block_new_at _ _ _ _ (by simp)) (by omega))⟩
        · skip
          obtain ⟨i9, hi9, hz90, hz91, hz92⟩ := info_parts info9
          have hpos : 0 < d.out.length := by omega
          obtain ⟨b, off, rfl, -, -⟩ := hm.out 0 hpos
          have HM := hid hm.out
          go_region_held3 (fun w' => w'.cell? ⟨w.heap.size, 2, none⟩ = some (.int .i64 d.made) ∧ w'.cell? ⟨w.heap.size, 3, none⟩ = some (.slice (some ⟨b, off, none⟩) d.out.length oc) ∧ w'.cell? ⟨w.heap.size, 4, none⟩ = some (.int .i64 d.status) ∧ w'.cell? ⟨w.heap.size, 5, none⟩ = some (.int .i64 d.trap))
            ((refine HS.out _ ?_; repeat (first | refine Below.setCell ?_ (by first | omega | (simp; omega) | simp) _ | refine Below.alloc ?_ (by first | omega | (simp; omega) | simp) _ | refine Below.drew ?_ | exact q0 | exact q6)))
            (first
              | (refine step_append_lies _ (by rfl) _ _ _ (by rfl) w.heap.size 9 i9 (.string ByteArray.empty) 1 16 Tryz.underlying22 hi9 hz90 hz91 hz92 rfl (by decide) _ _ _ (by rfl) (own_empty (by first | exact block_new _ _ _ | exact block_old (block_new _ _ _) _ | exact block_new_at _ _ _ _ (by simp)) (by first | omega | (simp; omega) | simp)) ⟨b, off, none⟩ d.out.length oc (d.out.map Value.string) (by rfl) (by simp) (news_strs HM.out (HB.out.trans ((show Below wb.heap.size wb _ by repeat (first | refine Below.setCell ?_ (by first | omega | (simp; omega) | simp) _ | refine Below.alloc ?_ (by first | omega | (simp; omega) | simp) _ | refine Below.drew ?_ | exact q0 | exact q6)).mono hbz))) (by simp [Value.oneCell']) hpos (by unfold maxLen; omega) (by omega) (by first | omega | (simp; omega) | simp) _ rfl ?_; intro g6 cp6 w6 hown6 hgrow6 hat6 hlt6; have q6 : Below wb.heap.size wb w6 := Below.grown (show Below wb.heap.size wb _ by repeat (first | refine Below.setCell ?_ (by first | omega | (simp; omega) | simp) _ | refine Below.alloc ?_ (by first | omega | (simp; omega) | simp) _ | refine Below.drew ?_ | exact q0 | exact q6)) hgrow6 (by first | omega | (simp; omega) | simp) (by intro k hk; simp [Value.ownBlock] at hk; omega); have z6 := q6.size; first | (have hV6 : w6.heap[wb.heap.size + 1]? = some (.cells #[.slice none 0 0, .slice none 0 0, .int .i64 0, .slice none 0 0, .int .i64 0, .int .i64 0, .int .i64 0, .int .i64 0, .string ⟨#[]⟩, .int .i64 0] 38 (0, 0)) := (by rw [hgrow6.block _ (by simp) (by simp [Value.ownBlock])]; exact block_new_at _ _ _ _ (by simp)); have v6 := block_cell hV6; have v6f := block_free hV6) | (have hV6 : w6.heap[wb.heap.size]? = some (.cells #[.slice none 0 0, .slice none 0 0, .int .i64 0, .slice none 0 0, .int .i64 0, .int .i64 0, .int .i64 0, .int .i64 0, .string ⟨#[]⟩, .int .i64 0] 38 (0, 0)) := (by rw [hgrow6.block _ (by first | omega | (simp; omega) | simp) (by simp [Value.ownBlock])]; exact block_old (block_new _ _ _) _); have v6 := block_cell hV6; have v6f := block_free hV6) | skip))
          all_goals
            skip
            have hs6 : w6.ownsRow w.heap.size 9 1 (.slice (some ⟨g6, 0, none⟩) d.out.length cp6) d.out.length (d.out.map Value.string) := by simpa using hown6
            clear hown6 hgrow6 hat6 hlt6
            go_wp2_with fail
            go_meet
            case rel =>
              first
              | (refine ⟨w6.heap.size, some ⟨g6, 0, none⟩, cp6, rfl, ?_⟩
                 exact SInv.start HWk.out HI.out HR.out HB.out (q6.alloc z6 _) (block_new _ _ _) (by omega) (own_mono hs6 ((Below.refl _ _).alloc (Nat.le_refl _) _)))
              | (refine ⟨wb.heap.size + 1, some ⟨g6, 0, none⟩, cp6, rfl, ?_⟩
                 have hp := put10_block hV6 (.slice none 0 0) (.slice none 0 0) (.int .i64 d.made) (.slice (some ⟨g6, 0, none⟩) d.out.length cp6) (.int .i64 d.status) (.int .i64 d.trap) (.int .i64 0) (.int .i64 0) (.string ⟨#[]⟩) (.int .i64 0)
                 have hq := put10_below q6 (show wb.heap.size ≤ wb.heap.size + 1 by omega) (.slice none 0 0) (.slice none 0 0) (.int .i64 d.made) (.slice (some ⟨g6, 0, none⟩) d.out.length cp6) (.int .i64 d.status) (.int .i64 d.trap) (.int .i64 0) (.int .i64 0) (.string ⟨#[]⟩) (.int .i64 0)
                 have hr := put10_own hV6 (by decide) hs6 (.slice none 0 0) (.slice none 0 0) (.int .i64 d.made) (.slice (some ⟨g6, 0, none⟩) d.out.length cp6) (.int .i64 d.status) (.int .i64 d.trap) (.int .i64 0) (.int .i64 0) (.string ⟨#[]⟩) (.int .i64 0)
                 have hst := SInv.start HWk.out HI.out HR.out HB.out hq hp (by omega) hr
                 exact hst)
              | (refine ⟨wb.heap.size, some ⟨g6, 0, none⟩, cp6, rfl, ?_⟩
                 have hp := put10_block hV6 (.slice none 0 0) (.slice none 0 0) (.int .i64 d.made) (.slice (some ⟨g6, 0, none⟩) d.out.length cp6) (.int .i64 d.status) (.int .i64 d.trap) (.int .i64 0) (.int .i64 0) (.string ⟨#[]⟩) (.int .i64 0)
                 have hq := put10_below q6 (show wb.heap.size ≤ wb.heap.size by omega) (.slice none 0 0) (.slice none 0 0) (.int .i64 d.made) (.slice (some ⟨g6, 0, none⟩) d.out.length cp6) (.int .i64 d.status) (.int .i64 d.trap) (.int .i64 0) (.int .i64 0) (.string ⟨#[]⟩) (.int .i64 0)
                 have hr := put10_own hV6 (by decide) hs6 (.slice none 0 0) (.slice none 0 0) (.int .i64 d.made) (.slice (some ⟨g6, 0, none⟩) d.out.length cp6) (.int .i64 d.status) (.int .i64 d.trap) (.int .i64 0) (.int .i64 0) (.string ⟨#[]⟩) (.int .i64 0)
                 have hst := SInv.start HWk.out HI.out HR.out HB.out hq hp (by omega) hr
                 exact hst)
      case rest =>
        skip
        obtain ⟨V, za, zc, rfl, hS0⟩ := hcut
        clear HWk HI HR HB hIr ii hb
        obtain ⟨i90, hi90, hz900, hz901, hz902⟩ := info_parts info90
        go_wp2
        go_loopw [6] (fun i wr => ∃ (k : Nat) (fv : Value) (LF : List Value), k ≤ d.frames.length ∧ i = .int .i64 k ∧ SInv w wr wb.heap.size V d (.slice ha d.heap.length hcp) fv (.slice none 0 0) (.slice za d.out.length zc) (fV [] (d.frames.take k)) LF [] [] nilV (fS [] (d.frames.take k)) #[.slice fa d.frames.length fc, .slice ha d.heap.length hcp, .int .i64 d.made, .slice oa d.out.length oc, .int .i64 d.status, .int .i64 d.trap, .int .i64 d.value.k, .int .i64 d.value.n, .string d.value.s, .int .i64 d.steps] #[.slice none 0 0, .slice none 0 0, .int .i64 0, .slice none 0 0, .int .i64 0, .int .i64 0, .int .i64 0, .int .i64 0, .string ⟨#[]⟩, .int .i64 0]) (fun i _ => d.frames.length - (intOf i).toNat)
        case atStart => exact ⟨0, _, [], by omega, rfl, hS0⟩
        case round =>
          skip
          obtain ⟨k, fv, LF, hk, rfl, I⟩ := hrel
          clear hS0
          have ii := block_cell I.inb
          by_cases hlt : k < d.frames.length
          · skip
            obtain ⟨b, off, pa, pc, qa, qc, rfl, -, c1, c2, c3, c4, hvp, hvq⟩ := hm.frs k hlt
            have c1' := cell_later I.below c1
            have c2' := cell_later I.below c2
            have c3' := cell_later I.below c3
            have c4' := cell_later I.below c4
            clear c1 c2 c3 c4
            obtain ⟨ms, hms⟩ : ∃ ms, ms = fS [] (d.frames.take k) := ⟨_, rfl⟩
            have HMS := hid hms
            rw [← hms] at I
            obtain ⟨wA, hwA⟩ : ∃ wA, wA = wr.alloc (.cells #[.int .i64 d.frames[k].fn, .int .i64 d.frames[k].pc, .slice pa d.frames[k].locals.length pc, .slice qa d.frames[k].stack.length qc] 90) := ⟨_, rfl⟩
            have hX : wA.heap[wr.heap.size]? = some (.cells #[.int .i64 d.frames[k].fn, .int .i64 d.frames[k].pc, .slice pa d.frames[k].locals.length pc, .slice qa d.frames[k].stack.length qc] 90 (0, 0)) := by rw [hwA]; exact block_new _ _ _
            have hbA : Below wr.heap.size wr wA := by rw [hwA]; exact (Below.refl _ _).alloc (Nat.le_refl _) _
            have IA1 := I.mono hbA
            obtain ⟨nv1, lv1, hW1⟩ := IA1.walk
            have hsl := hx.locals _ (List.getElem_mem hlt)
            have hss := hx.stack _ (List.getElem_mem hlt)
            have hnl := (hA.frames _ (List.getElem_mem hlt)).1
            have hns := (hA.frames _ (List.getElem_mem hlt)).2
            have hc1 := sValues_is (w.heap.size + 1 + 1) wb.heap.size (.slice ha d.heap.length hcp) d.heap.length nv1 lv1 ms pa d.frames[k].locals pc w wA hW1 IA1.bs IA1.below hvp hsl.1 hnl IA1.met hhl
            have HVQ := hid hvq
            have HI1 := hid IA1
            have HX := hid hX
            have HbA := hid hbA
            have HIr := hid I
            clear I hW1 IA1 hX hbA hvp hvq hms
            go_wp2_with fail
            rw [← hwA]
            clear hwA c1' c2' c3' c4'
            refine hc1.mono ?_
            rintro e w2 ⟨xa, xc, rfl, hown2, hW2, hK2⟩
            have I2 := HI1.out.keep hK2 hW2 (HI1.out.met.lS hnl)
            have hX2 := hK2.cell HX.out (by decide)
            have hR2 : ValsRow w2 w.heap.size xa xc (lV ms d.frames[k].locals) := by unfold ValsRow; rw [lV_len]; exact own_down hown2 HI1.out.below.size
            have HR2 := hid hR2
            have HI2 := hid I2
            have HX2 := hid hX2
            clear hc1 hown2 hW2 hK2 hR2 ii
            obtain ⟨fa1, fc1, hfe⟩ : ∃ fa1 fc1, fv = .slice fa1 k fc1 := by
              have hl : (fV [] (d.frames.take k)).length = k := by rw [fV_len, List.length_take]; omega
              have hw := I2.frs.own
              rw [hl] at hw
              rcases hw.2 with ⟨e, h0⟩ | ⟨b, cp, cu, e, -⟩
              · exact ⟨none, 0, by rw [e, h0]⟩
              · exact ⟨_, cp, e⟩
            subst hfe
            have hbD : Below w2.heap.size w2 w2.drew := (Below.refl _ _).drew
            have HI2d := hid (I2.mono hbD)
            have v2 := block_cell I2.out
            have x2 := block_cell hX2
            clear I2 hX2 hbD
            go_upto_region 12 with fail
            have hh : (fun w' => w'.cell? ⟨V, 0, none⟩ = some (.slice fa1 k fc1) ∧ w'.cell? ⟨wr.heap.size, 0, none⟩ = some (.int .i64 d.frames[k].fn) ∧ w'.cell? ⟨wr.heap.size, 1, none⟩ = some (.int .i64 d.frames[k].pc) ∧ w'.cell? ⟨wr.heap.size, 3, none⟩ = some (.slice qa d.frames[k].stack.length qc)) w2.drew := ⟨(v2 0).trans rfl, (x2 0).trans rfl, (x2 1).trans rfl, (x2 3).trans rfl⟩
            refine wp_region_T (Two (fun w' => w'.cell? ⟨V, 0, none⟩ = some (.slice fa1 k fc1) ∧ w'.cell? ⟨wr.heap.size, 0, none⟩ = some (.int .i64 d.frames[k].fn) ∧ w'.cell? ⟨wr.heap.size, 1, none⟩ = some (.int .i64 d.frames[k].pc) ∧ w'.cell? ⟨wr.heap.size, 3, none⟩ = some (.slice qa d.frames[k].stack.length qc)) (fun _ => True) [13, 14, 15] []) (by kernel_rfl) ?_
            refine wpAnyT_take (i := 0) (fun w' => w'.cell? ⟨V, 0, none⟩ = some (.slice fa1 k fc1) ∧ w'.cell? ⟨wr.heap.size, 0, none⟩ = some (.int .i64 d.frames[k].fn) ∧ w'.cell? ⟨wr.heap.size, 1, none⟩ = some (.int .i64 d.frames[k].pc) ∧ w'.cell? ⟨wr.heap.size, 3, none⟩ = some (.slice qa d.frames[k].stack.length qc)) [1, 13, 14, 15] (oi := _) (v := ?_) rfl (by kernel_rfl) (by kernel_rfl) (by kernel_rfl) (by kernel_rfl) (fun _ _ _ h => h) (by kernel_rfl) (Two.same 0) (Two.left (by decide)) ?_ hh ?_
            rotate_left
            · intro w' hSw
              obtain ⟨s0, s1, s2, s3⟩ := hSw
              go_simp
              try with_reducible rfl
            simp only [Act.put, List.setIfInBounds_toArray]
            refine wpAnyT_take (i := 1) (fun w' => w'.cell? ⟨V, 0, none⟩ = some (.slice fa1 k fc1) ∧ w'.cell? ⟨wr.heap.size, 0, none⟩ = some (.int .i64 d.frames[k].fn) ∧ w'.cell? ⟨wr.heap.size, 1, none⟩ = some (.int .i64 d.frames[k].pc) ∧ w'.cell? ⟨wr.heap.size, 3, none⟩ = some (.slice qa d.frames[k].stack.length qc)) [13, 14, 15] (oi := _) (v := ?_) rfl (by kernel_rfl) (by kernel_rfl) (by kernel_rfl) (by kernel_rfl) (fun _ _ _ h => h) (by kernel_rfl) (Two.same 1) (Two.left (by decide)) ?_ hh ?_
            rotate_left
            · intro w' hSw
              obtain ⟨s0, s1, s2, s3⟩ := hSw
              go_simp
              try with_reducible rfl
            simp only [Act.put]
            refine wpAnyT_take (i := 2) (fun w' => w'.cell? ⟨V, 0, none⟩ = some (.slice fa1 k fc1) ∧ w'.cell? ⟨wr.heap.size, 0, none⟩ = some (.int .i64 d.frames[k].fn) ∧ w'.cell? ⟨wr.heap.size, 1, none⟩ = some (.int .i64 d.frames[k].pc) ∧ w'.cell? ⟨wr.heap.size, 3, none⟩ = some (.slice qa d.frames[k].stack.length qc)) [3, 11, 12, 13, 14, 15] (oi := _) (v := ?_) rfl (by kernel_rfl) (by kernel_rfl) (by kernel_rfl) (by kernel_rfl) (fun _ _ _ h => h) (by kernel_rfl) (Two.same 2) (Two.left (by decide)) ?_ hh ?_
            rotate_left
            · intro w' hSw
              obtain ⟨s0, s1, s2, s3⟩ := hSw
              go_simp
              try with_reducible rfl
            simp only [Act.put]
            refine wpAnyT_take (i := 3) (fun w' => w'.cell? ⟨V, 0, none⟩ = some (.slice fa1 k fc1) ∧ w'.cell? ⟨wr.heap.size, 0, none⟩ = some (.int .i64 d.frames[k].fn) ∧ w'.cell? ⟨wr.heap.size, 1, none⟩ = some (.int .i64 d.frames[k].pc) ∧ w'.cell? ⟨wr.heap.size, 3, none⟩ = some (.slice qa d.frames[k].stack.length qc)) [11, 12, 13, 14, 15] (oi := _) (v := ?_) rfl (by kernel_rfl) (by kernel_rfl) (by kernel_rfl) (by kernel_rfl) (fun _ _ _ h => h) (by kernel_rfl) (Two.same 3) (Two.left (by decide)) ?_ hh ?_
            rotate_left
            · intro w' hSw
              obtain ⟨s0, s1, s2, s3⟩ := hSw
              go_simp
              try with_reducible rfl
            simp only [Act.put]
            refine wpAnyT_take (i := 4) (fun w' => w'.cell? ⟨V, 0, none⟩ = some (.slice fa1 k fc1) ∧ w'.cell? ⟨wr.heap.size, 0, none⟩ = some (.int .i64 d.frames[k].fn) ∧ w'.cell? ⟨wr.heap.size, 1, none⟩ = some (.int .i64 d.frames[k].pc) ∧ w'.cell? ⟨wr.heap.size, 3, none⟩ = some (.slice qa d.frames[k].stack.length qc)) [5, 11, 12, 13, 14, 15] (oi := _) (v := ?_) rfl (by kernel_rfl) (by kernel_rfl) (by kernel_rfl) (by kernel_rfl) (fun _ _ _ h => h) (by kernel_rfl) (Two.same 4) (Two.left (by decide)) ?_ hh ?_
            rotate_left
            · intro w' hSw
              obtain ⟨s0, s1, s2, s3⟩ := hSw
              go_simp
              try with_reducible rfl
            simp only [Act.put]
            refine wpAnyT_take (i := 5) (fun w' => w'.cell? ⟨V, 0, none⟩ = some (.slice fa1 k fc1) ∧ w'.cell? ⟨wr.heap.size, 0, none⟩ = some (.int .i64 d.frames[k].fn) ∧ w'.cell? ⟨wr.heap.size, 1, none⟩ = some (.int .i64 d.frames[k].pc) ∧ w'.cell? ⟨wr.heap.size, 3, none⟩ = some (.slice qa d.frames[k].stack.length qc)) [11, 12, 13, 14, 15] (oi := _) (v := ?_) rfl (by kernel_rfl) (by kernel_rfl) (by kernel_rfl) (by kernel_rfl) (fun _ _ _ h => h) (by kernel_rfl) (Two.same 5) (Two.left (by decide)) ?_ hh ?_
            rotate_left
            · intro w' hSw
              obtain ⟨s0, s1, s2, s3⟩ := hSw
              go_simp
              try with_reducible rfl
            simp only [Act.put]
            refine wpAnyT_take (i := 6) (fun w' => w'.cell? ⟨V, 0, none⟩ = some (.slice fa1 k fc1) ∧ w'.cell? ⟨wr.heap.size, 0, none⟩ = some (.int .i64 d.frames[k].fn) ∧ w'.cell? ⟨wr.heap.size, 1, none⟩ = some (.int .i64 d.frames[k].pc) ∧ w'.cell? ⟨wr.heap.size, 3, none⟩ = some (.slice qa d.frames[k].stack.length qc)) [11, 12, 13, 14, 15] (oi := _) (v := ?_) rfl (by kernel_rfl) (by kernel_rfl) (by kernel_rfl) (by kernel_rfl) (fun _ _ _ h => h) (by kernel_rfl) (Two.same 6) (Two.left (by decide)) ?_ hh ?_
            rotate_left
            · intro w' hSw
              obtain ⟨s0, s1, s2, s3⟩ := hSw
              go_simp
              try with_reducible rfl
            simp only [Act.put]
            refine wpAnyT_take (i := 7) (fun w' => w'.cell? ⟨V, 0, none⟩ = some (.slice fa1 k fc1) ∧ w'.cell? ⟨wr.heap.size, 0, none⟩ = some (.int .i64 d.frames[k].fn) ∧ w'.cell? ⟨wr.heap.size, 1, none⟩ = some (.int .i64 d.frames[k].pc) ∧ w'.cell? ⟨wr.heap.size, 3, none⟩ = some (.slice qa d.frames[k].stack.length qc)) [10, 11, 12, 13, 14, 15] (oi := _) (v := ?_) rfl (by kernel_rfl) (by kernel_rfl) (by kernel_rfl) (by kernel_rfl) (fun _ _ _ h => h) (by kernel_rfl) (Two.same 7) (Two.left (by decide)) ?_ hh ?_
            rotate_left
            · intro w' hSw
              obtain ⟨s0, s1, s2, s3⟩ := hSw
              go_simp
              try with_reducible rfl
            simp only [Act.put]
            refine wpAnyT_take (i := 8) (fun w' => w'.cell? ⟨V, 0, none⟩ = some (.slice fa1 k fc1) ∧ w'.cell? ⟨wr.heap.size, 0, none⟩ = some (.int .i64 d.frames[k].fn) ∧ w'.cell? ⟨wr.heap.size, 1, none⟩ = some (.int .i64 d.frames[k].pc) ∧ w'.cell? ⟨wr.heap.size, 3, none⟩ = some (.slice qa d.frames[k].stack.length qc)) [9, 10, 11, 12, 13, 14, 15] (oi := _) (v := ?_) rfl (by kernel_rfl) (by kernel_rfl) (by kernel_rfl) (by kernel_rfl) (fun _ _ _ h => h) (by kernel_rfl) (Two.same 8) (Two.left (by decide)) ?_ hh ?_
            rotate_left
            · intro w' hSw
              obtain ⟨s0, s1, s2, s3⟩ := hSw
              go_simp
              try with_reducible rfl
            simp only [Act.put]
            refine wpAnyT_take (i := 9) (fun w' => w'.cell? ⟨V, 0, none⟩ = some (.slice fa1 k fc1) ∧ w'.cell? ⟨wr.heap.size, 0, none⟩ = some (.int .i64 d.frames[k].fn) ∧ w'.cell? ⟨wr.heap.size, 1, none⟩ = some (.int .i64 d.frames[k].pc) ∧ w'.cell? ⟨wr.heap.size, 3, none⟩ = some (.slice qa d.frames[k].stack.length qc)) [10, 11, 12, 13, 14, 15] (oi := _) (v := ?_) rfl (by kernel_rfl) (by kernel_rfl) (by kernel_rfl) (by kernel_rfl) (fun _ _ _ h => h) (by kernel_rfl) (Two.same 9) (Two.left (by decide)) ?_ hh ?_
            rotate_left
            · intro w' hSw
              obtain ⟨s0, s1, s2, s3⟩ := hSw
              go_simp
              try with_reducible rfl
            simp only [Act.put]
            clear hh
            refine wpAnyT_one (i := 10) (o := _) (by kernel_rfl) rfl (fun K hK => ?_)
            go_simp
            go_at_call 51
            refine (sValues_is (w.heap.size + 1 + 1) wb.heap.size (.slice ha d.heap.length hcp) d.heap.length _ _ (lS ms d.frames[k].locals) qa d.frames[k].stack qc w _ HI2d.out.walk.choose_spec.choose_spec HI2d.out.bs HI2d.out.below HVQ.out hss.1 hns HI2d.out.met hhl).mono ?_
            rintro e w5 ⟨ya, yc, rfl, hownS, hW5, hK5⟩
            have I5 := HI2d.out.keep hK5 hW5 (HI2d.out.met.lS hns)
            have hX5 := hK5.cell (block_kept HX2.out (Below.refl _ _).drew) (by decide)
            have HR5 : Hid (ValsRow w5 w.heap.size xa xc (lV ms d.frames[k].locals)) := own_keep (own_mono HR2.out (Below.refl _ _).drew) hK5 (by decide)
            have HS5 : Hid (ValsRow w5 w.heap.size ya yc (lV (lS ms d.frames[k].locals) d.frames[k].stack)) := (by unfold ValsRow; rw [lV_len]; exact own_down hownS HI2d.out.below.size)
            have HI5 := hid I5
            have hown5 : w5.ownsRow w.heap.size 90 4 (.slice fa1 k fc1) k LF := (by have hw := I5.frs.own; rw [show (fV [] (d.frames.take k)).length = k from (by rw [fV_len, List.length_take]; omega)] at hw; exact hw)
            have hsz5 := I5.below.size
            have v5 := block_cell I5.out
            have x5 := block_cell hX5
            have vA := block_cell (block_old I5.out (.cells #[.int .i64 d.frames[k].fn, .int .i64 d.frames[k].pc, .slice xa d.frames[k].locals.length xc, .slice ya d.frames[k].stack.length yc] 90))
            clear I5 hownS hW5 hK5
            go_wp2_with fail
            refine hK.out _ _ (⟨fun _ _ => ⟨(v5 0).trans rfl, (x5 0).trans rfl, (x5 1).trans rfl, (x5 3).trans rfl⟩, fun _ h => h⟩) ?_
            clear hK K
            refine wpAnyT_one (i := 11) (o := _) (by kernel_rfl) rfl (fun K hK => ?_)
            go_simp
            refine hK.out _ _ (Two.same 11 _) ?_
            clear hK K
            have xA := block_cell (block_old hX5 (.cells #[.int .i64 d.frames[k].fn, .int .i64 d.frames[k].pc, .slice xa d.frames[k].locals.length xc, .slice ya d.frames[k].stack.length yc] 90))
            refine wpAnyT_one (i := 12) (o := _) (by kernel_rfl) rfl (fun K hK => ?_)
            go_simp
            refine hK.out _ _ (⟨fun _ _ => ⟨(vA 0).trans rfl, (xA 0).trans rfl, (xA 1).trans rfl, (xA 3).trans rfl⟩, fun _ h => h⟩) ?_
            clear hK K
            refine wpAnyT_one (i := 13) (o := _) (by kernel_rfl) rfl (fun K hK => ?_)
            refine step_append_lies _ (by rfl) _ _ _ (by rfl) w.heap.size 90 i90 (.agg #[.int .i64 0, .int .i64 0, .slice none 0 0, .slice none 0 0]) 4 64 Tryz.underlying34 hi90 hz900 hz901 hz902 rfl (by decide) _ _ _ (by rfl) (World.ownsRow.alloc hown5 _) ⟨w5.heap.size, 0, none⟩ 1 1 [.int .i64 d.frames[k].fn, .int .i64 d.frames[k].pc, .slice xa d.frames[k].locals.length xc, .slice ya d.frames[k].stack.length yc] (by rfl) (by rfl) (World.news_of_block (cs := #[.int .i64 d.frames[k].fn, .int .i64 d.frames[k].pc, .slice xa d.frames[k].locals.length xc, .slice ya d.frames[k].stack.length yc]) (t := 90) (fr := (0, 0)) (heap_alloc_new w5 _)) (by simp [Value.oneCell']) (by decide) (by unfold maxLen; omega) (by omega) (by simp; omega) (w5.heap.size + 1) (by simp) ?_
            intro g6 cp6 w6 hown6 hgrow6 hat6 hlt6
            have hV6 := grown_other (World.ownsRow.alloc hown5 _) (block_old HI5.out.out _) (by decide) hgrow6
            have v6 := block_cell hV6
            have v6f := block_free hV6
            refine hK.out _ _ (⟨fun h => absurd (by decide) h, fun _ h => h⟩) ?_
            clear hK K
            simp only [Act.put, List.setIfInBounds_toArray]
            refine wpAnyT_one (i := 14) (o := _) (by kernel_rfl) rfl (fun K hK => ?_)
            go_simp
            refine hK.out _ _ (⟨fun h => absurd (by decide) h, fun _ h => h⟩) ?_
            clear hK K
            refine wpAnyT_one (i := 15) (o := _) (by kernel_rfl) rfl (fun K hK => ?_)
            go_simp
            refine hK.out _ _ (⟨fun h => absurd (by decide) h, fun _ h => h⟩) ?_
            clear hK K
            refine wpAnyT_done (by kernel_rfl) ?_ _
            have hownA := World.ownsRow.alloc hown5 (.cells #[.int .i64 d.frames[k].fn, .int .i64 d.frames[k].pc, .slice xa d.frames[k].locals.length xc, .slice ya d.frames[k].stack.length yc] 90)
            have hbA5 : Below w5.heap.size w5 (w5.alloc (.cells #[.int .i64 d.frames[k].fn, .int .i64 d.frames[k].pc, .slice xa d.frames[k].locals.length xc, .slice ya d.frames[k].stack.length yc] 90)) := (Below.refl _ _).alloc (Nat.le_refl _) _
            have I5A := HI5.out.mono hbA5
            have hkG : Keeps w.heap.size [90] (w5.alloc (.cells #[.int .i64 d.frames[k].fn, .int .i64 d.frames[k].pc, .slice xa d.frames[k].locals.length xc, .slice ya d.frames[k].stack.length yc] 90)) w6 := Keeps.grown hownA hgrow6 (by simp)
            have hF6 : FrsOwn w6 w.heap.size (.slice (some ⟨g6, 0, none⟩) (k + 1) cp6) (fV [] (d.frames.take (k + 1))) (LF ++ [.int .i64 d.frames[k].fn, .int .i64 d.frames[k].pc, .slice xa d.frames[k].locals.length xc, .slice ya d.frames[k].stack.length yc]) := by
              rw [fV_more hlt, ← HMS.out]
              have hl : (fV [] (d.frames.take k)).length = k := by rw [fV_len, List.length_take]; omega
              have hmore := I5A.frs.more (f := ⟨d.frames[k].fn, d.frames[k].pc, lV ms d.frames[k].locals, lV (lS ms d.frames[k].locals) d.frames[k].stack⟩) (fv' := .slice (some ⟨g6, 0, none⟩) (k + 1) cp6) (xa := xa) (xc := xc) (ya := ya) (yc := yc) hkG
              simp only [lV_len, hl] at hmore
              exact hmore hown6 (own_mono HR5.out hbA5) (own_mono HS5.out hbA5)
            have I7 := I5A.addF hkG hF6
            rw [← lS_two hlt HMS.out] at I7
            clear xA hX5 hownA hbA5 I5A hkG hF6 hown6 hgrow6 hat6 hlt6 hV6 v6 v6f v5 x5 vA v2 x2 hown5
            go_wp2
            go_roundw
            case rel => exact ⟨k + 1, _, _, by omega, by go_num, I7⟩
            case measure => simp [intOf]; omega
          · skip
            have hkn : k = d.frames.length := by omega
            subst hkn
            rw [List.take_length] at I
            obtain ⟨nv1, lv1, hW1⟩ := I.walk
            have hsv := sValue_any (w.heap.size + 1 + 1) w.heap.size wb.heap.size (.slice ha d.heap.length hcp) d.heap.length nv1 lv1 (fS [] d.frames) d.value wr hW1 I.bs hA.value I.met hhl
            have HI1 := hid I
            clear I hW1
            go_wp2_with fail
            refine hsv.mono ?_
            rintro e w2 ⟨rfl, hW2, hK2⟩
            have I2 := HI1.out.keep hK2 hW2 (HI1.out.met.mS hA.value)
            have I3 := I2.setVal (mV (fS [] d.frames) d.value)
            have HI3 := hid I3
            have v2 := block_cell I2.out
            have v2f := block_free I2.out
            obtain ⟨w3, hw3⟩ : ∃ w3, w3 = ((w2.setCell ⟨V, 6, none⟩ (.int .i64 (mV (fS [] d.frames) d.value).k)).setCell ⟨V, 7, none⟩ (.int .i64 (mV (fS [] d.frames) d.value).n)).setCell ⟨V, 8, none⟩ (.string (mV (fS [] d.frames) d.value).s) := ⟨_, rfl⟩
            rw [← hw3] at HI3
            clear hsv hW2 hK2 I2 I3 ii
            go_wp2
            rw [← hw3]
            clear hw3 v2 v2f
            obtain ⟨i94, hi94, hz940, hz941, hz942⟩ := info_parts info94
            go_loopw [9] (fun i wr => ∃ (k : Nat) (rv : Value) (LR : List Value), i = .int .i64 k ∧ Hid (k ≤ (rIter d.heap (ms0 d) k).1.length) ∧ SInv w wr wb.heap.size V d (.slice ha d.heap.length hcp) fv rv (.slice za d.out.length zc) (fV [] d.frames) LF (rIter d.heap (ms0 d) k).2 LR (mV (fS [] d.frames) d.value) (rIter d.heap (ms0 d) k).1 #[.slice fa d.frames.length fc, .slice ha d.heap.length hcp, .int .i64 d.made, .slice oa d.out.length oc, .int .i64 d.status, .int .i64 d.trap, .int .i64 d.value.k, .int .i64 d.value.n, .string d.value.s, .int .i64 d.steps] #[.slice none 0 0, .slice none 0 0, .int .i64 0, .slice none 0 0, .int .i64 0, .int .i64 0, .int .i64 0, .int .i64 0, .string ⟨#[]⟩, .int .i64 0]) (fun i _ => d.heap.length - (intOf i).toNat)
            case atStart => exact ⟨0, _, [], rfl, Nat.zero_le _, HI3.out⟩
            case round =>
              skip
              obtain ⟨k, rv, LR, rfl, HLE, I⟩ := hrel
              obtain ⟨ms, rs, hrs⟩ : ∃ ms rs, rIter d.heap (ms0 d) k = (ms, rs) := ⟨_, _, rfl⟩
              have HRS := hid hrs
              rw [hrs] at I HLE
              have I : SInv w wr wb.heap.size V d (.slice ha d.heap.length hcp) fv rv (.slice za d.out.length zc) (fV [] d.frames) LF rs LR (mV (fS [] d.frames) d.value) ms #[.slice fa d.frames.length fc, .slice ha d.heap.length hcp, .int .i64 d.made, .slice oa d.out.length oc, .int .i64 d.status, .int .i64 d.trap, .int .i64 d.value.k, .int .i64 d.value.n, .string d.value.s, .int .i64 d.steps] #[.slice none 0 0, .slice none 0 0, .int .i64 0, .slice none 0 0, .int .i64 0, .int .i64 0, .int .i64 0, .int .i64 0, .string ⟨#[]⟩, .int .i64 0] := I
              have HLE : Hid (k ≤ ms.length) := HLE
              have HRL : Hid (rs.length = k) := by
                have := rIter_len (hp := d.heap) (ms0 := ms0 d) k (by rw [hrs]; exact HLE.out)
                rw [hrs] at this
                exact this
              clear hrs
              have hml : ms.length ≤ 1048576 := by have := I.met.le; omega
              obtain ⟨nv1, lv1, hW1⟩ := I.walk
              obtain ⟨la, lc, hle⟩ : ∃ la lc, lv1 = .slice la ms.length lc := by
                rcases hW1.list.2 with ⟨e, h0⟩ | ⟨b, cp, cu, e, -⟩
                · exact ⟨none, 0, by rw [e, h0]⟩
                · exact ⟨_, cp, e⟩
              subst hle
              have ww := block_cell hW1.blk
              by_cases hlt : k < ms.length
              · skip
                have hj : ms[k] < d.heap.length := I.met.lt _ (List.getElem_mem hlt)
                obtain ⟨j, hje⟩ : ∃ j, j = ms[k] := ⟨_, rfl⟩
                have HJ := hid hje
                have hjH : j < d.heap.length := by rw [hje]; exact hj
                obtain ⟨hp, hpe⟩ : ∃ hp, hp = d.heap[j] := ⟨_, rfl⟩
                have HP := hid hpe
                obtain ⟨lg, lc', e, -, -⟩ := hW1.list.form (by omega)
                cases e
                have l1 : wr.cell? ⟨lg, k, none⟩ = some (.int .i64 (j : Int)) := by
                  rw [hW1.list.cellAt k (by omega), listRow, List.getElem?_map, List.getElem?_eq_getElem hlt, hje]; rfl
                obtain ⟨b, off, qa, qc, hbe, -, c1, hvq⟩ := hm.recs j hjH
                have c1' := cell_later I.below c1
                subst hbe
                rw [← hpe] at c1' hvq
                have hss : hp.length ≤ 1048576 := by rw [hpe]; exact (hx.fields _ (List.getElem_mem hjH)).1
                have hns : ∀ v ∈ hp, Named d.heap.length v := by rw [hpe]; exact hA.heap _ (List.getElem_mem hjH)
                have ii := block_cell I.inb
                have v2 := block_cell I.out
                have HVQ := hid hvq
                have hbD : Below wr.heap.size wr wr.drew := (Below.refl _ _).drew
                have HI2d := hid (I.mono hbD)
                obtain ⟨ra, rc, hre⟩ : ∃ ra rc, rv = .slice ra k rc := by
                  have hw := I.recs.own
                  rw [HRL.out] at hw
                  rcases hw.2 with ⟨e, h0⟩ | ⟨b, cp, cu, e, -⟩
                  · exact ⟨none, 0, by rw [e, h0]⟩
                  · exact ⟨_, cp, e⟩
                subst hre
                have hkz : k < 1048576 := by omega
                clear I hW1 c1 hvq hbD hj hje hpe
                go_upto_region 17 with fail
                have hhP : (fun w' => w'.cell? ⟨w.heap.size, 1, none⟩ = some (.slice (some ⟨b, off, none⟩) d.heap.length hcp) ∧ w'.cell? ⟨w.heap.size + 1 + 1, 2, none⟩ = some (.slice (some ⟨lg, 0, none⟩) ms.length lc) ∧ w'.cell? ⟨lg, k, none⟩ = some (.int .i64 (j : Int)) ∧ w'.cell? ⟨b, off + j, none⟩ = some (.slice qa hp.length qc)) wr.drew := ⟨(ii 1).trans rfl, (ww 2).trans rfl, l1, c1'⟩
                have hhV : (fun w' => w'.cell? ⟨V, 1, none⟩ = some (.slice ra k rc)) wr.drew := (v2 1).trans rfl
                have hk0 : (0 : Int) ≤ (k : Int) := by omega
                have hk1 : (k : Int) < (ms.length : Int) := by omega
                have hj0 : (0 : Int) ≤ (j : Int) := by omega
                have hj1 : (j : Int) < (d.heap.length : Int) := by omega
                refine wp_region_T (Two (fun w' => w'.cell? ⟨w.heap.size, 1, none⟩ = some (.slice (some ⟨b, off, none⟩) d.heap.length hcp) ∧ w'.cell? ⟨w.heap.size + 1 + 1, 2, none⟩ = some (.slice (some ⟨lg, 0, none⟩) ms.length lc) ∧ w'.cell? ⟨lg, k, none⟩ = some (.int .i64 (j : Int)) ∧ w'.cell? ⟨b, off + j, none⟩ = some (.slice qa hp.length qc)) (fun w' => w'.cell? ⟨V, 1, none⟩ = some (.slice ra k rc)) [15, 16, 17, 18, 19, 20] [18, 19, 20]) (by kernel_rfl) ?_
                refine wpAnyT_take (i := 0) (fun w' => w'.cell? ⟨V, 1, none⟩ = some (.slice ra k rc)) [1, 18, 19, 20] (oi := _) (v := ?_) rfl (by kernel_rfl) (by kernel_rfl) (by kernel_rfl) (by kernel_rfl) (fun _ _ _ h => h) (by kernel_rfl) (Two.same 0) (Two.right (by decide)) ?_ hhV ?_
                rotate_left
                · intro w' hSw
                  have s0 := hSw
                  go_simp
                  try with_reducible rfl
                simp only [Act.put, List.setIfInBounds_toArray]
                refine wpAnyT_take (i := 1) (fun w' => w'.cell? ⟨V, 1, none⟩ = some (.slice ra k rc)) [18, 19, 20] (oi := _) (v := ?_) rfl (by kernel_rfl) (by kernel_rfl) (by kernel_rfl) (by kernel_rfl) (fun _ _ _ h => h) (by kernel_rfl) (Two.same 1) (Two.right (by decide)) ?_ hhV ?_
                rotate_left
                · intro w' hSw
                  have s0 := hSw
                  go_simp
                  try with_reducible rfl
                simp only [Act.put]
                refine wpAnyT_take (i := 2) (fun w' => w'.cell? ⟨w.heap.size, 1, none⟩ = some (.slice (some ⟨b, off, none⟩) d.heap.length hcp) ∧ w'.cell? ⟨w.heap.size + 1 + 1, 2, none⟩ = some (.slice (some ⟨lg, 0, none⟩) ms.length lc) ∧ w'.cell? ⟨lg, k, none⟩ = some (.int .i64 (j : Int)) ∧ w'.cell? ⟨b, off + j, none⟩ = some (.slice qa hp.length qc)) [15, 16, 17, 18, 19, 20] (oi := _) (v := ?_) rfl (by kernel_rfl) (by kernel_rfl) (by kernel_rfl) (by kernel_rfl) (fun _ _ _ h => h) (by kernel_rfl) (Two.same 2) (Two.left (by decide)) ?_ hhP ?_
                rotate_left
                · intro w' hSw
                  obtain ⟨s0, s1, s2, s3⟩ := hSw
                  go_simp
                  try with_reducible rfl
                simp only [Act.put]
                refine wpAnyT_take (i := 3) (fun w' => w'.cell? ⟨w.heap.size, 1, none⟩ = some (.slice (some ⟨b, off, none⟩) d.heap.length hcp) ∧ w'.cell? ⟨w.heap.size + 1 + 1, 2, none⟩ = some (.slice (some ⟨lg, 0, none⟩) ms.length lc) ∧ w'.cell? ⟨lg, k, none⟩ = some (.int .i64 (j : Int)) ∧ w'.cell? ⟨b, off + j, none⟩ = some (.slice qa hp.length qc)) [4, 12, 13, 14, 15, 16, 17, 18, 19, 20] (oi := _) (v := ?_) rfl (by kernel_rfl) (by kernel_rfl) (by kernel_rfl) (by kernel_rfl) (fun _ _ _ h => h) (by kernel_rfl) (Two.same 3) (Two.left (by decide)) ?_ hhP ?_
                rotate_left
                · intro w' hSw
                  obtain ⟨s0, s1, s2, s3⟩ := hSw
                  go_simp
                  try with_reducible rfl
                simp only [Act.put]
                refine wpAnyT_take (i := 4) (fun w' => w'.cell? ⟨w.heap.size, 1, none⟩ = some (.slice (some ⟨b, off, none⟩) d.heap.length hcp) ∧ w'.cell? ⟨w.heap.size + 1 + 1, 2, none⟩ = some (.slice (some ⟨lg, 0, none⟩) ms.length lc) ∧ w'.cell? ⟨lg, k, none⟩ = some (.int .i64 (j : Int)) ∧ w'.cell? ⟨b, off + j, none⟩ = some (.slice qa hp.length qc)) [12, 13, 14, 15, 16, 17, 18, 19, 20] (oi := _) (v := ?_) rfl (by kernel_rfl) (by kernel_rfl) (by kernel_rfl) (by kernel_rfl) (fun _ _ _ h => h) (by kernel_rfl) (Two.same 4) (Two.left (by decide)) ?_ hhP ?_
                rotate_left
                · intro w' hSw
                  obtain ⟨s0, s1, s2, s3⟩ := hSw
                  go_simp
                  try with_reducible rfl
                simp only [Act.put]
                refine wpAnyT_take (i := 5) (fun w' => w'.cell? ⟨w.heap.size, 1, none⟩ = some (.slice (some ⟨b, off, none⟩) d.heap.length hcp) ∧ w'.cell? ⟨w.heap.size + 1 + 1, 2, none⟩ = some (.slice (some ⟨lg, 0, none⟩) ms.length lc) ∧ w'.cell? ⟨lg, k, none⟩ = some (.int .i64 (j : Int)) ∧ w'.cell? ⟨b, off + j, none⟩ = some (.slice qa hp.length qc)) [6, 7, 8, 10, 11, 12, 13, 14, 15, 16, 17, 18, 19, 20] (oi := _) (v := ?_) rfl (by kernel_rfl) (by kernel_rfl) (by kernel_rfl) (by kernel_rfl) (fun _ _ _ h => h) (by kernel_rfl) (Two.same 5) (Two.left (by decide)) ?_ hhP ?_
                rotate_left
                · intro w' hSw
                  obtain ⟨s0, s1, s2, s3⟩ := hSw
                  go_simp
                  try with_reducible rfl
                simp only [Act.put]
                refine wpAnyT_take (i := 6) (fun w' => w'.cell? ⟨w.heap.size, 1, none⟩ = some (.slice (some ⟨b, off, none⟩) d.heap.length hcp) ∧ w'.cell? ⟨w.heap.size + 1 + 1, 2, none⟩ = some (.slice (some ⟨lg, 0, none⟩) ms.length lc) ∧ w'.cell? ⟨lg, k, none⟩ = some (.int .i64 (j : Int)) ∧ w'.cell? ⟨b, off + j, none⟩ = some (.slice qa hp.length qc)) [7, 8, 10, 11, 12, 13, 14, 15, 16, 17, 18, 19, 20] (oi := _) (v := ?_) rfl (by kernel_rfl) (by kernel_rfl) (by kernel_rfl) (by kernel_rfl) (fun _ _ _ h => h) (by kernel_rfl) (Two.same 6) (Two.left (by decide)) ?_ hhP ?_
                rotate_left
                · intro w' hSw
                  obtain ⟨s0, s1, s2, s3⟩ := hSw
                  go_simp
                  try with_reducible rfl
                simp only [Act.put]
                refine wpAnyT_take (i := 7) (fun w' => w'.cell? ⟨w.heap.size, 1, none⟩ = some (.slice (some ⟨b, off, none⟩) d.heap.length hcp) ∧ w'.cell? ⟨w.heap.size + 1 + 1, 2, none⟩ = some (.slice (some ⟨lg, 0, none⟩) ms.length lc) ∧ w'.cell? ⟨lg, k, none⟩ = some (.int .i64 (j : Int)) ∧ w'.cell? ⟨b, off + j, none⟩ = some (.slice qa hp.length qc)) [8, 10, 11, 12, 13, 14, 15, 16, 17, 18, 19, 20] (oi := _) (v := ?_) rfl (by kernel_rfl) (by kernel_rfl) (by kernel_rfl) (by kernel_rfl) (fun _ _ _ h => h) (by kernel_rfl) (Two.same 7) (Two.left (by decide)) ?_ hhP ?_
                rotate_left
                · intro w' hSw
                  obtain ⟨s0, s1, s2, s3⟩ := hSw
                  go_simp
                  try with_reducible rfl
                simp only [Act.put]
                refine wpAnyT_take (i := 8) (fun w' => w'.cell? ⟨w.heap.size, 1, none⟩ = some (.slice (some ⟨b, off, none⟩) d.heap.length hcp) ∧ w'.cell? ⟨w.heap.size + 1 + 1, 2, none⟩ = some (.slice (some ⟨lg, 0, none⟩) ms.length lc) ∧ w'.cell? ⟨lg, k, none⟩ = some (.int .i64 (j : Int)) ∧ w'.cell? ⟨b, off + j, none⟩ = some (.slice qa hp.length qc)) [10, 11, 12, 13, 14, 15, 16, 17, 18, 19, 20] (oi := _) (v := ?_) rfl (by kernel_rfl) (by kernel_rfl) (by kernel_rfl) (by kernel_rfl) (fun _ _ _ h => h) (by kernel_rfl) (Two.same 8) (Two.left (by decide)) ?_ hhP ?_
                rotate_left
                · intro w' hSw
                  obtain ⟨s0, s1, s2, s3⟩ := hSw
                  go_simp
                  try with_reducible rfl
                simp only [Act.put]
                refine wpAnyT_take (i := 9) (fun w' => w'.cell? ⟨w.heap.size, 1, none⟩ = some (.slice (some ⟨b, off, none⟩) d.heap.length hcp) ∧ w'.cell? ⟨w.heap.size + 1 + 1, 2, none⟩ = some (.slice (some ⟨lg, 0, none⟩) ms.length lc) ∧ w'.cell? ⟨lg, k, none⟩ = some (.int .i64 (j : Int)) ∧ w'.cell? ⟨b, off + j, none⟩ = some (.slice qa hp.length qc)) [10, 11, 12, 13, 14, 15, 16, 17, 18, 19, 20] (oi := _) (v := ?_) rfl (by kernel_rfl) (by kernel_rfl) (by kernel_rfl) (by kernel_rfl) (fun _ _ _ h => h) (by kernel_rfl) (Two.same 9) (Two.left (by decide)) ?_ hhP ?_
                rotate_left
                · intro w' hSw
                  obtain ⟨s0, s1, s2, s3⟩ := hSw
                  go_simp
                  try with_reducible rfl
                simp only [Act.put]
                refine wpAnyT_take (i := 10) (fun w' => w'.cell? ⟨w.heap.size, 1, none⟩ = some (.slice (some ⟨b, off, none⟩) d.heap.length hcp) ∧ w'.cell? ⟨w.heap.size + 1 + 1, 2, none⟩ = some (.slice (some ⟨lg, 0, none⟩) ms.length lc) ∧ w'.cell? ⟨lg, k, none⟩ = some (.int .i64 (j : Int)) ∧ w'.cell? ⟨b, off + j, none⟩ = some (.slice qa hp.length qc)) [11, 12, 13, 14, 15, 16, 17, 18, 19, 20] (oi := _) (v := ?_) rfl (by kernel_rfl) (by kernel_rfl) (by kernel_rfl) (by kernel_rfl) (fun _ _ _ h => h) (by kernel_rfl) (Two.same 10) (Two.left (by decide)) ?_ hhP ?_
                rotate_left
                · intro w' hSw
                  obtain ⟨s0, s1, s2, s3⟩ := hSw
                  go_simp
                  try with_reducible rfl
                simp only [Act.put]
                refine wpAnyT_take (i := 11) (fun w' => w'.cell? ⟨w.heap.size, 1, none⟩ = some (.slice (some ⟨b, off, none⟩) d.heap.length hcp) ∧ w'.cell? ⟨w.heap.size + 1 + 1, 2, none⟩ = some (.slice (some ⟨lg, 0, none⟩) ms.length lc) ∧ w'.cell? ⟨lg, k, none⟩ = some (.int .i64 (j : Int)) ∧ w'.cell? ⟨b, off + j, none⟩ = some (.slice qa hp.length qc)) [12, 13, 14, 15, 16, 17, 18, 19, 20] (oi := _) (v := ?_) rfl (by kernel_rfl) (by kernel_rfl) (by kernel_rfl) (by kernel_rfl) (fun _ _ _ h => h) (by kernel_rfl) (Two.same 11) (Two.left (by decide)) ?_ hhP ?_
                rotate_left
                · intro w' hSw
                  obtain ⟨s0, s1, s2, s3⟩ := hSw
                  go_simp
                  try with_reducible rfl
                simp only [Act.put]
                refine wpAnyT_take (i := 12) (fun w' => w'.cell? ⟨w.heap.size, 1, none⟩ = some (.slice (some ⟨b, off, none⟩) d.heap.length hcp) ∧ w'.cell? ⟨w.heap.size + 1 + 1, 2, none⟩ = some (.slice (some ⟨lg, 0, none⟩) ms.length lc) ∧ w'.cell? ⟨lg, k, none⟩ = some (.int .i64 (j : Int)) ∧ w'.cell? ⟨b, off + j, none⟩ = some (.slice qa hp.length qc)) [13, 14, 15, 16, 17, 18, 19, 20] (oi := _) (v := ?_) rfl (by kernel_rfl) (by kernel_rfl) (by kernel_rfl) (by kernel_rfl) (fun _ _ _ h => h) (by kernel_rfl) (Two.same 12) (Two.left (by decide)) ?_ hhP ?_
                rotate_left
                · intro w' hSw
                  obtain ⟨s0, s1, s2, s3⟩ := hSw
                  go_simp
                  try with_reducible rfl
                simp only [Act.put]
                refine wpAnyT_take (i := 13) (fun w' => w'.cell? ⟨w.heap.size, 1, none⟩ = some (.slice (some ⟨b, off, none⟩) d.heap.length hcp) ∧ w'.cell? ⟨w.heap.size + 1 + 1, 2, none⟩ = some (.slice (some ⟨lg, 0, none⟩) ms.length lc) ∧ w'.cell? ⟨lg, k, none⟩ = some (.int .i64 (j : Int)) ∧ w'.cell? ⟨b, off + j, none⟩ = some (.slice qa hp.length qc)) [14, 15, 16, 17, 18, 19, 20] (oi := _) (v := ?_) rfl (by kernel_rfl) (by kernel_rfl) (by kernel_rfl) (by kernel_rfl) (fun _ _ _ h => h) (by kernel_rfl) (Two.same 13) (Two.left (by decide)) ?_ hhP ?_
                rotate_left
                · intro w' hSw
                  obtain ⟨s0, s1, s2, s3⟩ := hSw
                  go_simp
                  try with_reducible rfl
                simp only [Act.put]
                refine wpAnyT_take (i := 14) (fun w' => w'.cell? ⟨w.heap.size, 1, none⟩ = some (.slice (some ⟨b, off, none⟩) d.heap.length hcp) ∧ w'.cell? ⟨w.heap.size + 1 + 1, 2, none⟩ = some (.slice (some ⟨lg, 0, none⟩) ms.length lc) ∧ w'.cell? ⟨lg, k, none⟩ = some (.int .i64 (j : Int)) ∧ w'.cell? ⟨b, off + j, none⟩ = some (.slice qa hp.length qc)) [15, 16, 17, 18, 19, 20] (oi := _) (v := ?_) rfl (by kernel_rfl) (by kernel_rfl) (by kernel_rfl) (by kernel_rfl) (fun _ _ _ h => h) (by kernel_rfl) (Two.same 14) (Two.left (by decide)) ?_ hhP ?_
                rotate_left
                · intro w' hSw
                  obtain ⟨s0, s1, s2, s3⟩ := hSw
                  go_simp
                  try with_reducible rfl
                simp only [Act.put]
                clear hhP hhV hk0 hk1 hj0 hj1
                refine wpAnyT_one (i := 15) (o := _) (by kernel_rfl) rfl (fun K hK => ?_)
                go_simp
                go_at_call 51
                refine (sValues_is (w.heap.size + 1 + 1) wb.heap.size _ d.heap.length _ _ ms qa hp qc w _ HI2d.out.walk.choose_spec.choose_spec HI2d.out.bs HI2d.out.below HVQ.out hss hns HI2d.out.met hhl).mono ?_
                rintro e w5 ⟨ya, yc, rfl, hownS, hW5, hK5⟩
                have I5 := HI2d.out.keep hK5 hW5 (HI2d.out.met.lS hns)
                have HS5 : Hid (ValsRow w5 w.heap.size ya yc (lV ms hp)) := (by unfold ValsRow; rw [lV_len]; exact own_down hownS HI2d.out.below.size)
                have HI5 := hid I5
                have hown5 : w5.ownsRow w.heap.size 94 1 (.slice ra k rc) k LR := (by have hw := I5.recs.own; rw [HRL.out] at hw; exact hw)
                have hsz5 := I5.below.size
                have v5 := block_cell I5.out
                have vA := block_cell (block_old I5.out (.cells #[.slice ya hp.length yc] 94))
                clear I5 hownS hW5 hK5
                go_wp2_with fail
                refine hK.out _ _ (⟨fun h => absurd (by decide) h, fun _ _ => (v5 1).trans rfl⟩) ?_
                clear hK K
                refine wpAnyT_one (i := 16) (o := _) (by kernel_rfl) rfl (fun K hK => ?_)
                go_simp
                refine hK.out _ _ (Two.same 16 _) ?_
                clear hK K
                refine wpAnyT_one (i := 17) (o := _) (by kernel_rfl) rfl (fun K hK => ?_)
                go_simp
                refine hK.out _ _ (⟨fun h => absurd (by decide) h, fun _ _ => (vA 1).trans rfl⟩) ?_
                clear hK K
                refine wpAnyT_one (i := 18) (o := _) (by kernel_rfl) rfl (fun K hK => ?_)
                refine step_append_lies _ (by rfl) _ _ _ (by rfl) w.heap.size 94 i94 (.agg #[.slice none 0 0]) 1 24 Tryz.underlying35 hi94 hz940 hz941 hz942 rfl (by decide) _ _ _ (by rfl) (World.ownsRow.alloc hown5 _) ⟨w5.heap.size, 0, none⟩ 1 1 [.slice ya hp.length yc] (by rfl) (by rfl) (World.news_of_block (cs := #[.slice ya hp.length yc]) (t := 94) (fr := (0, 0)) (heap_alloc_new w5 _)) (by simp [Value.oneCell']) (by decide) (by unfold maxLen; omega) (by omega) (by simp; omega) (w5.heap.size + 1) (by simp) ?_
                intro g6 cp6 w6 hown6 hgrow6 hat6 hlt6
                have hV6 := grown_other (World.ownsRow.alloc hown5 _) (block_old HI5.out.out _) (by decide) hgrow6
                have v6 := block_cell hV6
                have v6f := block_free hV6
                refine hK.out _ _ (⟨fun h => absurd (by decide) h, fun h => absurd (by decide) h⟩) ?_
                clear hK K
                simp only [Act.put, List.setIfInBounds_toArray]
                refine wpAnyT_one (i := 19) (o := _) (by kernel_rfl) rfl (fun K hK => ?_)
                go_simp
                refine hK.out _ _ (⟨fun h => absurd (by decide) h, fun h => absurd (by decide) h⟩) ?_
                clear hK K
                refine wpAnyT_one (i := 20) (o := _) (by kernel_rfl) rfl (fun K hK => ?_)
                go_simp
                refine hK.out _ _ (⟨fun h => absurd (by decide) h, fun h => absurd (by decide) h⟩) ?_
                clear hK K
                refine wpAnyT_done (by kernel_rfl) ?_ _
                have hownA := World.ownsRow.alloc hown5 (.cells #[.slice ya hp.length yc] 94)
                have hbA5 : Below w5.heap.size w5 (w5.alloc (.cells #[.slice ya hp.length yc] 94)) := (Below.refl _ _).alloc (Nat.le_refl _) _
                have I5A := HI5.out.mono hbA5
                have hkG : Keeps w.heap.size [94] (w5.alloc (.cells #[.slice ya hp.length yc] 94)) w6 := Keeps.grown hownA hgrow6 (by simp)
                have hF6 : RecsOwn w6 w.heap.size (.slice (some ⟨g6, 0, none⟩) (k + 1) cp6) (rs ++ [lV ms hp]) (LR ++ [.slice ya hp.length yc]) := by
                  have hmore := I5A.recs.more (r := lV ms hp) (rv' := .slice (some ⟨g6, 0, none⟩) (k + 1) cp6) (xa := ya) (xc := yc) hkG
                  simp only [lV_len, HRL.out] at hmore
                  exact hmore hown6 (own_mono HS5.out hbA5)
                have I7 := I5A.addR hkG hF6
                have hnext := rIter_next' HRS.out hlt HJ.out hjH
                rw [← HP.out] at hnext
                have HNX := hid hnext
                have HML : Hid (k + 1 ≤ (lS ms hp).length) := Nat.le_trans hlt (lS_pre hp ms).length_le
                have HMZ : Hid (k < d.heap.length) := by have h1 := HI5.out.met.le; have h2 := HML.out; show _ < _; have := HI2d.out.met.le; omega
                clear hownA hbA5 I5A hkG hF6 hown6 hgrow6 hat6 hlt6 hV6 v6 v6f v5 vA v2 hown5 hnext
                go_wp2
                go_roundw
                case rel => exact ⟨k + 1, _, _, by go_num, by rw [HNX.out]; exact HML.out, by rw [HNX.out]; exact I7⟩
                case measure => have := HMZ.out; simp [intOf]; omega
              · skip
                have hke : ms.length = k := by have := HLE.out; omega
                have HI1 := hid I
                have v2 := block_cell I.out
                have r2 := block_cell I.res
                have r2f := block_free I.res
                obtain ⟨fa1, fc1, hfe⟩ : ∃ fa1 fc1, fv = .slice fa1 d.frames.length fc1 := by
                  have hw := I.frs.own
                  rw [fV_len] at hw
                  rcases hw.2 with ⟨e, h0⟩ | ⟨b, cp, cu, e, -⟩
                  · exact ⟨none, 0, by rw [e, h0]⟩
                  · exact ⟨_, cp, e⟩
                obtain ⟨ra, rc, hre⟩ : ∃ ra rc, rv = .slice ra k rc := by
                  have hw := I.recs.own
                  rw [HRL.out] at hw
                  rcases hw.2 with ⟨e, h0⟩ | ⟨b, cp, cu, e, -⟩
                  · exact ⟨none, 0, by rw [e, h0]⟩
                  · exact ⟨_, cp, e⟩
                subst hfe
                subst hre
                have HKE := hid hke
                have HNE : Hid (w.heap.size + 1 ≠ V) := by have := I.vb; show _ ≠ _; omega
                clear I hW1 hke
                go_wp2
                refine bodyPost_ret (v := .agg #[.slice fa1 d.frames.length fc1, .slice ra k rc, .int .i64 d.made, .slice za d.out.length zc, .int .i64 d.status, .int .i64 d.trap, .int .i64 (mV (fS [] d.frames) d.value).k, .int .i64 (mV (fS [] d.frames) d.value).n, .string (mV (fS [] d.frames) d.value).s, .int .i64 0]) (by simp [results, Tryz.results24, go_sem, r2]) rfl ?_
                have I := HI1.out
                have hkH : k ≤ d.heap.length := by have h1 := I.met.le; have h2 := HKE.out; omega
                have hh : (canonD d).heap = rs := by
                  have := canon_heap (d := d) (i := k) (by rw [HRS.out]; exact Nat.le_of_eq HKE.out) hkH
                  rw [this, HRS.out]
                have hhl2 : (canonD d).heap.length = k := by rw [hh, HRL.out]
                have hfl2 : (canonD d).frames.length = d.frames.length := fV_len [] d.frames
                refine ⟨fa1, fc1, ra, rc, za, zc, ?_, ?_, ?_⟩
                · unfold vmCells
                  rw [hfl2, hhl2]
                  rfl
                · have hb10 : ∀ kk, kk ≠ w.heap.size + 1 → (put10 wr (w.heap.size + 1) (.slice fa1 d.frames.length fc1) (.slice ra k rc) (.int .i64 d.made) (.slice za d.out.length zc) (.int .i64 d.status) (.int .i64 d.trap) (.int .i64 (mV (fS [] d.frames) d.value).k) (.int .i64 (mV (fS [] d.frames) d.value).n) (.string (mV (fS [] d.frames) d.value).s) (.int .i64 0)).heap[kk]? = wr.heap[kk]? := fun kk hkk => put10_other hkk _ _ _ _ _ _ _ _ _ _
                  have hk10 : Keeps w.heap.size [38] wr (put10 wr (w.heap.size + 1) (.slice fa1 d.frames.length fc1) (.slice ra k rc) (.int .i64 d.made) (.slice za d.out.length zc) (.int .i64 d.status) (.int .i64 d.trap) (.int .i64 (mV (fS [] d.frames) d.value).k) (.int .i64 (mV (fS [] d.frames) d.value).n) (.string (mV (fS [] d.frames) d.value).s) (.int .i64 0)) := ⟨(put10_below (Below.refl (w.heap.size + 1) wr) (Nat.le_refl _) _ _ _ _ _ _ _ _ _ _).os, (put10_below (Below.refl (w.heap.size + 1) wr) (Nat.le_refl _) _ _ _ _ _ _ _ _ _ _).tape, (put10_below (Below.refl (w.heap.size + 1) wr) (Nat.le_refl _) _ _ _ _ _ _ _ _ _ _).output, (put10_below (Below.refl (w.heap.size + 1) wr) (Nat.le_refl _) _ _ _ _ _ _ _ _ _ _).size, fun kk o hkk ho => by
                    rw [hb10 kk (fun e => by rw [e, I.res] at hkk; cases hkk; rcases ho with ho | ho; omega; exact ho (by simp [ofTypes]))]; exact hkk⟩
                  have f1 := (I.frs.keep hk10 (by decide) (by decide))
                  have f2 := (I.recs.keep hk10 (by decide) (by decide))
                  have f3 := own_keep I.strs hk10 (by decide)
                  refine ⟨?_, ?_, ?_⟩
                  · exact f1.at' (fV_len [] d.frames)
                  · rw [hh]
                    exact f2.at' HRL.out
                  · intro i hi
                    obtain ⟨g, cap, e, hb', -⟩ := f3.form (by have : i < d.out.length := hi; omega)
                    cases e
                    refine ⟨g, 0, rfl, hb', ?_⟩
                    have hi' : i < d.out.length := hi
                    rw [Nat.zero_add]
                    have := f3.cellAt i (by omega)
                    rw [List.getElem?_map, List.getElem?_eq_getElem hi'] at this
                    exact this
                · exact put10_below I.below (by omega) _ _ _ _ _ _ _ _ _ _
end Go.Proofs.YtcfbahaokmhbkaaGreat
