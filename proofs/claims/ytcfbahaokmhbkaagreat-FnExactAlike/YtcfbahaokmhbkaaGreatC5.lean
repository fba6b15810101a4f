/-
  impl's numbered, walked.
-/
import Derived.Test.YtcfbahaokmhbkaaGreatKA7
import Derived.Deep.CutRange
namespace Go.Proofs.YtcfbahaokmhbkaaGreat
set_option maxRecDepth 100000
open Go.RowKit
def metRow (rb : Nat → Nat) (hp : List (List Vl)) (ms : List Nat) : List Value := ms.map fun n => .slice (some ⟨rb n, 0, none⟩) (hp.getD n []).length (hp.getD n []).length
structure NumInv (w0 wr : World) (lo Hb nb mb : Nat) (rb : Nat → Nat) (hp : List (List Vl)) (ms : List Nat) (rs : List (List Vl)) (k : Nat) (mv hv : Value) : Prop where
 num : NumAt wr lo Hb nb mb mv ms
 row : RecRow wr lo Hb rb hp
 done : RecDone wr rb hp ms rs k
 own : wr.ownsRow w0.heap.size 94 1 hv k (metRow rb hp (ms.take k))
 kept : KpR lo hp.length rb w0 wr
 met : Met hp.length ms
 len : rs.length = k
 le : k ≤ ms.length
theorem Kp.own {w w' : World} {lo g B e size n : Nat} {v : Value} {xs : List Value} (h : Kp lo g w w') (hown : w.ownsRow B e size v n xs) (he : e ≠ 150 ∧ e ≠ 111) (hg : g < B) : w'.ownsRow B e size v n xs := by
 refine ⟨hown.1, ?_⟩
 rcases hown.2 with ⟨e, hn⟩ | ⟨b, cap, cur, e, hb, hh, r⟩
 · exact .inl ⟨e, hn⟩
 · exact .inr ⟨b, cap, cur, e, hb, h.kept hh (by omega) he, r⟩
theorem rIter_next' {hp : List (List Vl)} {ms0 : List Nat} {i j : Nat} {ms : List Nat} {rs : List (List Vl)} (hr : rIter hp ms0 i = (ms, rs)) (h : i < ms.length) (hj : j = ms[i]) (hl : j < hp.length) :
  rIter hp ms0 (i + 1) = (lS ms hp[j], rs ++ [lV ms hp[j]]) := by
 subst hj
 have e1 : (rIter hp ms0 i).1 = ms := by rw [hr]
 have e2 : (rIter hp ms0 i).2 = rs := by rw [hr]
 subst e1 e2
 exact rIter_next h hl
theorem take_next {ms : List Nat} {vs : List Vl} {k j : Nat} (h : k < ms.length) (hj : j = ms[k]) : (lS ms vs).take (k + 1) = ms.take k ++ [j] := by
 obtain ⟨ys, hy⟩ := lS_pre vs ms
 rw [← hy, List.take_append_of_le_length (by omega), take_more h, hj]
set_option maxHeartbeats 4000000 in
theorem numbered_any (lo Hb hcap nb mb : Nat) (mv : Value) (rb : Nat → Nat) (hp : List (List Vl)) (ms0 : List Nat) (w : World) (hN : NumAt w lo Hb nb mb mv ms0) (hR : RecRow w lo Hb rb hp) (hD : RecDone w rb hp ms0 [] 0)
  (hn : hp.length ≤ 1048576) (hf : ∀ r ∈ hp, r.length ≤ 1048576) (hv : ∀ r ∈ hp, ∀ v ∈ r, Named hp.length v) (hM : Met hp.length ms0) :
  Calls Tryz.prog 65 #[.agg #[.slice (some ⟨Hb, 0, none⟩) hp.length hcap, .pointer (some ⟨nb, 0, none⟩)]] w fun e w' => ∃ k mv' ho, e = .returned ho ∧ (rIter hp ms0 k).1.length = k ∧ NumInv w w' lo Hb nb mb rb hp (rIter hp ms0 k).1 (rIter hp ms0 k).2 k mv' ho := by
 obtain ⟨i0, hi, hz0, hz1, hz2⟩ := info_parts info94
 obtain ⟨wA, hwA⟩ : ∃ wA, wA = w.alloc (.cells #[.slice (some ⟨Hb, 0, none⟩) hp.length hcap, .pointer (some ⟨nb, 0, none⟩)] 113) := ⟨_, rfl⟩
 have hbA : Below w.heap.size w wA := by rw [hwA]; exact (Below.refl _ _).alloc (Nat.le_refl _) _
 have hBX : wA.heap[w.heap.size]? = some (.cells #[.slice (some ⟨Hb, 0, none⟩) hp.length hcap, .pointer (some ⟨nb, 0, none⟩)] 113 (0, 0)) := by rw [hwA]; exact block_new _ _ _
 have hNA := hN.mono hbA
 have hRA := hR.kept fun o ho => block_kept ho hbA
 have hDA := hD.kept hR hM fun k o _ ho => block_kept ho hbA
 have hwl : lo ≤ w.heap.size := by
  have h1 := lt_block hN.num
  have h2 := hN.lom
  have h3 := hN.mbn
  omega
 go_enter Tryz.func65, Tryz.ntmps65
 go_upto_region 1 with fail
 rw [← hwA]
 clear hwA
 go_wp2
 go_loopw [3, 4] (fun ho i wr => ∃ (k : Nat) (mv' : Value), i = .int .i64 k ∧ Hid (wr.heap[w.heap.size]? = some (.cells #[.slice (some ⟨Hb, 0, none⟩) hp.length hcap, .pointer (some ⟨nb, 0, none⟩)] 113 (0, 0))) ∧ NumInv w wr lo Hb nb mb rb hp (rIter hp ms0 k).1 (rIter hp ms0 k).2 k mv' ho) (fun _ i _ => hp.length - (intOf i).toNat)
 case atStart => exact ⟨0, mv, rfl, hBX, hNA, hRA, hDA, World.ownsRow_nil _ _ _ _, KpR.of hbA, hM, rfl, Nat.zero_le _⟩
 case round =>
  obtain ⟨k, mv1, rfl, HX, I⟩ := hrel
  have b1 := block_cell HX.out
  obtain ⟨ms, rs, hrs⟩ : ∃ ms rs, rIter hp ms0 k = (ms, rs) := ⟨_, _, rfl⟩
  have HRS : Hid (rIter hp ms0 k = (ms, rs)) := hrs
  rw [hrs] at I
  have I : NumInv w wr lo Hb nb mb rb hp ms rs k mv1 _ := I
  clear hrs
  have hML : Hid (ms.length ≤ hp.length) := I.met.le
  have hmlen : ms.length ≤ 1048576 := by have := I.met.le; omega
  obtain ⟨ma, mc, rfl⟩ : ∃ ma mc, mv1 = .slice ma ms.length mc := by
   rcases I.num.met.2 with ⟨e, h0⟩ | ⟨b, cp, cu, e, -⟩
   · exact ⟨none, 0, by rw [e, h0]⟩
   · exact ⟨_, cp, e⟩
  have n1 := block_cell I.num.num
  have hkl := I.le
  by_cases hlt : k < ms.length
  ·
   have hj : ms[k] < hp.length := I.met.lt _ (List.getElem_mem hlt)
   obtain ⟨j, hje⟩ : ∃ j, j = ms[k] := ⟨_, rfl⟩
   have HJ : Hid (j = ms[k]) := hje
   have hjH : j < hp.length := by rw [hje]; exact hj
   obtain ⟨mg, mc', e, -, -⟩ := I.num.met.form (by omega)
   cases e
   have m1 : wr.cell? ⟨mg, k, none⟩ = some (.pointer (some ⟨Hb, j, none⟩)) := by
    rw [I.num.met.cellAt k (by omega), List.getElem?_map, List.getElem?_eq_getElem hlt, hje]; rfl
   obtain ⟨hc, hcb, hcs⟩ := I.row.row
   have r1 : wr.cell? ⟨Hb, j, none⟩ = some (.slice (some ⟨rb j, 0, none⟩) hp[j].length hp[j].length) := by rw [block_cell hcb]; exact hcs j hjH
   have hnot : ms[k] ∉ ms.take k := fun hx => by
    obtain ⟨q, hq, e⟩ := List.mem_iff_getElem.1 hx
    rw [List.getElem_take] at e
    have := (List.getElem_inj I.met.once).1 e
    rw [List.length_take] at hq
    omega
   have hV : ValsIs wr (rb j) hp[j] := I.done.todo j hjH (by rw [hje]; exact hnot)
   have hbd : Below wr.heap.size wr wr.drew := (Below.refl _ _).drew
   have hmt := meetAll_any lo Hb hp.length hcap nb mb _ ms (rb j) hp[j].length hp[j] wr.drew (I.num.mono hbd) (hV.mono hbd) (hf _ (List.getElem_mem _)) (hv _ (List.getElem_mem _)) hn I.met
   have HI := hid I
   have hh : (fun w' : World => w'.cell? ⟨w.heap.size, 0, none⟩ = some (.slice (some ⟨Hb, 0, none⟩) hp.length hcap) ∧ w'.cell? ⟨w.heap.size, 1, none⟩ = some (.pointer (some ⟨nb, 0, none⟩)) ∧ w'.cell? ⟨Hb, j, none⟩ = some (.slice (some ⟨rb j, 0, none⟩) hp[j].length hp[j].length)) wr.drew := ⟨by rw [block_cell (block_kept HX.out hbd)]; rfl, by rw [block_cell (block_kept HX.out hbd)]; rfl, cell_later hbd r1⟩
   clear I hcb hcs hnot hV hj hje
   go_upto_region 6 with fail
   refine wp_region_T (RS [5] (fun w' : World => w'.cell? ⟨w.heap.size, 0, none⟩ = some (.slice (some ⟨Hb, 0, none⟩) hp.length hcap) ∧ w'.cell? ⟨w.heap.size, 1, none⟩ = some (.pointer (some ⟨nb, 0, none⟩)) ∧ w'.cell? ⟨Hb, j, none⟩ = some (.slice (some ⟨rb j, 0, none⟩) hp[j].length hp[j].length))) (by kernel_rfl) ?_
   refine tkS (i := 0) [5] (v := ?_) rfl (by kernel_rfl) (by kernel_rfl) (fun _ _ _ h => h) ?_ hh ?_
   rotate_left
   ·
    intro w' hSw
    obtain ⟨y0, y1, y2⟩ := hSw
    go_simp
    try with_reducible rfl
   simp only [Act.put, List.setIfInBounds_toArray]
   refine tkP (i := 1) (v := ?_) rfl (by kernel_rfl) (fun _ _ _ h => h) ?_ ?_
   rotate_left
   ·
    intro w'
    go_simp
    try with_reducible rfl
   simp only [Act.put]
   refine tkP (i := 2) (v := ?_) rfl (by kernel_rfl) (fun _ _ _ h => h) ?_ ?_
   rotate_left
   ·
    intro w'
    go_simp
    try with_reducible rfl
   simp only [Act.put]
   refine tkP (i := 3) (v := ?_) rfl (by kernel_rfl) (fun _ _ _ h => h) ?_ ?_
   rotate_left
   ·
    intro w'
    go_simp
    try with_reducible rfl
   simp only [Act.put]
   refine tkS (i := 4) [5] (v := ?_) rfl (by kernel_rfl) (by kernel_rfl) (fun _ _ _ h => h) ?_ hh ?_
   rotate_left
   ·
    intro w' hSw
    obtain ⟨y0, y1, y2⟩ := hSw
    go_simp
    try with_reducible rfl
   simp only [Act.put]
   refine wpAnyT_one (i := 5) (o := _) (by kernel_rfl) rfl (fun Kq hKq => ?_)
   go_simp
   refine hmt.mono ?_
   rintro e w2 ⟨rfl, hK2', ⟨mv2, hN2⟩, hV2⟩
   refine hKq.out _ _ (.inl (by decide)) ?_
   clear hKq Kq
   try simp only [Act.put]
   refine wpAnyT_done (by kernel_rfl) ?_ _
   have hK2 : Kp lo (rb j) wr w2 := (Kp.of hbd).trans hK2'
   have HX2 := hid (hK2.kept HX.out (fun e => by have := HI.out.row.lt j hjH; omega) ⟨by decide, by decide⟩)
   clear hK2' hh hbd b1
   obtain ⟨ms2, hms2⟩ : ∃ ms2, ms2 = lS ms hp[j] := ⟨_, rfl⟩
   have HMS : Hid (ms2 = lS ms hp[j]) := hms2
   have hM2 : Met hp.length ms2 := by rw [hms2]; exact HI.out.met.lS (hv _ (List.getElem_mem _))
   have hml2 : ms2.length ≤ 1048576 := by have := hM2.le; omega
   have hpre : ms <+: ms2 := by rw [hms2]; exact lS_pre _ _
   have hlt2 : k < ms2.length := Nat.lt_of_lt_of_le hlt hpre.length_le
   rw [← hms2] at hN2
   obtain ⟨mg2, mc2, e, -, -⟩ := hN2.met.form (by omega)
   subst e
   have hR2 : RecRow w2 lo Hb rb hp := HI.out.row.kept fun o ho => hK2.low ho (fun e => HI.out.row.off j hjH e.symm) HI.out.row.hlo
   have r2 : w2.cell? ⟨Hb, j, none⟩ = some (.slice (some ⟨rb j, 0, none⟩) hp[j].length hp[j].length) := by
    obtain ⟨hc, hcb, hcs⟩ := hR2.row
    rw [block_cell hcb]; exact hcs j hjH
   have hown2 := hK2.own HI.out.own ⟨by decide, by decide⟩ (by have := HI.out.row.lt j hjH; omega)
   have hsz2 : w.heap.size ≤ w2.heap.size := Nat.le_trans HI.out.kept.size hK2.size
   have HN2 := hid hN2
   have HR2 := hid hR2
   have HK2 := hid hK2
   have HV2 := hid hV2
   have HM2 := hid hM2
   have HWL := hid hwl
   have BX2 := block_cell HX2.out
   have hkH : k < 1048576 := by omega
   obtain ⟨ra, rc, hre⟩ : ∃ ra rc, u3 = Value.slice ra k rc := by
    rcases HI.out.own.2 with ⟨e, h0⟩ | ⟨b, cp, cu, e, -⟩
    · exact ⟨none, 0, by rw [e, h0]⟩
    · exact ⟨_, cp, e⟩
   subst hre
   obtain ⟨L0, hL0⟩ : ∃ L0, L0 = metRow rb hp (ms.take k) := ⟨_, rfl⟩
   have HL0 := hid hL0
   rw [← hL0] at hown2
   have HLT := hid hlt
   clear n1 m1 r1 hmt hK2 hN2 hV2 hR2 hM2 hms2 hpre hL0
   go_simp
   go_wp2_with (at_builtin; refine wpList_append_lies _ rfl _ _ 35 rfl w.heap.size 94 i0 (.agg #[.slice none 0 0]) 1 24 Tryz.underlying35 hi hz0 hz1 hz2 rfl (by decide) _ _ _ rfl (World.ownsRow.alloc hown2 _) ⟨w2.heap.size, 0, none⟩ 1 1 [.slice (some ⟨rb j, 0, none⟩) hp[j].length hp[j].length] rfl rfl (World.news_of_block (cs := #[.slice (some ⟨rb j, 0, none⟩) hp[j].length hp[j].length]) (t := 94) (fr := (0, 0)) (heap_alloc_new w2 _)) (by simp [Value.oneCell']) (by decide) (by unfold maxLen; omega) (by omega) (by simp; omega) _ rfl ?_; intro g3 cap3 w3 hown3 hgrow3 hat3 hlt3)
   go_roundw
   case rel =>
    have hownA := World.ownsRow.alloc hown2 (.cells #[.slice (some ⟨rb j, 0, none⟩) hp[j].length hp[j].length] 94)
    have hbA : Below w2.heap.size w2 (w2.alloc (.cells #[.slice (some ⟨rb j, 0, none⟩) hp[j].length hp[j].length] 94)) := (Below.refl _ _).alloc (Nat.le_refl _) _
    have hlow : ∀ kk o, kk < lo → w2.heap[kk]? = some o → w3.heap[kk]? = some o := fun kk o hkk ho => grown_kept hownA (by have := HWL.out; omega) (block_kept ho hbA) hgrow3
    have I := HI.out
    have hgd : (hp.getD j []).length = hp[j].length := by rw [List.getD_eq_getElem?_getD, List.getElem?_eq_getElem hjH]; rfl
    have hlt1 : k < ms.length := HLT.out
    refine ⟨k + 1, .slice (some ⟨mg2, 0, none⟩) ms2.length mc2, by go_num, grown_other hownA (block_kept HX2.out hbA) (by decide) hgrow3, ?_⟩
    rw [rIter_next' HRS.out hlt1 HJ.out hjH]
    show NumInv w w3 lo Hb nb mb rb hp (lS ms hp[j]) (rs ++ [lV ms hp[j]]) (k + 1) _ _
    have hst := I.done.step rfl I.row I.met hlt1 I.len (by rw [← HJ.out]; exact hjH) (w' := w2)
    simp only [← HJ.out] at hst
    have hst := hst HK2.out HV2.out
    rw [← HMS.out] at hst ⊢
    refine ⟨(HN2.out.mono hbA).grown hownA hgrow3, (HR2.out.kept fun o ho => hlow _ o HR2.out.hlo ho), hst.kept HR2.out HM2.out hlow, ?_, ?_, HM2.out, by rw [List.length_append, I.len]; rfl, by omega⟩
    ·
     have e1 : metRow rb hp (ms2.take (k + 1)) = L0 ++ [.slice (some ⟨rb j, 0, none⟩) hp[j].length hp[j].length] := by
      rw [HMS.out, take_next hlt1 HJ.out, HL0.out, metRow, List.map_append, List.map_singleton, hgd]; rfl
     rw [e1]
     exact hown3
    · exact ((I.kept.trans (KpR.kp HK2.out hjH rfl)).trans (KpR.of hbA)).trans (KpR.grown hownA hgrow3 HWL.out)
   case measure => have := HI.out.met.le; simp [intOf]; omega
  ·
   have hke : ms.length = k := by omega
   go_wp2
   go_ret
   refine ⟨k, .slice ma ms.length mc, _, rfl, ?_, ?_⟩
   · rw [HRS.out]; exact hke
   · rw [HRS.out]; exact I
end Go.Proofs.YtcfbahaokmhbkaaGreat
