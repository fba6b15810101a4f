/-
  impl's numbered, walked.
  How many values an instruction takes and lays, how high the stack is ahead of each instruction of a function, and the first trouble of a module, as functions and predicates on plain data.
-/
import Derived.Test.YtcfbahaokmhbkaaGreatKC7
import Derived.Deep.CutRange
import Derived.Test.YtcfbahaokmhbkaaGreatKC4
namespace Go.Proofs.YtcfbahaokmhbkaaGreat
open Go.RowKit

/-- The slices of the records that were met. -/
def metRow (rb : Nat → Nat) (hp : List (List Vl)) (ms : List Nat) : List Value := ms.map fun n => .slice (some ⟨rb n, 0, none⟩) (hp.getD n []).length (hp.getD n []).length

structure NumInv (w0 wr : World) (lo Hb nb mb : Nat) (rb : Nat → Nat) (hp : List (List Vl)) (ms : List Nat) (rs : List (List Vl)) (k : Nat) (mv hv : Value) : Prop where
  num : NumAt wr lo Hb nb mb mv ms
  row : RecRow wr lo Hb rb hp
  done : RecDone wr rb hp ms rs k
  own : wr.ownsRow w0.heap.size 94 1 hv k (metRow rb hp (ms.take k))
  kept : KpR lo hp.length rb w0 wr
  met : Met hp.length ms
  len : rs.length = k
  le : k ≤ ms.length

theorem Kp.own {w w' : World} {lo g B e size n : Nat} {v : Value} {xs : List Value} (h : Kp lo g w w') (hown : w.ownsRow B e size v n xs) (he : e ≠ 150 ∧ e ≠ 111) (hg : g < B) : w'.ownsRow B e size v n xs := by
  refine ⟨hown.1, ?_⟩
  rcases hown.2 with ⟨e, hn⟩ | ⟨b, cap, cur, e, hb, hh, r⟩
  · exact .inl ⟨e, hn⟩
  · exact .inr ⟨b, cap, cur, e, hb, h.kept hh (by omega) he, r⟩
theorem rIter_next' {hp : List (List Vl)} {ms0 : List Nat} {i j : Nat} {ms : List Nat} {rs : List (List Vl)} (hr : rIter hp ms0 i = (ms, rs)) (h : i < ms.length) (hj : j = ms[i]) (hl : j < hp.length) :
    rIter hp ms0 (i + 1) = (lS ms hp[j], rs ++ [lV ms hp[j]]) := by
  subst hj
  have e1 : (rIter hp ms0 i).1 = ms := by rw [hr]
  have e2 : (rIter hp ms0 i).2 = rs := by rw [hr]
  subst e1 e2
  exact rIter_next h hl
theorem take_next {ms : List Nat} {vs : List Vl} {k j : Nat} (h : k < ms.length) (hj : j = ms[k]) : (lS ms vs).take (k + 1) = ms.take k ++ [j] := by
  obtain ⟨ys, hy⟩ := lS_pre vs ms
  rw [← hy, List.take_append_of_le_length (by omega), take_more h, hj]


set_option maxRecDepth 100000 in
set_option maxHeartbeats 4000000 in
theorem numbered_any (lo Hb hcap nb mb : Nat) (mv : Value) (rb : Nat → Nat) (hp : List (List Vl)) (ms0 : List Nat) (w : World) (hN : NumAt w lo Hb nb mb mv ms0) (hR : RecRow w lo Hb rb hp) (hD : RecDone w rb hp ms0 [] 0)
    (hn : hp.length ≤ 1048576) (hf : ∀ r ∈ hp, r.length ≤ 1048576) (hv : ∀ r ∈ hp, ∀ v ∈ r, Named hp.length v) (hM : Met hp.length ms0) :
    Calls Tryz.prog 65 #[.agg #[.slice (some ⟨Hb, 0, none⟩) hp.length hcap, .pointer (some ⟨nb, 0, none⟩)]] w fun e w' => ∃ k mv' ho, e = .returned ho ∧ (rIter hp ms0 k).1.length = k ∧ NumInv w w' lo Hb nb mb rb hp (rIter hp ms0 k).1 (rIter hp ms0 k).2 k mv' ho := by
  obtain ⟨i0, hi, hz0, hz1, hz2⟩ := info_parts info94
  obtain ⟨wA, hwA⟩ : ∃ wA, wA = w.alloc (.cells #[.slice (some ⟨Hb, 0, none⟩) hp.length hcap, .pointer (some ⟨nb, 0, none⟩)] 113) := ⟨_, rfl⟩
  have hbA : Below w.heap.size w wA := by rw [hwA]; exact (Below.refl _ _).alloc (Nat.le_refl _) _
  have hBX : wA.heap[w.heap.size]? = some (.cells #[.slice (some ⟨Hb, 0, none⟩) hp.length hcap, .pointer (some ⟨nb, 0, none⟩)] 113 (0, 0)) := by rw [hwA]; exact block_new _ _ _
  have hNA := hN.mono hbA
  have hRA := hR.kept fun o ho => block_kept ho hbA
  have hDA := hD.kept hR hM fun k o _ ho => block_kept ho hbA
  have hwl : lo ≤ w.heap.size := by
    have h1 := lt_block hN.num
    have h2 := hN.lom
    have h3 := hN.mbn
    omega
  go_enter Tryz.func65, Tryz.ntmps65
  go_upto_region 1 with fail
  rw [← hwA]
  clear hwA
  go_wp2
  go_loopw [3, 4] (fun ho i wr => ∃ (k : Nat) (mv' : Value), i = .int .i64 k ∧ Hid (wr.heap[w.heap.size]? = some (.cells #[.slice (some ⟨Hb, 0, none⟩) hp.length hcap, .pointer (some ⟨nb, 0, none⟩)] 113 (0, 0))) ∧ NumInv w wr lo Hb nb mb rb hp (rIter hp ms0 k).1 (rIter hp ms0 k).2 k mv' ho) (fun _ i _ => hp.length - (intOf i).toNat)
  case atStart => exact ⟨0, mv, rfl, hBX, hNA, hRA, hDA, World.ownsRow_nil _ _ _ _, KpR.of hbA, hM, rfl, Nat.zero_le _⟩
  case round =>
    obtain ⟨k, mv1, rfl, HX, I⟩ := hrel
    have b1 := block_cell HX.out
    obtain ⟨ms, rs, hrs⟩ : ∃ ms rs, rIter hp ms0 k = (ms, rs) := ⟨_, _, rfl⟩
    have HRS : Hid (rIter hp ms0 k = (ms, rs)) := hrs
    rw [hrs] at I
    have I : NumInv w wr lo Hb nb mb rb hp ms rs k mv1 _ := I
    clear hrs
    have hML : Hid (ms.length ≤ hp.length) := I.met.le
    have hmlen : ms.length ≤ 1048576 := by have := I.met.le; omega
    obtain ⟨ma, mc, rfl⟩ : ∃ ma mc, mv1 = .slice ma ms.length mc := by
      rcases I.num.met.2 with ⟨e, h0⟩ | ⟨b, cp, cu, e, -⟩
      · exact ⟨none, 0, by rw [e, h0]⟩
      · exact ⟨_, cp, e⟩
    have n1 := block_cell I.num.num
    have hkl := I.le
    by_cases hlt : k < ms.length
    · have hj : ms[k] < hp.length := I.met.lt _ (List.getElem_mem hlt)
      obtain ⟨j, hje⟩ : ∃ j, j = ms[k] := ⟨_, rfl⟩
      have HJ : Hid (j = ms[k]) := hje
      have hjH : j < hp.length := by rw [hje]; exact hj
      obtain ⟨mg, mc', e, -, -⟩ := I.num.met.form (by omega)
      cases e
      have m1 : wr.cell? ⟨mg, k, none⟩ = some (.pointer (some ⟨Hb, j, none⟩)) := by
        rw [I.num.met.cellAt k (by omega), List.getElem?_map, List.getElem?_eq_getElem hlt, hje]; rfl
      obtain ⟨hc, hcb, hcs⟩ := I.row.row
      have r1 : wr.cell? ⟨Hb, j, none⟩ = some (.slice (some ⟨rb j, 0, none⟩) hp[j].length hp[j].length) := by rw [block_cell hcb]; exact hcs j hjH
      have hnot : ms[k] ∉ ms.take k := fun hx => by
        obtain ⟨q, hq, e⟩ := List.mem_iff_getElem.1 hx
        rw [List.getElem_take] at e
        have := (List.getElem_inj I.met.once).1 e
        rw [List.length_take] at hq
        omega
      have hV : ValsIs wr (rb j) hp[j] := I.done.todo j hjH (by rw [hje]; exact hnot)
      have hbd : Below wr.heap.size wr wr.drew := (Below.refl _ _).drew
      have hmt := meetAll_any lo Hb hp.length hcap nb mb _ ms (rb j) hp[j].length hp[j] wr.drew (I.num.mono hbd) (hV.mono hbd) (hf _ (List.getElem_mem _)) (hv _ (List.getElem_mem _)) hn I.met
      have HI := hid I
      have hh : (fun w' : World => w'.cell? ⟨w.heap.size, 0, none⟩ = some (.slice (some ⟨Hb, 0, none⟩) hp.length hcap) ∧ w'.cell? ⟨w.heap.size, 1, none⟩ = some (.pointer (some ⟨nb, 0, none⟩)) ∧ w'.cell? ⟨Hb, j, none⟩ = some (.slice (some ⟨rb j, 0, none⟩) hp[j].length hp[j].length)) wr.drew := ⟨by rw [block_cell (block_kept HX.out hbd)]; rfl, by rw [block_cell (block_kept HX.out hbd)]; rfl, cell_later hbd r1⟩
      clear I hcb hcs hnot hV hj hje
      go_upto_region 6 with fail
      refine wp_region_T (RS [5] (fun w' : World => w'.cell? ⟨w.heap.size, 0, none⟩ = some (.slice (some ⟨Hb, 0, none⟩) hp.length hcap) ∧ w'.cell? ⟨w.heap.size, 1, none⟩ = some (.pointer (some ⟨nb, 0, none⟩)) ∧ w'.cell? ⟨Hb, j, none⟩ = some (.slice (some ⟨rb j, 0, none⟩) hp[j].length hp[j].length))) (by kernel_rfl) ?_
      refine tkS (i := 0) [5] (v := ?_) rfl (by kernel_rfl) (by kernel_rfl) (fun _ _ _ h => h) ?_ hh ?_
      rotate_left
      · intro w' hSw
        obtain ⟨y0, y1, y2⟩ := hSw
        go_simp
        try with_reducible rfl
      simp only [Act.put, List.setIfInBounds_toArray]
      refine tkP (i := 1) (v := ?_) rfl (by kernel_rfl) (fun _ _ _ h => h) ?_ ?_
      rotate_left
      · intro w'
        go_simp
        try with_reducible rfl
      simp only [Act.put]
      refine tkP (i := 2) (v := ?_) rfl (by kernel_rfl) (fun _ _ _ h => h) ?_ ?_
      rotate_left
      · intro w'
        go_simp
        try with_reducible rfl
      simp only [Act.put]
      refine tkP (i := 3) (v := ?_) rfl (by kernel_rfl) (fun _ _ _ h => h) ?_ ?_
      rotate_left
      · intro w'
        go_simp
        try with_reducible rfl
      simp only [Act.put]
      refine tkS (i := 4) [5] (v := ?_) rfl (by kernel_rfl) (by kernel_rfl) (fun _ _ _ h => h) ?_ hh ?_
      rotate_left
      · intro w' hSw
        obtain ⟨y0, y1, y2⟩ := hSw
        go_simp
        try with_reducible rfl
      simp only [Act.put]
      refine wpAnyT_one (i := 5) (o := _) (by kernel_rfl) rfl (fun Kq hKq => ?_)
      go_simp
      refine hmt.mono ?_
      rintro e w2 ⟨rfl, hK2', ⟨mv2, hN2⟩, hV2⟩
      refine hKq.out _ _ (.inl (by decide)) ?_
      clear hKq Kq
      try simp only [Act.put]
      refine wpAnyT_done (by kernel_rfl) ?_ _
      have hK2 : Kp lo (rb j) wr w2 := (Kp.of hbd).trans hK2'
      have HX2 := hid (hK2.kept HX.out (fun e => by have := HI.out.row.lt j hjH; omega) ⟨by decide, by decide⟩)
      clear hK2' hh hbd b1
      obtain ⟨ms2, hms2⟩ : ∃ ms2, ms2 = lS ms hp[j] := ⟨_, rfl⟩
      have HMS : Hid (ms2 = lS ms hp[j]) := hms2
      have hM2 : Met hp.length ms2 := by rw [hms2]; exact HI.out.met.lS (hv _ (List.getElem_mem _))
      have hml2 : ms2.length ≤ 1048576 := by have := hM2.le; omega
      have hpre : ms <+: ms2 := by rw [hms2]; exact lS_pre _ _
      have hlt2 : k < ms2.length := Nat.lt_of_lt_of_le hlt hpre.length_le
      rw [← hms2] at hN2
      obtain ⟨mg2, mc2, e, -, -⟩ := hN2.met.form (by omega)
      subst e
      have hR2 : RecRow w2 lo Hb rb hp := HI.out.row.kept fun o ho => hK2.low ho (fun e => HI.out.row.off j hjH e.symm) HI.out.row.hlo
      have r2 : w2.cell? ⟨Hb, j, none⟩ = some (.slice (some ⟨rb j, 0, none⟩) hp[j].length hp[j].length) := by
        obtain ⟨hc, hcb, hcs⟩ := hR2.row
        rw [block_cell hcb]; exact hcs j hjH
      have hown2 := hK2.own HI.out.own ⟨by decide, by decide⟩ (by have := HI.out.row.lt j hjH; omega)
      have hsz2 : w.heap.size ≤ w2.heap.size := Nat.le_trans HI.out.kept.size hK2.size
      have HN2 := hid hN2
      have HR2 := hid hR2
      have HK2 := hid hK2
      have HV2 := hid hV2
      have HM2 := hid hM2
      have HWL := hid hwl
      have BX2 := block_cell HX2.out
      have hkH : k < 1048576 := by omega
      obtain ⟨ra, rc, hre⟩ : ∃ ra rc, u3 = Value.slice ra k rc := by
        rcases HI.out.own.2 with ⟨e, h0⟩ | ⟨b, cp, cu, e, -⟩
        · exact ⟨none, 0, by rw [e, h0]⟩
        · exact ⟨_, cp, e⟩
      subst hre
      obtain ⟨L0, hL0⟩ : ∃ L0, L0 = metRow rb hp (ms.take k) := ⟨_, rfl⟩
      have HL0 := hid hL0
      rw [← hL0] at hown2
      have HLT := hid hlt
      clear n1 m1 r1 hmt hK2 hN2 hV2 hR2 hM2 hms2 hpre hL0
      go_simp
      go_wp2_with (at_builtin; refine wpList_append_lies _ rfl _ _ 35 rfl w.heap.size 94 i0 (.agg #[.slice none 0 0]) 1 24 Tryz.underlying35 hi hz0 hz1 hz2 rfl (by decide) _ _ _ rfl (World.ownsRow.alloc hown2 _) ⟨w2.heap.size, 0, none⟩ 1 1 [.slice (some ⟨rb j, 0, none⟩) hp[j].length hp[j].length] rfl rfl (World.news_of_block (cs := #[.slice (some ⟨rb j, 0, none⟩) hp[j].length hp[j].length]) (t := 94) (fr := (0, 0)) (heap_alloc_new w2 _)) (by simp [Value.oneCell']) (by decide) (by unfold maxLen; omega) (by omega) (by simp; omega) _ rfl ?_; intro g3 cap3 w3 hown3 hgrow3 hat3 hlt3)
      go_roundw
      case rel =>
        have hownA := World.ownsRow.alloc hown2 (.cells #[.slice (some ⟨rb j, 0, none⟩) hp[j].length hp[j].length] 94)
        have hbA : Below w2.heap.size w2 (w2.alloc (.cells #[.slice (some ⟨rb j, 0, none⟩) hp[j].length hp[j].length] 94)) := (Below.refl _ _).alloc (Nat.le_refl _) _
        have hlow : ∀ kk o, kk < lo → w2.heap[kk]? = some o → w3.heap[kk]? = some o := fun kk o hkk ho => grown_kept hownA (by have := HWL.out; omega) (block_kept ho hbA) hgrow3
        have I := HI.out
        have hgd : (hp.getD j []).length = hp[j].length := by rw [List.getD_eq_getElem?_getD, List.getElem?_eq_getElem hjH]; rfl
        have hlt1 : k < ms.length := HLT.out
        refine ⟨k + 1, .slice (some ⟨mg2, 0, none⟩) ms2.length mc2, by go_num, grown_other hownA (block_kept HX2.out hbA) (by decide) hgrow3, ?_⟩
        rw [rIter_next' HRS.out hlt1 HJ.out hjH]
        show NumInv w w3 lo Hb nb mb rb hp (lS ms hp[j]) (rs ++ [lV ms hp[j]]) (k + 1) _ _
        have hst := I.done.step rfl I.row I.met hlt1 I.len (by rw [← HJ.out]; exact hjH) (w' := w2)
        simp only [← HJ.out] at hst
        have hst := hst HK2.out HV2.out
        rw [← HMS.out] at hst ⊢
        refine ⟨(HN2.out.mono hbA).grown hownA hgrow3, (HR2.out.kept fun o ho => hlow _ o HR2.out.hlo ho), hst.kept HR2.out HM2.out hlow, ?_, ?_, HM2.out, by rw [List.length_append, I.len]; rfl, by omega⟩
        · have e1 : metRow rb hp (ms2.take (k + 1)) = L0 ++ [.slice (some ⟨rb j, 0, none⟩) hp[j].length hp[j].length] := by
            rw [HMS.out, take_next hlt1 HJ.out, HL0.out, metRow, List.map_append, List.map_singleton, hgd]; rfl
          rw [e1]
          exact hown3
        · exact ((I.kept.trans (KpR.kp HK2.out hjH rfl)).trans (KpR.of hbA)).trans (KpR.grown hownA hgrow3 HWL.out)
      case measure => have := HI.out.met.le; simp [intOf]; omega
    · have hke : ms.length = k := by omega
      go_wp2
      go_ret
      refine ⟨k, .slice ma ms.length mc, _, rfl, ?_, ?_⟩
      · rw [HRS.out]; exact hke
      · rw [HRS.out]; exact I
end Go.Proofs.YtcfbahaokmhbkaaGreat

namespace Go.Proofs.YtcfbahaokmhbkaaGreat

/-- How many values an instruction takes off the stack, and how many it lays there. -/
def usesB (fs : List Fn) (op a : Int) : Int × Int :=
  if op = 1 ∨ op = 2 ∨ op = 3 ∨ op = 4 ∨ op = 5 ∨ op = 6 ∨ op = 20 then (0, 1)
  else if op = 7 ∨ op = 9 ∨ op = 18 ∨ op = 19 ∨ op = 25 ∨ op = 26 then (1, 0)
  else if op = 8 then (1, 2)
  else if op = 10 then (2, 2)
  else if op = 11 ∨ op = 12 ∨ op = 13 ∨ op = 14 ∨ op = 15 then (2, 1)
  else if op = 16 ∨ op = 21 then (1, 1)
  else if op = 22 then (2, 0)
  else if op = 23 then (if 0 ≤ a ∧ a ≤ 6 then (a + 1, 1) else (0, 0))
  else if op = 24 then (if h : 0 ≤ a ∧ a < fs.length then ((fs[a.toNat]'(by omega)).params, 1) else (0, 0))
  else (0, 0)

theorem usesB_out {fs : List Fn} {op a : Int} (h : op < 1 ∨ 26 < op) : usesB fs op a = (0, 0) := by
  unfold usesB
  repeat' split
  all_goals first | rfl | omega

/-- In a module that is ok an instruction takes and lays no fewer than none, and not many. -/
theorem usesB_ok {fs : List Fn} (h : ∀ f ∈ fs, 0 ≤ f.params ∧ f.params ≤ 6) (op a : Int) : 0 ≤ (usesB fs op a).1 ∧ (usesB fs op a).1 ≤ 7 ∧ 0 ≤ (usesB fs op a).2 ∧ (usesB fs op a).2 ≤ 2 := by
  unfold usesB
  repeat' split
  all_goals first | (refine ⟨?_, ?_, ?_, ?_⟩ <;> simp <;> omega) | skip
  rename_i hx
  have := h (fs[a.toNat]'(by omega)) (List.getElem_mem _)
  refine ⟨?_, ?_, ?_, ?_⟩ <;> simp <;> omega

/-- The places that may follow an instruction. -/
def nextB (op a : Int) (pc : Nat) : List Int := if op = 25 then [] else if op = 17 then [a] else if op = 18 ∨ op = 19 then [(pc : Int) + 1, a] else [(pc : Int) + 1]

/-- A height is laid where there is none yet. -/
def layB (left : Int) (h : List Int) (nx : Int) : List Int := if nx < h.length ∧ h.getD nx.toNat (-1) < 0 then h.set nx.toNat left else h

/-- One instruction, as it is gone through. -/
def stepB (fs : List Fn) (x : Int × Int) (pc : Nat) (h : List Int) : List Int :=
  if h.getD pc (-1) < (usesB fs x.1 x.2).1 ∨ 16 < h.getD pc (-1) - (usesB fs x.1 x.2).1 + (usesB fs x.1 x.2).2 then h
  else (nextB x.1 x.2 pc).foldl (layB (h.getD pc (-1) - (usesB fs x.1 x.2).1 + (usesB fs x.1 x.2).2)) h

/-- The first instructions of a round. -/
def partB (fs : List Fn) (code : List (Int × Int)) : Nat → List Int → List Int
  | 0, h => h
  | k + 1, h => stepB fs (code.getD k (0, 0)) k (partB fs code k h)

def roundB (fs : List Fn) (code : List (Int × Int)) (h : List Int) : List Int := partB fs code code.length h

def initB (n : Nat) : List Int := (List.replicate n (-1)).set 0 0

def iterB (fs : List Fn) (code : List (Int × Int)) : Nat → List Int
  | 0 => initB code.length
  | k + 1 => roundB fs code (iterB fs code k)

/-- The heights that are told: come to by rounds, and one more changes nothing. -/
def Done (fs : List Fn) (code : List (Int × Int)) (d : List Int) : Prop := (∃ k, d = iterB fs code k) ∧ roundB fs code d = d

theorem iter_more {fs : List Fn} {code : List (Int × Int)} {k : Nat} (h : roundB fs code (iterB fs code k) = iterB fs code k) (j : Nat) : iterB fs code (k + j) = iterB fs code k := by
  induction j with
  | zero => rfl
  | succ j ih => show roundB fs code (iterB fs code (k + j)) = _; rw [ih, h]

theorem Done.one {fs : List Fn} {code : List (Int × Int)} {d e : List Int} (hd : Done fs code d) (he : Done fs code e) : d = e := by
  obtain ⟨⟨k, rfl⟩, h1⟩ := hd
  obtain ⟨⟨j, rfl⟩, h2⟩ := he
  rcases Nat.le_total k j with h | h
  · have := iter_more h1 (j - k)
    rw [show k + (j - k) = j by omega] at this
    exact this.symm
  · have := iter_more h2 (k - j)
    rw [show j + (k - j) = k by omega] at this
    exact this

/-- How many have no height yet. -/
def negs (h : List Int) : Nat := h.countP fun x => decide (x < 0)

/-- What heights are throughout. -/
structure Hts (n : Nat) (h : List Int) : Prop where
  len : h.length = n
  low : ∀ i (hi : i < h.length), -1 ≤ h[i]
  high : ∀ i (hi : i < h.length), h[i] ≤ 16

theorem Hts.get {n : Nat} {h : List Int} (H : Hts n h) {i : Nat} (hi : i < n) : h.getD i (-1) = h[i]'(by rw [H.len]; exact hi) := by
  rw [List.getD_eq_getElem?_getD, List.getElem?_eq_getElem (by rw [H.len]; exact hi)]; rfl

theorem layB_hts {n : Nat} {h : List Int} {left nx : Int} (H : Hts n h) (h0 : 0 ≤ left) (h1 : left ≤ 16) : Hts n (layB left h nx) := by
  unfold layB
  split
  · refine ⟨by rw [List.length_set]; exact H.len, ?_, ?_⟩
    · intro i hi
      rw [List.getElem_set]
      split
      · omega
      · exact H.low i (by simpa using hi)
    · intro i hi
      rw [List.getElem_set]
      split
      · omega
      · exact H.high i (by simpa using hi)
  · exact H

theorem layB_less {h : List Int} {left nx : Int} (h0 : 0 ≤ left) (h1 : 0 ≤ nx) : (layB left h nx = h ∧ ¬ (nx < h.length ∧ h.getD nx.toNat (-1) < 0)) ∨ (nx < h.length ∧ h.getD nx.toNat (-1) < 0 ∧ layB left h nx = h.set nx.toNat left ∧ negs (layB left h nx) + 1 = negs h) := by
  unfold layB
  by_cases hc : nx < h.length ∧ h.getD nx.toNat (-1) < 0
  · right
    rw [if_pos hc]
    refine ⟨hc.1, hc.2, rfl, ?_⟩
    have hlt : nx.toNat < h.length := by omega
    have hneg : h[nx.toNat] < 0 := by
      have := hc.2
      rwa [List.getD_eq_getElem?_getD, List.getElem?_eq_getElem hlt, Option.getD_some] at this
    unfold negs
    rw [List.countP_set hlt]
    have hpos : 0 < List.countP (fun x => decide (x < 0)) h := List.countP_pos_iff.2 ⟨h[nx.toNat], List.getElem_mem _, by simpa using hneg⟩
    rw [if_pos (by simpa using hneg), if_neg (by simp; omega)]
    omega
  · left
    rw [if_neg hc]
    exact ⟨rfl, hc⟩

/-- The same, or fewer without a height. -/
def Less (h h' : List Int) : Prop := h' = h ∨ negs h' < negs h
theorem Less.trans {a b c : List Int} (h1 : Less a b) (h2 : Less b c) : Less a c := by
  rcases h1 with rfl | h1
  · exact h2
  · rcases h2 with rfl | h2
    · exact Or.inr h1
    · exact Or.inr (by omega)

theorem layB_Less {h : List Int} {left nx : Int} (h0 : 0 ≤ left) (h1 : 0 ≤ nx) : Less h (layB left h nx) := by
  rcases layB_less (h := h) h0 h1 with h | h
  · exact Or.inl h.1
  · exact Or.inr (by omega)

theorem nextB_nonneg {op a : Int} {pc : Nat} (h : op = 17 ∨ op = 18 ∨ op = 19 → 0 ≤ a) : ∀ nx ∈ nextB op a pc, 0 ≤ nx := by
  intro nx hnx
  unfold nextB at hnx
  split at hnx
  · simp at hnx
  · split at hnx
    · simp at hnx; omega
    · split at hnx
      · simp at hnx; omega
      · simp at hnx; omega

theorem fold_lay {n : Nat} {left : Int} (h0 : 0 ≤ left) (h1 : left ≤ 16) (l : List Int) (hl : ∀ nx ∈ l, 0 ≤ nx) : ∀ h, Hts n h → Hts n (l.foldl (layB left) h) ∧ Less h (l.foldl (layB left) h) := by
  induction l with
  | nil => exact fun h H => ⟨H, Or.inl rfl⟩
  | cons x l ih =>
    intro h H
    rw [List.foldl_cons]
    have := ih (fun nx hnx => hl nx (List.mem_cons_of_mem _ hnx)) (layB left h x) (layB_hts H h0 h1)
    exact ⟨this.1, (layB_Less h0 (hl x (List.mem_cons_self ..))).trans this.2⟩

/-- A module's functions as far as heights ask for them. -/
structure Fine (fs : List Fn) (code : List (Int × Int)) : Prop where
  params : ∀ f ∈ fs, 0 ≤ f.params ∧ f.params ≤ 6
  one : 1 ≤ code.length
  most : code.length ≤ 120
  jump : ∀ i (hi : i < code.length), code[i].1 = 17 ∨ code[i].1 = 18 ∨ code[i].1 = 19 → 0 ≤ code[i].2 ∧ code[i].2 < code.length

theorem step_ok {fs : List Fn} {n : Nat} {x : Int × Int} {pc : Nat} {h : List Int} (hp : ∀ f ∈ fs, 0 ≤ f.params ∧ f.params ≤ 6) (hj : x.1 = 17 ∨ x.1 = 18 ∨ x.1 = 19 → 0 ≤ x.2) (H : Hts n h) :
    Hts n (stepB fs x pc h) ∧ Less h (stepB fs x pc h) := by
  unfold stepB
  split
  · exact ⟨H, Or.inl rfl⟩
  · rename_i hc
    have hu := usesB_ok hp x.1 x.2
    exact fold_lay (by omega) (by omega) _ (nextB_nonneg hj) _ H

theorem getD_code {code : List (Int × Int)} {k : Nat} (hk : k < code.length) : code.getD k (0, 0) = code[k] := by
  rw [List.getD_eq_getElem?_getD, List.getElem?_eq_getElem hk]; rfl

theorem part_ok {fs : List Fn} {code : List (Int × Int)} (F : Fine fs code) {h : List Int} (H : Hts code.length h) (k : Nat) (hk : k ≤ code.length) : Hts code.length (partB fs code k h) ∧ Less h (partB fs code k h) := by
  induction k with
  | zero => exact ⟨H, Or.inl rfl⟩
  | succ k ih =>
    have := ih (by omega)
    have h2 := step_ok (fs := fs) (x := code.getD k (0, 0)) (pc := k) F.params (by rw [getD_code (by omega)]; exact fun hx => (F.jump k (by omega) hx).1) this.1
    exact ⟨h2.1, this.2.trans h2.2⟩

theorem init_hts {n : Nat} : Hts n (initB n) := by
  unfold initB
  refine ⟨by simp, ?_, ?_⟩
  · intro i hi
    rw [List.getElem_set]
    split
    · omega
    · simp
  · intro i hi
    rw [List.getElem_set]
    split
    · omega
    · simp

theorem init_negs {n : Nat} (h : 1 ≤ n) : negs (initB n) = n - 1 := by
  unfold initB negs
  rw [List.countP_set (by simp; omega)]
  simp [List.countP_replicate]

theorem iter_hts {fs : List Fn} {code : List (Int × Int)} (F : Fine fs code) (k : Nat) : Hts code.length (iterB fs code k) := by
  induction k with
  | zero => exact init_hts
  | succ k ih => exact (part_ok F ih _ (Nat.le_refl _)).1

/-- Where each has a height, nothing changes any more. -/
theorem step_full {fs : List Fn} {n : Nat} {x : Int × Int} {pc : Nat} {h : List Int} (hp : ∀ f ∈ fs, 0 ≤ f.params ∧ f.params ≤ 6) (hj : x.1 = 17 ∨ x.1 = 18 ∨ x.1 = 19 → 0 ≤ x.2) (H : Hts n h) (h0 : negs h = 0) : stepB fs x pc h = h := by
  rcases (step_ok hp hj H).2 with h | h
  · exact h
  · omega

theorem part_full {fs : List Fn} {code : List (Int × Int)} (F : Fine fs code) {h : List Int} (H : Hts code.length h) (h0 : negs h = 0) (k : Nat) (hk : k ≤ code.length) : partB fs code k h = h := by
  rcases (part_ok F H k hk).2 with h | h
  · exact h
  · omega

/-- The rest of a round, where each has a height. -/
theorem part_rest {fs : List Fn} {code : List (Int × Int)} (F : Fine fs code) {h : List Int} (H : Hts code.length h) {k : Nat} (hk : k ≤ code.length) (h0 : negs (partB fs code k h) = 0) (j : Nat) (hj : k + j ≤ code.length) : partB fs code (k + j) h = partB fs code k h := by
  induction j with
  | zero => rfl
  | succ j ih =>
    have e := ih (by omega)
    show stepB fs (code.getD (k + j) (0, 0)) (k + j) (partB fs code (k + j) h) = _
    rw [e]
    exact step_full F.params (by rw [getD_code (by omega)]; exact fun hx => (F.jump _ (by omega) hx).1) (part_ok F H k hk).1 h0

theorem done_full {fs : List Fn} {code : List (Int × Int)} (F : Fine fs code) {j k : Nat} (hk : k ≤ code.length) (h0 : negs (partB fs code k (iterB fs code j)) = 0) : Done fs code (partB fs code k (iterB fs code j)) := by
  have H := iter_hts F j
  have e : roundB fs code (iterB fs code j) = partB fs code k (iterB fs code j) := by
    have := part_rest F H hk h0 (code.length - k) (by omega)
    rw [show k + (code.length - k) = code.length by omega] at this
    exact this
  refine ⟨⟨j + 1, e.symm⟩, ?_⟩
  exact part_full F (part_ok F H k hk).1 h0 _ (Nat.le_refl _)

theorem done_same {fs : List Fn} {code : List (Int × Int)} (F : Fine fs code) {j : Nat} (h0 : negs (iterB fs code j) ≤ negs (partB fs code code.length (iterB fs code j))) : Done fs code (partB fs code code.length (iterB fs code j)) := by
  have e : partB fs code code.length (iterB fs code j) = iterB fs code j := by
    rcases (part_ok F (iter_hts F j) code.length (Nat.le_refl _)).2 with h | h
    · exact h
    · omega
  refine ⟨⟨j + 1, rfl⟩, ?_⟩
  show roundB fs code (roundB fs code (iterB fs code j)) = roundB fs code (iterB fs code j)
  have e2 : roundB fs code (iterB fs code j) = iterB fs code j := e
  rw [e2, e2]

theorem Done.hts {fs : List Fn} {code : List (Int × Int)} (F : Fine fs code) {d : List Int} (h : Done fs code d) : Hts code.length d := by
  obtain ⟨⟨k, rfl⟩, -⟩ := h
  exact iter_hts F k

/-- The trouble at an instruction, heights being known. -/
def troubleB (fs : List Fn) (code : List (Int × Int)) (d : List Int) (pc : Nat) : Int :=
  let x := code.getD pc (0, 0)
  let left := d.getD pc (-1) - (usesB fs x.1 x.2).1 + (usesB fs x.1 x.2).2
  if d.getD pc (-1) < 0 then 0
  else if d.getD pc (-1) < (usesB fs x.1 x.2).1 ∨ 16 < left then 2
  else if (nextB x.1 x.2 pc).any (fun nx => decide ((code.length : Int) ≤ nx)) then 3
  else if (nextB x.1 x.2 pc).any (fun nx => decide (d.getD nx.toNat (-1) ≠ left)) then 4
  else 0

/-- No trouble in a function ahead of instruction 'k'. -/
def Clear (fs : List Fn) (code : List (Int × Int)) (k : Nat) : Prop := ∀ d, Done fs code d → ∀ j, j < k → troubleB fs code d j = 0

/-- What a module that is ok is told: nothing, or its first trouble. -/
def Told (fs : List Fn) (c f at' : Int) : Prop :=
  (c = 0 ∧ f = 0 ∧ at' = 0 ∧ ∀ g (hg : g < fs.length), Clear fs fs[g].code fs[g].code.length) ∨
  (∃ (g : Nat) (hg : g < fs.length) (k : Nat) (d : List Int), f = g ∧ at' = k ∧ k < fs[g].code.length ∧ Done fs fs[g].code d ∧ troubleB fs fs[g].code d k = c ∧ c ≠ 0 ∧ Clear fs fs[g].code k ∧ ∀ g' (hg' : g' < fs.length), g' < g → Clear fs fs[g'].code fs[g'].code.length)

theorem Told.one {fs : List Fn} {c f a c' f' a' : Int} (h : Told fs c f a) (h' : Told fs c' f' a') : c = c' ∧ f = f' ∧ a = a' := by
  rcases h with ⟨rfl, rfl, rfl, hA⟩ | ⟨g, hg, k, d, rfl, rfl, hk, hd, ht, hc, hB, hA⟩
  · rcases h' with ⟨rfl, rfl, rfl, -⟩ | ⟨g', hg', k', d', rfl, rfl, hk', hd', ht', hc', -, -⟩
    · exact ⟨rfl, rfl, rfl⟩
    · exact absurd (ht'.symm.trans (hA g' hg' d' hd' k' hk')) hc'
  · rcases h' with ⟨rfl, rfl, rfl, hA'⟩ | ⟨g', hg', k', d', rfl, rfl, hk', hd', ht', hc', hB', hA'⟩
    · exact absurd (ht.symm.trans (hA' g hg d hd k hk)) hc
    · obtain rfl : g = g' := by
        rcases Nat.lt_trichotomy g g' with h | h | h
        · exact absurd (ht.symm.trans (hA' g hg h d hd k hk)) hc
        · exact h
        · exact absurd (ht'.symm.trans (hA g' hg' h d' hd' k' hk')) hc'
      obtain rfl : k = k' := by
        rcases Nat.lt_trichotomy k k' with h | h | h
        · exact absurd (ht.symm.trans (hB' d hd k h)) hc
        · exact h
        · exact absurd (ht'.symm.trans (hB d' hd' k' h)) hc'
      obtain rfl := hd.one hd'
      exact ⟨ht.symm.trans ht', rfl, rfl⟩
end Go.Proofs.YtcfbahaokmhbkaaGreat
