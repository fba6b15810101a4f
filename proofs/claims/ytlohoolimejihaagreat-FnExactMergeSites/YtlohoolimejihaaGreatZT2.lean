/-
  maps.Keys(p)'s iterator: whatever a round does that keeps its word.
-/
import Derived.Test.YtlohoolimejihaaGreatMV7
import Derived.RangeFuncStops
import Derived.RangeFuncKeeps
namespace Go.Proofs.YtlohoolimejihaaGreat
open Go.RowKit Go.Sort Go.ChangeMaps

theorem Way.kept {w w' : World} {b r : Nat} {es : Array MapEntry} {c : Nat} {is : List Nat} (h : Way w b r es c is) (hb : w'.heap[b]? = w.heap[b]?) (hr : w'.heap[r]? = w.heap[r]?) : Way w' b r es c is := by
  obtain ⟨seen, c0, h1, h2, h3⟩ := h.iter
  exact ⟨hb.trans h.map, ⟨seen, c0, hr.trans h1, h2, h3⟩, h.nodup, h.lt⟩
theorem Way.alloc {w : World} {b r : Nat} {es : Array MapEntry} {c : Nat} {is : List Nat} (h : Way w b r es c is) (o : Obj) : Way (w.alloc o) b r es c is := by
  obtain ⟨seen, c0, h1, h2, h3⟩ := h.iter
  exact h.kept (Below.heap_alloc _ _ _ (lt_sizez h.map)) (Below.heap_alloc _ _ _ (lt_sizez h1))
theorem Way.of_walks {w w' : World} {b r : Nat} {es : Array MapEntry} {c : Nat} {is : List Nat} (h : Way w b r es c is) (hk : KeepsWalks w w') : Way w' b r es c is := by
  obtain ⟨seen, c0, h1, h2, h3⟩ := h.iter
  exact h.kept ((hk.same b _ h.map rfl).trans h.map.symm) ((hk.same r _ h1 rfl).trans h1.symm)
theorem rangeLeft_eq {w : World} {b r : Nat} {es : Array MapEntry} {c c0 : Nat} {seen : Array Nat} (hb : w.heap[b]? = some (.map es c)) (hr : w.heap[r]? = some (.mapIter (some b) c seen c0)) : w.rangeLeft b r = (leftOf es seen).size := by
  simp only [World.rangeLeft, hb, hr]

set_option maxRecDepth 100000 in
set_option maxHeartbeats 2000000 in
theorem keys1_in (n : Nat) (hn : 1 ≤ n) (l Bm b : Nat) (ws : List Wt) (J Jx : List (Int × Int) → World → Prop)
    (hY : ∀ pre x W, J pre W → pre.length < ws.length → YieldAt Fence.wide (n - 1) Tryz.prog l #[encP x] W fun e W' => (e = .returned (.bool true) ∧ J (pre ++ [x]) W' ∧ KeepsWalks W W') ∨ (e = .returned (.bool false) ∧ Jx (pre ++ [x]) W'))
    (W : World) (hJ : AbidesFrom W.heap.size J) (hm : W.cell? ⟨Bm, 0, none⟩ = some (.map (some b))) (hown : MapW W b ws) (h0 : J [] W) :
    CallsIn Fence.wide n Tryz.prog 113 #[.func (.yield l) #[] #[], .pointer (some ⟨Bm, 0, none⟩)] W fun e W' => (∃ v, e = .returned v) ∧ ((∃ ss : List (Int × Int), ss.Perm (ws.map fun W => (W.f, W.p)) ∧ J ss W') ∨ (∃ pre : List (Int × Int), True ∧ Jx pre W')) := by
  obtain ⟨es, c, hb, hents, hst⟩ := hown
  obtain ⟨hlen, hat⟩ := ents_at hents
  have hsz : es.size = ws.length := by simpa using hlen
  have hbl := lt_sizez hb
  have hnd : (es.toList.map (·.born)).Nodup := by
    unfold List.Nodup
    rw [List.pairwise_map]
    exact hst.2
  obtain ⟨W0, hW0⟩ : ∃ W0, W0 = W.alloc (.mapIter (some b) c #[] c) := ⟨_, rfl⟩
  have hb0 : W0.heap[b]? = some (.map es c) := by rw [hW0, Below.heap_alloc _ _ _ hbl]; exact hb
  have hr0 : W0.heap[W.heap.size]? = some (.mapIter (some b) c #[] c) := by rw [hW0]; exact World.alloc_heap_new W _
  have HWAY : Hid (Way W0 b W.heap.size es c []) := ⟨hb0, ⟨#[], c, hr0, Nat.le_refl _, rfl⟩, List.nodup_nil, fun i hi => by cases hi⟩
  have HL0 : Hid (([] : List Nat).length + W0.rangeLeft b W.heap.size ≤ es.size) := by
    show _ ≤ _
    rw [rangeLeft_eq hb0 hr0]
    simpa [leftOf] using Array.size_filter_le (p := fun e => !(#[] : Array Nat).contains e.born) (xs := es)
  have HJ0 : Hid (J (([] : List Nat).map (plAt ws)) W0) := by
    rw [hW0]
    exact hJ [] W _ none h0 (World.grownBy_alloc W _ none) (fun r e => by cases e)
  refine callsIn_of_wp Tryz.func113 rfl trivial ?_ rfl
  simp only [Tryz.ntmps113, List.size_toArray, List.length_cons, List.length_nil, Nat.reduceAdd, Nat.reduceSub, Array.replicate_succ, Array.replicate_zero, List.push_toArray, List.append_toArray, List.nil_append, List.cons_append]
  gi_wp2_with (first
    | (gi_at_range; refine wpListIn_rangeM rfl _ 75 rfl 134 131 Tryz.underlying75 b es c rfl hb ?_)
    | gi_in)
  go_frame
  rw [← hW0]
  clear hW0 hb0 hr0
  gi_loopw [3] (fun _ wr => ∃ is : List Nat, Way wr b W.heap.size es c is ∧ is.length + wr.rangeLeft b W.heap.size ≤ es.size ∧ J (is.map (plAt ws)) wr) (fun _ wr => wr.rangeLeft b W.heap.size)
  case atStart => exact ⟨[], HWAY.out, HL0.out, HJ0.out⟩
  case round =>
    obtain ⟨is, hW, hL, hJs⟩ := hrel
    clear HWAY HL0 HJ0
    obtain ⟨seen, c0, hr, hsc, hseen⟩ := hW.iter
    rw [rangeLeft_eq hW.map hr] at hL
    have hmb := hW.map
    gi_wp2_with (first
      | (gi_at_next; refine wpListIn_nextM rfl _ rfl W.heap.size b c c0 seen es rfl hr hW.map hst.1 hsc ?_ ?_)
      | gi_in)
    · intro hl0
      have hl0 : (leftOf es seen).size = 0 := by rw [hl0.out]; rfl
      have hp : (is.map (plAt ws)).Perm (ws.map fun W => (W.f, W.p)) := by
        rw [← plAt_all, ← hsz]
        exact (hW.all hst hseen hl0).map _
      gi_wp2
      go_end0
      exact ⟨⟨_, rfl⟩, .inl ⟨_, hp, hJs⟩⟩
    · intro e w1 heal
      obtain ⟨he0, hal⟩ := heal.out
      have he : e ∈ (leftOf es seen).toList := Array.mem_toList_iff.2 he0
      clear heal he0
      obtain ⟨i, hi, hie, hni⟩ := left_index hseen he
      have hiw : i < ws.length := by omega
      have hem := (mem_left he).1
      have hkey : e.key = .agg #[.int .i64 ws[i].f, .int .i64 ws[i].p] := by
        have := (hat i (by simpa using hi) hiw).1
        simp at this
        rw [← hie, this]
        rfl
      have hpl : plAt ws i = (ws[i].f, ws[i].p) := by unfold plAt; rw [List.getElem?_eq_getElem hiw]; rfl
      have hne : b ≠ W.heap.size := by omega
      have hb1 : w1.heap[b]? = some (.map es c) := by rcases hal with rfl | rfl <;> exact hW.map
      have hr1 : w1.heap[W.heap.size]? = some (.mapIter (some b) c seen c0) := by rcases hal with rfl | rfl <;> exact hr
      obtain ⟨w2, hw2⟩ : ∃ w2, w2 = setBlock w1 W.heap.size (.mapIter (some b) c (seen.push e.born) c) := ⟨_, rfl⟩
      have hb2 : w2.heap[b]? = some (.map es c) := by rw [hw2]; exact ((setBlock_grown w1 _ _).block b (lt_sizez hb1) (fun q => hne (Option.some.inj q))).trans hb1
      have hr2 : w2.heap[W.heap.size]? = some (.mapIter (some b) c (seen.push e.born) c) := by rw [hw2]; simp [setBlock, lt_sizez hr1]
      have hW2 : Way w2 b W.heap.size es c (is ++ [i]) := by
        refine ⟨hb2, ⟨_, c, hr2, Nat.le_refl _, ?_⟩, ?_, ?_⟩
        · rw [Array.toList_push, List.map_append, hseen]
          simp [Array.getElem?_eq_getElem hi, hie]
        · rw [List.nodup_append]
          exact ⟨hW.nodup, by simp, fun x hx y hy e => hni (by rw [← List.mem_singleton.1 hy, ← e]; exact hx)⟩
        · intro j hj
          rcases List.mem_append.1 hj with hj | hj
          · exact hW.lt j hj
          · rw [List.mem_singleton.1 hj]; exact hi
      have hgr : wr.grownBy w2 (some W.heap.size) := by
        rw [hw2]
        rcases hal with rfl | rfl
        · exact setBlock_grown _ _ _
        · have hd : wr.grownBy wr.drew (some W.heap.size) := ⟨rfl, rfl, rfl, Nat.le_refl _, fun _ _ _ => rfl⟩
          have hs := setBlock_grown wr.drew W.heap.size (.mapIter (some b) c (seen.push e.born) c)
          exact ⟨hs.os.trans hd.os, hs.tape.trans hd.tape, hs.output.trans hd.output, Nat.le_trans hd.size hs.size, fun k hk hne => (hs.block k hk hne).trans (hd.block k hk hne)⟩
      have hJ2 : J (is.map (plAt ws)) w2 := hJ _ wr w2 _ hJs hgr (fun r q => by cases q; exact ⟨Nat.le_refl _, _, hr, rfl⟩)
      have hen := run_entry_at (P := Tryz.prog) w2 W.heap.size b c seen es c e hr2 hb2 hem hnd
      have hJ3 : J (is.map (plAt ws)) (w2.alloc (.cells #[.int .i64 ws[i].f, .int .i64 ws[i].p] 134)) := hJ _ w2 _ none hJ2 (World.grownBy_alloc w2 _ none) (fun r q => by cases q)
      have hsh := left_shrinks es seen e he
      obtain ⟨fn, tmps, assign, body, hy, hR⟩ := hY (is.map (plAt ws)) (ws[i].f, ws[i].p) _ hJ3 (by simp; omega)
      unfold encP at hy
      have HW3 := hidz (hW2.alloc (.cells #[.int .i64 ws[i].f, .int .i64 ws[i].p] 134))
      have HL3 : Hid ((is ++ [i]).length + (leftOf es (seen.push e.born)).size ≤ es.size) := by show _ ≤ _; simp; omega
      have HM := hidz hsh
      have HR2 := hidz hr2
      rw [← hw2, hkey]
      rw [hkey] at hen
      clear hw2 hgr hal hb1 hr1 hJs hJ2 hb2 hr2 hW2
      gi_wp2
      refine hR.mono ?_
      rintro e' W3 (⟨rfl, hJ4, hk3⟩ | ⟨rfl, hJx⟩)
      · have HW4 := hidz (HW3.out.of_walks hk3)
        have hr4 : W3.heap[W.heap.size]? = some (.mapIter (some b) c (seen.push e.born) c) := hk3.same _ _ ((Below.heap_alloc _ _ _ (lt_sizez HR2.out)).trans HR2.out) rfl
        have HQ : Hid (W3.rangeLeft b W.heap.size = (leftOf es (seen.push e.born)).size) := rangeLeft_eq HW4.out.map hr4
        gi_wp2
        go_roundw
        case rel => exact ⟨is ++ [i], HW4.out, by rw [HQ.out]; exact HL3.out, by rw [List.map_append, List.map_singleton, hpl]; exact hJ4⟩
        case measure => rw [HQ.out, rangeLeft_eq hmb hr]; exact HM.out
      · gi_wp2
        refine bodyPost_ret (results_none rfl _ _ _) rfl ?_
        exact ⟨⟨_, rfl⟩, .inr ⟨_, trivial, hJx⟩⟩
/-- maps.Keys(p) hands back an iterator over the places. -/
theorem keys_stops (n : Nat) (hn : 1 ≤ n) (Bm b : Nat) (ws : List Wt) (w : World) (hBm : Bm < w.heap.size) (hm : w.cell? ⟨Bm, 0, none⟩ = some (.map (some b))) (hown : MapW w b ws) :
    SeqStopsK Fence.wide n Tryz.prog 113 #[.pointer (some ⟨Bm, 0, none⟩)] (fun x : Int × Int => #[encP x]) KeepsWalks (fun ss => ss.Perm (ws.map fun W => (W.f, W.p))) (fun _ => True) ws.length w := fun l J Jx W hW hJ _ hY h0 =>
  keys1_in n hn l Bm b ws J Jx hY W hJ ((hW.cell (p := ⟨Bm, 0, none⟩) hBm).trans hm) (hown.mono hW) h0
end Go.Proofs.YtlohoolimejihaaGreat
