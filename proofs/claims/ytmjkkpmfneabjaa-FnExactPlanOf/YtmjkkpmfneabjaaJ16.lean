/-
  PlanOf of both sides.
-/
import Derived.Test.YtmjkkpmfneabjaaJ14
import Derived.Test.YtmjkkpmfneabjaaJ15
namespace Go.Proofs.Ytmjkkpmfneabjaa
open Go.RowKit

/-- A plan is drawn up. -/
def PlanOk3 (ts : List ByteArray) (fs : List Fn) (ss : List Si) (lay : Int) : Prop := Good ts fs ∧ ProfP fs ss ∧ (0 ≤ lay ∧ lay ≤ 3)
/-- What the plan is that is drawn up. -/
def PlanR (ts : List ByteArray) (fs : List Fn) (ss bs : List Si) (lay : Int) (bare : Bool) (L : List Si) (lay' : Int) (bare' : Bool) : Prop :=
  (PlanOk3 ts fs ss lay ∧ L = planD fs bs ss ∧ lay' = lay ∧ bare' = bare) ∨ (¬ PlanOk3 ts fs ss lay ∧ L = [] ∧ lay' = 0 ∧ bare' = false)
theorem PlanR.one {ts : List ByteArray} {fs : List Fn} {ss bs : List Si} {lay : Int} {bare : Bool} {L L2 : List Si} {l l2 : Int} {b b2 : Bool} (h : PlanR ts fs ss bs lay bare L l b) (h2 : PlanR ts fs ss bs lay bare L2 l2 b2) : L2 = L ∧ l2 = l ∧ b2 = b := by
  rcases h with ⟨h0, rfl, rfl, rfl⟩ | ⟨h0, rfl, rfl, rfl⟩ <;> rcases h2 with ⟨g0, rfl, rfl, rfl⟩ | ⟨g0, rfl, rfl, rfl⟩
  · exact ⟨rfl, rfl, rfl⟩
  · exact absurd h0 g0
  · exact absurd g0 h0
  · exact ⟨rfl, rfl, rfl⟩
theorem PlanR.len {ts : List ByteArray} {fs : List Fn} {ss bs : List Si} {lay : Int} {bare : Bool} {L : List Si} {l : Int} {b : Bool} (h : PlanR ts fs ss bs lay bare L l b) : L.length ≤ 150 := by
  rcases h with ⟨h0, rfl, rfl, rfl⟩ | ⟨h0, rfl, rfl, rfl⟩
  · exact Nat.le_trans (planD_len fs bs ss) h0.2.1.1
  · simp
/-- What PlanOf answers. -/
def PlanPost (ts : List ByteArray) (fs : List Fn) (ss bs : List Si) (lay : Int) (bare : Bool) (w : World) (e : Ending) (w' : World) : Prop :=
  ∃ xa xc L lay' bare', PlanR ts fs ss bs lay bare L lay' bare' ∧ e = .returned (.agg #[.slice xa L.length xc, .int .i64 lay', .bool bare']) ∧ w'.ownsRow w.heap.size 44 4 (.slice xa L.length xc) L.length (flat4 L) ∧ Below w.heap.size w w'

set_option maxRecDepth 100000 in
set_option maxHeartbeats 2000000 in
theorem iPlanOf_any (a1 a2 : Option Addr) (c1 c2 : Nat) (ts : List ByteArray) (fs : List Fn) (a3 a4 : Option Addr) (c3 c4 : Nat) (ss bs : List Si) (lay : Int) (bare : Bool) (w : World) (hs : Small ts fs) (hbn : bs.length ≤ 1048576) (hst : StrsAt w 0 a1 ts) (hfn : FnsAt w 0 a2 fs) (hss : SitesAt w 0 a3 ss) (hbs : SitesAt w 0 a4 bs) :
    Calls Try.prog 22 #[.agg #[.slice a1 ts.length c1, .slice a2 fs.length c2], .slice a3 ss.length c3, .slice a4 bs.length c4, .int .i64 lay, .bool bare] w (PlanPost ts fs ss bs lay bare w) := by
  obtain ⟨w0, hw0⟩ : ∃ w0, w0 = (w.alloc (.cells #[.slice a1 ts.length c1, .slice a2 fs.length c2] 34)).alloc (.cells #[.slice none 0 0, .int .i64 0, .bool false] 38) := ⟨_, rfl⟩
  have hB0 : Below w.heap.size w w0 := by rw [hw0]; exact ((Below.refl _ _).alloc (Nat.le_refl _) _).alloc (by simp) _
  have hM0 : w0.heap[w.heap.size]? = some (.cells #[.slice a1 ts.length c1, .slice a2 fs.length c2] 34 (0, 0)) := by rw [hw0]; exact block_old (block_new _ _ _) _
  have hZ0 : w0.heap[w.heap.size + 1]? = some (.cells #[.slice none 0 0, .int .i64 0, .bool false] 38 (0, 0)) := by rw [hw0]; simpa using block_new (w.alloc (.cells #[.slice a1 ts.length c1, .slice a2 fs.length c2] 34)) #[.slice none 0 0, .int .i64 0, .bool false] 38
  have HNO : Hid (∀ w', Below w.heap.size w w' → ¬ PlanOk3 ts fs ss lay → PlanPost ts fs ss bs lay bare w (.returned (.agg #[.slice none 0 0, .int .i64 0, .bool false])) w') := fun w' hb hno => ⟨none, 0, [], 0, false, .inr ⟨hno, rfl, rfl, rfl⟩, rfl, by simpa [flat4] using World.ownsRow_nil _ _ _ _, hb⟩
  have HYES : Hid (∀ w' xa xc, Below w.heap.size w w' → PlanOk3 ts fs ss lay → w'.ownsRow w.heap.size 44 4 (.slice xa (planD fs bs ss).length xc) (planD fs bs ss).length (flat4 (planD fs bs ss)) → PlanPost ts fs ss bs lay bare w (.returned (.agg #[.slice xa (planD fs bs ss).length xc, .int .i64 lay, .bool bare])) w') := fun w' xa xc hb hok ho => ⟨xa, xc, _, _, _, .inl ⟨hok, rfl, rfl, rfl⟩, rfl, ho, hb⟩
  by_cases hlay : 0 ≤ lay ∧ lay ≤ 3
  case neg =>
    have HL : Hid (decide (0 ≤ lay ∧ lay ≤ 3) = false) := decide_eq_false hlay
    have HN := hid (fun h : PlanOk3 ts fs ss lay => hlay h.2.2)
    have z1 := block_cell hZ0
    have z2 := block_free hZ0
    clear hlay
    go_enter Try.func22, Try.ntmps22
    go_wp2_with fail
    rw [← hw0]
    clear hw0
    refine (layOk_any _ _).mono ?_
    rintro e w' ⟨he, hw'⟩
    rw [HL.out] at he
    subst he
    subst hw'
    go_wp2
    refine bodyPost_ret (v := .agg #[.slice none 0 0, .int .i64 0, .bool false]) (by simp [results, Try.results22, go_sem, z1]) rfl (HNO.out _ ?_ HN.out)
    repeat (first | refine Below.setCell ?_ (by first | omega | (simp; omega) | simp) _ | with_reducible exact hB0)
  have HL : Hid (decide (0 ≤ lay ∧ lay ≤ 3) = true) := decide_eq_true hlay
  have HLL := hid hlay
  clear hlay
  have m0 := block_cell hM0
  go_enter Try.func22, Try.ntmps22
  go_wp2_with fail
  rw [← hw0]
  clear hw0
  refine (layOk_any _ _).mono ?_
  rintro e w' ⟨he, hw'⟩
  rw [HL.out] at he
  subst he
  subst hw'
  go_wp2_with fail
  refine (iProfileOk_any _ _ _ _ ts fs _ _ ss _ hs (hst.mono hB0) (hfn.mono hB0) (hss.mono hB0)).mono ?_
  rintro e w1 ⟨he, hb1⟩
  have hM1 := block_kept hM0 hb1
  have hZ1 := block_kept hZ0 hb1
  have hB1 := hB0.trans (hb1.mono hB0.size)
  clear hM0 hZ0 hB0 hb1 m0
  by_cases hP : Good ts fs ∧ ProfP fs ss
  case neg =>
    rw [pB_no hP] at he
    subst he
    have HN := hid (fun h : PlanOk3 ts fs ss lay => hP ⟨h.1, h.2.1⟩)
    have z1 := block_cell hZ1
    have z2 := block_free hZ1
    clear hP
    go_wp2
    refine bodyPost_ret (v := .agg #[.slice none 0 0, .int .i64 0, .bool false]) (by simp [results, Try.results22, go_sem, z1]) rfl (HNO.out _ ?_ HN.out)
    repeat (first | refine Below.setCell ?_ (by first | omega | (simp; omega) | simp) _ | with_reducible exact hB1)
  rw [pB_yes hP] at he
  subst he
  have HOK : Hid (PlanOk3 ts fs ss lay) := ⟨hP.1, hP.2, HLL.out⟩
  have hA : AscI ss := ((prof_iff fs ss).1 hP.2.2).2
  have h150 : ss.length ≤ 150 := hP.2.1
  have m1 := block_cell hM1
  clear hP
  go_wp2_with fail
  refine (guessesOf_any a1 a2 _ _ _ fs a3 a4 _ _ ss bs w1 h150 hbn hs.code (hfn.mono hB1) (hss.mono hB1) (hbs.mono hB1) hA).mono ?_
  rintro e w2 ⟨xa, xc, rfl, hown, hb2⟩
  have hZ2 := block_kept hZ1 hb2
  have HO := hid hown
  have HB2 := hid (hB1.trans (hb2.mono hB1.size))
  have HLE : Hid (w.heap.size + 1 < w1.heap.size + 2 ∧ w.heap.size ≤ w1.heap.size + 2) := by have := lt_size hZ1; exact ⟨by omega, by omega⟩
  have z1 := block_cell hZ2
  have z2 := block_free hZ2
  obtain ⟨n, hnl⟩ : ∃ n, n = (planD fs bs ss).length := ⟨_, rfl⟩
  rw [← hnl]
  have HNL := hid hnl
  clear hM1 hZ1 m1 hb2 hnl hown hA h150 hB1
  go_wp2
  refine bodyPost_ret (v := .agg #[.slice xa n xc, .int .i64 lay, .bool bare]) (by simp [results, Try.results22, go_sem, z1]) rfl ?_
  rw [HNL.out]
  refine HYES.out _ xa xc ?_ HOK.out ?_
  · repeat (first | refine Below.setCell ?_ (by first | omega | (simp; omega) | simp) _ | with_reducible exact HB2.out)
  · have h1 := HO.out
    refine ⟨h1.1, ?_⟩
    rcases h1.2 with ⟨e, hn⟩ | ⟨b', cap, cur, e, hb', hh, r⟩
    · exact .inl ⟨e, hn⟩
    · have hl := HLE.out
      refine .inr ⟨b', cap, cur, e, by omega, ?_, r⟩
      rw [Below.heap_setCell _ _ _ _ (by simp; omega), Below.heap_setCell _ _ _ _ (by simp; omega), Below.heap_setCell _ _ _ _ (by simp; omega)]
      exact hh

set_option maxRecDepth 100000 in
set_option maxHeartbeats 2000000 in
theorem sPlanOf_any (a1 a2 : Option Addr) (c1 c2 : Nat) (ts : List ByteArray) (fs : List Fn) (a3 a4 : Option Addr) (c3 c4 : Nat) (ss bs : List Si) (lay : Int) (bare : Bool) (w : World) (hs : Small ts fs) (hn : ss.length ≤ 1048576) (hbn : bs.length ≤ 1048576) (hst : StrsAt w 0 a1 ts) (hfn : FnsAt w 0 a2 fs) (hss : SitesAt w 0 a3 ss) (hbs : SitesAt w 0 a4 bs) :
    Calls Try.prog 19 #[.agg #[.slice a1 ts.length c1, .slice a2 fs.length c2], .slice a3 ss.length c3, .slice a4 bs.length c4, .int .i64 lay, .bool bare] w (PlanPost ts fs ss bs lay bare w) := by
  obtain ⟨w0, hw0⟩ : ∃ w0, w0 = (w.alloc (.cells #[.slice a1 ts.length c1, .slice a2 fs.length c2] 34)).alloc (.cells #[.slice none 0 0, .int .i64 0, .bool false] 38) := ⟨_, rfl⟩
  have hB0 : Below w.heap.size w w0 := by rw [hw0]; exact ((Below.refl _ _).alloc (Nat.le_refl _) _).alloc (by simp) _
  have hM0 : w0.heap[w.heap.size]? = some (.cells #[.slice a1 ts.length c1, .slice a2 fs.length c2] 34 (0, 0)) := by rw [hw0]; exact block_old (block_new _ _ _) _
  have hZ0 : w0.heap[w.heap.size + 1]? = some (.cells #[.slice none 0 0, .int .i64 0, .bool false] 38 (0, 0)) := by rw [hw0]; simpa using block_new (w.alloc (.cells #[.slice a1 ts.length c1, .slice a2 fs.length c2] 34)) #[.slice none 0 0, .int .i64 0, .bool false] 38
  have HNO : Hid (∀ w', Below w.heap.size w w' → ¬ PlanOk3 ts fs ss lay → PlanPost ts fs ss bs lay bare w (.returned (.agg #[.slice none 0 0, .int .i64 0, .bool false])) w') := fun w' hb hno => ⟨none, 0, [], 0, false, .inr ⟨hno, rfl, rfl, rfl⟩, rfl, by simpa [flat4] using World.ownsRow_nil _ _ _ _, hb⟩
  have HYES : Hid (∀ w' xa xc, Below w.heap.size w w' → PlanOk3 ts fs ss lay → w'.ownsRow w.heap.size 44 4 (.slice xa (planD fs bs ss).length xc) (planD fs bs ss).length (flat4 (planD fs bs ss)) → PlanPost ts fs ss bs lay bare w (.returned (.agg #[.slice xa (planD fs bs ss).length xc, .int .i64 lay, .bool bare])) w') := fun w' xa xc hb hok ho => ⟨xa, xc, _, _, _, .inl ⟨hok, rfl, rfl, rfl⟩, rfl, ho, hb⟩
  have m0 := block_cell hM0
  go_enter Try.func19, Try.ntmps19
  go_wp2_with fail
  rw [← hw0]
  clear hw0
  refine (sProfileOk_any _ _ _ _ ts fs _ _ ss _ hs hn (hst.mono hB0) (hfn.mono hB0) (hss.mono hB0)).mono ?_
  rintro e w1 ⟨he, hb1⟩
  have hM1 := block_kept hM0 hb1
  have hZ1 := block_kept hZ0 hb1
  have hB1 := hB0.trans (hb1.mono hB0.size)
  clear hM0 hZ0 hB0 hb1 m0
  by_cases hP : Good ts fs ∧ ProfP fs ss
  case neg =>
    rw [pB_no hP] at he
    subst he
    have HN := hid (fun h : PlanOk3 ts fs ss lay => hP ⟨h.1, h.2.1⟩)
    have z1 := block_cell hZ1
    have z2 := block_free hZ1
    clear hP
    go_wp2
    refine bodyPost_ret (v := .agg #[.slice none 0 0, .int .i64 0, .bool false]) (by simp [results, Try.results19, go_sem, z1]) rfl (HNO.out _ ?_ HN.out)
    repeat (first | refine Below.setCell ?_ (by first | omega | (simp; omega) | simp) _ | with_reducible exact hB1)
  rw [pB_yes hP] at he
  subst he
  by_cases hlay : 0 ≤ lay ∧ lay ≤ 3
  case neg =>
    have HL := hid hlay
    have HN := hid (fun h : PlanOk3 ts fs ss lay => hlay h.2.2)
    have z1 := block_cell hZ1
    have z2 := block_free hZ1
    clear hlay hP
    go_wp2_with (go_at_call 42; refine (between_no HL.out _).mono ?_; rintro e w' ⟨rfl, rfl⟩)
    refine bodyPost_ret (v := .agg #[.slice none 0 0, .int .i64 0, .bool false]) (by simp [results, Try.results19, go_sem, z1]) rfl (HNO.out _ ?_ HN.out)
    repeat (first | refine Below.setCell ?_ (by first | omega | (simp; omega) | simp) _ | with_reducible exact hB1)
  have HL := hid hlay
  have HOK : Hid (PlanOk3 ts fs ss lay) := ⟨hP.1, hP.2, hlay⟩
  have hSP : ∀ i (h : i < ss.length), SiteP fs ss[i] := ((prof_iff fs ss).1 hP.2.2).1
  have h150 : ss.length ≤ 150 := hP.2.1
  have m1 := block_cell hM1
  clear hP hlay
  have HSPP := hid hSP
  clear hSP
  go_wp2_with (go_at_call 42; refine (between_yes HL.out _).mono ?_; rintro e w1 ⟨rfl, rfl⟩)
  refine (l09Plan_any a1 a2 _ _ _ fs a3 a4 _ _ ss bs lay bare w1 h150 hbn hs.code hs.funcs (hfn.mono hB1) (hss.mono hB1) (hbs.mono hB1) HSPP.out).mono ?_
  rintro e w2 ⟨xa, xc, rfl, hown, hb2⟩
  have hZ2 := block_kept hZ1 hb2
  have HO := hid hown
  have HB2 := hid (hB1.trans (hb2.mono hB1.size))
  have HLE : Hid (w.heap.size + 1 < w1.heap.size + 3 ∧ w.heap.size ≤ w1.heap.size + 3) := by have := lt_size hZ1; exact ⟨by omega, by omega⟩
  have z1 := block_cell hZ2
  have z2 := block_free hZ2
  obtain ⟨n, hnl⟩ : ∃ n, n = (planD fs bs ss).length := ⟨_, rfl⟩
  rw [← hnl]
  have HNL := hid hnl
  clear hM1 hZ1 m1 hb2 hnl hown h150 hB1
  go_wp2
  refine bodyPost_ret (v := .agg #[.slice xa n xc, .int .i64 lay, .bool bare]) (by simp [results, Try.results19, go_sem, z1]) rfl ?_
  rw [HNL.out]
  refine HYES.out _ xa xc ?_ HOK.out ?_
  · repeat (first | refine Below.setCell ?_ (by first | omega | (simp; omega) | simp) _ | with_reducible exact HB2.out)
  · have h1 := HO.out
    refine ⟨h1.1, ?_⟩
    rcases h1.2 with ⟨e, hn⟩ | ⟨b', cap, cur, e, hb', hh, r⟩
    · exact .inl ⟨e, hn⟩
    · have hl := HLE.out
      refine .inr ⟨b', cap, cur, e, by omega, ?_, r⟩
      rw [Below.heap_setCell _ _ _ _ (by simp; omega), Below.heap_setCell _ _ _ _ (by simp; omega), Below.heap_setCell _ _ _ _ (by simp; omega)]
      exact hh

end Go.Proofs.Ytmjkkpmfneabjaa
