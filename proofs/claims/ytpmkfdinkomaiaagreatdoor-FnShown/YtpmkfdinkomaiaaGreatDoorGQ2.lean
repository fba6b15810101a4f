/-
  Two modules that are the same, held against each other: laws.sameModule.
  When a text, an instruction, a function and a module are ok, as functions on plain data, and what is known of them.
  More that is known of the functions of the text Plain.
-/
import Derived.Test.YtpmkfdinkomaiaaGreatDoorGQ1
import Derived.Test.YtpmkfdinkomaiaaGreatDoorMem3
import Derived.Deep.CutRange
namespace Go.Proofs.YtpmkfdinkomaiaaGreatDoor
open Go.RowKit

set_option maxRecDepth 100000 in
set_option maxHeartbeats 8000000 in
theorem sameModule_any (a1 a2 b1 b2 : Option Addr) (ts : List ByteArray) (fs : List Fn) (c1 c2 d1 d2 : Nat) (w : World) (hs : Small ts fs) (hm : StrsAt w 0 a1 ts) (hm2 : StrsAt w 0 b1 ts) (hf : FnsAt w 0 a2 fs) (hf2 : FnsAt w 0 b2 fs) :
    Calls Tryz.prog 10 #[.agg #[.slice a1 ts.length c1, .slice a2 fs.length c2], .agg #[.slice b1 ts.length d1, .slice b2 fs.length d2]] w fun e w' => e = .returned (.bool true) ∧ Below w.heap.size w w' := by
  obtain ⟨wA, hwA⟩ : ∃ wA, wA = (w.alloc (.cells #[.slice a1 ts.length c1, .slice a2 fs.length c2] 27)).alloc (.cells #[.slice b1 ts.length d1, .slice b2 fs.length d2] 27) := ⟨_, rfl⟩
  have hbA : Below w.heap.size w wA := by rw [hwA]; exact ((Below.refl _ _).alloc (Nat.le_refl _) _).alloc (by simp) _
  have hA : wA.heap[w.heap.size]? = some (.cells #[.slice a1 ts.length c1, .slice a2 fs.length c2] 27 (0, 0)) := by rw [hwA]; exact block_old (block_new _ _ _) _
  have hB : wA.heap[w.heap.size + 1]? = some (.cells #[.slice b1 ts.length d1, .slice b2 fs.length d2] 27 (0, 0)) := by
    have := block_new (w.alloc (.cells #[.slice a1 ts.length c1, .slice a2 fs.length c2] 27)) #[.slice b1 ts.length d1, .slice b2 fs.length d2] 27
    rw [World.size_alloc] at this
    rw [hwA]
    exact this
  have hsf := hs.funcs
  have hst := hs.texts
  go_enter Tryz.func10, Tryz.ntmps10
  go_wp2_with fail
  rw [← hwA]
  clear hwA
  refine (sameTexts_any a1 b1 ts c1 d1 wA hst (hm.mono hbA) (hm2.mono hbA)).mono ?_
  rintro e w1 ⟨rfl, hb⟩
  have hA1 := block_kept hA hb
  have hB1 := block_kept hB hb
  have x1 := block_cell hA1
  have x2 := block_cell hB1
  have hb1 : Below w.heap.size w w1 := hbA.trans (hb.mono hbA.size)
  have hF1 := hf.mono hb1
  have hF2 := hf2.mono hb1
  clear hA hB hb hbA hm hm2 hf hf2
  go_wp2
  clear x1 x2
  go_loopw [5] (fun i wr => ∃ (k : Nat), k ≤ fs.length ∧ i = .int .i64 k ∧ Below w1.heap.size w1 wr) (fun i _ => fs.length - (intOf i).toNat)
  case atStart => exact ⟨0, by omega, rfl, Below.refl _ _⟩
  case round =>
    obtain ⟨k, hk, rfl, hbr⟩ := hrel
    have x1 := block_cell (block_kept hA1 hbr)
    have x2 := block_cell (block_kept hB1 hbr)
    by_cases hlt : k < fs.length
    · obtain ⟨b, off, ca, cc, rfl, -, p1, p2, p3, hc⟩ := hF1 k hlt
      obtain ⟨b', off', ca', cc', rfl, -, q1, q2, q3, hc'⟩ := hF2 k hlt
      have p1' := cell_later hbr p1
      have p2' := cell_later hbr p2
      have p3' := cell_later hbr p3
      have q1' := cell_later hbr q1
      have q2' := cell_later hbr q2
      have q3' := cell_later hbr q3
      have hcl := hs.code _ (List.getElem_mem hlt)
      obtain ⟨wX, hwX⟩ : ∃ wX, wX = wr.alloc (.cells #[.int .i64 fs[k].params, .int .i64 fs[k].locals, .slice ca fs[k].code.length cc] 48) := ⟨_, rfl⟩
      have hbX : Below wr.heap.size wr wX := by rw [hwX]; exact (Below.refl _ _).alloc (Nat.le_refl _) _
      have hX : wX.heap[wr.heap.size]? = some (.cells #[.int .i64 fs[k].params, .int .i64 fs[k].locals, .slice ca fs[k].code.length cc] 48 (0, 0)) := by rw [hwX]; exact block_new _ _ _
      obtain ⟨bx, hbx⟩ : ∃ bx, bx = wr.heap.size := ⟨_, rfl⟩
      have y2 := block_cell (block_kept (block_kept hB1 hbr) hbX)
      have q1x := cell_later hbX q1'
      have q2x := cell_later hbX q2'
      have q3x := cell_later hbX q3'
      clear p1 p2 p3 q1 q2 q3
      go_upto_region 7 with fail
      rw [← hwX, ← hbx]
      rw [← hbx] at hX
      clear hwX p1' p2' p3' q1' q2' q3' x1 x2
      obtain ⟨wY, hwY⟩ : ∃ wY, wY = wX.alloc (.cells #[.int .i64 fs[k].params, .int .i64 fs[k].locals, .slice ca' fs[k].code.length cc'] 48) := ⟨_, rfl⟩
      have hbY : Below wX.heap.size wX wY := by rw [hwY]; exact (Below.refl _ _).alloc (Nat.le_refl _) _
      obtain ⟨byy, hby⟩ : ∃ byy, byy = wX.heap.size := ⟨_, rfl⟩
      have hY : wY.heap[byy]? = some (.cells #[.int .i64 fs[k].params, .int .i64 fs[k].locals, .slice ca' fs[k].code.length cc'] 48 (0, 0)) := by rw [hwY, hby]; exact block_new _ _ _
      have hXY := block_kept hX hbY
      go_upto_region 8 with fail
      rw [← hwY, ← hby]
      clear hwY q1x q2x q3x y2 hX
      have hbw : Below w1.heap.size w1 wY := hbr.trans ((hbX.trans (hbY.mono hbX.size)).mono hbr.size)
      have z1 := block_cell hXY
      have z2 := block_cell hY
      have HB := hbw
      have hcY := hc.mono hbw
      have hcY' := hc'.mono hbw
      clear hbX hbY hbr hby hbx hc hc'
      go_wp2
      clear z1 z2
      go_loopw [8] (fun i wq => ∃ (q : Nat), q ≤ fs[k].code.length ∧ i = .int .i64 q ∧ Below wY.heap.size wY wq) (fun i _ => fs[k].code.length - (intOf i).toNat)
      case atStart => exact ⟨0, by omega, rfl, Below.refl _ _⟩
      case round =>
        obtain ⟨q, hq, rfl, hbq⟩ := hrel
        have z1 := block_cell (block_kept hXY hbq)
        have z2 := block_cell (block_kept hY hbq)
        by_cases hql : q < fs[k].code.length
        · obtain ⟨e1, o1, rfl, -, r1, r2⟩ := hcY q hql
          obtain ⟨e2, o2, rfl, -, r3, r4⟩ := hcY' q hql
          have r1' := cell_later hbq r1
          have r2' := cell_later hbq r2
          have r3' := cell_later hbq r3
          have r4' := cell_later hbq r4
          have gd := guard51
          have e51 := eqIn51 (fs[k].code[q]).1 (fs[k].code[q]).2
          clear r1 r2 r3 r4
          go_wp2
          go_big_quiet (fail)
          go_wp2
          go_roundw
          case rel => exact ⟨q + 1, by omega, by go_num, below_draws hbq _⟩
          case measure => simp [intOf]; omega
        · have hqe : ¬ (q : Int) < (fs[k].code.length : Int) := by omega
          have hbE : Below w1.heap.size w1 _ := HB.trans (hbq.mono HB.size)
          go_wp2
          go_roundw
          case rel => exact ⟨k + 1, by omega, by go_num, hbE⟩
          case measure => simp [intOf]; omega
    · have HB := hb1.trans (hbr.mono hb1.size)
      go_wp2
      go_ret
      exact ⟨rfl, HB⟩
end Go.Proofs.YtpmkfdinkomaiaaGreatDoor

namespace Go.Proofs.YtpmkfdinkomaiaaGreatDoor

def byteB (c : UInt8) : Bool := decide (32 ≤ c.toNat) && decide (c.toNat ≤ 126) && decide (c.toNat ≠ 34)
/-- A text that may stand in a module. -/
def textB (s : ByteArray) : Bool := decide (s.size ≤ 60) && s.data.toList.all byteB

theorem textB_no {s : ByteArray} {k : Nat} (hk : k < s.size) (h : byteB s[k] = false) : textB s = false := by
  unfold textB
  rw [Bool.and_eq_false_iff]
  right
  rw [List.all_eq_false]
  exact ⟨s[k], by simp [ByteArray.getElem_eq_getElem_data], by simp [h]⟩

theorem textB_yes {s : ByteArray} (h60 : s.size ≤ 60) (h : ∀ j (hj : j < s.size), byteB s[j] = true) : textB s = true := by
  unfold textB
  rw [Bool.and_eq_true]
  refine ⟨by simpa using h60, ?_⟩
  rw [List.all_eq_true]
  intro x hx
  obtain ⟨i, hi, rfl⟩ := List.getElem_of_mem hx
  exact h i (by simpa using hi)

/-- What an instruction may be, in a function of 'nc' instructions and 'loc' locals of a module of 'nt' texts and 'nf' functions. -/
def insB (nt nf loc nc op a : Int) : Bool :=
  if op = 1 then decide (-1000000000 ≤ a) && decide (a ≤ 1000000000)
  else if op = 2 then decide (0 ≤ a) && decide (a ≤ 1)
  else if op = 3 then decide (0 ≤ a) && decide (a < nt)
  else if op = 5 ∨ op = 24 then decide (0 ≤ a) && decide (a < nf)
  else if op = 6 ∨ op = 7 then decide (0 ≤ a) && decide (a < loc)
  else if op = 17 ∨ op = 18 ∨ op = 19 then decide (0 ≤ a) && decide (a < nc)
  else if op = 20 then decide (0 ≤ a) && decide (a ≤ 6)
  else if op = 21 ∨ op = 22 then decide (0 ≤ a) && decide (a ≤ 5)
  else if op = 23 then decide (0 ≤ a) && decide (a ≤ 6)
  else decide (1 ≤ op) && decide (op ≤ 26) && decide (a = 0)

/-- The least A of an Op, and the number behind the greatest. -/
def boundsB (nt nf loc nc op : Int) : Int × Int :=
  if op = 1 then (-1000000000, 1000000001)
  else if op = 2 then (0, 2)
  else if op = 3 then (0, nt)
  else if op = 5 ∨ op = 24 then (0, nf)
  else if op = 6 ∨ op = 7 then (0, loc)
  else if op = 17 ∨ op = 18 ∨ op = 19 then (0, nc)
  else if op = 20 then (0, 7)
  else if op = 21 ∨ op = 22 then (0, 6)
  else if op = 23 then (0, 7)
  else if 1 ≤ op ∧ op ≤ 26 then (0, 1)
  else (0, 0)

theorem ops_cases (op : Int) : op = 1 ∨ op = 2 ∨ op = 3 ∨ op = 4 ∨ op = 5 ∨ op = 6 ∨ op = 7 ∨ op = 8 ∨ op = 9 ∨ op = 10 ∨ op = 11 ∨ op = 12 ∨ op = 13 ∨ op = 14 ∨ op = 15 ∨ op = 16 ∨ op = 17 ∨ op = 18 ∨ op = 19 ∨ op = 20 ∨ op = 21 ∨ op = 22 ∨ op = 23 ∨ op = 24 ∨ op = 25 ∨ op = 26 ∨ op < 1 ∨ 26 < op := by omega

theorem boundsB_out {nt nf loc nc op : Int} (h : op < 1 ∨ 26 < op) : boundsB nt nf loc nc op = (0, 0) := by
  unfold boundsB
  repeat' split
  all_goals first | rfl | omega

theorem insB_out {nt nf loc nc op a : Int} (h : op < 1 ∨ 26 < op) : insB nt nf loc nc op a = false := by
  rw [Bool.eq_false_iff]
  unfold insB
  repeat' split
  all_goals simp
  all_goals omega

theorem insB_bounds (nt nf loc nc op a : Int) : (decide ((boundsB nt nf loc nc op).1 ≤ a) && decide (a < (boundsB nt nf loc nc op).2)) = insB nt nf loc nc op a := by
  rw [Bool.eq_iff_iff]
  unfold boundsB insB
  repeat' split
  all_goals simp
  all_goals omega

def fnB (nt nf : Int) (f : Fn) : Bool :=
  decide (0 ≤ f.params) && decide (f.params ≤ 6) && decide (f.params ≤ f.locals) && decide (f.locals ≤ 12) && decide (1 ≤ f.code.length) && decide (f.code.length ≤ 120) &&
    f.code.all fun x => insB nt nf f.locals f.code.length x.1 x.2

def modB (ts : List ByteArray) (fs : List Fn) : Bool :=
  decide (1 ≤ fs.length) && decide (fs.length ≤ 12) && decide (ts.length ≤ 20) && ts.all textB && fs.all fun f => fnB ts.length fs.length f

theorem all_take {α : Type} {l : List α} {p : α → Bool} {k : Nat} (h : k < l.length) (h1 : (l.take k).all p = true) (h2 : p l[k] = true) : (l.take (k + 1)).all p = true := by
  rw [List.take_succ_eq_append_getElem h, List.all_append, h1, List.all_cons, h2]
  rfl
theorem all_no {α : Type} {l : List α} {p : α → Bool} {k : Nat} (h : k < l.length) (h2 : p l[k] = false) : l.all p = false := by
  rw [List.all_eq_false]
  exact ⟨l[k], List.getElem_mem h, by simp [h2]⟩
theorem all_end {α : Type} {l : List α} {p : α → Bool} {k : Nat} (h : l.length ≤ k) (h1 : (l.take k).all p = true) : l.all p = true := by
  rwa [List.take_of_length_le h] at h1
end Go.Proofs.YtpmkfdinkomaiaaGreatDoor

namespace Go.Proofs.YtpmkfdinkomaiaaGreatDoor

theorem lt_block {w : World} {g : Nat} {o : Obj} (h : w.heap[g]? = some o) : g < w.heap.size := by
  rcases Nat.lt_or_ge g w.heap.size with h' | h'
  · exact h'
  · rw [Array.getElem?_eq_none h'] at h; cases h

theorem fnB_no {nt nf : Int} {f : Fn} (h : ¬ (0 ≤ f.params ∧ f.params ≤ 6 ∧ f.params ≤ f.locals ∧ f.locals ≤ 12 ∧ 1 ≤ f.code.length ∧ f.code.length ≤ 120)) : fnB nt nf f = false := by
  rw [Bool.eq_false_iff]
  intro hc
  apply h
  unfold fnB at hc
  simp only [Bool.and_eq_true, decide_eq_true_eq] at hc
  omega
theorem fnB_all {nt nf : Int} {f : Fn} (h : 0 ≤ f.params ∧ f.params ≤ 6 ∧ f.params ≤ f.locals ∧ f.locals ≤ 12 ∧ 1 ≤ f.code.length ∧ f.code.length ≤ 120) : fnB nt nf f = f.code.all fun x => insB nt nf f.locals f.code.length x.1 x.2 := by
  obtain ⟨h1, h2, h3, h4, h5, h6⟩ := h
  unfold fnB
  rw [decide_eq_true h1, decide_eq_true h2, decide_eq_true h3, decide_eq_true h4, decide_eq_true h5, decide_eq_true h6]
  rfl
theorem modB_no {ts : List ByteArray} {fs : List Fn} (h : ¬ (1 ≤ fs.length ∧ fs.length ≤ 12 ∧ ts.length ≤ 20)) : modB ts fs = false := by
  rw [Bool.eq_false_iff]
  intro hc
  apply h
  unfold modB at hc
  simp only [Bool.and_eq_true, decide_eq_true_eq] at hc
  omega
theorem modB_all {ts : List ByteArray} {fs : List Fn} (h : 1 ≤ fs.length ∧ fs.length ≤ 12 ∧ ts.length ≤ 20) : modB ts fs = (ts.all textB && fs.all fun f => fnB ts.length fs.length f) := by
  obtain ⟨h1, h2, h3⟩ := h
  unfold modB
  rw [decide_eq_true h1, decide_eq_true h2, decide_eq_true h3]
  rfl
end Go.Proofs.YtpmkfdinkomaiaaGreatDoor
