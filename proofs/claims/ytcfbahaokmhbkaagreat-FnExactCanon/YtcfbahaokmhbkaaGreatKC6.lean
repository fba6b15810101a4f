/-
  A region that draws its order, some of whose operations write what others of it read: what is read may be taken first where all that may write it waits for the reading. Behind each operation number j it is asked what R j says of the worlds ahead of it and behind it.
  What meeting a value does to impl's numbering.
  The library's contract for internal/stringslite.Clone at this dump.
-/
import Derived.Test.YtcfbahaokmhbkaaGreatKC5
import Derived.Deep.RegionHeld3
import Derived.Deep.CutRange
import Derived.Shelf.Strconv.Clone
import Derived.Test.YtcfbahaokmhbkaaGreatProg
namespace Go.Proofs.YtcfbahaokmhbkaaGreat
open Go.RowKit

section
variable {P : Program} {ops : Array Oper} {Q : Exit → Act → World → Prop} {md : Region.Mode} {S : World → Prop} {R : Nat → World → World → Prop}

/-- Whatever order is picked from here on; each operation keeps what R says of it. -/
def wpAnyT (P : Program) (md : Region.Mode) (ops : Array Oper) (Q : Exit → Act → World → Prop) (R : Nat → World → World → Prop) : Nat → Array Bool → Act → World → Prop
  | 0, listed, a, w => Region.ready md ops listed = [] ∧ Q .normal a w
  | n + 1, listed, a, w => (Region.ready md ops listed = [] → Q .normal a w) ∧
    ∀ i ∈ Region.ready md ops listed, wpOp P ops Q i (fun a' w' => R i w w' ∧ wpAnyT P md ops Q R n (listed.setIfInBounds i true) a' w') a w

theorem wpAny_of_T : ∀ (n : Nat) (listed : Array Bool) (a : Act) (w : World), wpAnyT P md ops Q R n listed a w → wpAny P md ops Q n listed a w
  | 0, _, _, _, h => h
  | n + 1, _, _, _, h => ⟨h.1, fun i hi => wpOp_mono (fun a' w' h' => wpAny_of_T n _ a' w' h'.2) (h.2 i hi)⟩

/-- Those of W have not come up, and each of them waits for number i or for one of W. -/
def awaits (md : Region.Mode) (ops : Array Oper) (listed : Array Bool) (W : List Nat) (i : Nat) : Bool :=
  W.all (fun c => (listed.getD c true == false) && (match ops[c]? with
    | some o => o.after.toList.any (fun e => Region.binds md e && (e.on == i || W.contains e.on))
    | none => false))

theorem not_listed {listed : Array Bool} {i : Nat} (h0 : listed.getD i true = false) (h : listed.getD i false = true) : False := by
  rcases Nat.lt_or_ge i listed.size with h' | h'
  · simp [h'] at h0 h; rw [h0] at h; cases h
  · simp [Array.getElem?_eq_none h'] at h

theorem not_ready {listed : Array Bool} {W : List Nat} {i j : Nat} (hi : i ∈ Region.ready md ops listed) (hj : j ∈ Region.ready md ops listed) (h : awaits md ops listed W i = true) : j ∉ W := by
  intro hW
  have hall := List.all_eq_true.1 h
  have hc := hall j hW
  obtain ⟨-, o, ho, hb⟩ := mem_ready.1 hj
  rw [Bool.and_eq_true, ho] at hc
  obtain ⟨e, he, h2⟩ := List.any_eq_true.1 hc.2
  rw [Bool.and_eq_true, Bool.or_eq_true, beq_iff_eq] at h2
  have h3 := hb e (by simpa using he) h2.1
  rcases h2.2 with h4 | h4
  · rw [h4] at h3
    exact not_listed (mem_ready.1 hi).1 h3
  · have h5 := hall e.on (by simpa using h4)
    rw [Bool.and_eq_true, beq_iff_eq] at h5
    exact not_listed h5.1 h3

theorem awaits_more {listed : Array Bool} {W : List Nat} {i j : Nat} (h : awaits md ops listed W i = true) (hj : j ∉ W) : awaits md ops (listed.setIfInBounds j true) W i = true := by
  refine List.all_eq_true.2 fun c hc => ?_
  have h1 := List.all_eq_true.1 h c hc
  rw [Bool.and_eq_true] at *
  exact ⟨by rw [getD_set_ne true (fun e => hj (by rw [e]; exact hc))]; exact h1.1, h1.2⟩

theorem not_after {listed : Array Bool} {i : Nat} {oj : Oper} (hi : i ∈ Region.ready md ops listed) (hall : ∀ e ∈ oj.after, Region.binds md e = true → listed.getD e.on false = true) : ∀ e ∈ oj.after, Region.binds md e = true → e.on ≠ i :=
  fun e he hb heq => not_listed (mem_ready.1 hi).1 (by have h1 := hall e he hb; rw [heq] at h1; exact h1)

/-- What yields its value in every world that meets S may be taken first, where whatever does not wait for it keeps S. -/
theorem wpAnyT_first {i : Nat} {oi : Oper} {v : Value} {W : List Nat} (hi : ops[i]? = some oi) (hsel : ∀ (j : Nat) (o : Oper) cs b, ops[j]? = some o → o.op ≠ .select cs b)
    (hQ : ∀ c a w, Q (.panic c) (a.put oi.dst v) w → Q (.panic c) a w) (hR : ∀ w, R i w w) (hW : ∀ j, j ∉ W → ∀ w w', S w → R j w w' → S w') (n : Nat) : ∀ (listed : Array Bool) (a : Act) (w : World), awaits md ops listed W i = true →
      (∀ j oj, ops[j]? = some oj → j ≠ i → listed.getD j true = false → (∀ e ∈ oj.after, Region.binds md e = true → e.on ≠ i) → oi.apart ops oj = true) →
      i ∈ Region.ready md ops listed → YieldsIf P ops S oi v a → S w →
      wpAnyT P md ops Q R n (listed.setIfInBounds i true) (a.put oi.dst v) w → wpAnyT P md ops Q R (n + 1) listed a w := by
  induction n with
  | zero =>
    intro listed a w _ _ hr hy hS H
    refine ⟨fun h => (by rw [h] at hr; cases hr), fun j hj => ?_⟩
    by_cases hji : j = i
    · subst hji; exact hy.wpOp hi hS ⟨hR w, H⟩
    · have h := ready_mono hj hji
      rw [H.1] at h
      cases h
  | succ n ih =>
    intro listed a w hT hfree hr hy hS H
    refine ⟨fun h => (by rw [h] at hr; cases hr), fun j hj => ?_⟩
    by_cases hji : j = i
    · subst hji; exact hy.wpOp hi hS ⟨hR w, H⟩
    obtain ⟨hjun, oj, hoj, hall⟩ := mem_ready.1 hj
    have hjW : j ∉ W := not_ready hr hj hT
    have h2 := wpOp_putIf hoj (hfree j oj hoj hji hjun (not_after hr hall)) (fun cs b => hsel i oi cs b hi) (fun cs b => hsel j oj cs b hoj) hQ hy (H.2 j (ready_mono hj hji))
    refine wpOp_mono (fun a' w' h3 => ⟨h3.2.1, ih (listed.setIfInBounds j true) a' w' (awaits_more hT hjW) (fun k ok hk hki hun hno => ?_) (ready_mono hr (Ne.symm hji)) h3.1 (hW j hjW w w' hS h3.2.1) ?_⟩) h2
    · refine hfree k ok hk hki ?_ hno
      by_cases hjk : j = k
      · subst hjk; exact hjun
      · rw [getD_set_ne true hjk] at hun; exact hun
    · rw [Array.setIfInBounds_comm _ _ hji]
      exact h3.2.2

theorem wpAnyT_take {i : Nat} (S : World → Prop) (W : List Nat) {oi : Oper} {v : Value} {n : Nat} {listed : Array Bool} {a : Act} {w : World} (hi : ops[i]? = some oi)
    (hs : Region.noSelect ops = true) (hf : Region.free md ops listed i = true) (hr : (Region.ready md ops listed).contains i = true) (hT : awaits md ops listed W i = true)
    (hQ : ∀ c a w, Q (.panic c) (a.put oi.dst v) w → Q (.panic c) a w) (hw : Region.wanted oi (yielded ops a.tmps) = true) (hR : ∀ w, R i w w) (hW : ∀ j, j ∉ W → ∀ w w', S w → R j w w' → S w')
    (hy : ∀ w, S w → (execOp a.eval oi).run P w = .ok (.value v) w) (hS : S w)
    (h : wpAnyT P md ops Q R n (listed.setIfInBounds i true) (a.put oi.dst v) w) : wpAnyT P md ops Q R (n + 1) listed a w :=
  wpAnyT_first hi (Region.noSelect_spec hs) hQ hR hW n listed a w hT (Region.free_spec hi hf) (by simpa using hr) (.inl ⟨hw, hy⟩) hS h

/-- One alone may come up. -/
theorem wpAnyT_one {i : Nat} {o : Oper} {n : Nat} {listed : Array Bool} {a : Act} {w : World} (hr : Region.ready md ops listed = [i]) (ho : ops[i]? = some o)
    (h : ∀ K' : Act → World → Prop, Shut (∀ a w', R i w w' → wpAnyT P md ops Q R n (listed.setIfInBounds i true) a w' → K' a w') → if Region.wanted o (yielded ops a.tmps) = true then Oper.wp P o a w K' Q else K' (a.put o.dst undef) w) :
    wpAnyT P md ops Q R (n + 1) listed a w := by
  refine ⟨fun h0 => (by rw [hr] at h0; cases h0), fun j hj => ?_⟩
  rw [hr] at hj
  obtain rfl := List.mem_singleton.1 hj
  exact wpOp_step ho (fun K' hK => h K' (fun a w hS hW => hK a w ⟨hS, hW⟩))

theorem wpAnyT_done {listed : Array Bool} {a : Act} {w : World} (hr : Region.ready md ops listed = []) (h : Q .normal a w) : ∀ n, wpAnyT P md ops Q R n listed a w
  | 0 => ⟨hr, h⟩
  | _ + 1 => ⟨fun _ => h, by rw [hr]; simp⟩

theorem wp_region_T {id : Nat} {a : Act} {w : World} (R : Nat → World → World → Prop) (hm : P.follows .mixedOrders = true) (h : wpAnyT P .any ops Q R ops.size (Array.replicate ops.size false) a w.drew) : (Code.region id ops true).wp P Q a w :=
  wp_region_any hm (wpAny_of_T _ _ _ _ h)

/-- A condition that all but the hard ones keep. -/
theorem keepS {S : World → Prop} {hard W : List Nat} (h : hard.all (fun c => W.contains c) = true) : ∀ j, j ∉ W → ∀ w w' : World, S w → (j ∈ hard ∨ (S w → S w')) → S w' := fun j hj _ _ hS hR => by
  rcases hR with q | q
  · exact absurd (by simpa using List.all_eq_true.1 h j q) hj
  · exact q hS

/-- All but the hard ones keep a condition. -/
abbrev RS (hard : List Nat) (S : World → Prop) : Nat → World → World → Prop := fun j wa wb => j ∈ hard ∨ (S wa → S wb)
theorem and4 {a b c d : Bool} (h : (a && b && c && d) = true) : a = true ∧ b = true ∧ c = true ∧ d = true := by cases a <;> cases b <;> cases c <;> cases d <;> simp_all
theorem tkP {hard : List Nat} {i : Nat} {oi : Oper} {v : Value} {n : Nat} {listed : Array Bool} {a : Act} {w : World} (hi : ops[i]? = some oi)
    (hc : (Region.noSelect ops && Region.free md ops listed i && (Region.ready md ops listed).contains i && Region.wanted oi (yielded ops a.tmps)) = true)
    (hQ : ∀ c a w, Q (.panic c) (a.put oi.dst v) w → Q (.panic c) a w) (hy : ∀ w, (execOp a.eval oi).run P w = .ok (.value v) w)
    (h : wpAnyT P md ops Q (RS hard S) n (listed.setIfInBounds i true) (a.put oi.dst v) w) : wpAnyT P md ops Q (RS hard S) (n + 1) listed a w :=
  wpAnyT_take (fun _ => True) [] hi (and4 hc).1 (and4 hc).2.1 (and4 hc).2.2.1 rfl hQ (and4 hc).2.2.2 (fun _ => .inr (fun h => h)) (fun _ _ _ _ _ _ => trivial) (fun w _ => hy w) trivial h
theorem tkS {hard : List Nat} {i : Nat} (W : List Nat) {oi : Oper} {v : Value} {n : Nat} {listed : Array Bool} {a : Act} {w : World} (hi : ops[i]? = some oi)
    (hc : (Region.noSelect ops && Region.free md ops listed i && (Region.ready md ops listed).contains i && Region.wanted oi (yielded ops a.tmps)) = true) (hT : (awaits md ops listed W i && hard.all (fun c => W.contains c)) = true)
    (hQ : ∀ c a w, Q (.panic c) (a.put oi.dst v) w → Q (.panic c) a w) (hy : ∀ w, S w → (execOp a.eval oi).run P w = .ok (.value v) w) (hS : S w)
    (h : wpAnyT P md ops Q (RS hard S) n (listed.setIfInBounds i true) (a.put oi.dst v) w) : wpAnyT P md ops Q (RS hard S) (n + 1) listed a w :=
  wpAnyT_take S W hi (and4 hc).1 (and4 hc).2.1 (and4 hc).2.2.1 ((Bool.and_eq_true _ _).mp hT).1 hQ (and4 hc).2.2.2 (fun _ => .inr (fun h => h)) (keepS ((Bool.and_eq_true _ _).mp hT).2) hy hS h

/-- Two conditions, each kept by all but some. -/
def Two (S1 S2 : World → Prop) (t1 t2 : List Nat) (j : Nat) (w w' : World) : Prop := (j ∉ t1 → S1 w → S1 w') ∧ (j ∉ t2 → S2 w → S2 w')
theorem Two.same {S1 S2 : World → Prop} {t1 t2 : List Nat} (j : Nat) (w : World) : Two S1 S2 t1 t2 j w w := ⟨fun _ h => h, fun _ h => h⟩
theorem sub_not {T W : List Nat} (h : T.all (fun c => W.contains c) = true) {j : Nat} (hj : j ∉ W) : j ∉ T := fun h1 => hj (by simpa using List.all_eq_true.1 h j h1)
theorem Two.left {S1 S2 : World → Prop} {t1 t2 W : List Nat} (h : t1.all (fun c => W.contains c) = true) : ∀ j, j ∉ W → ∀ w w', S1 w → Two S1 S2 t1 t2 j w w' → S1 w' := fun _ hj _ _ hS hR => hR.1 (sub_not h hj) hS
theorem Two.right {S1 S2 : World → Prop} {t1 t2 W : List Nat} (h : t2.all (fun c => W.contains c) = true) : ∀ j, j ∉ W → ∀ w w', S2 w → Two S1 S2 t1 t2 j w w' → S2 w' := fun _ hj _ _ hS hR => hR.2 (sub_not h hj) hS
end
end Go.Proofs.YtcfbahaokmhbkaaGreat

namespace Go.Proofs.YtcfbahaokmhbkaaGreat
open Go.RowKit

set_option maxRecDepth 100000 in
set_option maxHeartbeats 4000000 in
theorem meet_any (lo Hb H hcap nb mb : Nat) (mv : Value) (ms : List Nat) (g off t : Nat) (v : Vl) (cur : Array Value) (w : World) (hN : NumAt w lo Hb nb mb mv ms)
    (hg : w.heap[g]? = some (.cells cur t (0, 0))) (ht : Other (.cells cur t (0, 0))) (hk : cur[off]? = some (.int .i64 v.k)) (hn : cur[off + 1]? = some (.int .i64 v.n)) (hv : Named H v) (hH : H ≤ 1048576) (hM : Met H ms) :
    Calls Tryz.prog 64 #[.agg #[.slice (some ⟨Hb, 0, none⟩) H hcap, .pointer (some ⟨nb, 0, none⟩)], .pointer (some ⟨g, off, none⟩)] w fun e w' => e = .returned (.tuple #[]) ∧ Kp lo g w w' ∧ (∃ mv', NumAt w' lo Hb nb mb mv' (mS ms v)) ∧ w'.heap[g]? = some (.cells (cur.setIfInBounds (off + 1) (.int .i64 (mV ms v).n)) t (0, 0)) := by
  obtain ⟨wA, hwA⟩ : ∃ wA, wA = w.alloc (.cells #[.slice (some ⟨Hb, 0, none⟩) H hcap, .pointer (some ⟨nb, 0, none⟩)] 113) := ⟨_, rfl⟩
  have hbA : Below w.heap.size w wA := by rw [hwA]; exact (Below.refl _ _).alloc (Nat.le_refl _) _
  have hBX : wA.heap[w.heap.size]? = some (.cells #[.slice (some ⟨Hb, 0, none⟩) H hcap, .pointer (some ⟨nb, 0, none⟩)] 113 (0, 0)) := by rw [hwA]; exact block_new _ _ _
  have hNA := hN.mono hbA
  have hgA := block_kept hg hbA
  have c1 : wA.cell? ⟨g, off, none⟩ = some (.int .i64 v.k) := by rw [block_cell hgA]; exact hk
  by_cases h4 : v.k = 4
  · obtain ⟨j, hj, hjH⟩ : ∃ j : Nat, v.n = (j : Int) ∧ j < H := by
      obtain ⟨h1, h2⟩ := hv h4
      exact ⟨v.n.toNat, by omega, by omega⟩
    rw [h4] at c1
    have hbd : Below wA.heap.size wA wA.drew := (Below.refl _ _).drew
    have hh : (fun w' : World => w'.cell? ⟨w.heap.size, 0, none⟩ = some (.slice (some ⟨Hb, 0, none⟩) H hcap) ∧ w'.cell? ⟨w.heap.size, 1, none⟩ = some (.pointer (some ⟨nb, 0, none⟩)) ∧ w'.cell? ⟨g, off + 1, none⟩ = some (.int .i64 (j : Int))) wA.drew := ⟨by rw [block_cell (block_kept hBX hbd)]; rfl, by rw [block_cell (block_kept hBX hbd)]; rfl, by rw [block_cell (block_kept hgA hbd), ← hj]; exact hn⟩
    have eV : Hid ((mV ms v).n = (idx ms j : Int)) := by
      show (mV ms v).n = _
      unfold mV; rw [if_pos h4, hj, Int.toNat_natCast]
    have eS : Hid (mS ms v = seen ms j) := by
      show mS ms v = _
      unfold mS; rw [if_pos h4, hj, Int.toNat_natCast]
    have hML : ms.length ≤ 1048576 := by have := hM.le; omega
    have hjI : (j : Int) < (H : Int) := by omega
    have HC : Hid (cur[off + 1]? = some (.int .i64 (j : Int))) := by rw [← hj]; exact hn
    clear hN hg hk hn hv hM h4 hj
    go_enter Tryz.func64, Tryz.ntmps64
    go_upto_region 1 with fail
    rw [← hwA]
    clear hwA
    go_upto_region 2 with fail
    clear c1
    refine wp_region_T (RS [10, 13] (fun w' : World => w'.cell? ⟨w.heap.size, 0, none⟩ = some (.slice (some ⟨Hb, 0, none⟩) H hcap) ∧ w'.cell? ⟨w.heap.size, 1, none⟩ = some (.pointer (some ⟨nb, 0, none⟩)) ∧ w'.cell? ⟨g, off + 1, none⟩ = some (.int .i64 (j : Int)))) (by kernel_rfl) ?_
    refine tkP (i := 0) (v := ?_) rfl (by kernel_rfl) (fun _ _ _ h => h) ?_ ?_
    rotate_left
    · intro w'
      go_simp
      try with_reducible rfl
    simp only [Act.put, List.setIfInBounds_toArray]
    refine tkP (i := 1) (v := ?_) rfl (by kernel_rfl) (fun _ _ _ h => h) ?_ ?_
    rotate_left
    · intro w'
      go_simp
      try with_reducible rfl
    simp only [Act.put]
    refine tkS (i := 2) [10, 13] (v := ?_) rfl (by kernel_rfl) (by kernel_rfl) (fun _ _ _ h => h) ?_ hh ?_
    rotate_left
    · intro w' hSw
      obtain ⟨y0, y1, y2⟩ := hSw
      go_simp
      try with_reducible rfl
    simp only [Act.put]
    refine tkP (i := 3) (v := ?_) rfl (by kernel_rfl) (fun _ _ _ h => h) ?_ ?_
    rotate_left
    · intro w'
      go_simp
      try with_reducible rfl
    simp only [Act.put]
    refine tkS (i := 4) [9, 10, 13] (v := ?_) rfl (by kernel_rfl) (by kernel_rfl) (fun _ _ _ h => h) ?_ hh ?_
    rotate_left
    · intro w' hSw
      obtain ⟨y0, y1, y2⟩ := hSw
      go_simp
      try with_reducible rfl
    simp only [Act.put]
    refine tkP (i := 5) (v := ?_) rfl (by kernel_rfl) (fun _ _ _ h => h) ?_ ?_
    rotate_left
    · intro w'
      go_simp
      try with_reducible rfl
    simp only [Act.put]
    refine tkP (i := 6) (v := ?_) rfl (by kernel_rfl) (fun _ _ _ h => h) ?_ ?_
    rotate_left
    · intro w'
      go_simp
      try with_reducible rfl
    simp only [Act.put]
    refine tkP (i := 7) (v := ?_) rfl (by kernel_rfl) (fun _ _ _ h => h) ?_ ?_
    rotate_left
    · intro w'
      go_simp
      try with_reducible rfl
    simp only [Act.put]
    refine tkS (i := 8) [9, 10, 13] (v := ?_) rfl (by kernel_rfl) (by kernel_rfl) (fun _ _ _ h => h) ?_ hh ?_
    rotate_left
    · intro w' hSw
      obtain ⟨y0, y1, y2⟩ := hSw
      go_simp
      try with_reducible rfl
    simp only [Act.put]
    refine tkP (i := 9) (v := ?_) rfl (by kernel_rfl) (fun _ _ _ h => h) ?_ ?_
    rotate_left
    · intro w'
      go_simp
      try with_reducible rfl
    simp only [Act.put]
    refine wpAnyT_one (i := 10) (o := _) (by kernel_rfl) rfl (fun Kq hK => ?_)
    go_simp
    refine (numberOf_any lo Hb nb mb mv ms j wA.drew (hNA.mono hbd) hML).mono ?_
    rintro e w1 ⟨rfl, hK1, mv1, hN1⟩
    refine hK.out _ _ (.inl (by decide)) ?_
    clear hK Kq
    try simp only [Act.put]
    have hg1 : w1.heap[g]? = some (.cells cur t (0, 0)) := (hK1 (g + 1)).kept (block_kept hgA hbd) (by omega) ht
    have f1 := block_free hg1
    have cc1 : w1.cell? ⟨g, off + 1, none⟩ = some (.int .i64 (j : Int)) := by rw [block_cell hg1]; exact HC.out
    refine tkP (i := 11) (v := ?_) rfl (by kernel_rfl) (fun _ _ _ h => h) ?_ ?_
    rotate_left
    · intro w'
      go_simp
      try with_reducible rfl
    simp only [Act.put]
    refine tkP (i := 12) (v := ?_) rfl (by kernel_rfl) (fun _ _ _ h => h) ?_ ?_
    rotate_left
    · intro w'
      go_simp
      try with_reducible rfl
    simp only [Act.put]
    refine wpAnyT_one (i := 13) (o := _) (by kernel_rfl) rfl (fun Kq hK => ?_)
    go_simp
    refine hK.out _ _ (.inl (by decide)) ?_
    clear hK Kq
    try simp only [Act.put]
    refine wpAnyT_done (by kernel_rfl) ?_ _
    have HK : Hid (Kp lo g w w1) := ((Kp.of (hbA.trans (hbd.mono hbA.size))).trans (hK1 g))
    have HN1 : Hid (NumAt w1 lo Hb nb mb mv1 (seen ms j)) := hN1
    clear hK1 hN1 hNA hgA hBX hbd hh
    go_simp
    go_wp2
    go_end0
    refine ⟨rfl, HK.out.set _, ⟨mv1, ?_⟩, ?_⟩
    · rw [eS.out]
      exact HN1.out.set hg1 ht _
    · rw [eV.out]
      exact block_set hg1 _
  · have eV : Hid (mV ms v = v) := by
      show mV ms v = v
      unfold mV; rw [if_neg h4]
    have eS : Hid (mS ms v = ms) := by
      show mS ms v = ms
      unfold mS; rw [if_neg h4]
    have hcs : Hid (cur.setIfInBounds (off + 1) (.int .i64 v.n) = cur) := by
      show cur.setIfInBounds (off + 1) (.int .i64 v.n) = cur
      apply Array.ext_getElem?
      intro i
      by_cases e : i = off + 1
      · subst e
        rw [set_self _ (by rcases Nat.lt_or_ge (off + 1) cur.size with h | h; exact h; rw [Array.getElem?_eq_none h] at hn; cases hn), hn]
      · rw [set_else _ e]
    have HE : Hid (Kp lo g w wA ∧ NumAt wA lo Hb nb mb mv ms ∧ wA.heap[g]? = some (.cells cur t (0, 0))) := ⟨Kp.of hbA, hNA, hgA⟩
    clear hNA hgA hbA hBX
    go_enter Tryz.func64, Tryz.ntmps64
    go_upto_region 1 with fail
    rw [← hwA]
    clear hwA
    go_wp2
    go_end0
    exact ⟨rfl, HE.out.1, ⟨mv, by rw [eS.out]; exact HE.out.2.1⟩, by rw [eV.out, hcs.out]; exact HE.out.2.2⟩
end Go.Proofs.YtcfbahaokmhbkaaGreat

namespace Go.Proofs
open Go.Shelf Go.RowKit
def Tryz.laysM316_ren : Go.Shelf.Ren := ⟨fun | 316 => 132 | n => n, fun | 9 => 9 | 3 => 3 | 4 => 4 | 37 => 154 | 0 => 0 | 127 => 195 | 5 => 5 | n => n, fun | n => n⟩
theorem Tryz.laysM316 : Go.Proofs.LaysM.n316 Tryz.prog Tryz.laysM316_ren := {
  mixed := by kernel_rfl
  f316 := Tryz.func132.trans (congrArg some (by kernel_rfl))
  t0 := Tryz.underlying0
  a0 := Tryz.isAgg0
  z0 := Tryz.sizeOf0
  v0 := Tryz.zeroValue0
  t3 := Tryz.underlying3
  a3 := Tryz.isAgg3
  z3 := Tryz.sizeOf3
  v3 := Tryz.zeroValue3
  t4 := Tryz.underlying4
  a4 := Tryz.isAgg4
  z4 := Tryz.sizeOf4
  v4 := Tryz.zeroValue4
  t9 := Tryz.underlying9
  a9 := Tryz.isAgg9
  z9 := Tryz.sizeOf9
  v9 := Tryz.zeroValue9
  t37 := Tryz.underlying154
  a37 := Tryz.isAgg154
  z37 := Tryz.sizeOf154
  v37 := Tryz.zeroValue154
  t127 := Tryz.underlying195
  a127 := Tryz.isAgg195
  z127 := Tryz.sizeOf195
  v127 := Tryz.zeroValue195
  t5 := Tryz.underlying5
  a5 := Tryz.isAgg5
  z5 := Tryz.sizeOf5
  v5 := Tryz.zeroValue5
  i0 := by kernel_rfl
  i3 := by kernel_rfl
  i4 := by kernel_rfl
  i5 := by kernel_rfl
  i9 := by kernel_rfl
  i37 := by kernel_rfl
  i127 := by kernel_rfl }
/-- internal/stringslite.Clone (what strings.Clone calls): "Clone returns a fresh copy of s.": THE SAME BYTES. Of what was there nothing has turned (a new row is laid, and frozen, where s is not empty). (LAID: no walk: one application.) -/
theorem Tryz.stringslite_Clone (s : ByteArray) (w : World) (hlim : s.size ≤ 281474976710656) :
    Calls Tryz.prog 132 #[.string s] w fun e w' => e = .returned (.string s) ∧ Below w.heap.size w w' := Any.stringslite_Clone Tryz.laysM316 s w hlim
end Go.Proofs
