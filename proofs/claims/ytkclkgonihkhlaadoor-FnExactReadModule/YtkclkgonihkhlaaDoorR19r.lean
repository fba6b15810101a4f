/-
  Region 26 of spec.ReadModule: an instruction comes to the last function.
-/
import Derived.Test.YtkclkgonihkhlaaDoorR18b
import Derived.Test.YtkclkgonihkhlaaDoorU3
import Derived.Deep.DeepCutAuto
import Derived.Test.YtkclkgonihkhlaaDoorW3
import Derived.Deep.RegionHeld3
import Derived.Deep.CutBlock
namespace Go.Proofs.YtkclkgonihkhlaaDoor
open Go.RowKit Go.Maps

section
variable {P : Program} {ops : Array Oper} {Q : Exit → Act → World → Prop} {md : Region.Mode} {S : World → Prop} {R : Nat → World → World → Prop}

/-- Whatever order is picked from here on; each operation keeps what R says of it. -/
def wpAnyT (P : Program) (md : Region.Mode) (ops : Array Oper) (Q : Exit → Act → World → Prop) (R : Nat → World → World → Prop) : Nat → Array Bool → Act → World → Prop
  | 0, listed, a, w => Region.ready md ops listed = [] ∧ Q .normal a w
  | n + 1, listed, a, w => (Region.ready md ops listed = [] → Q .normal a w) ∧
    ∀ i ∈ Region.ready md ops listed, wpOp P ops Q i (fun a' w' => R i w w' ∧ wpAnyT P md ops Q R n (listed.setIfInBounds i true) a' w') a w

theorem wpAny_of_T : ∀ (n : Nat) (listed : Array Bool) (a : Act) (w : World), wpAnyT P md ops Q R n listed a w → wpAny P md ops Q n listed a w
  | 0, _, _, _, h => h
  | n + 1, _, _, _, h => ⟨h.1, fun i hi => wpOp_mono (fun a' w' h' => wpAny_of_T n _ a' w' h'.2) (h.2 i hi)⟩

/-- Those of W have not come up, and each of them waits for number i or for one of W. -/
def awaits (md : Region.Mode) (ops : Array Oper) (listed : Array Bool) (W : List Nat) (i : Nat) : Bool :=
  W.all (fun c => (listed.getD c true == false) && (match ops[c]? with
    | some o => o.after.toList.any (fun e => Region.binds md e && (e.on == i || W.contains e.on))
    | none => false))

theorem not_listed {listed : Array Bool} {i : Nat} (h0 : listed.getD i true = false) (h : listed.getD i false = true) : False := by
  rcases Nat.lt_or_ge i listed.size with h' | h'
  · simp [h'] at h0 h; rw [h0] at h; cases h
  · simp [Array.getElem?_eq_none h'] at h

theorem not_ready {listed : Array Bool} {W : List Nat} {i j : Nat} (hi : i ∈ Region.ready md ops listed) (hj : j ∈ Region.ready md ops listed) (h : awaits md ops listed W i = true) : j ∉ W := by
  intro hW
  have hall := List.all_eq_true.1 h
  have hc := hall j hW
  obtain ⟨-, o, ho, hb⟩ := mem_ready.1 hj
  rw [Bool.and_eq_true, ho] at hc
  obtain ⟨e, he, h2⟩ := List.any_eq_true.1 hc.2
  rw [Bool.and_eq_true, Bool.or_eq_true, beq_iff_eq] at h2
  have h3 := hb e (by simpa using he) h2.1
  rcases h2.2 with h4 | h4
  · rw [h4] at h3
    exact not_listed (mem_ready.1 hi).1 h3
  · have h5 := hall e.on (by simpa using h4)
    rw [Bool.and_eq_true, beq_iff_eq] at h5
    exact not_listed h5.1 h3

theorem awaits_more {listed : Array Bool} {W : List Nat} {i j : Nat} (h : awaits md ops listed W i = true) (hj : j ∉ W) : awaits md ops (listed.setIfInBounds j true) W i = true := by
  refine List.all_eq_true.2 fun c hc => ?_
  have h1 := List.all_eq_true.1 h c hc
  rw [Bool.and_eq_true] at *
  exact ⟨by rw [getD_set_ne true (fun e => hj (by rw [e]; exact hc))]; exact h1.1, h1.2⟩

theorem not_after {listed : Array Bool} {i : Nat} {oj : Oper} (hi : i ∈ Region.ready md ops listed) (hall : ∀ e ∈ oj.after, Region.binds md e = true → listed.getD e.on false = true) : ∀ e ∈ oj.after, Region.binds md e = true → e.on ≠ i :=
  fun e he hb heq => not_listed (mem_ready.1 hi).1 (by have h1 := hall e he hb; rw [heq] at h1; exact h1)

/-- What yields its value in every world that meets S may be taken first, where whatever does not wait for it keeps S. -/
theorem wpAnyT_first {i : Nat} {oi : Oper} {v : Value} {W : List Nat} (hi : ops[i]? = some oi) (hsel : ∀ (j : Nat) (o : Oper) cs b, ops[j]? = some o → o.op ≠ .select cs b)
    (hQ : ∀ c a w, Q (.panic c) (a.put oi.dst v) w → Q (.panic c) a w) (hR : ∀ w, R i w w) (hW : ∀ j, j ∉ W → ∀ w w', S w → R j w w' → S w') (n : Nat) : ∀ (listed : Array Bool) (a : Act) (w : World), awaits md ops listed W i = true →
      (∀ j oj, ops[j]? = some oj → j ≠ i → listed.getD j true = false → (∀ e ∈ oj.after, Region.binds md e = true → e.on ≠ i) → oi.apart ops oj = true) →
      i ∈ Region.ready md ops listed → YieldsIf P ops S oi v a → S w →
      wpAnyT P md ops Q R n (listed.setIfInBounds i true) (a.put oi.dst v) w → wpAnyT P md ops Q R (n + 1) listed a w := by
  induction n with
  | zero =>
    intro listed a w _ _ hr hy hS H
    refine ⟨fun h => (by rw [h] at hr; cases hr), fun j hj => ?_⟩
    by_cases hji : j = i
    · subst hji; exact hy.wpOp hi hS ⟨hR w, H⟩
    · have h := ready_mono hj hji
      rw [H.1] at h
      cases h
  | succ n ih =>
    intro listed a w hT hfree hr hy hS H
    refine ⟨fun h => (by rw [h] at hr; cases hr), fun j hj => ?_⟩
    by_cases hji : j = i
    · subst hji; exact hy.wpOp hi hS ⟨hR w, H⟩
    obtain ⟨hjun, oj, hoj, hall⟩ := mem_ready.1 hj
    have hjW : j ∉ W := not_ready hr hj hT
    have h2 := wpOp_putIf hoj (hfree j oj hoj hji hjun (not_after hr hall)) (fun cs b => hsel i oi cs b hi) (fun cs b => hsel j oj cs b hoj) hQ hy (H.2 j (ready_mono hj hji))
    refine wpOp_mono (fun a' w' h3 => ⟨h3.2.1, ih (listed.setIfInBounds j true) a' w' (awaits_more hT hjW) (fun k ok hk hki hun hno => ?_) (ready_mono hr (Ne.symm hji)) h3.1 (hW j hjW w w' hS h3.2.1) ?_⟩) h2
    · refine hfree k ok hk hki ?_ hno
      by_cases hjk : j = k
      · subst hjk; exact hjun
      · rw [getD_set_ne true hjk] at hun; exact hun
    · rw [Array.setIfInBounds_comm _ _ hji]
      exact h3.2.2

theorem wpAnyT_take {i : Nat} (S : World → Prop) (W : List Nat) {oi : Oper} {v : Value} {n : Nat} {listed : Array Bool} {a : Act} {w : World} (hi : ops[i]? = some oi)
    (hs : Region.noSelect ops = true) (hf : Region.free md ops listed i = true) (hr : (Region.ready md ops listed).contains i = true) (hT : awaits md ops listed W i = true)
    (hQ : ∀ c a w, Q (.panic c) (a.put oi.dst v) w → Q (.panic c) a w) (hw : Region.wanted oi (yielded ops a.tmps) = true) (hR : ∀ w, R i w w) (hW : ∀ j, j ∉ W → ∀ w w', S w → R j w w' → S w')
    (hy : ∀ w, S w → (execOp a.eval oi).run P w = .ok (.value v) w) (hS : S w)
    (h : wpAnyT P md ops Q R n (listed.setIfInBounds i true) (a.put oi.dst v) w) : wpAnyT P md ops Q R (n + 1) listed a w :=
  wpAnyT_first hi (Region.noSelect_spec hs) hQ hR hW n listed a w hT (Region.free_spec hi hf) (by simpa using hr) (.inl ⟨hw, hy⟩) hS h

/-- One alone may come up. -/
theorem wpAnyT_one {i : Nat} {o : Oper} {n : Nat} {listed : Array Bool} {a : Act} {w : World} (hr : Region.ready md ops listed = [i]) (ho : ops[i]? = some o)
    (h : ∀ K' : Act → World → Prop, Shut (∀ a w', R i w w' → wpAnyT P md ops Q R n (listed.setIfInBounds i true) a w' → K' a w') → if Region.wanted o (yielded ops a.tmps) = true then Oper.wp P o a w K' Q else K' (a.put o.dst undef) w) :
    wpAnyT P md ops Q R (n + 1) listed a w := by
  refine ⟨fun h0 => (by rw [hr] at h0; cases h0), fun j hj => ?_⟩
  rw [hr] at hj
  obtain rfl := List.mem_singleton.1 hj
  exact wpOp_step ho (fun K' hK => h K' (fun a w hS hW => hK a w ⟨hS, hW⟩))

theorem wpAnyT_done {listed : Array Bool} {a : Act} {w : World} (hr : Region.ready md ops listed = []) (h : Q .normal a w) : ∀ n, wpAnyT P md ops Q R n listed a w
  | 0 => ⟨hr, h⟩
  | _ + 1 => ⟨fun _ => h, by rw [hr]; simp⟩

theorem wp_region_T {id : Nat} {a : Act} {w : World} (R : Nat → World → World → Prop) (hm : P.follows .mixedOrders = true) (h : wpAnyT P .any ops Q R ops.size (Array.replicate ops.size false) a w.drew) : (Code.region id ops true).wp P Q a w :=
  wp_region_any hm (wpAny_of_T _ _ _ _ h)

/-- A condition that all but the hard ones keep. -/
theorem keepS {S : World → Prop} {hard W : List Nat} (h : hard.all (fun c => W.contains c) = true) : ∀ j, j ∉ W → ∀ w w' : World, S w → (j ∈ hard ∨ (S w → S w')) → S w' := fun j hj _ _ hS hR => by
  rcases hR with q | q
  · exact absurd (by simpa using List.all_eq_true.1 h j q) hj
  · exact q hS

/-- All but the hard ones keep a condition. -/
abbrev RS (hard : List Nat) (S : World → Prop) : Nat → World → World → Prop := fun j wa wb => j ∈ hard ∨ (S wa → S wb)
theorem and4 {a b c d : Bool} (h : (a && b && c && d) = true) : a = true ∧ b = true ∧ c = true ∧ d = true := by cases a <;> cases b <;> cases c <;> cases d <;> simp_all
theorem tkP {hard : List Nat} {i : Nat} {oi : Oper} {v : Value} {n : Nat} {listed : Array Bool} {a : Act} {w : World} (hi : ops[i]? = some oi)
    (hc : (Region.noSelect ops && Region.free md ops listed i && (Region.ready md ops listed).contains i && Region.wanted oi (yielded ops a.tmps)) = true)
    (hQ : ∀ c a w, Q (.panic c) (a.put oi.dst v) w → Q (.panic c) a w) (hy : ∀ w, (execOp a.eval oi).run P w = .ok (.value v) w)
    (h : wpAnyT P md ops Q (RS hard S) n (listed.setIfInBounds i true) (a.put oi.dst v) w) : wpAnyT P md ops Q (RS hard S) (n + 1) listed a w :=
  wpAnyT_take (fun _ => True) [] hi (and4 hc).1 (and4 hc).2.1 (and4 hc).2.2.1 rfl hQ (and4 hc).2.2.2 (fun _ => .inr (fun h => h)) (fun _ _ _ _ _ _ => trivial) (fun w _ => hy w) trivial h
theorem tkS {hard : List Nat} {i : Nat} (W : List Nat) {oi : Oper} {v : Value} {n : Nat} {listed : Array Bool} {a : Act} {w : World} (hi : ops[i]? = some oi)
    (hc : (Region.noSelect ops && Region.free md ops listed i && (Region.ready md ops listed).contains i && Region.wanted oi (yielded ops a.tmps)) = true) (hT : (awaits md ops listed W i && hard.all (fun c => W.contains c)) = true)
    (hQ : ∀ c a w, Q (.panic c) (a.put oi.dst v) w → Q (.panic c) a w) (hy : ∀ w, S w → (execOp a.eval oi).run P w = .ok (.value v) w) (hS : S w)
    (h : wpAnyT P md ops Q (RS hard S) n (listed.setIfInBounds i true) (a.put oi.dst v) w) : wpAnyT P md ops Q (RS hard S) (n + 1) listed a w :=
  wpAnyT_take S W hi (and4 hc).1 (and4 hc).2.1 (and4 hc).2.2.1 ((Bool.and_eq_true _ _).mp hT).1 hQ (and4 hc).2.2.2 (fun _ => .inr (fun h => h)) (keepS ((Bool.and_eq_true _ _).mp hT).2) hy hS h

/-- Two conditions, each kept by all but some. -/
def Two (S1 S2 : World → Prop) (t1 t2 : List Nat) (j : Nat) (w w' : World) : Prop := (j ∉ t1 → S1 w → S1 w') ∧ (j ∉ t2 → S2 w → S2 w')
theorem Two.same {S1 S2 : World → Prop} {t1 t2 : List Nat} (j : Nat) (w : World) : Two S1 S2 t1 t2 j w w := ⟨fun _ h => h, fun _ h => h⟩
theorem sub_not {T W : List Nat} (h : T.all (fun c => W.contains c) = true) {j : Nat} (hj : j ∉ W) : j ∉ T := fun h1 => hj (by simpa using List.all_eq_true.1 h j h1)
theorem Two.left {S1 S2 : World → Prop} {t1 t2 W : List Nat} (h : t1.all (fun c => W.contains c) = true) : ∀ j, j ∉ W → ∀ w w', S1 w → Two S1 S2 t1 t2 j w w' → S1 w' := fun _ hj _ _ hS hR => hR.1 (sub_not h hj) hS
theorem Two.right {S1 S2 : World → Prop} {t1 t2 W : List Nat} (h : t2.all (fun c => W.contains c) = true) : ∀ j, j ∉ W → ∀ w w', S2 w → Two S1 S2 t1 t2 j w w' → S2 w' := fun _ hj _ _ hS hR => hR.2 (sub_not h hj) hS
end

theorem hid {p : Prop} (h : p) : Hid p := h
def opensB (s : ByteArray) : Bool := decide (6 < s.size) && (s.data.toList.take 6 == [116, 101, 120, 116, 32, 34])
theorem opensB_iff (s : ByteArray) : opensB s = true ↔ Opens s := by unfold opensB Opens; simp
def funcB (ws : List ByteArray) : Bool := match ws with | [a, _, _] => a.data.toList == [102, 117, 110, 99] | _ => false
theorem funcB_iff (ws : List ByteArray) : funcB ws = true ↔ ∃ x1 x2, ws = [funcT, x1, x2] := by
  constructor
  · intro h
    match ws, h with
    | [a, x1, x2], h =>
      have e : a.data.toList = [102, 117, 110, 99] := by simpa [funcB] using h
      exact ⟨x1, x2, by rw [show a = funcT from ByteArray.ext (by rw [← Array.toList_inj]; exact e)]⟩
  · rintro ⟨x1, x2, rfl⟩
    rfl
theorem ext_list (s : ByteArray) (a b : Nat) : (s.extract a b).data.toList = (s.data.toList.drop a).take (b - a) := by rw [← extract_toList]
theorem ext6 (s : ByteArray) : (s.extract 0 6).toList = s.data.toList.take 6 := by rw [ByteArray.toList_eq, ext_list]; simp

theorem codes_all {fs : List Fn} {lc : Nat} (h0 : ¬ fs.length = 0) (h : ∀ j (hj : j < fs.length), j + 1 < fs.length → fs[j].code.length ≤ 120) (hl : lc = (fs[fs.length - 1]'(by omega)).code.length) (ht : ¬ 120 < lc) : ∀ f ∈ fs, f.code.length ≤ 120 := by
  intro f hf
  obtain ⟨j, hj, rfl⟩ := List.getElem_of_mem hf
  by_cases e : j + 1 < fs.length
  · exact h j hj e
  · obtain rfl : j = fs.length - 1 := by omega
    omega
/-- What one line has come to. -/
def Came (s : ByteArray) (ts : List ByteArray) (fs : List Fn) (BB Wb LB : Nat) (lv : Value) (ln : Nat) (lx : List Value) (w w5 : World) : Prop :=
  ∃ ts' fs' cs' b1 d1 b2 d2, w5.heap[w.heap.size + 1]? = some (Obj.cells #[.slice b1 (List.length ts') d1, .slice b2 (List.length fs') d2] 36 (0, 0)) ∧ ModOwn w5 BB b1 d1 b2 d2 ts' fs' cs' ∧ Step s ts fs ts' fs' ∧ (∀ t ∈ ts', t.size ≤ 1048576) ∧ (∀ j (h : j < fs'.length), j + 1 < fs'.length → fs'[j].code.length ≤ 120) ∧ ts'.length ≤ 21 ∧ fs'.length ≤ 13 ∧ w5.heap[w.heap.size]? = some (.cells #[.slice none 0 0, .slice none 0 0] 36 (0, 0)) ∧ w5.heap[Wb]? = some (.cells (words.map Value.string).toArray 9 (0, 0)) ∧ w5.ownsRow LB 9 1 lv ln lx ∧ Below w.heap.size w w5
theorem three_kept {w w3 w4 : World} {oZ oW : Obj} {Wb LB BB g m c : Nat} {xs : List Value} (hZ : w3.heap[w.heap.size]? = some oZ) (hW : w3.heap[Wb]? = some oW) (hL : w3.ownsRow LB 9 1 (.slice (some ⟨g, 0, none⟩) m c) m xs) (hg : g < BB) (hB : Below w.heap.size w w3) (h1 : w.heap.size + 1 < BB) (h2 : Wb < BB) (hb : Below BB w3 w4) :
    w4.heap[w.heap.size]? = some oZ ∧ w4.heap[Wb]? = some oW ∧ w4.ownsRow LB 9 1 (.slice (some ⟨g, 0, none⟩) m c) m xs ∧ Below w.heap.size w w4 :=
  ⟨(hb.block _ (by omega)).trans hZ, (hb.block _ h2).trans hW, own_far hL (fun g' hg' => by cases hg'; exact hg) hb, hB.trans (hb.mono (by omega))⟩
theorem three_set {w w4 : World} {oZ oW : Obj} {Wb LB g m c j : Nat} {xs : List Value} {v : Value} (h : w4.heap[w.heap.size]? = some oZ ∧ w4.heap[Wb]? = some oW ∧ w4.ownsRow LB 9 1 (.slice (some ⟨g, 0, none⟩) m c) m xs ∧ Below w.heap.size w w4) (h1 : w.heap.size + 1 < LB) (h2 : Wb ≠ w.heap.size + 1) :
    (w4.setCell ⟨w.heap.size + 1, j, none⟩ v).heap[w.heap.size]? = some oZ ∧ (w4.setCell ⟨w.heap.size + 1, j, none⟩ v).heap[Wb]? = some oW ∧ (w4.setCell ⟨w.heap.size + 1, j, none⟩ v).ownsRow LB 9 1 (.slice (some ⟨g, 0, none⟩) m c) m xs ∧ Below w.heap.size w (w4.setCell ⟨w.heap.size + 1, j, none⟩ v) :=
  ⟨by rw [Below.heap_setCell _ _ _ _ (by simp)]; exact h.1, by rw [Below.heap_setCell _ _ _ _ (by simpa using h2)]; exact h.2.1, ownsRow_setCell_below h.2.2.1 (by simpa using h1) _, h.2.2.2.setCell (by simp) _⟩
/-- The module that spec.ReadModule reads into: two rows in block M. -/
def ModAt (w : World) (M : Nat) (a1 : Option Addr) (n1 c1 : Nat) (a2 : Option Addr) (n2 c2 : Nat) : Prop := w.heap[M]? = some (Obj.cells #[.slice a1 n1 c1, .slice a2 n2 c2] 36 (0, 0))

theorem show_some {T : List ByteArray} {F : List Fn} (h : modB T F = true) : (showB T F).data.toList ≠ [] := by
  rw [showB_bytes]
  cases F with
  | nil => rw [modB_no (by simp)] at h; cases h
  | cons f F =>
    unfold items
    rw [bytes_app, List.flatMap_cons, bytes_app]
    have e : bytesOf (fItems f) ≠ [] := bytes_some _ _
    simp [e]

/-- The region with this number. -/
def findReg (n : Nat) : Code → Option Code
  | .region i o d => if i = n then some (.region i o d) else none
  | .seq a b => match findReg n a with
    | some c => some c
    | none => findReg n b
  | .block _ c => findReg n c
  | .loop c => findReg n c
  | .scope c => findReg n c
  | .cond _ a b => match findReg n a with
    | some c => some c
    | none => findReg n b
  | _ => none
noncomputable def reg26 : Code := (Tryd.f14.body.bind (findReg 26)).getD .skip

set_option maxRecDepth 100000 in
set_option maxHeartbeats 100000000 in
theorem reg26_any {Q : Exit → Act → World → Prop} (q0 q1 q2 q3 q5 q6 q7 q8 q9 q10 q11 q12 q13 q15 q16 q17 q19 q20 q21 q22 q23 q24 q25 q26 q27 q28 q29 q30 q31 q32 q33 q34 q35 q36 q37 q38 q39 q40 q41 q42 q43 q44 q45 q46 q47 q48 q49 q50 q51 q52 q53 q54 q55 q56 q57 q58 q59 q60 q61 q62 q63 q64 q65 q66 q67 q68 q69 q70 q71 q72 q73 q74 q75 q76 q77 q78 q79 q80 q81 q82 q83 q84 q85 q86 q87 q88 q89 q90 q91 q92 q93 q94 q95 q96 q97 q98 q99 q100 q101 q102 q103 q104 q105 q106 q107 q108 q109 q110 q111 q112 q113 q114 q115 q116 q117 q118 q119 q120 q121 q122 q123 q124 q125 q126 q127 q128 q129 q130 q131 q132 q133 q134 q135 q136 q137 q138 q139 q140 q141 q142 q143 q144 q145 q146 q147 q148 q149 q150 q151 q152 q153 q154 q155 q156 q157 q158 q159 q160 q161 q162 q163 q164 q165 q166 q167 q168 q169 q170 q171 q172 q173 q174 q175 q176 q177 q178 q179 q180 q181 q182 q183 : Value) (s : ByteArray) (ts : List ByteArray) (fs0 : List Fn) (f : Fn) (cs0 : List (Option Addr × Nat)) (cz : Option Addr × Nat) (a1 : Option Addr) (c1 g2 c2 : Nat) (op av : Int) (g cl ln : Nat) (lx : List Value) (w w1 wA w3 w6 : World)
    (HSTEP : Hid (Step s ts (fs0 ++ [f]) ts (fs0 ++ [⟨f.params, f.locals, f.code ++ [(op, av)]⟩]))) (HX6 : Hid (w6.heap[w3.heap.size]? = some (.cells #[.int .i64 op, .int .i64 av] 25 (0, 0)))) (HQ6 : Hid (Below w3.heap.size w3 w6))
    (Hm3 : Hid (ModOwn w3 (w1.heap.size + 1) a1 c1 (some ⟨g2, 0, none⟩) c2 ts (fs0 ++ [f]) (cs0 ++ [cz]))) (HMM : Hid (w3.heap[w.heap.size + 1]? = some (Obj.cells #[.slice a1 ts.length c1, .slice (some ⟨g2, 0, none⟩) (fs0.length + 1) c2] 36 (0, 0)))) (hbg : w1.heap.size + 1 ≤ g2)
    (hfc : f.code.length ≤ 120) (h12' : fs0.length + 1 ≤ 12) (h20 : ts.length ≤ 20) (HSZ : Hid (∀ t ∈ ts, t.size ≤ 1048576)) (H120 : Hid (∀ f' ∈ fs0 ++ [f], f'.code.length ≤ 120)) (hwm : w.heap.size + 2 ≤ w1.heap.size)
    (HZ3 : Hid (w3.heap[w.heap.size]? = some (.cells #[.slice none 0 0, .slice none 0 0] 36 (0, 0)))) (HW3 : Hid (w3.heap[w1.heap.size]? = some (.cells (words.map Value.string).toArray 9 (0, 0)))) (HL3 : Hid (w3.ownsRow wA.heap.size 9 1 (.slice (some ⟨g, 0, none⟩) ln cl) ln lx)) (HGL : Hid (g < w1.heap.size + 1)) (HB3 : Hid (Below w.heap.size w w3)) (hz3 : w1.heap.size + 1 ≤ w3.heap.size)
    (hP : ∀ c a w' (d : Nat) v, Q (.panic c) (Act.put a (some d) v) w' → Q (.panic c) a w') (hQ : ∀ (v130 v131 v132 v133 v134 v135 v136 v137 v138 v139 v140 v141 v142 v143 : Value) (w5 : World), Came s ts (fs0 ++ [f]) (w1.heap.size + 1) w1.heap.size wA.heap.size (.slice (some ⟨g, 0, none⟩) ln cl) ln lx w w5 → Q .normal ⟨#[q0, q1, q2, q3, .pointer (some ⟨w.heap.size + 1, 0, none⟩), q5, q6, q7, q8, q9, q10, q11, q12, q13, .pointer (some ⟨w3.heap.size, 0, none⟩), q15, q16, q17, .int .i64 (fs0.length : Int), q19, q20, q21, q22, q23, q24, q25, q26, q27, q28, q29, q30, q31, q32, q33, q34, q35, q36, q37, q38, q39, q40, q41, q42, q43, q44, q45, q46, q47, q48, q49, q50, q51, q52, q53, q54, q55, q56, q57, q58, q59, q60, q61, q62, q63, q64, q65, q66, q67, q68, q69, q70, q71, q72, q73, q74, q75, q76, q77, q78, q79, q80, q81, q82, q83, q84, q85, q86, q87, q88, q89, q90, q91, q92, q93, q94, q95, q96, q97, q98, q99, q100, q101, q102, q103, q104, q105, q106, q107, q108, q109, q110, q111, q112, q113, q114, q115, q116, q117, q118, q119, q120, q121, q122, q123, q124, q125, q126, q127, q128, q129, v130, v131, v132, v133, v134, v135, v136, v137, v138, v139, v140, v141, v142, v143, q144, q145, q146, q147, q148, q149, q150, q151, q152, q153, q154, q155, q156, q157, q158, q159, q160, q161, q162, q163, q164, q165, q166, q167, q168, q169, q170, q171, q172, q173, q174, q175, q176, q177, q178, q179, q180, q181, q182, q183], []⟩ w5) :
    Code.wp Tryd.prog reg26 Q ⟨#[q0, q1, q2, q3, .pointer (some ⟨w.heap.size + 1, 0, none⟩), q5, q6, q7, q8, q9, q10, q11, q12, q13, .pointer (some ⟨w3.heap.size, 0, none⟩), q15, q16, q17, .int .i64 (fs0.length : Int), q19, q20, q21, q22, q23, q24, q25, q26, q27, q28, q29, q30, q31, q32, q33, q34, q35, q36, q37, q38, q39, q40, q41, q42, q43, q44, q45, q46, q47, q48, q49, q50, q51, q52, q53, q54, q55, q56, q57, q58, q59, q60, q61, q62, q63, q64, q65, q66, q67, q68, q69, q70, q71, q72, q73, q74, q75, q76, q77, q78, q79, q80, q81, q82, q83, q84, q85, q86, q87, q88, q89, q90, q91, q92, q93, q94, q95, q96, q97, q98, q99, q100, q101, q102, q103, q104, q105, q106, q107, q108, q109, q110, q111, q112, q113, q114, q115, q116, q117, q118, q119, q120, q121, q122, q123, q124, q125, q126, q127, q128, q129, q130, q131, q132, q133, q134, q135, q136, q137, q138, q139, q140, q141, q142, q143, q144, q145, q146, q147, q148, q149, q150, q151, q152, q153, q154, q155, q156, q157, q158, q159, q160, q161, q162, q163, q164, q165, q166, q167, q168, q169, q170, q171, q172, q173, q174, q175, q176, q177, q178, q179, q180, q181, q182, q183], []⟩ w6 := by
  obtain ⟨i2, hi2, hz20, hz21, hz22⟩ := info_parts info25c
  conv => arg 2; whnf
  have hwr2 : IntKind.i64.wrap (fs0.length : Int) = (fs0.length : Int) := by rw [IntKind.wrap_i64]; omega
  have Hm6 := hid (Hm3.out.below HQ6.out)
  have hM6 := block_kept HMM.out HQ6.out
  have rc6 := block_cell hM6
  have hz6 : w1.heap.size + 1 ≤ w6.heap.size := Nat.le_trans hz3 HQ6.out.size
  obtain ⟨_, e6, -, -, hcl, -⟩ := own_put Hm6.out.funcs (fs0.length * 3 + 2) (by simp; omega)
  cases e6
  have HL0 : Hid (fs0.length = cs0.length) := by
    have := Hm6.out.codes.len
    simp only [List.length_append, List.length_cons, List.length_nil] at this
    show fs0.length = cs0.length
    omega
  have hc6 : w6.cell? ⟨g2, fs0.length * 3 + 2, none⟩ = some (.slice cz.1 f.code.length cz.2) := by
    rw [hcl, fnVals_snoc HL0.out, List.getElem?_append_right (by rw [fnVals_len HL0.out]; omega), fnVals_len HL0.out]
    have e9 : fs0.length * 3 + 2 - fs0.length * 3 = 2 := by omega
    rw [e9]; rfl
  have hcown : w6.ownsRow (w1.heap.size + 1) 25 2 (.slice cz.1 f.code.length cz.2) f.code.length (codeVals f.code) := by
    have hl0 := HL0.out
    have := Hm6.out.codes.own fs0.length (by simp) (by simp [hl0])
    have e2 : (cs0 ++ [cz])[fs0.length]'(by simp [hl0]) = cz := by simp [hl0]
    have e3 : (fs0 ++ [f])[fs0.length]'(by simp) = f := by simp
    rw [e2, e3] at this
    exact this
  have x6 := block_cell HX6.out
  have hcA : (w6.alloc (.cells #[.int .i64 op, .int .i64 av] 25)).cell? ⟨g2, fs0.length * 3 + 2, none⟩ = some (.slice cz.1 f.code.length cz.2) := cell_later ((Below.refl _ _).alloc (Nat.le_refl _) _) hc6
  have rcA := block_cell (block_old hM6 (.cells #[.int .i64 op, .int .i64 av] 25))
  clear hcl
  have hlt9 : (fs0.length : Int) < (fs0.length : Int) + 1 := by omega
  have xA := block_cell (block_old HX6.out (.cells #[.int .i64 op, .int .i64 av] 25))
  have hhV : (fun w' => w'.cell? ⟨w.heap.size + 1, 1, none⟩ = some (.slice (some ⟨g2, 0, none⟩) (fs0.length + 1) c2)) w6.drew := (rc6 1).trans rfl
  have hhX : (fun w' => w'.cell? ⟨g2, fs0.length * 3 + 2, none⟩ = some (.slice cz.1 f.code.length cz.2) ∧ w'.cell? ⟨w3.heap.size, 0, none⟩ = some (.int .i64 op) ∧ w'.cell? ⟨w3.heap.size, 1, none⟩ = some (.int .i64 av)) w6.drew := ⟨hc6, (x6 0).trans rfl, (x6 1).trans rfl⟩
  have hownA := World.ownsRow.drew (World.ownsRow.alloc hcown (.cells #[.int .i64 op, .int .i64 av] 25))
  refine wp_region_T (Two (fun w' => w'.cell? ⟨w.heap.size + 1, 1, none⟩ = some (.slice (some ⟨g2, 0, none⟩) (fs0.length + 1) c2)) (fun w' => w'.cell? ⟨g2, fs0.length * 3 + 2, none⟩ = some (.slice cz.1 f.code.length cz.2) ∧ w'.cell? ⟨w3.heap.size, 0, none⟩ = some (.int .i64 op) ∧ w'.cell? ⟨w3.heap.size, 1, none⟩ = some (.int .i64 av)) [12, 13, 14] [11, 12, 13, 14]) (by kernel_rfl) ?_
  refine wpAnyT_take (i := 0) (fun w' => w'.cell? ⟨w.heap.size + 1, 1, none⟩ = some (.slice (some ⟨g2, 0, none⟩) (fs0.length + 1) c2)) [1, 12, 13, 14] (oi := _) (v := ?_) rfl (by kernel_rfl) (by kernel_rfl) (by kernel_rfl) (by kernel_rfl) (fun _ _ _ h => hP _ _ _ _ _ h) (by kernel_rfl) (Two.same 0) (Two.left (by decide)) ?_ hhV ?_
  rotate_left
  · intro w' hSw
    have s0 := hSw
    go_simp
    try with_reducible rfl
  simp only [Act.put, List.setIfInBounds_toArray]
  refine wpAnyT_take (i := 1) (fun w' => w'.cell? ⟨w.heap.size + 1, 1, none⟩ = some (.slice (some ⟨g2, 0, none⟩) (fs0.length + 1) c2)) [12, 13, 14] (oi := _) (v := ?_) rfl (by kernel_rfl) (by kernel_rfl) (by kernel_rfl) (by kernel_rfl) (fun _ _ _ h => hP _ _ _ _ _ h) (by kernel_rfl) (Two.same 1) (Two.left (by decide)) ?_ hhV ?_
  rotate_left
  · intro w' hSw
    have s0 := hSw
    go_simp
    try with_reducible rfl
  simp only [Act.put]
  refine wpAnyT_take (i := 2) (fun w' => w'.cell? ⟨w.heap.size + 1, 1, none⟩ = some (.slice (some ⟨g2, 0, none⟩) (fs0.length + 1) c2)) [12, 13, 14] (oi := _) (v := ?_) rfl (by kernel_rfl) (by kernel_rfl) (by kernel_rfl) (by kernel_rfl) (fun _ _ _ h => hP _ _ _ _ _ h) (by kernel_rfl) (Two.same 2) (Two.left (by decide)) ?_ hhV ?_
  rotate_left
  · intro w' hSw
    have s0 := hSw
    go_simp
    try with_reducible rfl
  simp only [Act.put]
  refine wpAnyT_take (i := 3) (fun w' => w'.cell? ⟨w.heap.size + 1, 1, none⟩ = some (.slice (some ⟨g2, 0, none⟩) (fs0.length + 1) c2)) [4, 6, 7, 8, 11, 12, 13, 14] (oi := _) (v := ?_) rfl (by kernel_rfl) (by kernel_rfl) (by kernel_rfl) (by kernel_rfl) (fun _ _ _ h => hP _ _ _ _ _ h) (by kernel_rfl) (Two.same 3) (Two.left (by decide)) ?_ hhV ?_
  rotate_left
  · intro w' hSw
    have s0 := hSw
    go_simp
    try with_reducible rfl
  simp only [Act.put]
  refine wpAnyT_take (i := 4) (fun w' => w'.cell? ⟨w.heap.size + 1, 1, none⟩ = some (.slice (some ⟨g2, 0, none⟩) (fs0.length + 1) c2)) [6, 7, 8, 11, 12, 13, 14] (oi := _) (v := ?_) rfl (by kernel_rfl) (by kernel_rfl) (by kernel_rfl) (by kernel_rfl) (fun _ _ _ h => hP _ _ _ _ _ h) (by kernel_rfl) (Two.same 4) (Two.left (by decide)) ?_ hhV ?_
  rotate_left
  · intro w' hSw
    have s0 := hSw
    go_simp
    try with_reducible rfl
  simp only [Act.put]
  refine wpAnyT_take (i := 5) (fun w' => w'.cell? ⟨w.heap.size + 1, 1, none⟩ = some (.slice (some ⟨g2, 0, none⟩) (fs0.length + 1) c2)) [6, 7, 8, 11, 12, 13, 14] (oi := _) (v := ?_) rfl (by kernel_rfl) (by kernel_rfl) (by kernel_rfl) (by kernel_rfl) (fun _ _ _ h => hP _ _ _ _ _ h) (by kernel_rfl) (Two.same 5) (Two.left (by decide)) ?_ hhV ?_
  rotate_left
  · intro w' hSw
    have s0 := hSw
    go_simp
    try with_reducible rfl
  simp only [Act.put]
  refine wpAnyT_take (i := 6) (fun w' => w'.cell? ⟨w.heap.size + 1, 1, none⟩ = some (.slice (some ⟨g2, 0, none⟩) (fs0.length + 1) c2)) [7, 8, 11, 12, 13, 14] (oi := _) (v := ?_) rfl (by kernel_rfl) (by kernel_rfl) (by kernel_rfl) (by kernel_rfl) (fun _ _ _ h => hP _ _ _ _ _ h) (by kernel_rfl) (Two.same 6) (Two.left (by decide)) ?_ hhV ?_
  rotate_left
  · intro w' hSw
    have s0 := hSw
    go_simp
    try with_reducible rfl
  simp only [Act.put]
  refine wpAnyT_take (i := 7) (fun w' => w'.cell? ⟨w.heap.size + 1, 1, none⟩ = some (.slice (some ⟨g2, 0, none⟩) (fs0.length + 1) c2)) [8, 11, 12, 13, 14] (oi := _) (v := ?_) rfl (by kernel_rfl) (by kernel_rfl) (by kernel_rfl) (by kernel_rfl) (fun _ _ _ h => hP _ _ _ _ _ h) (by kernel_rfl) (Two.same 7) (Two.left (by decide)) ?_ hhV ?_
  rotate_left
  · intro w' hSw
    have s0 := hSw
    go_simp
    try with_reducible rfl
  simp only [Act.put]
  refine wpAnyT_take (i := 8) (fun w' => w'.cell? ⟨g2, fs0.length * 3 + 2, none⟩ = some (.slice cz.1 f.code.length cz.2) ∧ w'.cell? ⟨w3.heap.size, 0, none⟩ = some (.int .i64 op) ∧ w'.cell? ⟨w3.heap.size, 1, none⟩ = some (.int .i64 av)) [11, 12, 13, 14] (oi := _) (v := ?_) rfl (by kernel_rfl) (by kernel_rfl) (by kernel_rfl) (by kernel_rfl) (fun _ _ _ h => hP _ _ _ _ _ h) (by kernel_rfl) (Two.same 8) (Two.right (by decide)) ?_ hhX ?_
  rotate_left
  · intro w' hSw
    obtain ⟨s0, s1, s2⟩ := hSw
    go_simp
    try with_reducible rfl
  simp only [Act.put]
  refine wpAnyT_take (i := 9) (fun w' => w'.cell? ⟨g2, fs0.length * 3 + 2, none⟩ = some (.slice cz.1 f.code.length cz.2) ∧ w'.cell? ⟨w3.heap.size, 0, none⟩ = some (.int .i64 op) ∧ w'.cell? ⟨w3.heap.size, 1, none⟩ = some (.int .i64 av)) [10, 11, 12, 13, 14] (oi := _) (v := ?_) rfl (by kernel_rfl) (by kernel_rfl) (by kernel_rfl) (by kernel_rfl) (fun _ _ _ h => hP _ _ _ _ _ h) (by kernel_rfl) (Two.same 9) (Two.right (by decide)) ?_ hhX ?_
  rotate_left
  · intro w' hSw
    obtain ⟨s0, s1, s2⟩ := hSw
    go_simp
    try with_reducible rfl
  simp only [Act.put]
  clear hhV hhX
  refine wpAnyT_one (i := 10) (o := _) (by kernel_rfl) rfl (fun K hK => ?_)
  go_simp
  refine hK.out _ _ (⟨fun _ _ => (rcA 1).trans rfl, fun _ _ => ⟨hcA, (xA 0).trans rfl, (xA 1).trans rfl⟩⟩) ?_
  clear hK K
  refine wpAnyT_one (i := 11) (o := _) (by kernel_rfl) rfl (fun K hK => ?_)
  refine step_append_lies _ (by rfl) _ _ _ (by rfl) (w1.heap.size + 1) 25 i2 (.agg #[.int .i64 0, .int .i64 0]) 2 16 Tryd.underlying53 hi2 hz20 hz21 hz22 rfl (by decide) _ _ _ (by rfl) hownA ⟨w6.heap.size, 0, none⟩ 1 1 [.int .i64 op, .int .i64 av] (by rfl) (by rfl) (World.news_of_block (cs := #[.int .i64 op, .int .i64 av]) (t := 25) (fr := (0, 0)) (by exact heap_alloc_new w6 _)) (by simp [Value.oneCell']) (by decide) (by unfold maxLen; omega) (by omega) (by simp; omega) (w6.heap.size + 1) (by simp) ?_
  intro g4 cp w7 hown7 hgrow7' hat7 hlt7
  have hgrow7 : (w6.alloc (.cells #[.int .i64 op, .int .i64 av] 25)).grownBy w7 (Value.slice cz.1 f.code.length cz.2).ownBlock := ⟨hgrow7'.os, hgrow7'.tape, hgrow7'.output, hgrow7'.size, hgrow7'.block⟩
  clear hgrow7'
  have hk7 : Keeps (w1.heap.size + 1) [25] (w6.alloc (.cells #[.int .i64 op, .int .i64 av] 25)) w7 := Keeps.grown (World.ownsRow.alloc hcown _) hgrow7 (by simp)
  have hf7 := own_keeps (World.ownsRow.alloc Hm6.out.funcs _) hk7 (by simp)
  obtain ⟨_, e7, -, hfz7, hcc7, ⟨u7, hu7⟩, -, -⟩ := own_put hf7 (fs0.length * 3 + 2) (by simp; omega)
  cases e7
  rw [hu7] at hcc7
  clear hf7 hu7
  have hM7 := grown_kept (World.ownsRow.alloc hcown (.cells #[.int .i64 op, .int .i64 av] 25)) (show w.heap.size + 1 < w1.heap.size + 1 by omega) (block_old hM6 (.cells #[.int .i64 op, .int .i64 av] 25)) hgrow7
  have rc7 := block_cell hM7
  refine hK.out _ _ (⟨fun _ _ => (rc7 1).trans rfl, fun h => absurd (by decide) h⟩) ?_
  clear hK K
  simp only [Act.put, List.setIfInBounds_toArray]
  refine wpAnyT_one (i := 12) (o := _) (by kernel_rfl) rfl (fun K hK => ?_)
  go_simp
  refine hK.out _ _ (⟨fun h => absurd (by decide) h, fun h => absurd (by decide) h⟩) ?_
  clear hK K
  refine wpAnyT_one (i := 13) (o := _) (by kernel_rfl) rfl (fun K hK => ?_)
  go_simp
  refine hK.out _ _ (⟨fun h => absurd (by decide) h, fun h => absurd (by decide) h⟩) ?_
  clear hK K
  refine wpAnyT_one (i := 14) (o := _) (by kernel_rfl) rfl (fun K hK => ?_)
  go_simp
  refine hK.out _ _ (⟨fun h => absurd (by decide) h, fun h => absurd (by decide) h⟩) ?_
  clear hK K
  refine wpAnyT_done (by kernel_rfl) ?_ _
  have hbA : Below w6.heap.size w6 (w6.alloc (.cells #[.int .i64 op, .int .i64 av] 25)) := (Below.refl _ _).alloc (Nat.le_refl _) _
  have hmA := Hm6.out.below hbA
  have hown8 : w7.ownsRow (w1.heap.size + 1) 25 2 (.slice (some ⟨g4, 0, none⟩) (f.code.length + 1) cp) (f.code.length + 1) (codeVals (f.code ++ [(op, av)])) := by
    have e : codeVals (f.code ++ [(op, av)]) = codeVals f.code ++ [.int .i64 op, .int .i64 av] := by simp [codeVals]
    rw [e]
    exact hown7
  have hm8 := ModOwn.addIns hmA hgrow7 hown8 (by
    rcases hat7 with h | h
    · exact .inl h
    · exact .inr (by simp; omega))
  have hb8 : Below (w1.heap.size + 1) w3 (w7.setCell ⟨g2, fs0.length * 3 + 2, none⟩ (.slice (some ⟨g4, 0, none⟩) (f.code.length + 1) cp)) := (((HQ6.out.mono hz3).trans (hbA.mono hz6)).trans (hk7.toBelow (by simp; omega))).setCell hbg _
  have hk8 := three_kept HZ3.out HW3.out HL3.out HGL.out HB3.out (show w.heap.size + 1 < w1.heap.size + 1 by omega) (Nat.lt_succ_self _) hb8
  have hM8 : (w7.setCell ⟨g2, fs0.length * 3 + 2, none⟩ (.slice (some ⟨g4, 0, none⟩) (f.code.length + 1) cp)).heap[w.heap.size + 1]? = some (Obj.cells #[.slice a1 ts.length c1, .slice (some ⟨g2, 0, none⟩) (List.length (fs0 ++ [(⟨f.params, f.locals, f.code ++ [(op, av)]⟩ : Fn)])) c2] 36 (0, 0)) := by
    have e : List.length (fs0 ++ [(⟨f.params, f.locals, f.code ++ [(op, av)]⟩ : Fn)]) = fs0.length + 1 := by simp
    rw [e, hb8.block _ (show w.heap.size + 1 < w1.heap.size + 1 by omega)]
    exact HMM.out
  have HEND : Hid (Came s ts (fs0 ++ [f]) (w1.heap.size + 1) w1.heap.size wA.heap.size (.slice (some ⟨g, 0, none⟩) ln cl) ln lx w (w7.setCell ⟨g2, fs0.length * 3 + 2, none⟩ (.slice (some ⟨g4, 0, none⟩) (f.code.length + 1) cp))) :=
    ⟨ts, _, _, _, _, _, _, hM8, hm8, HSTEP.out, HSZ.out, fun j hj hj2 => by
      have hjf : j < fs0.length := by simp at hj2; omega
      rw [List.getElem_append_left hjf]; exact H120.out _ (List.mem_append_left _ (List.getElem_mem hjf)), by omega, by simp; omega, hk8.1, hk8.2.1, hk8.2.2.1, hk8.2.2.2⟩
  exact hQ _ _ _ _ _ _ _ _ _ _ _ _ _ _ _ HEND.out
end Go.Proofs.YtkclkgonihkhlaaDoor
