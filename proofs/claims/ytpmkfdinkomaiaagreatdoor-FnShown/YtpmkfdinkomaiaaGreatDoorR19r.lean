/-
  Region 26 of spec.ReadModule: an instruction comes to the last function.
-/
import Derived.Test.YtpmkfdinkomaiaaGreatDoorGQ17
import Derived.Test.YtpmkfdinkomaiaaGreatDoorU3
import Derived.Deep.DeepCutAuto
import Derived.Test.YtpmkfdinkomaiaaGreatDoorGQ7
import Derived.Deep.CutBlock
namespace Go.Proofs.YtpmkfdinkomaiaaGreatDoor
open Go.RowKit Go.Maps

theorem hid {p : Prop} (h : p) : Hid p := h
def opensB (s : ByteArray) : Bool := decide (6 < s.size) && (s.data.toList.take 6 == [116, 101, 120, 116, 32, 34])
theorem opensB_iff (s : ByteArray) : opensB s = true ↔ Opens s := by unfold opensB Opens; simp
def funcB (ws : List ByteArray) : Bool := match ws with | [a, _, _] => a.data.toList == [102, 117, 110, 99] | _ => false
theorem funcB_iff (ws : List ByteArray) : funcB ws = true ↔ ∃ x1 x2, ws = [funcT, x1, x2] := by
  constructor
  · intro h
    match ws, h with
    | [a, x1, x2], h =>
      have e : a.data.toList = [102, 117, 110, 99] := by simpa [funcB] using h
      exact ⟨x1, x2, by rw [show a = funcT from ByteArray.ext (by rw [← Array.toList_inj]; exact e)]⟩
  · rintro ⟨x1, x2, rfl⟩
    rfl
theorem ext_list (s : ByteArray) (a b : Nat) : (s.extract a b).data.toList = (s.data.toList.drop a).take (b - a) := by rw [← extract_toList]
theorem ext6 (s : ByteArray) : (s.extract 0 6).toList = s.data.toList.take 6 := by rw [ByteArray.toList_eq, ext_list]; simp

theorem codes_all {fs : List Fn} {lc : Nat} (h0 : ¬ fs.length = 0) (h : ∀ j (hj : j < fs.length), j + 1 < fs.length → fs[j].code.length ≤ 120) (hl : lc = (fs[fs.length - 1]'(by omega)).code.length) (ht : ¬ 120 < lc) : ∀ f ∈ fs, f.code.length ≤ 120 := by
  intro f hf
  obtain ⟨j, hj, rfl⟩ := List.getElem_of_mem hf
  by_cases e : j + 1 < fs.length
  · exact h j hj e
  · obtain rfl : j = fs.length - 1 := by omega
    omega
/-- What one line has come to. -/
def Came (s : ByteArray) (ts : List ByteArray) (fs : List Fn) (BB Wb LB : Nat) (lv : Value) (ln : Nat) (lx : List Value) (w w5 : World) : Prop :=
  ∃ ts' fs' cs' b1 d1 b2 d2, w5.heap[w.heap.size + 1]? = some (Obj.cells #[.slice b1 (List.length ts') d1, .slice b2 (List.length fs') d2] 27 (0, 0)) ∧ ModOwn w5 BB b1 d1 b2 d2 ts' fs' cs' ∧ Step s ts fs ts' fs' ∧ (∀ t ∈ ts', t.size ≤ 1048576) ∧ (∀ j (h : j < fs'.length), j + 1 < fs'.length → fs'[j].code.length ≤ 120) ∧ ts'.length ≤ 21 ∧ fs'.length ≤ 13 ∧ w5.heap[w.heap.size]? = some (.cells #[.slice none 0 0, .slice none 0 0] 27 (0, 0)) ∧ w5.heap[Wb]? = some (.cells (words.map Value.string).toArray 9 (0, 0)) ∧ w5.ownsRow LB 9 1 lv ln lx ∧ Below w.heap.size w w5
theorem three_kept {w w3 w4 : World} {oZ oW : Obj} {Wb LB BB g m c : Nat} {xs : List Value} (hZ : w3.heap[w.heap.size]? = some oZ) (hW : w3.heap[Wb]? = some oW) (hL : w3.ownsRow LB 9 1 (.slice (some ⟨g, 0, none⟩) m c) m xs) (hg : g < BB) (hB : Below w.heap.size w w3) (h1 : w.heap.size + 1 < BB) (h2 : Wb < BB) (hb : Below BB w3 w4) :
    w4.heap[w.heap.size]? = some oZ ∧ w4.heap[Wb]? = some oW ∧ w4.ownsRow LB 9 1 (.slice (some ⟨g, 0, none⟩) m c) m xs ∧ Below w.heap.size w w4 :=
  ⟨(hb.block _ (by omega)).trans hZ, (hb.block _ h2).trans hW, own_far hL (fun g' hg' => by cases hg'; exact hg) hb, hB.trans (hb.mono (by omega))⟩
theorem three_set {w w4 : World} {oZ oW : Obj} {Wb LB g m c j : Nat} {xs : List Value} {v : Value} (h : w4.heap[w.heap.size]? = some oZ ∧ w4.heap[Wb]? = some oW ∧ w4.ownsRow LB 9 1 (.slice (some ⟨g, 0, none⟩) m c) m xs ∧ Below w.heap.size w w4) (h1 : w.heap.size + 1 < LB) (h2 : Wb ≠ w.heap.size + 1) :
    (w4.setCell ⟨w.heap.size + 1, j, none⟩ v).heap[w.heap.size]? = some oZ ∧ (w4.setCell ⟨w.heap.size + 1, j, none⟩ v).heap[Wb]? = some oW ∧ (w4.setCell ⟨w.heap.size + 1, j, none⟩ v).ownsRow LB 9 1 (.slice (some ⟨g, 0, none⟩) m c) m xs ∧ Below w.heap.size w (w4.setCell ⟨w.heap.size + 1, j, none⟩ v) :=
  ⟨by rw [Below.heap_setCell _ _ _ _ (by simp)]; exact h.1, by rw [Below.heap_setCell _ _ _ _ (by simpa using h2)]; exact h.2.1, ownsRow_setCell_below h.2.2.1 (by simpa using h1) _, h.2.2.2.setCell (by simp) _⟩
/-- The module that spec.ReadModule reads into: two rows in block M. -/
def ModAt (w : World) (M : Nat) (a1 : Option Addr) (n1 c1 : Nat) (a2 : Option Addr) (n2 c2 : Nat) : Prop := w.heap[M]? = some (Obj.cells #[.slice a1 n1 c1, .slice a2 n2 c2] 27 (0, 0))

theorem show_some {T : List ByteArray} {F : List Fn} (h : modB T F = true) : (showB T F).data.toList ≠ [] := by
  rw [showB_bytes]
  cases F with
  | nil => rw [modB_no (by simp)] at h; cases h
  | cons f F =>
    unfold items
    rw [bytes_app, List.flatMap_cons, bytes_app]
    have e : bytesOf (fItems f) ≠ [] := bytes_some _ _
    simp [e]

/-- The region with this number. -/
def findReg (n : Nat) : Code → Option Code
  | .region i o d => if i = n then some (.region i o d) else none
  | .seq a b => match findReg n a with
    | some c => some c
    | none => findReg n b
  | .block _ c => findReg n c
  | .loop c => findReg n c
  | .scope c => findReg n c
  | .cond _ a b => match findReg n a with
    | some c => some c
    | none => findReg n b
  | _ => none
noncomputable def reg26 : Code := (Tryz.f12.body.bind (findReg 26)).getD .skip

set_option maxRecDepth 100000 in
set_option maxHeartbeats 100000000 in
theorem reg26_any {Q : Exit → Act → World → Prop} (q0 q1 q2 q3 q5 q6 q7 q8 q9 q10 q11 q12 q13 q15 q16 q17 q19 q20 q21 q22 q23 q24 q25 q26 q27 q28 q29 q30 q31 q32 q33 q34 q35 q36 q37 q38 q39 q40 q41 q42 q43 q44 q45 q46 q47 q48 q49 q50 q51 q52 q53 q54 q55 q56 q57 q58 q59 q60 q61 q62 q63 q64 q65 q66 q67 q68 q69 q70 q71 q72 q73 q74 q75 q76 q77 q78 q79 q80 q81 q82 q83 q84 q85 q86 q87 q88 q89 q90 q91 q92 q93 q94 q95 q96 q97 q98 q99 q100 q101 q102 q103 q104 q105 q106 q107 q108 q109 q110 q111 q112 q113 q114 q115 q116 q117 q118 q119 q120 q121 q122 q123 q124 q125 q126 q127 q128 q129 q130 q131 q132 q133 q134 q135 q136 q137 q138 q139 q140 q141 q142 q143 q144 q145 q146 q147 q148 q149 q150 q151 q152 q153 q154 q155 q156 q157 q158 q159 q160 q161 q162 q163 q164 q165 q166 q167 q168 q169 q170 q171 q172 q173 q174 q175 q176 q177 q178 q179 q180 q181 q182 q183 : Value) (s : ByteArray) (ts : List ByteArray) (fs0 : List Fn) (f : Fn) (cs0 : List (Option Addr × Nat)) (cz : Option Addr × Nat) (a1 : Option Addr) (c1 g2 c2 : Nat) (op av : Int) (g cl ln : Nat) (lx : List Value) (w w1 wA w3 w6 : World)
    (HSTEP : Hid (Step s ts (fs0 ++ [f]) ts (fs0 ++ [⟨f.params, f.locals, f.code ++ [(op, av)]⟩]))) (HX6 : Hid (w6.heap[w3.heap.size]? = some (.cells #[.int .i64 op, .int .i64 av] 51 (0, 0)))) (HQ6 : Hid (Below w3.heap.size w3 w6))
    (Hm3 : Hid (ModOwn w3 (w1.heap.size + 1) a1 c1 (some ⟨g2, 0, none⟩) c2 ts (fs0 ++ [f]) (cs0 ++ [cz]))) (HMM : Hid (w3.heap[w.heap.size + 1]? = some (Obj.cells #[.slice a1 ts.length c1, .slice (some ⟨g2, 0, none⟩) (fs0.length + 1) c2] 27 (0, 0)))) (hbg : w1.heap.size + 1 ≤ g2)
    (hfc : f.code.length ≤ 120) (h12' : fs0.length + 1 ≤ 12) (h20 : ts.length ≤ 20) (HSZ : Hid (∀ t ∈ ts, t.size ≤ 1048576)) (H120 : Hid (∀ f' ∈ fs0 ++ [f], f'.code.length ≤ 120)) (hwm : w.heap.size + 2 ≤ w1.heap.size)
    (HZ3 : Hid (w3.heap[w.heap.size]? = some (.cells #[.slice none 0 0, .slice none 0 0] 27 (0, 0)))) (HW3 : Hid (w3.heap[w1.heap.size]? = some (.cells (words.map Value.string).toArray 9 (0, 0)))) (HL3 : Hid (w3.ownsRow wA.heap.size 9 1 (.slice (some ⟨g, 0, none⟩) ln cl) ln lx)) (HGL : Hid (g < w1.heap.size + 1)) (HB3 : Hid (Below w.heap.size w w3)) (hz3 : w1.heap.size + 1 ≤ w3.heap.size)
    (hP : ∀ c a w' (d : Nat) v, Q (.panic c) (Act.put a (some d) v) w' → Q (.panic c) a w') (hQ : ∀ (v130 v131 v132 v133 v134 v135 v136 v137 v138 v139 v140 v141 v142 v143 : Value) (w5 : World), Came s ts (fs0 ++ [f]) (w1.heap.size + 1) w1.heap.size wA.heap.size (.slice (some ⟨g, 0, none⟩) ln cl) ln lx w w5 → Q .normal ⟨#[q0, q1, q2, q3, .pointer (some ⟨w.heap.size + 1, 0, none⟩), q5, q6, q7, q8, q9, q10, q11, q12, q13, .pointer (some ⟨w3.heap.size, 0, none⟩), q15, q16, q17, .int .i64 (fs0.length : Int), q19, q20, q21, q22, q23, q24, q25, q26, q27, q28, q29, q30, q31, q32, q33, q34, q35, q36, q37, q38, q39, q40, q41, q42, q43, q44, q45, q46, q47, q48, q49, q50, q51, q52, q53, q54, q55, q56, q57, q58, q59, q60, q61, q62, q63, q64, q65, q66, q67, q68, q69, q70, q71, q72, q73, q74, q75, q76, q77, q78, q79, q80, q81, q82, q83, q84, q85, q86, q87, q88, q89, q90, q91, q92, q93, q94, q95, q96, q97, q98, q99, q100, q101, q102, q103, q104, q105, q106, q107, q108, q109, q110, q111, q112, q113, q114, q115, q116, q117, q118, q119, q120, q121, q122, q123, q124, q125, q126, q127, q128, q129, v130, v131, v132, v133, v134, v135, v136, v137, v138, v139, v140, v141, v142, v143, q144, q145, q146, q147, q148, q149, q150, q151, q152, q153, q154, q155, q156, q157, q158, q159, q160, q161, q162, q163, q164, q165, q166, q167, q168, q169, q170, q171, q172, q173, q174, q175, q176, q177, q178, q179, q180, q181, q182, q183], []⟩ w5) :
    Code.wp Tryz.prog reg26 Q ⟨#[q0, q1, q2, q3, .pointer (some ⟨w.heap.size + 1, 0, none⟩), q5, q6, q7, q8, q9, q10, q11, q12, q13, .pointer (some ⟨w3.heap.size, 0, none⟩), q15, q16, q17, .int .i64 (fs0.length : Int), q19, q20, q21, q22, q23, q24, q25, q26, q27, q28, q29, q30, q31, q32, q33, q34, q35, q36, q37, q38, q39, q40, q41, q42, q43, q44, q45, q46, q47, q48, q49, q50, q51, q52, q53, q54, q55, q56, q57, q58, q59, q60, q61, q62, q63, q64, q65, q66, q67, q68, q69, q70, q71, q72, q73, q74, q75, q76, q77, q78, q79, q80, q81, q82, q83, q84, q85, q86, q87, q88, q89, q90, q91, q92, q93, q94, q95, q96, q97, q98, q99, q100, q101, q102, q103, q104, q105, q106, q107, q108, q109, q110, q111, q112, q113, q114, q115, q116, q117, q118, q119, q120, q121, q122, q123, q124, q125, q126, q127, q128, q129, q130, q131, q132, q133, q134, q135, q136, q137, q138, q139, q140, q141, q142, q143, q144, q145, q146, q147, q148, q149, q150, q151, q152, q153, q154, q155, q156, q157, q158, q159, q160, q161, q162, q163, q164, q165, q166, q167, q168, q169, q170, q171, q172, q173, q174, q175, q176, q177, q178, q179, q180, q181, q182, q183], []⟩ w6 := by
  obtain ⟨i2, hi2, hz20, hz21, hz22⟩ := info_parts info25c
  conv => arg 2; whnf
  have hwr2 : IntKind.i64.wrap (fs0.length : Int) = (fs0.length : Int) := by rw [IntKind.wrap_i64]; omega
  have Hm6 := hid (Hm3.out.below HQ6.out)
  have hM6 := block_kept HMM.out HQ6.out
  have rc6 := block_cell hM6
  have hz6 : w1.heap.size + 1 ≤ w6.heap.size := Nat.le_trans hz3 HQ6.out.size
  obtain ⟨_, e6, -, -, hcl, -⟩ := own_put Hm6.out.funcs (fs0.length * 3 + 2) (by simp; omega)
  cases e6
  have HL0 : Hid (fs0.length = cs0.length) := by
    have := Hm6.out.codes.len
    simp only [List.length_append, List.length_cons, List.length_nil] at this
    show fs0.length = cs0.length
    omega
  have hc6 : w6.cell? ⟨g2, fs0.length * 3 + 2, none⟩ = some (.slice cz.1 f.code.length cz.2) := by
    rw [hcl, fnVals_snoc HL0.out, List.getElem?_append_right (by rw [fnVals_len HL0.out]; omega), fnVals_len HL0.out]
    have e9 : fs0.length * 3 + 2 - fs0.length * 3 = 2 := by omega
    rw [e9]; rfl
  have hcown : w6.ownsRow (w1.heap.size + 1) 51 2 (.slice cz.1 f.code.length cz.2) f.code.length (codeVals f.code) := by
    have hl0 := HL0.out
    have := Hm6.out.codes.own fs0.length (by simp) (by simp [hl0])
    have e2 : (cs0 ++ [cz])[fs0.length]'(by simp [hl0]) = cz := by simp [hl0]
    have e3 : (fs0 ++ [f])[fs0.length]'(by simp) = f := by simp
    rw [e2, e3] at this
    exact this
  have x6 := block_cell HX6.out
  have hcA : (w6.alloc (.cells #[.int .i64 op, .int .i64 av] 51)).cell? ⟨g2, fs0.length * 3 + 2, none⟩ = some (.slice cz.1 f.code.length cz.2) := cell_later ((Below.refl _ _).alloc (Nat.le_refl _) _) hc6
  have rcA := block_cell (block_old hM6 (.cells #[.int .i64 op, .int .i64 av] 51))
  clear hcl
  have hlt9 : (fs0.length : Int) < (fs0.length : Int) + 1 := by omega
  have xA := block_cell (block_old HX6.out (.cells #[.int .i64 op, .int .i64 av] 51))
  have hhV : (fun w' => w'.cell? ⟨w.heap.size + 1, 1, none⟩ = some (.slice (some ⟨g2, 0, none⟩) (fs0.length + 1) c2)) w6.drew := (rc6 1).trans rfl
  have hhX : (fun w' => w'.cell? ⟨g2, fs0.length * 3 + 2, none⟩ = some (.slice cz.1 f.code.length cz.2) ∧ w'.cell? ⟨w3.heap.size, 0, none⟩ = some (.int .i64 op) ∧ w'.cell? ⟨w3.heap.size, 1, none⟩ = some (.int .i64 av)) w6.drew := ⟨hc6, (x6 0).trans rfl, (x6 1).trans rfl⟩
  have hownA := World.ownsRow.drew (World.ownsRow.alloc hcown (.cells #[.int .i64 op, .int .i64 av] 51))
  refine wp_region_T (Two (fun w' => w'.cell? ⟨w.heap.size + 1, 1, none⟩ = some (.slice (some ⟨g2, 0, none⟩) (fs0.length + 1) c2)) (fun w' => w'.cell? ⟨g2, fs0.length * 3 + 2, none⟩ = some (.slice cz.1 f.code.length cz.2) ∧ w'.cell? ⟨w3.heap.size, 0, none⟩ = some (.int .i64 op) ∧ w'.cell? ⟨w3.heap.size, 1, none⟩ = some (.int .i64 av)) [12, 13, 14] [11, 12, 13, 14]) (by kernel_rfl) ?_
  refine wpAnyT_take (i := 0) (fun w' => w'.cell? ⟨w.heap.size + 1, 1, none⟩ = some (.slice (some ⟨g2, 0, none⟩) (fs0.length + 1) c2)) [1, 12, 13, 14] (oi := _) (v := ?_) rfl (by kernel_rfl) (by kernel_rfl) (by kernel_rfl) (by kernel_rfl) (fun _ _ _ h => hP _ _ _ _ _ h) (by kernel_rfl) (Two.same 0) (Two.left (by decide)) ?_ hhV ?_
  rotate_left
  · intro w' hSw
    have s0 := hSw
    go_simp
    try with_reducible rfl
  simp only [Act.put, List.setIfInBounds_toArray]
  refine wpAnyT_take (i := 1) (fun w' => w'.cell? ⟨w.heap.size + 1, 1, none⟩ = some (.slice (some ⟨g2, 0, none⟩) (fs0.length + 1) c2)) [12, 13, 14] (oi := _) (v := ?_) rfl (by kernel_rfl) (by kernel_rfl) (by kernel_rfl) (by kernel_rfl) (fun _ _ _ h => hP _ _ _ _ _ h) (by kernel_rfl) (Two.same 1) (Two.left (by decide)) ?_ hhV ?_
  rotate_left
  · intro w' hSw
    have s0 := hSw
    go_simp
    try with_reducible rfl
  simp only [Act.put]
  refine wpAnyT_take (i := 2) (fun w' => w'.cell? ⟨w.heap.size + 1, 1, none⟩ = some (.slice (some ⟨g2, 0, none⟩) (fs0.length + 1) c2)) [12, 13, 14] (oi := _) (v := ?_) rfl (by kernel_rfl) (by kernel_rfl) (by kernel_rfl) (by kernel_rfl) (fun _ _ _ h => hP _ _ _ _ _ h) (by kernel_rfl) (Two.same 2) (Two.left (by decide)) ?_ hhV ?_
  rotate_left
  · intro w' hSw
    have s0 := hSw
    go_simp
    try with_reducible rfl
  simp only [Act.put]
  refine wpAnyT_take (i := 3) (fun w' => w'.cell? ⟨w.heap.size + 1, 1, none⟩ = some (.slice (some ⟨g2, 0, none⟩) (fs0.length + 1) c2)) [4, 6, 7, 8, 11, 12, 13, 14] (oi := _) (v := ?_) rfl (by kernel_rfl) (by kernel_rfl) (by kernel_rfl) (by kernel_rfl) (fun _ _ _ h => hP _ _ _ _ _ h) (by kernel_rfl) (Two.same 3) (Two.left (by decide)) ?_ hhV ?_
  rotate_left
  · intro w' hSw
    have s0 := hSw
    go_simp
    try with_reducible rfl
  simp only [Act.put]
  refine wpAnyT_take (i := 4) (fun w' => w'.cell? ⟨w.heap.size + 1, 1, none⟩ = some (.slice (some ⟨g2, 0, none⟩) (fs0.length + 1) c2)) [6, 7, 8, 11, 12, 13, 14] (oi := _) (v := ?_) rfl (by kernel_rfl) (by kernel_rfl) (by kernel_rfl) (by kernel_rfl) (fun _ _ _ h => hP _ _ _ _ _ h) (by kernel_rfl) (Two.same 4) (Two.left (by decide)) ?_ hhV ?_
  rotate_left
  · intro w' hSw
    have s0 := hSw
    go_simp
    try with_reducible rfl
  simp only [Act.put]
  refine wpAnyT_take (i := 5) (fun w' => w'.cell? ⟨w.heap.size + 1, 1, none⟩ = some (.slice (some ⟨g2, 0, none⟩) (fs0.length + 1) c2)) [6, 7, 8, 11, 12, 13, 14] (oi := _) (v := ?_) rfl (by kernel_rfl) (by kernel_rfl) (by kernel_rfl) (by kernel_rfl) (fun _ _ _ h => hP _ _ _ _ _ h) (by kernel_rfl) (Two.same 5) (Two.left (by decide)) ?_ hhV ?_
  rotate_left
  · intro w' hSw
    have s0 := hSw
    go_simp
    try with_reducible rfl
  simp only [Act.put]
  refine wpAnyT_take (i := 6) (fun w' => w'.cell? ⟨w.heap.size + 1, 1, none⟩ = some (.slice (some ⟨g2, 0, none⟩) (fs0.length + 1) c2)) [7, 8, 11, 12, 13, 14] (oi := _) (v := ?_) rfl (by kernel_rfl) (by kernel_rfl) (by kernel_rfl) (by kernel_rfl) (fun _ _ _ h => hP _ _ _ _ _ h) (by kernel_rfl) (Two.same 6) (Two.left (by decide)) ?_ hhV ?_
  rotate_left
  · intro w' hSw
    have s0 := hSw
    go_simp
    try with_reducible rfl
  simp only [Act.put]
  refine wpAnyT_take (i := 7) (fun w' => w'.cell? ⟨w.heap.size + 1, 1, none⟩ = some (.slice (some ⟨g2, 0, none⟩) (fs0.length + 1) c2)) [8, 11, 12, 13, 14] (oi := _) (v := ?_) rfl (by kernel_rfl) (by kernel_rfl) (by kernel_rfl) (by kernel_rfl) (fun _ _ _ h => hP _ _ _ _ _ h) (by kernel_rfl) (Two.same 7) (Two.left (by decide)) ?_ hhV ?_
  rotate_left
  · intro w' hSw
    have s0 := hSw
    go_simp
    try with_reducible rfl
  simp only [Act.put]
  refine wpAnyT_take (i := 8) (fun w' => w'.cell? ⟨g2, fs0.length * 3 + 2, none⟩ = some (.slice cz.1 f.code.length cz.2) ∧ w'.cell? ⟨w3.heap.size, 0, none⟩ = some (.int .i64 op) ∧ w'.cell? ⟨w3.heap.size, 1, none⟩ = some (.int .i64 av)) [11, 12, 13, 14] (oi := _) (v := ?_) rfl (by kernel_rfl) (by kernel_rfl) (by kernel_rfl) (by kernel_rfl) (fun _ _ _ h => hP _ _ _ _ _ h) (by kernel_rfl) (Two.same 8) (Two.right (by decide)) ?_ hhX ?_
  rotate_left
  · intro w' hSw
    obtain ⟨s0, s1, s2⟩ := hSw
    go_simp
    try with_reducible rfl
  simp only [Act.put]
  refine wpAnyT_take (i := 9) (fun w' => w'.cell? ⟨g2, fs0.length * 3 + 2, none⟩ = some (.slice cz.1 f.code.length cz.2) ∧ w'.cell? ⟨w3.heap.size, 0, none⟩ = some (.int .i64 op) ∧ w'.cell? ⟨w3.heap.size, 1, none⟩ = some (.int .i64 av)) [10, 11, 12, 13, 14] (oi := _) (v := ?_) rfl (by kernel_rfl) (by kernel_rfl) (by kernel_rfl) (by kernel_rfl) (fun _ _ _ h => hP _ _ _ _ _ h) (by kernel_rfl) (Two.same 9) (Two.right (by decide)) ?_ hhX ?_
  rotate_left
  · intro w' hSw
    obtain ⟨s0, s1, s2⟩ := hSw
    go_simp
    try with_reducible rfl
  simp only [Act.put]
  clear hhV hhX
  refine wpAnyT_one (i := 10) (o := _) (by kernel_rfl) rfl (fun K hK => ?_)
  go_simp
  refine hK.out _ _ (⟨fun _ _ => (rcA 1).trans rfl, fun _ _ => ⟨hcA, (xA 0).trans rfl, (xA 1).trans rfl⟩⟩) ?_
  clear hK K
  refine wpAnyT_one (i := 11) (o := _) (by kernel_rfl) rfl (fun K hK => ?_)
  refine step_append_lies _ (by rfl) _ _ _ (by rfl) (w1.heap.size + 1) 51 i2 (.agg #[.int .i64 0, .int .i64 0]) 2 16 Tryz.underlying46 hi2 hz20 hz21 hz22 rfl (by decide) _ _ _ (by rfl) hownA ⟨w6.heap.size, 0, none⟩ 1 1 [.int .i64 op, .int .i64 av] (by rfl) (by rfl) (World.news_of_block (cs := #[.int .i64 op, .int .i64 av]) (t := 51) (fr := (0, 0)) (by exact heap_alloc_new w6 _)) (by simp [Value.oneCell']) (by decide) (by unfold maxLen; omega) (by omega) (by simp; omega) (w6.heap.size + 1) (by simp) ?_
  intro g4 cp w7 hown7 hgrow7' hat7 hlt7
  have hgrow7 : (w6.alloc (.cells #[.int .i64 op, .int .i64 av] 51)).grownBy w7 (Value.slice cz.1 f.code.length cz.2).ownBlock := ⟨hgrow7'.os, hgrow7'.tape, hgrow7'.output, hgrow7'.size, hgrow7'.block⟩
  clear hgrow7'
  have hk7 : Keeps (w1.heap.size + 1) [51] (w6.alloc (.cells #[.int .i64 op, .int .i64 av] 51)) w7 := Keeps.grown (World.ownsRow.alloc hcown _) hgrow7 (by simp)
  have hf7 := own_keeps (World.ownsRow.alloc Hm6.out.funcs _) hk7 (by simp)
  obtain ⟨_, e7, -, hfz7, hcc7, ⟨u7, hu7⟩, -, -⟩ := own_put hf7 (fs0.length * 3 + 2) (by simp; omega)
  cases e7
  rw [hu7] at hcc7
  clear hf7 hu7
  have hM7 := grown_kept (World.ownsRow.alloc hcown (.cells #[.int .i64 op, .int .i64 av] 51)) (show w.heap.size + 1 < w1.heap.size + 1 by omega) (block_old hM6 (.cells #[.int .i64 op, .int .i64 av] 51)) hgrow7
  have rc7 := block_cell hM7
  refine hK.out _ _ (⟨fun _ _ => (rc7 1).trans rfl, fun h => absurd (by decide) h⟩) ?_
  clear hK K
  simp only [Act.put, List.setIfInBounds_toArray]
  refine wpAnyT_one (i := 12) (o := _) (by kernel_rfl) rfl (fun K hK => ?_)
  go_simp
  refine hK.out _ _ (⟨fun h => absurd (by decide) h, fun h => absurd (by decide) h⟩) ?_
  clear hK K
  refine wpAnyT_one (i := 13) (o := _) (by kernel_rfl) rfl (fun K hK => ?_)
  go_simp
  refine hK.out _ _ (⟨fun h => absurd (by decide) h, fun h => absurd (by decide) h⟩) ?_
  clear hK K
  refine wpAnyT_one (i := 14) (o := _) (by kernel_rfl) rfl (fun K hK => ?_)
  go_simp
  refine hK.out _ _ (⟨fun h => absurd (by decide) h, fun h => absurd (by decide) h⟩) ?_
  clear hK K
  refine wpAnyT_done (by kernel_rfl) ?_ _
  have hbA : Below w6.heap.size w6 (w6.alloc (.cells #[.int .i64 op, .int .i64 av] 51)) := (Below.refl _ _).alloc (Nat.le_refl _) _
  have hmA := Hm6.out.below hbA
  have hown8 : w7.ownsRow (w1.heap.size + 1) 51 2 (.slice (some ⟨g4, 0, none⟩) (f.code.length + 1) cp) (f.code.length + 1) (codeVals (f.code ++ [(op, av)])) := by
    have e : codeVals (f.code ++ [(op, av)]) = codeVals f.code ++ [.int .i64 op, .int .i64 av] := by simp [codeVals]
    rw [e]
    exact hown7
  have hm8 := ModOwn.addIns hmA hgrow7 hown8 (by
    rcases hat7 with h | h
    · exact .inl h
    · exact .inr (by simp; omega))
  have hb8 : Below (w1.heap.size + 1) w3 (w7.setCell ⟨g2, fs0.length * 3 + 2, none⟩ (.slice (some ⟨g4, 0, none⟩) (f.code.length + 1) cp)) := (((HQ6.out.mono hz3).trans (hbA.mono hz6)).trans (hk7.toBelow (by simp; omega))).setCell hbg _
  have hk8 := three_kept HZ3.out HW3.out HL3.out HGL.out HB3.out (show w.heap.size + 1 < w1.heap.size + 1 by omega) (Nat.lt_succ_self _) hb8
  have hM8 : (w7.setCell ⟨g2, fs0.length * 3 + 2, none⟩ (.slice (some ⟨g4, 0, none⟩) (f.code.length + 1) cp)).heap[w.heap.size + 1]? = some (Obj.cells #[.slice a1 ts.length c1, .slice (some ⟨g2, 0, none⟩) (List.length (fs0 ++ [(⟨f.params, f.locals, f.code ++ [(op, av)]⟩ : Fn)])) c2] 27 (0, 0)) := by
    have e : List.length (fs0 ++ [(⟨f.params, f.locals, f.code ++ [(op, av)]⟩ : Fn)]) = fs0.length + 1 := by simp
    rw [e, hb8.block _ (show w.heap.size + 1 < w1.heap.size + 1 by omega)]
    exact HMM.out
  have HEND : Hid (Came s ts (fs0 ++ [f]) (w1.heap.size + 1) w1.heap.size wA.heap.size (.slice (some ⟨g, 0, none⟩) ln cl) ln lx w (w7.setCell ⟨g2, fs0.length * 3 + 2, none⟩ (.slice (some ⟨g4, 0, none⟩) (f.code.length + 1) cp))) :=
    ⟨ts, _, _, _, _, _, _, hM8, hm8, HSTEP.out, HSZ.out, fun j hj hj2 => by
      have hjf : j < fs0.length := by simp at hj2; omega
      rw [List.getElem_append_left hjf]; exact H120.out _ (List.mem_append_left _ (List.getElem_mem hjf)), by omega, by simp; omega, hk8.1, hk8.2.1, hk8.2.2.1, hk8.2.2.2⟩
  exact hQ _ _ _ _ _ _ _ _ _ _ _ _ _ _ _ HEND.out
end Go.Proofs.YtpmkfdinkomaiaaGreatDoor
