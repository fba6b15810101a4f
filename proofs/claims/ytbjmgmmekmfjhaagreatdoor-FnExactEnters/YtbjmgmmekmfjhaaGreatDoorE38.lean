/-
What impl.Enters returns.
-/
import Derived.Test.YtbjmgmmekmfjhaaGreatDoorE30
import Derived.Test.YtbjmgmmekmfjhaaGreatDoorE36
import Derived.Test.YtbjmgmmekmfjhaaGreatDoorE37
import Derived.Test.YtbjmgmmekmfjhaaGreatDoorE4
import Derived.Test.YtbjmgmmekmfjhaaGreatDoorE33
namespace Go.Proofs.YtbjmgmmekmfjhaaGreatDoor
set_option maxRecDepth 100000
open Go.RowKit
def AtEntry (D : FastD) (d : VmD) : Prop := ∃ (p : Nat) (h : p < d.frames.length), p + 1 = d.frames.length ∧ d.frames[p].fn = D.fn ∧ d.frames[p].pc = D.entry
def EntersP (ts : List ByteArray) (fs : List Fn) (D : FastD) (d : VmD) : Prop :=
 FastP ts fs D ∧ (Room d ∧ Frames fs d ∧ Vals fs.length d) ∧ d.status = 0 ∧ AtEntry D d
set_option maxHeartbeats 8000000 in
theorem iEnters_any (a1 a2 oa ea : Option Addr) (c1 c2 oc ec : Nat) (ts : List ByteArray) (fs : List Fn) (D : FastD) (fa ha ua : Option Addr) (fc hcp uc : Nat) (d : VmD) (w : World) (hs : Small ts fs) (hd : FastSmall D) (hv : VmSmall d) (hm : StrsAt w 0 a1 ts) (hm2 : FnsAt w 0 a2 fs) (hf : FastAt w 0 oa ea D) (hw : VmAt w 0 fa ha ua d) (hsh : ShAt w) (hDB : DB w) :
  Calls Tryz.prog 43 #[.agg #[.slice a1 ts.length c1, .slice a2 fs.length c2], .agg (fastCells oa ea oc ec D), .agg (vmCells fa ha ua fc hcp uc d)] w fun e w' => e = .returned (.bool (pB (EntersP ts fs D d))) ∧ Below w.heap.size w w' := by
 obtain ⟨w0, hw0⟩ : ∃ w0, w0 = ((w.alloc (.cells #[.slice a1 ts.length c1, .slice a2 fs.length c2] 36)).alloc (.cells #[.int .i64 D.fn, .int .i64 D.entry, .int .i64 D.vals, .int .i64 D.nums, .slice oa D.ops.length oc, .slice ea D.exits.length ec] 41)).alloc (.cells #[.slice fa d.frames.length fc, .slice ha d.heap.length hcp, .int .i64 d.made, .slice ua d.out.length uc, .int .i64 d.status, .int .i64 d.trap, .int .i64 d.value.k, .int .i64 d.value.n, .string d.value.s, .int .i64 d.steps] 82) := ⟨_, rfl⟩
 have hb0 : Below w.heap.size w w0 := by rw [hw0]; exact (((Below.refl _ _).alloc (Nat.le_refl _) _).alloc (by simp) _).alloc (by simp; omega) _
 have hM0 : w0.heap[w.heap.size]? = some (.cells #[.slice a1 ts.length c1, .slice a2 fs.length c2] 36 (0, 0)) := by rw [hw0]; exact block_old (block_old (block_new _ _ _) _) _
 have hF0 : w0.heap[w.heap.size + 1]? = some (.cells #[.int .i64 D.fn, .int .i64 D.entry, .int .i64 D.vals, .int .i64 D.nums, .slice oa D.ops.length oc, .slice ea D.exits.length ec] 41 (0, 0)) := by rw [hw0]; exact block_old (block_new_at _ _ _ _ (by simp)) _
 have hV0 : w0.heap[w.heap.size + 1 + 1]? = some (.cells #[.slice fa d.frames.length fc, .slice ha d.heap.length hcp, .int .i64 d.made, .slice ua d.out.length uc, .int .i64 d.status, .int .i64 d.trap, .int .i64 d.value.k, .int .i64 d.value.n, .string d.value.s, .int .i64 d.steps] 82 (0, 0)) := by rw [hw0]; exact block_new_at _ _ _ _ (by simp)
 have hfo := fun w' => iFastOk_any a1 a2 oa ea c1 c2 oc ec ts fs D w' hs hd
 have hvo := fun w' => iVmOk_any a1 a2 c1 c2 ts fs fa ha ua fc hcp uc d w' hs
 unfold fastCells at hfo ⊢
 unfold vmCells at hvo ⊢
 have HB0 : Hid (Below w.heap.size w w0) := hb0
 have HFO : Hid (∀ w', Below w0.heap.size w0 w' → Calls Tryz.prog 55 #[.agg #[.slice a1 ts.length c1, .slice a2 fs.length c2], .agg #[.int .i64 D.fn, .int .i64 D.entry, .int .i64 D.vals, .int .i64 D.nums, .slice oa D.ops.length oc, .slice ea D.exits.length ec]] w' fun e w'' => e = .returned (.bool (pB (FastP ts fs D))) ∧ Below w'.heap.size w' w'') := fun w' q => hfo w' (hm.mono (hb0.trans (q.mono hb0.size))) (hm2.mono (hb0.trans (q.mono hb0.size))) (hf.mono (hb0.trans (q.mono hb0.size))) (hsh.mono (hb0.trans (q.mono hb0.size))) (hDB.mono (hb0.trans (q.mono hb0.size)))
 have HVO : Hid (∀ w', Below w0.heap.size w0 w' → Calls Tryz.prog 91 #[.agg #[.slice a1 ts.length c1, .slice a2 fs.length c2], .agg #[.slice fa d.frames.length fc, .slice ha d.heap.length hcp, .int .i64 d.made, .slice ua d.out.length uc, .int .i64 d.status, .int .i64 d.trap, .int .i64 d.value.k, .int .i64 d.value.n, .string d.value.s, .int .i64 d.steps]] w' fun e w'' => Says (VmGood ts fs d) e ∧ Below w'.heap.size w' w'') := fun w' q => hvo w' (hm.mono (hb0.trans (q.mono hb0.size))) (hm2.mono (hb0.trans (q.mono hb0.size))) hv (hw.mono (hb0.trans (q.mono hb0.size)))
 have hfl := hv.frames
 have V1 := block_cell hV0
 clear hfo hvo
 go_enter Tryz.func43, Tryz.ntmps43
 by_cases h0 : 0 < d.frames.length
 case neg =>
  have hn0 : d.frames.length = 0 := by omega
  have HN : Hid (¬ EntersP ts fs D d) := by
   rintro ⟨-, -, -, p, hp, -⟩
   omega
  have HS : Hid (∀ w', Below w0.heap.size w0 w' → w'.cell? ⟨w.heap.size, 0, none⟩ = some (.slice a1 ts.length c1) ∧ w'.cell? ⟨w.heap.size, 1, none⟩ = some (.slice a2 fs.length c2) ∧ w'.cell? ⟨w.heap.size + 1, 0, none⟩ = some (.int .i64 D.fn) ∧ w'.cell? ⟨w.heap.size + 1, 1, none⟩ = some (.int .i64 D.entry) ∧ w'.cell? ⟨w.heap.size + 1, 2, none⟩ = some (.int .i64 D.vals) ∧ w'.cell? ⟨w.heap.size + 1, 3, none⟩ = some (.int .i64 D.nums) ∧ w'.cell? ⟨w.heap.size + 1, 4, none⟩ = some (.slice oa D.ops.length oc) ∧ w'.cell? ⟨w.heap.size + 1, 5, none⟩ = some (.slice ea D.exits.length ec) ∧ w'.cell? ⟨w.heap.size + 1 + 1, 0, none⟩ = some (.slice fa d.frames.length fc) ∧ w'.cell? ⟨w.heap.size + 1 + 1, 1, none⟩ = some (.slice ha d.heap.length hcp) ∧ w'.cell? ⟨w.heap.size + 1 + 1, 2, none⟩ = some (.int .i64 d.made) ∧ w'.cell? ⟨w.heap.size + 1 + 1, 3, none⟩ = some (.slice ua d.out.length uc) ∧ w'.cell? ⟨w.heap.size + 1 + 1, 4, none⟩ = some (.int .i64 d.status) ∧ w'.cell? ⟨w.heap.size + 1 + 1, 5, none⟩ = some (.int .i64 d.trap) ∧ w'.cell? ⟨w.heap.size + 1 + 1, 6, none⟩ = some (.int .i64 d.value.k) ∧ w'.cell? ⟨w.heap.size + 1 + 1, 7, none⟩ = some (.int .i64 d.value.n) ∧ w'.cell? ⟨w.heap.size + 1 + 1, 8, none⟩ = some (.string d.value.s) ∧ w'.cell? ⟨w.heap.size + 1 + 1, 9, none⟩ = some (.int .i64 d.steps)) := fun w' q => ⟨block_cell (block_kept hM0 q) 0, block_cell (block_kept hM0 q) 1, block_cell (block_kept hF0 q) 0, block_cell (block_kept hF0 q) 1, block_cell (block_kept hF0 q) 2, block_cell (block_kept hF0 q) 3, block_cell (block_kept hF0 q) 4, block_cell (block_kept hF0 q) 5, block_cell (block_kept hV0 q) 0, block_cell (block_kept hV0 q) 1, block_cell (block_kept hV0 q) 2, block_cell (block_kept hV0 q) 3, block_cell (block_kept hV0 q) 4, block_cell (block_kept hV0 q) 5, block_cell (block_kept hV0 q) 6, block_cell (block_kept hV0 q) 7, block_cell (block_kept hV0 q) 8, block_cell (block_kept hV0 q) 9⟩
  have HNIL : Hid (d.frames = []) := List.eq_nil_of_length_eq_zero hn0
  clear hM0 hF0 hV0 hb0 hn0
  have hz : ¬ (0 : Int) < (d.frames.length : Int) := by omega
  clear h0
  go_upto_region 2 with fail
  rw [← hw0]
  clear hw0 V1
  refine wp_below (by kernel_rfl) (by kernel_rfl) ?_
  refine q_want (v := ?_) (by kernel_rfl) ?_ ?_
  rotate_left
  ·
   intro w' hC
   obtain ⟨j0, j1, j2, j3, j4, j5, j6, j7, j8, j9, j10, j11, j12, j13, j14, j15, j16, j17⟩ := HS.out w' hC
   go_simp
   try with_reducible rfl
  try simp only [Act.put, sAr, sZe, sSu]
  refine q_want (v := .bool false) (by kernel_rfl) ?_ ?_
  ·
   intro w' hC
   obtain ⟨j0, j1, j2, j3, j4, j5, j6, j7, j8, j9, j10, j11, j12, j13, j14, j15, j16, j17⟩ := HS.out w' hC
   go_simp
   (try simp); (try exact HNIL.out); (try omega)
  try simp only [Act.put, sAr, sZe, sSu]
  refine q_want (v := ?_) (by kernel_rfl) ?_ ?_
  rotate_left
  ·
   intro w' hC
   obtain ⟨j0, j1, j2, j3, j4, j5, j6, j7, j8, j9, j10, j11, j12, j13, j14, j15, j16, j17⟩ := HS.out w' hC
   go_simp
   try with_reducible rfl
  try simp only [Act.put, sAr, sZe, sSu]
  iterate 10 go_big_quiet_skip
  iterate 2
   refine q_want (v := ?_) (by kernel_rfl) ?_ ?_
   rotate_left
   ·
    intro w' hC
    obtain ⟨j0, j1, j2, j3, j4, j5, j6, j7, j8, j9, j10, j11, j12, j13, j14, j15, j16, j17⟩ := HS.out w' hC
    go_simp
    try with_reducible rfl
   try simp only [Act.put, sAr, sZe, sSu]
  iterate 10 go_big_quiet_skip
  iterate 2
   refine q_want (v := ?_) (by kernel_rfl) ?_ ?_
   rotate_left
   ·
    intro w' hC
    obtain ⟨j0, j1, j2, j3, j4, j5, j6, j7, j8, j9, j10, j11, j12, j13, j14, j15, j16, j17⟩ := HS.out w' hC
    go_simp
    try with_reducible rfl
   try simp only [Act.put, sAr, sZe, sSu]
  iterate 3 go_big_quiet_skip
  iterate 2
   refine q_want (v := ?_) (by kernel_rfl) ?_ ?_
   rotate_left
   ·
    intro w' hC
    obtain ⟨j0, j1, j2, j3, j4, j5, j6, j7, j8, j9, j10, j11, j12, j13, j14, j15, j16, j17⟩ := HS.out w' hC
    go_simp
    try with_reducible rfl
   try simp only [Act.put, sAr, sZe, sSu]
  iterate 3 go_big_quiet_skip
  iterate 2
   refine q_want (v := ?_) (by kernel_rfl) ?_ ?_
   rotate_left
   ·
    intro w' hC
    obtain ⟨j0, j1, j2, j3, j4, j5, j6, j7, j8, j9, j10, j11, j12, j13, j14, j15, j16, j17⟩ := HS.out w' hC
    go_simp
    try with_reducible rfl
   try simp only [Act.put, sAr, sZe, sSu]
  iterate 3 go_big_quiet_skip
  iterate 2
   refine q_want (v := ?_) (by kernel_rfl) ?_ ?_
   rotate_left
   ·
    intro w' hC
    obtain ⟨j0, j1, j2, j3, j4, j5, j6, j7, j8, j9, j10, j11, j12, j13, j14, j15, j16, j17⟩ := HS.out w' hC
    go_simp
    try with_reducible rfl
   try simp only [Act.put, sAr, sZe, sSu]
  refine wpQuiet_nil ?_
  intro w2 q2
  go_wp2
  go_ret
  exact ⟨ret_bool (pB_no HN.out).symm, HB0.out.trans (q2.mono HB0.out.size)⟩
 obtain ⟨p, hp⟩ : ∃ p : Nat, p + 1 = d.frames.length := ⟨d.frames.length - 1, by omega⟩
 have hpl : p < d.frames.length := by omega
 obtain ⟨bb, off, la, lc, sa, sc, hfa, -, q1, q2, -, -, -, -⟩ := hw.frs p hpl
 subst hfa
 replace q1 := cell_later hb0 q1
 replace q2 := cell_later hb0 q2
 have HP : Hid (p + 1 = d.frames.length) := hp
 have HS : Hid (∀ w', Below w0.heap.size w0 w' → w'.cell? ⟨w.heap.size, 0, none⟩ = some (.slice a1 ts.length c1) ∧ w'.cell? ⟨w.heap.size, 1, none⟩ = some (.slice a2 fs.length c2) ∧ w'.cell? ⟨w.heap.size + 1, 0, none⟩ = some (.int .i64 D.fn) ∧ w'.cell? ⟨w.heap.size + 1, 1, none⟩ = some (.int .i64 D.entry) ∧ w'.cell? ⟨w.heap.size + 1, 2, none⟩ = some (.int .i64 D.vals) ∧ w'.cell? ⟨w.heap.size + 1, 3, none⟩ = some (.int .i64 D.nums) ∧ w'.cell? ⟨w.heap.size + 1, 4, none⟩ = some (.slice oa D.ops.length oc) ∧ w'.cell? ⟨w.heap.size + 1, 5, none⟩ = some (.slice ea D.exits.length ec) ∧ w'.cell? ⟨w.heap.size + 1 + 1, 0, none⟩ = some (.slice (some ⟨bb, off, none⟩) d.frames.length fc) ∧ w'.cell? ⟨w.heap.size + 1 + 1, 1, none⟩ = some (.slice ha d.heap.length hcp) ∧ w'.cell? ⟨w.heap.size + 1 + 1, 2, none⟩ = some (.int .i64 d.made) ∧ w'.cell? ⟨w.heap.size + 1 + 1, 3, none⟩ = some (.slice ua d.out.length uc) ∧ w'.cell? ⟨w.heap.size + 1 + 1, 4, none⟩ = some (.int .i64 d.status) ∧ w'.cell? ⟨w.heap.size + 1 + 1, 5, none⟩ = some (.int .i64 d.trap) ∧ w'.cell? ⟨w.heap.size + 1 + 1, 6, none⟩ = some (.int .i64 d.value.k) ∧ w'.cell? ⟨w.heap.size + 1 + 1, 7, none⟩ = some (.int .i64 d.value.n) ∧ w'.cell? ⟨w.heap.size + 1 + 1, 8, none⟩ = some (.string d.value.s) ∧ w'.cell? ⟨w.heap.size + 1 + 1, 9, none⟩ = some (.int .i64 d.steps) ∧ w'.cell? ⟨bb, off + p * 4, none⟩ = some (.int .i64 d.frames[p].fn) ∧ w'.cell? ⟨bb, off + p * 4 + 1, none⟩ = some (.int .i64 d.frames[p].pc)) := fun w' q => ⟨block_cell (block_kept hM0 q) 0, block_cell (block_kept hM0 q) 1, block_cell (block_kept hF0 q) 0, block_cell (block_kept hF0 q) 1, block_cell (block_kept hF0 q) 2, block_cell (block_kept hF0 q) 3, block_cell (block_kept hF0 q) 4, block_cell (block_kept hF0 q) 5, block_cell (block_kept hV0 q) 0, block_cell (block_kept hV0 q) 1, block_cell (block_kept hV0 q) 2, block_cell (block_kept hV0 q) 3, block_cell (block_kept hV0 q) 4, block_cell (block_kept hV0 q) 5, block_cell (block_kept hV0 q) 6, block_cell (block_kept hV0 q) 7, block_cell (block_kept hV0 q) 8, block_cell (block_kept hV0 q) 9, cell_later q q1, cell_later q q2⟩
 have hsub : IntKind.i64.wrap ((d.frames.length : Int) - 1) = (p : Int) := by rw [IntKind.wrap_i64]; omega
 have zp : (p : Int) < (d.frames.length : Int) := by omega
 have zp0 : (0 : Int) ≤ (p : Int) := by omega
 have hpos : (0 : Int) < (d.frames.length : Int) := by omega
 have HK : Hid (AtEntry D d ↔ d.frames[p].fn = D.fn ∧ d.frames[p].pc = D.entry) := by
  show _ ↔ _
  constructor
  ·
   rintro ⟨p', hp', e0, e1, e2⟩
   obtain rfl : p' = p := by omega
   exact ⟨e1, e2⟩
  ·
   rintro ⟨e1, e2⟩
   exact ⟨p, hpl, hp, e1, e2⟩
 clear hM0 hF0 hV0 hb0 q1 q2 hp h0
 by_cases h1 : d.frames[p].fn = D.fn
 case neg =>
  have g1 : (d.frames[p].fn == D.fn) = false := by simpa using h1
  have HN : Hid (¬ EntersP ts fs D d) := fun q => h1 (HK.out.1 q.2.2.2).1
  clear h1
  go_upto_region 2 with fail
  rw [← hw0]
  clear hw0 V1
  refine wp_below (by kernel_rfl) (by kernel_rfl) ?_
  refine q_want (v := ?_) (by kernel_rfl) ?_ ?_
  rotate_left
  ·
   intro w' hC
   obtain ⟨j0, j1, j2, j3, j4, j5, j6, j7, j8, j9, j10, j11, j12, j13, j14, j15, j16, j17, j18, j19⟩ := HS.out w' hC
   go_simp
   try with_reducible rfl
  try simp only [Act.put, sAr, sZe, sSu]
  refine q_want (v := .bool true) (by kernel_rfl) ?_ ?_
  ·
   intro w' hC
   obtain ⟨j0, j1, j2, j3, j4, j5, j6, j7, j8, j9, j10, j11, j12, j13, j14, j15, j16, j17, j18, j19⟩ := HS.out w' hC
   go_simp
   (try simp); (try omega)
  try simp only [Act.put, sAr, sZe, sSu]
  iterate 13
   refine q_want (v := ?_) (by kernel_rfl) ?_ ?_
   rotate_left
   ·
    intro w' hC
    obtain ⟨j0, j1, j2, j3, j4, j5, j6, j7, j8, j9, j10, j11, j12, j13, j14, j15, j16, j17, j18, j19⟩ := HS.out w' hC
    go_simp
    try with_reducible rfl
   try simp only [Act.put, sAr, sZe, sSu]
  iterate 10 go_big_quiet_skip
  iterate 2
   refine q_want (v := ?_) (by kernel_rfl) ?_ ?_
   rotate_left
   ·
    intro w' hC
    obtain ⟨j0, j1, j2, j3, j4, j5, j6, j7, j8, j9, j10, j11, j12, j13, j14, j15, j16, j17, j18, j19⟩ := HS.out w' hC
    go_simp
    try with_reducible rfl
   try simp only [Act.put, sAr, sZe, sSu]
  iterate 3 go_big_quiet_skip
  iterate 2
   refine q_want (v := ?_) (by kernel_rfl) ?_ ?_
   rotate_left
   ·
    intro w' hC
    obtain ⟨j0, j1, j2, j3, j4, j5, j6, j7, j8, j9, j10, j11, j12, j13, j14, j15, j16, j17, j18, j19⟩ := HS.out w' hC
    go_simp
    try with_reducible rfl
   try simp only [Act.put, sAr, sZe, sSu]
  iterate 3 go_big_quiet_skip
  iterate 2
   refine q_want (v := ?_) (by kernel_rfl) ?_ ?_
   rotate_left
   ·
    intro w' hC
    obtain ⟨j0, j1, j2, j3, j4, j5, j6, j7, j8, j9, j10, j11, j12, j13, j14, j15, j16, j17, j18, j19⟩ := HS.out w' hC
    go_simp
    try with_reducible rfl
   try simp only [Act.put, sAr, sZe, sSu]
  iterate 3 go_big_quiet_skip
  iterate 2
   refine q_want (v := ?_) (by kernel_rfl) ?_ ?_
   rotate_left
   ·
    intro w' hC
    obtain ⟨j0, j1, j2, j3, j4, j5, j6, j7, j8, j9, j10, j11, j12, j13, j14, j15, j16, j17, j18, j19⟩ := HS.out w' hC
    go_simp
    try with_reducible rfl
   try simp only [Act.put, sAr, sZe, sSu]
  refine wpQuiet_nil ?_
  intro w2 q2
  go_wp2
  go_ret
  exact ⟨ret_bool (pB_no HN.out).symm, HB0.out.trans (q2.mono HB0.out.size)⟩
 have g1 : (d.frames[p].fn == D.fn) = true := by simpa using h1
 have H1 : Hid (d.frames[p].fn = D.fn) := h1
 clear h1
 by_cases h2 : d.frames[p].pc = D.entry
 case neg =>
  have g2 : (d.frames[p].pc == D.entry) = false := by simpa using h2
  have HN : Hid (¬ EntersP ts fs D d) := fun q => h2 (HK.out.1 q.2.2.2).2
  clear h2
  go_upto_region 2 with fail
  rw [← hw0]
  clear hw0 V1
  refine wp_below (by kernel_rfl) (by kernel_rfl) ?_
  refine q_want (v := ?_) (by kernel_rfl) ?_ ?_
  rotate_left
  ·
   intro w' hC
   obtain ⟨j0, j1, j2, j3, j4, j5, j6, j7, j8, j9, j10, j11, j12, j13, j14, j15, j16, j17, j18, j19⟩ := HS.out w' hC
   go_simp
   try with_reducible rfl
  try simp only [Act.put, sAr, sZe, sSu]
  refine q_want (v := .bool true) (by kernel_rfl) ?_ ?_
  ·
   intro w' hC
   obtain ⟨j0, j1, j2, j3, j4, j5, j6, j7, j8, j9, j10, j11, j12, j13, j14, j15, j16, j17, j18, j19⟩ := HS.out w' hC
   go_simp
   (try simp); (try omega)
  try simp only [Act.put, sAr, sZe, sSu]
  iterate 25
   refine q_want (v := ?_) (by kernel_rfl) ?_ ?_
   rotate_left
   ·
    intro w' hC
    obtain ⟨j0, j1, j2, j3, j4, j5, j6, j7, j8, j9, j10, j11, j12, j13, j14, j15, j16, j17, j18, j19⟩ := HS.out w' hC
    go_simp
    try with_reducible rfl
   try simp only [Act.put, sAr, sZe, sSu]
  iterate 3 go_big_quiet_skip
  iterate 2
   refine q_want (v := ?_) (by kernel_rfl) ?_ ?_
   rotate_left
   ·
    intro w' hC
    obtain ⟨j0, j1, j2, j3, j4, j5, j6, j7, j8, j9, j10, j11, j12, j13, j14, j15, j16, j17, j18, j19⟩ := HS.out w' hC
    go_simp
    try with_reducible rfl
   try simp only [Act.put, sAr, sZe, sSu]
  iterate 3 go_big_quiet_skip
  iterate 2
   refine q_want (v := ?_) (by kernel_rfl) ?_ ?_
   rotate_left
   ·
    intro w' hC
    obtain ⟨j0, j1, j2, j3, j4, j5, j6, j7, j8, j9, j10, j11, j12, j13, j14, j15, j16, j17, j18, j19⟩ := HS.out w' hC
    go_simp
    try with_reducible rfl
   try simp only [Act.put, sAr, sZe, sSu]
  iterate 3 go_big_quiet_skip
  iterate 2
   refine q_want (v := ?_) (by kernel_rfl) ?_ ?_
   rotate_left
   ·
    intro w' hC
    obtain ⟨j0, j1, j2, j3, j4, j5, j6, j7, j8, j9, j10, j11, j12, j13, j14, j15, j16, j17, j18, j19⟩ := HS.out w' hC
    go_simp
    try with_reducible rfl
   try simp only [Act.put, sAr, sZe, sSu]
  refine wpQuiet_nil ?_
  intro w2 q2
  go_wp2
  go_ret
  exact ⟨ret_bool (pB_no HN.out).symm, HB0.out.trans (q2.mono HB0.out.size)⟩
 have g2 : (d.frames[p].pc == D.entry) = true := by simpa using h2
 have H2 : Hid (d.frames[p].pc = D.entry) := h2
 clear h2
 by_cases h3 : d.status = 0
 case neg =>
  have g3 : (d.status == 0) = false := by simpa using h3
  have HN : Hid (¬ EntersP ts fs D d) := fun q => h3 q.2.2.1
  clear h3
  go_upto_region 2 with fail
  rw [← hw0]
  clear hw0 V1
  refine wp_below (by kernel_rfl) (by kernel_rfl) ?_
  refine q_want (v := ?_) (by kernel_rfl) ?_ ?_
  rotate_left
  ·
   intro w' hC
   obtain ⟨j0, j1, j2, j3, j4, j5, j6, j7, j8, j9, j10, j11, j12, j13, j14, j15, j16, j17, j18, j19⟩ := HS.out w' hC
   go_simp
   try with_reducible rfl
  try simp only [Act.put, sAr, sZe, sSu]
  refine q_want (v := .bool true) (by kernel_rfl) ?_ ?_
  ·
   intro w' hC
   obtain ⟨j0, j1, j2, j3, j4, j5, j6, j7, j8, j9, j10, j11, j12, j13, j14, j15, j16, j17, j18, j19⟩ := HS.out w' hC
   go_simp
   (try simp); (try omega)
  try simp only [Act.put, sAr, sZe, sSu]
  iterate 30
   refine q_want (v := ?_) (by kernel_rfl) ?_ ?_
   rotate_left
   ·
    intro w' hC
    obtain ⟨j0, j1, j2, j3, j4, j5, j6, j7, j8, j9, j10, j11, j12, j13, j14, j15, j16, j17, j18, j19⟩ := HS.out w' hC
    go_simp
    try with_reducible rfl
   try simp only [Act.put, sAr, sZe, sSu]
  iterate 3 go_big_quiet_skip
  iterate 2
   refine q_want (v := ?_) (by kernel_rfl) ?_ ?_
   rotate_left
   ·
    intro w' hC
    obtain ⟨j0, j1, j2, j3, j4, j5, j6, j7, j8, j9, j10, j11, j12, j13, j14, j15, j16, j17, j18, j19⟩ := HS.out w' hC
    go_simp
    try with_reducible rfl
   try simp only [Act.put, sAr, sZe, sSu]
  iterate 3 go_big_quiet_skip
  iterate 2
   refine q_want (v := ?_) (by kernel_rfl) ?_ ?_
   rotate_left
   ·
    intro w' hC
    obtain ⟨j0, j1, j2, j3, j4, j5, j6, j7, j8, j9, j10, j11, j12, j13, j14, j15, j16, j17, j18, j19⟩ := HS.out w' hC
    go_simp
    try with_reducible rfl
   try simp only [Act.put, sAr, sZe, sSu]
  refine wpQuiet_nil ?_
  intro w2 q2
  go_wp2
  go_ret
  exact ⟨ret_bool (pB_no HN.out).symm, HB0.out.trans (q2.mono HB0.out.size)⟩
 have g3 : (d.status == 0) = true := by simpa using h3
 have H3 : Hid (d.status = 0) := h3
 clear h3
 by_cases h4 : FastP ts fs D
 case neg =>
  have HC : Hid (∀ w', Below w0.heap.size w0 w' → Calls Tryz.prog 55 #[.agg #[.slice a1 ts.length c1, .slice a2 fs.length c2], .agg #[.int .i64 D.fn, .int .i64 D.entry, .int .i64 D.vals, .int .i64 D.nums, .slice oa D.ops.length oc, .slice ea D.exits.length ec]] w' fun e w'' => e = .returned (.bool false) ∧ Below w'.heap.size w' w'') := fun w' q => (HFO.out w' q).mono fun _ _ q => ⟨by rw [q.1, pB_no h4], q.2⟩
  have HN : Hid (¬ EntersP ts fs D d) := fun q => h4 q.1
  clear h4
  go_upto_region 2 with fail
  rw [← hw0]
  clear hw0 V1
  refine wp_below (by kernel_rfl) (by kernel_rfl) ?_
  refine q_want (v := ?_) (by kernel_rfl) ?_ ?_
  rotate_left
  ·
   intro w' hC
   obtain ⟨j0, j1, j2, j3, j4, j5, j6, j7, j8, j9, j10, j11, j12, j13, j14, j15, j16, j17, j18, j19⟩ := HS.out w' hC
   go_simp
   try with_reducible rfl
  try simp only [Act.put, sAr, sZe, sSu]
  refine q_want (v := .bool true) (by kernel_rfl) ?_ ?_
  ·
   intro w' hC
   obtain ⟨j0, j1, j2, j3, j4, j5, j6, j7, j8, j9, j10, j11, j12, j13, j14, j15, j16, j17, j18, j19⟩ := HS.out w' hC
   go_simp
   (try simp); (try omega)
  try simp only [Act.put, sAr, sZe, sSu]
  iterate 32
   refine q_want (v := ?_) (by kernel_rfl) ?_ ?_
   rotate_left
   ·
    intro w' hC
    obtain ⟨j0, j1, j2, j3, j4, j5, j6, j7, j8, j9, j10, j11, j12, j13, j14, j15, j16, j17, j18, j19⟩ := HS.out w' hC
    go_simp
    try with_reducible rfl
   try simp only [Act.put, sAr, sZe, sSu]
  refine q_want (v := .bool false) (by kernel_rfl) ?_ ?_
  ·
   intro w' hC
   go_simp
   refine (HC.out _ hC).mono ?_
   rintro e w'' ⟨rfl, hb2⟩
   exact ⟨rfl, hC.trans (hb2.mono hC.size)⟩
  try simp only [Act.put, sAr, sZe, sSu]
  iterate 2
   refine q_want (v := ?_) (by kernel_rfl) ?_ ?_
   rotate_left
   ·
    intro w' hC
    obtain ⟨j0, j1, j2, j3, j4, j5, j6, j7, j8, j9, j10, j11, j12, j13, j14, j15, j16, j17, j18, j19⟩ := HS.out w' hC
    go_simp
    try with_reducible rfl
   try simp only [Act.put, sAr, sZe, sSu]
  iterate 3 go_big_quiet_skip
  iterate 2
   refine q_want (v := ?_) (by kernel_rfl) ?_ ?_
   rotate_left
   ·
    intro w' hC
    obtain ⟨j0, j1, j2, j3, j4, j5, j6, j7, j8, j9, j10, j11, j12, j13, j14, j15, j16, j17, j18, j19⟩ := HS.out w' hC
    go_simp
    try with_reducible rfl
   try simp only [Act.put, sAr, sZe, sSu]
  refine wpQuiet_nil ?_
  intro w2 q2
  go_wp2
  go_ret
  exact ⟨ret_bool (pB_no HN.out).symm, HB0.out.trans (q2.mono HB0.out.size)⟩
 have HC : Hid (∀ w', Below w0.heap.size w0 w' → Calls Tryz.prog 55 #[.agg #[.slice a1 ts.length c1, .slice a2 fs.length c2], .agg #[.int .i64 D.fn, .int .i64 D.entry, .int .i64 D.vals, .int .i64 D.nums, .slice oa D.ops.length oc, .slice ea D.exits.length ec]] w' fun e w'' => e = .returned (.bool true) ∧ Below w'.heap.size w' w'') := fun w' q => (HFO.out w' q).mono fun _ _ q => ⟨by rw [q.1, pB_yes h4], q.2⟩
 have H4 : Hid (FastP ts fs D) := h4
 clear h4
 have HD : Hid (∀ w', Below w0.heap.size w0 w' → Calls Tryz.prog 91 #[.agg #[.slice a1 ts.length c1, .slice a2 fs.length c2], .agg #[.slice (some ⟨bb, off, none⟩) d.frames.length fc, .slice ha d.heap.length hcp, .int .i64 d.made, .slice ua d.out.length uc, .int .i64 d.status, .int .i64 d.trap, .int .i64 d.value.k, .int .i64 d.value.n, .string d.value.s, .int .i64 d.steps]] w' fun e w'' => e = .returned (.bool (pB (VmGood ts fs d))) ∧ Below w'.heap.size w' w'') := fun w' q => (HVO.out w' q).mono fun _ _ q => ⟨q.1.eq, q.2⟩
 go_upto_region 2 with fail
 rw [← hw0]
 clear hw0 V1
 refine wp_below (by kernel_rfl) (by kernel_rfl) ?_
 refine q_want (v := ?_) (by kernel_rfl) ?_ ?_
 rotate_left
 ·
  intro w' hC
  obtain ⟨j0, j1, j2, j3, j4, j5, j6, j7, j8, j9, j10, j11, j12, j13, j14, j15, j16, j17, j18, j19⟩ := HS.out w' hC
  go_simp
  try with_reducible rfl
 try simp only [Act.put, sAr, sZe, sSu]
 refine q_want (v := .bool true) (by kernel_rfl) ?_ ?_
 ·
  intro w' hC
  obtain ⟨j0, j1, j2, j3, j4, j5, j6, j7, j8, j9, j10, j11, j12, j13, j14, j15, j16, j17, j18, j19⟩ := HS.out w' hC
  go_simp
  (try simp); (try omega)
 try simp only [Act.put, sAr, sZe, sSu]
 iterate 32
  refine q_want (v := ?_) (by kernel_rfl) ?_ ?_
  rotate_left
  ·
   intro w' hC
   obtain ⟨j0, j1, j2, j3, j4, j5, j6, j7, j8, j9, j10, j11, j12, j13, j14, j15, j16, j17, j18, j19⟩ := HS.out w' hC
   go_simp
   try with_reducible rfl
  try simp only [Act.put, sAr, sZe, sSu]
 refine q_want (v := .bool true) (by kernel_rfl) ?_ ?_
 ·
  intro w' hC
  go_simp
  refine (HC.out _ hC).mono ?_
  rintro e w'' ⟨rfl, hb2⟩
  exact ⟨rfl, hC.trans (hb2.mono hC.size)⟩
 try simp only [Act.put, sAr, sZe, sSu]
 iterate 4
  refine q_want (v := ?_) (by kernel_rfl) ?_ ?_
  rotate_left
  ·
   intro w' hC
   obtain ⟨j0, j1, j2, j3, j4, j5, j6, j7, j8, j9, j10, j11, j12, j13, j14, j15, j16, j17, j18, j19⟩ := HS.out w' hC
   go_simp
   try with_reducible rfl
  try simp only [Act.put, sAr, sZe, sSu]
 refine q_want (v := .bool (pB (VmGood ts fs d))) (by kernel_rfl) ?_ ?_
 ·
  intro w' hC
  go_simp
  refine (HD.out _ hC).mono ?_
  rintro e w'' ⟨rfl, hb2⟩
  exact ⟨rfl, hC.trans (hb2.mono hC.size)⟩
 try simp only [Act.put, sAr, sZe, sSu]
 iterate 2
  refine q_want (v := ?_) (by kernel_rfl) ?_ ?_
  rotate_left
  ·
   intro w' hC
   obtain ⟨j0, j1, j2, j3, j4, j5, j6, j7, j8, j9, j10, j11, j12, j13, j14, j15, j16, j17, j18, j19⟩ := HS.out w' hC
   go_simp
   try with_reducible rfl
  try simp only [Act.put, sAr, sZe, sSu]
 refine wpQuiet_nil ?_
 intro w2 q2
 go_wp2
 go_ret
 exact ⟨ret_pB (by rw [pB_iff']; exact ⟨fun q => ⟨H4.out, q.2, H3.out, HK.out.2 ⟨H1.out, H2.out⟩⟩, fun q => ⟨H4.out.1, q.2.1⟩⟩), HB0.out.trans (q2.mono HB0.out.size)⟩
end Go.Proofs.YtbjmgmmekmfjhaaGreatDoor
