/-
Small functions of the program on code: between, has, isIn, endOp.
What the size functions of the laws return of lists of ops, sources, frames, records and exits, and of code.
Two values held against each other.
What impl.frameFits returns.
-/
import Derived.Test.YthnolafhnplnkaaGreatDoorOV24
import Derived.Test.YthnolafhnplnkaaGreatDoorOV2
import Derived.Test.YthnolafhnplnkaaGreatDoorOV12
import Derived.Test.YthnolafhnplnkaaGreatDoorOV1
import Derived.Test.YthnolafhnplnkaaGreatDoorOV5
import Derived.Laws.StructEq
import Derived.Test.YthnolafhnplnkaaGreatDoorOV18
import Derived.Test.YthnolafhnplnkaaGreatDoorOV20
import Derived.Deep.QuietTactic
import Derived.BigQuiet
set_option maxRecDepth 100000
namespace Go.Proofs.YthnolafhnplnkaaGreatDoor
open Go.RowKit
set_option maxHeartbeats 400000 in
theorem iBetween_any (n lo hi : Int) (w : World) :
  Calls Tryz.prog 78 #[.int .i64 n, .int .i64 lo, .int .i64 hi] w fun e w' => e = .returned (.bool (pB (Btw n lo hi))) ∧ w' = w := by
 by_cases h1 : lo ≤ n
 ·
  by_cases h2 : n ≤ hi
  ·
   go_enter Tryz.func78, Tryz.ntmps78
   go_wp2
   go_ret
   exact ⟨ret_bool (pB_yes ⟨h1, h2⟩).symm, rfl⟩
  ·
   go_enter Tryz.func78, Tryz.ntmps78
   go_wp2
   go_ret
   exact ⟨ret_bool (pB_no (fun h => by have a := h.1; have b := h.2; omega)).symm, rfl⟩
 ·
  go_enter Tryz.func78, Tryz.ntmps78
  go_wp2
  go_ret
  exact ⟨ret_bool (pB_no (fun h => by have a := h.1; have b := h.2; omega)).symm, rfl⟩
set_option maxHeartbeats 400000 in
theorem hasFunc_any (a : Option Addr) (n cap : Nat) (i : Int) (w : World) :
  Calls Tryz.prog 73 #[.slice a n cap, .int .i64 i] w fun e w' => e = .returned (.bool (pB (Reg i n))) ∧ w' = w := by
 by_cases h1 : 0 ≤ i
 ·
  by_cases h2 : i < (n : Int)
  ·
   go_enter Tryz.func73, Tryz.ntmps73
   go_wp2
   go_ret
   exact ⟨ret_bool (pB_yes ⟨h1, h2⟩).symm, rfl⟩
  ·
   go_enter Tryz.func73, Tryz.ntmps73
   go_wp2
   go_ret
   exact ⟨ret_bool (pB_no (fun h => by have a := h.1; have b := h.2; omega)).symm, rfl⟩
 ·
  go_enter Tryz.func73, Tryz.ntmps73
  go_wp2
  go_ret
  exact ⟨ret_bool (pB_no (fun h => by have a := h.1; have b := h.2; omega)).symm, rfl⟩
set_option maxHeartbeats 400000 in
theorem hasFOp_any (a : Option Addr) (n cap : Nat) (i : Int) (w : World) :
  Calls Tryz.prog 149 #[.slice a n cap, .int .i64 i] w fun e w' => e = .returned (.bool (pB (Reg i n))) ∧ w' = w := by
 by_cases h1 : 0 ≤ i
 ·
  by_cases h2 : i < (n : Int)
  ·
   go_enter Tryz.func149, Tryz.ntmps149
   go_wp2
   go_ret
   exact ⟨ret_bool (pB_yes ⟨h1, h2⟩).symm, rfl⟩
  ·
   go_enter Tryz.func149, Tryz.ntmps149
   go_wp2
   go_ret
   exact ⟨ret_bool (pB_no (fun h => by have a := h.1; have b := h.2; omega)).symm, rfl⟩
 ·
  go_enter Tryz.func149, Tryz.ntmps149
  go_wp2
  go_ret
  exact ⟨ret_bool (pB_no (fun h => by have a := h.1; have b := h.2; omega)).symm, rfl⟩
set_option maxHeartbeats 400000 in
theorem hasExit_any (a : Option Addr) (n cap : Nat) (i : Int) (w : World) :
  Calls Tryz.prog 150 #[.slice a n cap, .int .i64 i] w fun e w' => e = .returned (.bool (pB (Reg i n))) ∧ w' = w := by
 by_cases h1 : 0 ≤ i
 ·
  by_cases h2 : i < (n : Int)
  ·
   go_enter Tryz.func150, Tryz.ntmps150
   go_wp2
   go_ret
   exact ⟨ret_bool (pB_yes ⟨h1, h2⟩).symm, rfl⟩
  ·
   go_enter Tryz.func150, Tryz.ntmps150
   go_wp2
   go_ret
   exact ⟨ret_bool (pB_no (fun h => by have a := h.1; have b := h.2; omega)).symm, rfl⟩
 ·
  go_enter Tryz.func150, Tryz.ntmps150
  go_wp2
  go_ret
  exact ⟨ret_bool (pB_no (fun h => by have a := h.1; have b := h.2; omega)).symm, rfl⟩
set_option maxHeartbeats 400000 in
theorem hasExRec_any (a : Option Addr) (n cap : Nat) (i : Int) (w : World) :
  Calls Tryz.prog 175 #[.slice a n cap, .int .i64 i] w fun e w' => e = .returned (.bool (pB (Reg i n))) ∧ w' = w := by
 by_cases h1 : 0 ≤ i
 ·
  by_cases h2 : i < (n : Int)
  ·
   go_enter Tryz.func175, Tryz.ntmps175
   go_wp2
   go_ret
   exact ⟨ret_bool (pB_yes ⟨h1, h2⟩).symm, rfl⟩
  ·
   go_enter Tryz.func175, Tryz.ntmps175
   go_wp2
   go_ret
   exact ⟨ret_bool (pB_no (fun h => by have a := h.1; have b := h.2; omega)).symm, rfl⟩
 ·
  go_enter Tryz.func175, Tryz.ntmps175
  go_wp2
  go_ret
  exact ⟨ret_bool (pB_no (fun h => by have a := h.1; have b := h.2; omega)).symm, rfl⟩
set_option maxHeartbeats 400000 in
theorem endOp_any (op : Int) (w : World) :
  Calls Tryz.prog 79 #[.int .i64 op] w fun e w' => e = .returned (.bool (pB (EndOp op))) ∧ w' = w := by
 by_cases h1 : op = 23
 ·
  subst h1
  go_enter Tryz.func79, Tryz.ntmps79
  go_wp2
  go_ret
  exact ⟨ret_bool (pB_yes (.inl rfl)).symm, rfl⟩
 by_cases h2 : op = 26
 ·
  subst h2
  go_enter Tryz.func79, Tryz.ntmps79
  go_wp2
  go_ret
  exact ⟨ret_bool (pB_yes (.inr (.inl rfl))).symm, rfl⟩
 by_cases h3 : op = 27
 ·
  subst h3
  go_enter Tryz.func79, Tryz.ntmps79
  go_wp2
  go_ret
  exact ⟨ret_bool (pB_yes (.inr (.inr rfl))).symm, rfl⟩
 ·
  go_enter Tryz.func79, Tryz.ntmps79
  go_wp2
  go_ret
  exact ⟨ret_bool (pB_no (fun h => h.elim h1 (fun h => h.elim h2 h3))).symm, rfl⟩
set_option maxHeartbeats 400000 in
theorem countV_any (oa ea : Option Addr) (oc ec : Nat) (D : FastD) (w : World) :
  Calls Tryz.prog 197 #[.agg #[], .agg #[.int .i64 D.fn, .int .i64 D.entry, .int .i64 D.vals, .int .i64 D.nums, .slice oa D.ops.length oc, .slice ea D.exits.length ec]] w fun e w' => e = .returned (.int .i64 D.vals) ∧ Below w.heap.size w w' := by
 go_enter Tryz.func197, Tryz.ntmps197
 go_wp2
 go_ret
 exact ⟨rfl, ((Below.refl _ _).alloc (Nat.le_refl _) _).alloc (by simp) _⟩
set_option maxHeartbeats 1000000 in
theorem isInV_any (oa ea : Option Addr) (oc ec : Nat) (D : FastD) (n : Int) (w : World) :
  Calls Tryz.prog 147 #[.int .i64 n, .agg #[.int .i64 D.fn, .int .i64 D.entry, .int .i64 D.vals, .int .i64 D.nums, .slice oa D.ops.length oc, .slice ea D.exits.length ec]] w fun e w' => e = .returned (.bool (pB (Reg n D.vals))) ∧ Below w.heap.size w w' := by
 have m1 : ∀ (v : Value) (W : World), (Go.method 404 239 v "loop.example/g00094/impl.countIn").run Tryz.prog W = .ok (197, v) W := fun _ _ => by kernel_rfl
 have hbA : Below w.heap.size w ((w.alloc (.cells #[.int .i64 D.fn, .int .i64 D.entry, .int .i64 D.vals, .int .i64 D.nums, .slice oa D.ops.length oc, .slice ea D.exits.length ec] 41)).alloc (.cells #[] 239)) := ((Below.refl _ _).alloc (Nat.le_refl _) _).alloc (by simp) _
 by_cases h1 : 0 ≤ n
 ·
  by_cases h2 : n < D.vals
  ·
   go_enter Tryz.func147, Tryz.ntmps147
   go_wp2_with (go_at_call 197; refine (countV_any _ _ _ _ _ _).mono ?_; rintro e w1 ⟨rfl, hb⟩)
   go_ret
   exact ⟨ret_bool (pB_yes ⟨h1, h2⟩).symm, hbA.trans (hb.mono hbA.size)⟩
  ·
   go_enter Tryz.func147, Tryz.ntmps147
   go_wp2_with (go_at_call 197; refine (countV_any _ _ _ _ _ _).mono ?_; rintro e w1 ⟨rfl, hb⟩)
   go_ret
   exact ⟨ret_pB (by simp [Reg]; omega), hbA.trans (hb.mono hbA.size)⟩
 ·
  go_enter Tryz.func147, Tryz.ntmps147
  go_wp2
  go_ret
  exact ⟨ret_bool (pB_no (fun h => by have a := h.1; have b := h.2; omega)).symm, hbA⟩
set_option maxHeartbeats 400000 in
theorem countN_any (oa ea : Option Addr) (oc ec : Nat) (D : FastD) (w : World) :
  Calls Tryz.prog 200 #[.agg #[], .agg #[.int .i64 D.fn, .int .i64 D.entry, .int .i64 D.vals, .int .i64 D.nums, .slice oa D.ops.length oc, .slice ea D.exits.length ec]] w fun e w' => e = .returned (.int .i64 D.nums) ∧ Below w.heap.size w w' := by
 go_enter Tryz.func200, Tryz.ntmps200
 go_wp2
 go_ret
 exact ⟨rfl, ((Below.refl _ _).alloc (Nat.le_refl _) _).alloc (by simp) _⟩
set_option maxHeartbeats 1000000 in
theorem isInN_any (oa ea : Option Addr) (oc ec : Nat) (D : FastD) (n : Int) (w : World) :
  Calls Tryz.prog 148 #[.int .i64 n, .agg #[.int .i64 D.fn, .int .i64 D.entry, .int .i64 D.vals, .int .i64 D.nums, .slice oa D.ops.length oc, .slice ea D.exits.length ec]] w fun e w' => e = .returned (.bool (pB (Reg n D.nums))) ∧ Below w.heap.size w w' := by
 have m1 : ∀ (v : Value) (W : World), (Go.method 404 241 v "loop.example/g00094/impl.countIn").run Tryz.prog W = .ok (200, v) W := fun _ _ => by kernel_rfl
 have hbA : Below w.heap.size w ((w.alloc (.cells #[.int .i64 D.fn, .int .i64 D.entry, .int .i64 D.vals, .int .i64 D.nums, .slice oa D.ops.length oc, .slice ea D.exits.length ec] 41)).alloc (.cells #[] 241)) := ((Below.refl _ _).alloc (Nat.le_refl _) _).alloc (by simp) _
 by_cases h1 : 0 ≤ n
 ·
  by_cases h2 : n < D.nums
  ·
   go_enter Tryz.func148, Tryz.ntmps148
   go_wp2_with (go_at_call 200; refine (countN_any _ _ _ _ _ _).mono ?_; rintro e w1 ⟨rfl, hb⟩)
   go_ret
   exact ⟨ret_bool (pB_yes ⟨h1, h2⟩).symm, hbA.trans (hb.mono hbA.size)⟩
  ·
   go_enter Tryz.func148, Tryz.ntmps148
   go_wp2_with (go_at_call 200; refine (countN_any _ _ _ _ _ _).mono ?_; rintro e w1 ⟨rfl, hb⟩)
   go_ret
   exact ⟨ret_pB (by simp [Reg]; omega), hbA.trans (hb.mono hbA.size)⟩
 ·
  go_enter Tryz.func148, Tryz.ntmps148
  go_wp2
  go_ret
  exact ⟨ret_bool (pB_no (fun h => by have a := h.1; have b := h.2; omega)).symm, hbA⟩
theorem vl_eq {v u : Vl} : v = u ↔ v.k = u.k ∧ v.n = u.n ∧ v.s = u.s := by
 cases v; cases u; simp
theorem bytes_eq (a b : ByteArray) : (a.toList == b.toList) = pB (a = b) := by
 rw [Bool.eq_iff_iff]
 simp only [beq_iff_eq, pB, decide_eq_true_eq]
 rw [ByteArray.toList_eq, ByteArray.toList_eq]
 obtain ⟨⟨x⟩⟩ := a
 obtain ⟨⟨y⟩⟩ := b
 simp
theorem guard36 : Tryz.prog.eqGuardType Tryz.prog.depth 56 = false := by kernel_rfl
theorem eqIn36 (v u : Vl) (W : World) : (Op.equalIn 10000 56 (.agg #[.int .i64 v.k, .int .i64 v.n, .string v.s]) (.agg #[.int .i64 u.k, .int .i64 u.n, .string u.s])).run Tryz.prog W = .ok (pB (v = u)) W := by
 have h : ∀ d : Nat, (Op.equalIn (d + 1 + 1) 56 (.agg #[.int .i64 v.k, .int .i64 v.n, .string v.s]) (.agg #[.int .i64 u.k, .int .i64 u.n, .string u.s])).run Tryz.prog W = .ok (pB (v = u)) W := fun d => by
  have ht : Tryz.prog.underlying 56 = some (.struct (Tryz.prog.fieldsOf 56)) := by kernel_rfl
  have hp : Tryz.prog.stoodInHeld 56 = false := by kernel_rfl
  have hf : (Tryz.prog.fieldsOf 56).toList.map (fun f => (f.name, f.type, f.offset)) = [("Kind", 3, 0), ("N", 3, 1), ("S", 9, 2)] := by kernel_rfl
  rw [run_equalIn_struct W (d + 1) 56 _ _ ht hp]
  have p0 : ∀ (a b : Int) (s : ByteArray) (W : World), (part 3 #[.int .i64 a, .int .i64 b, .string s] 0).run Tryz.prog W = .ok (.int .i64 a) W := fun _ _ _ _ => by kernel_rfl
  have p1 : ∀ (a b : Int) (s : ByteArray) (W : World), (part 3 #[.int .i64 a, .int .i64 b, .string s] 1).run Tryz.prog W = .ok (.int .i64 b) W := fun _ _ _ _ => by kernel_rfl
  have p2 : ∀ (a b : Int) (s : ByteArray) (W : World), (part 9 #[.int .i64 a, .int .i64 b, .string s] 2).run Tryz.prog W = .ok (.string s) W := fun _ _ _ _ => by kernel_rfl
  rcases hL : (Tryz.prog.fieldsOf 56).toList with _ | ⟨f1, _ | ⟨f2, _ | ⟨f3, _ | _⟩⟩⟩
  · rw [hL] at hf; simp at hf
  · rw [hL] at hf; simp at hf
  · rw [hL] at hf; simp at hf
  ·
   rw [hL] at hf
   simp only [List.map_cons, List.map_nil, List.cons.injEq, Prod.mk.injEq, and_true] at hf
   obtain ⟨⟨n1, t1, o1⟩, ⟨n2, t2, o2⟩, n3, t3, o3⟩ := hf
   have e1 := run_equalIn_int (P := Tryz.prog) W d 3 .i64 .i64 v.k u.k Tryz.underlying3
   have e2 := run_equalIn_int (P := Tryz.prog) W d 3 .i64 .i64 v.n u.n Tryz.underlying3
   have e3 := run_equalIn_string (P := Tryz.prog) W d 9 v.s u.s Tryz.underlying9
   rw [int_eq] at e1 e2
   rw [bytes_eq] at e3
   have hb : pB (v = u) = (pB (v.k = u.k) && (pB (v.n = u.n) && pB (v.s = u.s))) := by
    rw [← pB_and, ← pB_and, show (v = u) = (v.k = u.k ∧ v.n = u.n ∧ v.s = u.s) from propext vl_eq]
   rw [hb]
   cases hk : pB (v.k = u.k) <;> cases hn : pB (v.n = u.n) <;> cases hs : pB (v.s = u.s) <;> rw [hk] at e1 <;> rw [hn] at e2 <;> rw [hs] at e3 <;>
    simp [Op.eqFields, n1, t1, o1, n2, t2, o2, n3, t3, o3, p0, p1, p2, e1, e2, e3]
  · rw [hL] at hf; simp at hf
 exact h 9998
set_option maxHeartbeats 400000 in
theorem callOp_any (op : Int) (w : World) : Calls Tryz.prog 165 #[.int .i64 op] w fun e w' => e = .returned (.bool (decide (op = 23) || decide (op = 24))) ∧ w' = w := by
 by_cases h1 : op = 23
 ·
  subst h1
  go_enter Tryz.func165, Tryz.ntmps165
  go_wp2
  go_ret
  exact ⟨rfl, rfl⟩
 ·
  by_cases h2 : op = 24
  ·
   subst h2
   go_enter Tryz.func165, Tryz.ntmps165
   go_wp2
   go_ret
   exact ⟨rfl, rfl⟩
  ·
   have b1 : (op == 23) = false := by simpa using h1
   have b2 : (op == 24) = false := by simpa using h2
   go_enter Tryz.func165, Tryz.ntmps165
   go_wp2
   go_ret
   exact ⟨ret_bool (by simp [h1, h2]), rfl⟩
set_option maxHeartbeats 4000000 in
theorem fits_any (a1 a2 : Option Addr) (nt c1 c2 : Nat) (fs : List Fn) (base G : Nat) (f pc nl ns : Int) (last : Bool) (w : World) (hm : FnsAt w 0 a2 fs) (hH : Hs w base G fs.length fs) (FF : ∀ k (hk : k < fs.length), Fine fs fs[k].code) :
  Calls Tryz.prog 153 #[.agg #[.slice a1 nt c1, .slice a2 fs.length c2], .slice (some ⟨G, 0, none⟩) fs.length fs.length, .int .i64 f, .int .i64 pc, .int .i64 nl, .int .i64 ns, .bool last] w fun e w' => Says (Fits fs f pc nl ns last) e ∧ Below w.heap.size w w' := by
 have hbA : Below w.heap.size w (w.alloc (.cells #[.slice a1 nt c1, .slice a2 fs.length c2] 36)) := (Below.refl _ _).alloc (Nat.le_refl _) _
 by_cases hf0 : f < 0
 ·
  go_enter Tryz.func153, Tryz.ntmps153
  go_wp2
  go_ret
  exact ⟨Says.no rfl (fits_fn (.inl hf0)), hbA⟩
 by_cases hf1 : (fs.length : Int) ≤ f
 ·
  go_enter Tryz.func153, Tryz.ntmps153
  go_wp2
  go_ret
  exact ⟨Says.no rfl (fits_fn (.inr hf1)), hbA⟩
 obtain ⟨i, rfl⟩ : ∃ i : Nat, f = i := ⟨f.toNat, by omega⟩
 have hi : i < fs.length := by omega
 clear hf0 hf1
 obtain ⟨b, off, ca, cc, rfl, -, d1, d2, d3, d4⟩ := hm i hi
 have d2' := cell_later hbA d2
 have d3' := cell_later hbA d3
 clear d1 d2 d3
 by_cases hl : nl = fs[i].locals
 case neg =>
  have hl' : (nl != fs[i].locals) = true := by simpa using hl
  have HL : Hid (nl ≠ fs[i].locals) := hl
  clear hl
  go_enter Tryz.func153, Tryz.ntmps153
  go_wp2
  go_ret
  exact ⟨Says.no rfl (fits_locals hi HL.out), hbA⟩
 have HL : Hid (nl = fs[i].locals) := hl
 have hl' : (nl != fs[i].locals) = false := by simpa using hl
 clear hl
 obtain ⟨g, d, hg, hD, hHt⟩ := hH.at hi hi
 have F := FF i hi
 have P := hD.hts F
 have hmost := F.most
 have hdl : Hid (d.length = fs[i].code.length) := P.len
 have hg' := cell_later hbA hg
 clear hg
 go_enter Tryz.func153, Tryz.ntmps153
 go_wp2
 go_quiet (fail)
 clear d2' d3' hl'
 by_cases hp0 : pc < 0
 ·
  go_wp2
  go_ret
  exact ⟨Says.no rfl (fits_pc hi (.inl hp0)), below_draws hbA _⟩
 by_cases hp1 : (fs[i].code.length : Int) ≤ pc
 ·
  go_wp2
  go_ret
  exact ⟨Says.no rfl (fits_pc hi (.inr hp1)), below_draws hbA _⟩
 obtain ⟨p, rfl⟩ : ∃ p : Nat, pc = p := ⟨pc.toNat, by omega⟩
 have hpd : p < d.length := by rw [hdl.out]; omega
 have hpl : p < fs[i].code.length := by omega
 clear hp0 hp1
 have hHA := hHt.mono hbA
 have hc0 := hHA.cell hpd
 have hlow := P.low p hpd
 have hhigh := P.high p hpd
 by_cases hm1 : d[p] = -1
 ·
  have HM : Hid (d[p] = -1) := hm1
  have hm1' : (d[p] == -1) = true := by simpa using hm1
  go_wp2
  go_ret
  exact ⟨Says.no rfl (fits_none hi hD hpd (by rw [HM.out]; decide)), below_draws hbA _⟩
 have HM : Hid (0 ≤ d[p]) := by show 0 ≤ d[p]; omega
 have hm1' : (d[p] == -1) = false := by simpa using hm1
 clear hm1
 cases last with
 | true =>
  go_wp2
  go_ret
  refine ⟨⟨_, rfl, ?_⟩, below_draws hbA _⟩
  rw [fits_last hi hD hpd hdl.out HL.out HM.out]
  simp
 | false =>
  cases p with
  | zero =>
   go_wp2
   all_goals go_ret
   all_goals exact ⟨Says.no rfl fits_first, below_draws hbA _⟩
  | succ p =>
   have hpd0 : p < d.length := by omega
   have hpl0 : p < fs[i].code.length := by omega
   obtain ⟨cb, coff, rfl, -, e1, -⟩ := d4 p hpl0
   have e1' := cell_later hbA e1
   have hc1 := hHA.cell hpd0
   have hlow0 := P.low p hpd0
   clear e1
   by_cases ho : fs[i].code[p].1 = 23 ∨ fs[i].code[p].1 = 24
   case neg =>
    have ho' : (decide (fs[i].code[p].1 = 23) || decide (fs[i].code[p].1 = 24)) = false := by simpa using ho
    have HO : Hid (¬ (fs[i].code[p].1 = 23 ∨ fs[i].code[p].1 = 24)) := ho
    clear ho
    go_wp2_with (go_at_call 165; refine (callOp_any _ _).mono ?_; rintro e w' ⟨rfl, hw⟩; rw [hw]; clear hw w')
    go_ret
    refine ⟨Says.no rfl ?_, below_draws hbA _⟩
    rw [fits_other hi hD hpd hdl.out HL.out HM.out]
    exact fun h => HO.out h.2.1
   have ho' : (decide (fs[i].code[p].1 = 23) || decide (fs[i].code[p].1 = 24)) = true := by simpa using ho
   have HO : Hid (fs[i].code[p].1 = 23 ∨ fs[i].code[p].1 = 24) := ho
   clear ho
   by_cases hm0 : d[p] = -1
   ·
    have HM0 : Hid (d[p] = -1) := hm0
    have hm0' : (d[p] != -1) = false := by simpa using hm0
    clear hm0
    go_wp2_with (go_at_call 165; refine (callOp_any _ _).mono ?_; rintro e w' ⟨rfl, hw⟩; rw [hw]; clear hw w')
    go_ret
    refine ⟨Says.no rfl ?_, below_draws hbA _⟩
    rw [fits_other hi hD hpd hdl.out HL.out HM.out]
    exact fun h => absurd h.1 (by rw [HM0.out]; decide)
   ·
    have HM0 : Hid (0 ≤ d[p]) := by show 0 ≤ d[p]; omega
    have hm0' : (d[p] != -1) = true := by simpa using hm0
    clear hm0
    go_wp2_with (go_at_call 165; refine (callOp_any _ _).mono ?_; rintro e w' ⟨rfl, hw⟩; rw [hw]; clear hw w')
    go_ret
    refine ⟨⟨_, rfl, ?_⟩, below_draws hbA _⟩
    rw [fits_other hi hD hpd hdl.out HL.out HM.out]
    constructor
    ·
     intro h
     exact ⟨HM0.out, HO.out, by simpa using h⟩
    ·
     rintro ⟨-, -, h⟩
     simpa using h
end Go.Proofs.YthnolafhnplnkaaGreatDoor
