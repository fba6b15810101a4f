/-
  Two values held against each other.
  What impl.frameFits returns.
  The look at code (the program): what a field of an op names, and its constant.
-/
import Derived.Test.YtcbknjjnphknbaaGreatDoorZOQ2
import Derived.Test.YtcbknjjnphknbaaGreatDoorZOQ6
import Derived.Laws.StructEq
import Derived.Test.YtcbknjjnphknbaaGreatDoorZOQ16
import Derived.Test.YtcbknjjnphknbaaGreatDoorZOQ17
import Derived.Deep.QuietTactic
import Derived.BigQuiet
import Derived.Test.YtcbknjjnphknbaaGreatDoorZOQ20
import Derived.Test.YtcbknjjnphknbaaGreatDoorZK1
import Derived.Test.YtcbknjjnphknbaaGreatDoorZOQ5
namespace Go.Proofs.YtcbknjjnphknbaaGreatDoor
open Go.RowKit

theorem vl_eq {v u : Vl} : v = u ↔ v.k = u.k ∧ v.n = u.n ∧ v.s = u.s := by
  cases v; cases u; simp
theorem bytes_eq (a b : ByteArray) : (a.toList == b.toList) = pB (a = b) := by
  rw [Bool.eq_iff_iff]
  simp only [beq_iff_eq, pB, decide_eq_true_eq]
  rw [ByteArray.toList_eq, ByteArray.toList_eq]
  obtain ⟨⟨x⟩⟩ := a
  obtain ⟨⟨y⟩⟩ := b
  simp
theorem guard36 : Tryz.prog.eqGuardType Tryz.prog.depth 102 = false := by kernel_rfl

set_option maxRecDepth 100000 in
theorem eqIn36 (v u : Vl) (W : World) : (Op.equalIn 10000 102 (.agg #[.int .i64 v.k, .int .i64 v.n, .string v.s]) (.agg #[.int .i64 u.k, .int .i64 u.n, .string u.s])).run Tryz.prog W = .ok (pB (v = u)) W := by
  have h : ∀ d : Nat, (Op.equalIn (d + 1 + 1) 102 (.agg #[.int .i64 v.k, .int .i64 v.n, .string v.s]) (.agg #[.int .i64 u.k, .int .i64 u.n, .string u.s])).run Tryz.prog W = .ok (pB (v = u)) W := fun d => by
    have ht : Tryz.prog.underlying 102 = some (.struct (Tryz.prog.fieldsOf 102)) := by kernel_rfl
    have hp : Tryz.prog.stoodInHeld 102 = false := by kernel_rfl
    have hf : (Tryz.prog.fieldsOf 102).toList.map (fun f => (f.name, f.type, f.offset)) = [("Kind", 3, 0), ("N", 3, 1), ("S", 9, 2)] := by kernel_rfl
    rw [run_equalIn_struct W (d + 1) 102 _ _ ht hp]
    have p0 : ∀ (a b : Int) (s : ByteArray) (W : World), (part 3 #[.int .i64 a, .int .i64 b, .string s] 0).run Tryz.prog W = .ok (.int .i64 a) W := fun _ _ _ _ => by kernel_rfl
    have p1 : ∀ (a b : Int) (s : ByteArray) (W : World), (part 3 #[.int .i64 a, .int .i64 b, .string s] 1).run Tryz.prog W = .ok (.int .i64 b) W := fun _ _ _ _ => by kernel_rfl
    have p2 : ∀ (a b : Int) (s : ByteArray) (W : World), (part 9 #[.int .i64 a, .int .i64 b, .string s] 2).run Tryz.prog W = .ok (.string s) W := fun _ _ _ _ => by kernel_rfl
    rcases hL : (Tryz.prog.fieldsOf 102).toList with _ | ⟨f1, _ | ⟨f2, _ | ⟨f3, _ | _⟩⟩⟩
    · rw [hL] at hf; simp at hf
    · rw [hL] at hf; simp at hf
    · rw [hL] at hf; simp at hf
    · rw [hL] at hf
      simp only [List.map_cons, List.map_nil, List.cons.injEq, Prod.mk.injEq, and_true] at hf
      obtain ⟨⟨n1, t1, o1⟩, ⟨n2, t2, o2⟩, n3, t3, o3⟩ := hf
      have e1 := run_equalIn_int (P := Tryz.prog) W d 3 .i64 .i64 v.k u.k Tryz.underlying3
      have e2 := run_equalIn_int (P := Tryz.prog) W d 3 .i64 .i64 v.n u.n Tryz.underlying3
      have e3 := run_equalIn_string (P := Tryz.prog) W d 9 v.s u.s Tryz.underlying9
      rw [int_eq] at e1 e2
      rw [bytes_eq] at e3
      have hb : pB (v = u) = (pB (v.k = u.k) && (pB (v.n = u.n) && pB (v.s = u.s))) := by
        rw [← pB_and, ← pB_and, show (v = u) = (v.k = u.k ∧ v.n = u.n ∧ v.s = u.s) from propext vl_eq]
      rw [hb]
      cases hk : pB (v.k = u.k) <;> cases hn : pB (v.n = u.n) <;> cases hs : pB (v.s = u.s) <;> rw [hk] at e1 <;> rw [hn] at e2 <;> rw [hs] at e3 <;>
        simp [Op.eqFields, n1, t1, o1, n2, t2, o2, n3, t3, o3, p0, p1, p2, e1, e2, e3]
    · rw [hL] at hf; simp at hf
  exact h 9998
end Go.Proofs.YtcbknjjnphknbaaGreatDoor

namespace Go.Proofs.YtcbknjjnphknbaaGreatDoor
open Go.RowKit

set_option maxHeartbeats 400000 in
theorem callOp_any (op : Int) (w : World) : Calls Tryz.prog 146 #[.int .i64 op] w fun e w' => e = .returned (.bool (decide (op = 23) || decide (op = 24))) ∧ w' = w := by
  by_cases h1 : op = 23
  · subst h1
    go_enter Tryz.func146, Tryz.ntmps146
    go_wp2
    go_ret
    exact ⟨rfl, rfl⟩
  · by_cases h2 : op = 24
    · subst h2
      go_enter Tryz.func146, Tryz.ntmps146
      go_wp2
      go_ret
      exact ⟨rfl, rfl⟩
    · have b1 : (op == 23) = false := by simpa using h1
      have b2 : (op == 24) = false := by simpa using h2
      go_enter Tryz.func146, Tryz.ntmps146
      go_wp2
      go_ret
      exact ⟨ret_bool (by simp [h1, h2]), rfl⟩

set_option maxRecDepth 100000 in
set_option maxHeartbeats 4000000 in
theorem fits_any (a1 a2 : Option Addr) (nt c1 c2 : Nat) (fs : List Fn) (base G : Nat) (f pc nl ns : Int) (last : Bool) (w : World) (hm : FnsAt w 0 a2 fs) (hH : Hs w base G fs.length fs) (FF : ∀ k (hk : k < fs.length), Fine fs fs[k].code) :
    Calls Tryz.prog 132 #[.agg #[.slice a1 nt c1, .slice a2 fs.length c2], .slice (some ⟨G, 0, none⟩) fs.length fs.length, .int .i64 f, .int .i64 pc, .int .i64 nl, .int .i64 ns, .bool last] w fun e w' => Says (Fits fs f pc nl ns last) e ∧ Below w.heap.size w w' := by
  have hbA : Below w.heap.size w (w.alloc (.cells #[.slice a1 nt c1, .slice a2 fs.length c2] 35)) := (Below.refl _ _).alloc (Nat.le_refl _) _
  by_cases hf0 : f < 0
  · go_enter Tryz.func132, Tryz.ntmps132
    go_wp2
    go_ret
    exact ⟨Says.no rfl (fits_fn (.inl hf0)), hbA⟩
  by_cases hf1 : (fs.length : Int) ≤ f
  · go_enter Tryz.func132, Tryz.ntmps132
    go_wp2
    go_ret
    exact ⟨Says.no rfl (fits_fn (.inr hf1)), hbA⟩
  obtain ⟨i, rfl⟩ : ∃ i : Nat, f = i := ⟨f.toNat, by omega⟩
  have hi : i < fs.length := by omega
  clear hf0 hf1
  obtain ⟨b, off, ca, cc, rfl, -, d1, d2, d3, d4⟩ := hm i hi
  have d2' := cell_later hbA d2
  have d3' := cell_later hbA d3
  clear d1 d2 d3
  by_cases hl : nl = fs[i].locals
  case neg =>
    have hl' : (nl != fs[i].locals) = true := by simpa using hl
    have HL : Hid (nl ≠ fs[i].locals) := hl
    clear hl
    go_enter Tryz.func132, Tryz.ntmps132
    go_wp2
    go_ret
    exact ⟨Says.no rfl (fits_locals hi HL.out), hbA⟩
  have HL : Hid (nl = fs[i].locals) := hl
  have hl' : (nl != fs[i].locals) = false := by simpa using hl
  clear hl
  obtain ⟨g, d, hg, hD, hHt⟩ := hH.at hi hi
  have F := FF i hi
  have P := hD.hts F
  have hmost := F.most
  have hdl : Hid (d.length = fs[i].code.length) := P.len
  have hg' := cell_later hbA hg
  clear hg
  go_enter Tryz.func132, Tryz.ntmps132
  go_wp2
  go_quiet (fail)
  clear d2' d3' hl'
  by_cases hp0 : pc < 0
  · go_wp2
    go_ret
    exact ⟨Says.no rfl (fits_pc hi (.inl hp0)), below_draws hbA _⟩
  by_cases hp1 : (fs[i].code.length : Int) ≤ pc
  · go_wp2
    go_ret
    exact ⟨Says.no rfl (fits_pc hi (.inr hp1)), below_draws hbA _⟩
  obtain ⟨p, rfl⟩ : ∃ p : Nat, pc = p := ⟨pc.toNat, by omega⟩
  have hpd : p < d.length := by rw [hdl.out]; omega
  have hpl : p < fs[i].code.length := by omega
  clear hp0 hp1
  have hHA := hHt.mono hbA
  have hc0 := hHA.cell hpd
  have hlow := P.low p hpd
  have hhigh := P.high p hpd
  by_cases hm1 : d[p] = -1
  · have HM : Hid (d[p] = -1) := hm1
    have hm1' : (d[p] == -1) = true := by simpa using hm1
    go_wp2
    go_ret
    exact ⟨Says.no rfl (fits_none hi hD hpd (by rw [HM.out]; decide)), below_draws hbA _⟩
  have HM : Hid (0 ≤ d[p]) := by show 0 ≤ d[p]; omega
  have hm1' : (d[p] == -1) = false := by simpa using hm1
  clear hm1
  cases last with
  | true =>
    go_wp2
    go_ret
    refine ⟨⟨_, rfl, ?_⟩, below_draws hbA _⟩
    rw [fits_last hi hD hpd hdl.out HL.out HM.out]
    simp
  | false =>
    cases p with
    | zero =>
      go_wp2
      all_goals go_ret
      all_goals exact ⟨Says.no rfl fits_first, below_draws hbA _⟩
    | succ p =>
      have hpd0 : p < d.length := by omega
      have hpl0 : p < fs[i].code.length := by omega
      obtain ⟨cb, coff, rfl, -, e1, -⟩ := d4 p hpl0
      have e1' := cell_later hbA e1
      have hc1 := hHA.cell hpd0
      have hlow0 := P.low p hpd0
      clear e1
      by_cases ho : fs[i].code[p].1 = 23 ∨ fs[i].code[p].1 = 24
      case neg =>
        have ho' : (decide (fs[i].code[p].1 = 23) || decide (fs[i].code[p].1 = 24)) = false := by simpa using ho
        have HO : Hid (¬ (fs[i].code[p].1 = 23 ∨ fs[i].code[p].1 = 24)) := ho
        clear ho
        go_wp2_with (go_at_call 146; refine (callOp_any _ _).mono ?_; rintro e w' ⟨rfl, hw⟩; rw [hw]; clear hw w')
        go_ret
        refine ⟨Says.no rfl ?_, below_draws hbA _⟩
        rw [fits_other hi hD hpd hdl.out HL.out HM.out]
        exact fun h => HO.out h.2.1
      have ho' : (decide (fs[i].code[p].1 = 23) || decide (fs[i].code[p].1 = 24)) = true := by simpa using ho
      have HO : Hid (fs[i].code[p].1 = 23 ∨ fs[i].code[p].1 = 24) := ho
      clear ho
      by_cases hm0 : d[p] = -1
      · have HM0 : Hid (d[p] = -1) := hm0
        have hm0' : (d[p] != -1) = false := by simpa using hm0
        clear hm0
        go_wp2_with (go_at_call 146; refine (callOp_any _ _).mono ?_; rintro e w' ⟨rfl, hw⟩; rw [hw]; clear hw w')
        go_ret
        refine ⟨Says.no rfl ?_, below_draws hbA _⟩
        rw [fits_other hi hD hpd hdl.out HL.out HM.out]
        exact fun h => absurd h.1 (by rw [HM0.out]; decide)
      · have HM0 : Hid (0 ≤ d[p]) := by show 0 ≤ d[p]; omega
        have hm0' : (d[p] != -1) = true := by simpa using hm0
        clear hm0
        go_wp2_with (go_at_call 146; refine (callOp_any _ _).mono ?_; rintro e w' ⟨rfl, hw⟩; rw [hw]; clear hw w')
        go_ret
        refine ⟨⟨_, rfl, ?_⟩, below_draws hbA _⟩
        rw [fits_other hi hD hpd hdl.out HL.out HM.out]
        constructor
        · intro h
          exact ⟨HM0.out, HO.out, by simpa using h⟩
        · rintro ⟨-, -, h⟩
          simpa using h
end Go.Proofs.YtcbknjjnphknbaaGreatDoor

namespace Go.Proofs.YtcbknjjnphknbaaGreatDoor
open Go.RowKit

/-- The cells of the look at code. -/
def lookCells (a1 a2 oa ea : Option Addr) (nt c1 c2 oc ec G nf : Nat) (D : FastD) : Array Value :=
  #[.slice a1 nt c1, .slice a2 nf c2, .slice (some ⟨G, 0, none⟩) nf nf, .int .i64 D.fn, .int .i64 D.entry, .int .i64 D.vals, .int .i64 D.nums, .slice oa D.ops.length oc, .slice ea D.exits.length ec, .slice a2 nf c2, .slice oa D.ops.length oc, .slice ea D.exits.length ec]
/-- The look lies in block K, and all that it looks at lies in memory. -/
structure Look (fs : List Fn) (D : FastD) (a1 a2 oa ea : Option Addr) (nt c1 c2 oc ec G base K : Nat) (w : World) : Prop where
  blk : w.heap[K]? = some (Obj.cells (lookCells a1 a2 oa ea nt c1 c2 oc ec G fs.length D) 63 (0, 0))
  fns : FnsAt w 0 a2 fs
  hts : Hs w base G fs.length fs
  ops : FosAt w 0 oa D.ops
  exits : ExsAt w 0 ea D.exits
  shp : ShAt w
/-- Nothing is too great. -/
structure Lim (fs : List Fn) (D : FastD) : Prop where
  nf : fs.length ≤ 1048576
  code : ∀ f ∈ fs, f.code.length ≤ 1048576
  fast : FastSmall D
  fine : ∀ k (hk : k < fs.length), Fine fs fs[k].code
section
variable {fs : List Fn} {D : FastD} {a1 a2 oa ea : Option Addr} {nt c1 c2 oc ec G base K : Nat} {w : World}
theorem Look.mono {w' : World} (h : Look fs D a1 a2 oa ea nt c1 c2 oc ec G base K w) (hb : Below w.heap.size w w') : Look fs D a1 a2 oa ea nt c1 c2 oc ec G base K w' :=
  ⟨block_kept h.blk hb, h.fns.mono hb, h.hts.mono hb, h.ops.mono hb, h.exits.mono hb, h.shp.mono hb⟩
theorem Look.cells (h : Look fs D a1 a2 oa ea nt c1 c2 oc ec G base K w) (i : Nat) : w.cell? ⟨K, i, none⟩ = (#[.slice a1 nt c1, .slice a2 fs.length c2, .slice (some ⟨G, 0, none⟩) fs.length fs.length, .int .i64 D.fn, .int .i64 D.entry, .int .i64 D.vals, .int .i64 D.nums, .slice oa D.ops.length oc, .slice ea D.exits.length ec, .slice a2 fs.length c2, .slice oa D.ops.length oc, .slice ea D.exits.length ec] : Array Value)[i]? := block_cell h.blk i

set_option maxRecDepth 100000 in
set_option maxHeartbeats 1000000 in
theorem part0_any (at' n : Int) (h : Look fs D a1 a2 oa ea nt c1 c2 oc ec G base K w) :
    Calls Tryz.prog 95 #[.pointer (some ⟨K, 0, none⟩), .int .i64 at', .int .i64 0, .int .i64 n] w fun e w' => e = .returned (.bool (pB (PartP fs.length D at' 0 n))) ∧ Below w.heap.size w w' := by
  have c := h.cells
  by_cases hn : n = 0
  · subst hn
    go_enter Tryz.func95, Tryz.ntmps95
    go_wp2
    go_ret
    exact ⟨ret_bool (pB_yes (show (0 : Int) = 0 from rfl)).symm, Below.refl _ _⟩
  · have hn' : (n == 0) = false := by simpa using hn
    have HN : Hid (¬ n = 0) := hn
    clear hn
    go_enter Tryz.func95, Tryz.ntmps95
    go_wp2
    go_ret
    exact ⟨ret_bool (pB_no (show ¬ n = 0 from HN.out)).symm, Below.refl _ _⟩

set_option maxRecDepth 100000 in
set_option maxHeartbeats 1000000 in
theorem part1_any (at' n : Int) (h : Look fs D a1 a2 oa ea nt c1 c2 oc ec G base K w) :
    Calls Tryz.prog 95 #[.pointer (some ⟨K, 0, none⟩), .int .i64 at', .int .i64 1, .int .i64 n] w fun e w' => e = .returned (.bool (pB (PartP fs.length D at' 1 n))) ∧ Below w.heap.size w w' := by
  have c := h.cells
  go_enter Tryz.func95, Tryz.ntmps95
  go_wp2_with (go_at_call 126; refine (isInV_any _ _ _ _ D _ _).mono ?_; rintro e w1 ⟨rfl, hb⟩)
  go_ret
  exact ⟨rfl, hb⟩

set_option maxRecDepth 100000 in
set_option maxHeartbeats 1000000 in
theorem part2_any (at' n : Int) (h : Look fs D a1 a2 oa ea nt c1 c2 oc ec G base K w) :
    Calls Tryz.prog 95 #[.pointer (some ⟨K, 0, none⟩), .int .i64 at', .int .i64 2, .int .i64 n] w fun e w' => e = .returned (.bool (pB (PartP fs.length D at' 2 n))) ∧ Below w.heap.size w w' := by
  have c := h.cells
  go_enter Tryz.func95, Tryz.ntmps95
  go_wp2_with (go_at_call 127; refine (isInN_any _ _ _ _ D _ _).mono ?_; rintro e w1 ⟨rfl, hb⟩)
  go_ret
  exact ⟨rfl, hb⟩

set_option maxRecDepth 100000 in
set_option maxHeartbeats 1000000 in
theorem part3_any (at' n : Int) (h : Look fs D a1 a2 oa ea nt c1 c2 oc ec G base K w) :
    Calls Tryz.prog 95 #[.pointer (some ⟨K, 0, none⟩), .int .i64 at', .int .i64 3, .int .i64 n] w fun e w' => e = .returned (.bool (pB (PartP fs.length D at' 3 n))) ∧ Below w.heap.size w w' := by
  have c := h.cells
  go_enter Tryz.func95, Tryz.ntmps95
  go_wp2_with (go_at_call 50; refine (iBetween_any _ _ _ _).mono ?_; rintro e w1 ⟨rfl, hw⟩; rw [hw]; clear hw w1)
  go_ret
  exact ⟨rfl, Below.refl _ _⟩

set_option maxRecDepth 100000 in
set_option maxHeartbeats 1000000 in
theorem part4_any (at' n : Int) (h : Look fs D a1 a2 oa ea nt c1 c2 oc ec G base K w) :
    Calls Tryz.prog 95 #[.pointer (some ⟨K, 0, none⟩), .int .i64 at', .int .i64 4, .int .i64 n] w fun e w' => e = .returned (.bool (pB (PartP fs.length D at' 4 n))) ∧ Below w.heap.size w w' := by
  have c := h.cells
  go_enter Tryz.func95, Tryz.ntmps95
  go_wp2_with (go_at_call 50; refine (iBetween_any _ _ _ _).mono ?_; rintro e w1 ⟨rfl, hw⟩; rw [hw]; clear hw w1)
  go_ret
  exact ⟨rfl, Below.refl _ _⟩

set_option maxRecDepth 100000 in
set_option maxHeartbeats 1000000 in
theorem part5_any (at' n : Int) (h : Look fs D a1 a2 oa ea nt c1 c2 oc ec G base K w) :
    Calls Tryz.prog 95 #[.pointer (some ⟨K, 0, none⟩), .int .i64 at', .int .i64 5, .int .i64 n] w fun e w' => e = .returned (.bool (pB (PartP fs.length D at' 5 n))) ∧ Below w.heap.size w w' := by
  have c := h.cells
  go_enter Tryz.func95, Tryz.ntmps95
  go_wp2_with (go_at_call 45; refine (hasFunc_any _ _ _ _ _).mono ?_; rintro e w1 ⟨rfl, hw⟩; rw [hw]; clear hw w1)
  go_ret
  exact ⟨rfl, Below.refl _ _⟩

set_option maxRecDepth 100000 in
set_option maxHeartbeats 1000000 in
theorem part7_any (at' n : Int) (h : Look fs D a1 a2 oa ea nt c1 c2 oc ec G base K w) :
    Calls Tryz.prog 95 #[.pointer (some ⟨K, 0, none⟩), .int .i64 at', .int .i64 7, .int .i64 n] w fun e w' => e = .returned (.bool (pB (PartP fs.length D at' 7 n))) ∧ Below w.heap.size w w' := by
  have c := h.cells
  go_enter Tryz.func95, Tryz.ntmps95
  go_wp2_with (go_at_call 50; refine (iBetween_any _ _ _ _).mono ?_; rintro e w1 ⟨rfl, hw⟩; rw [hw]; clear hw w1)
  go_ret
  exact ⟨rfl, Below.refl _ _⟩

set_option maxRecDepth 100000 in
set_option maxHeartbeats 1000000 in
theorem part8_any (at' n : Int) (h : Look fs D a1 a2 oa ea nt c1 c2 oc ec G base K w) :
    Calls Tryz.prog 95 #[.pointer (some ⟨K, 0, none⟩), .int .i64 at', .int .i64 8, .int .i64 n] w fun e w' => e = .returned (.bool (pB (PartP fs.length D at' 8 n))) ∧ Below w.heap.size w w' := by
  have c := h.cells
  go_enter Tryz.func95, Tryz.ntmps95
  go_wp2_with (go_at_call 129; refine (hasExit_any _ _ _ _ _).mono ?_; rintro e w1 ⟨rfl, hw⟩; rw [hw]; clear hw w1)
  go_ret
  exact ⟨rfl, Below.refl _ _⟩

set_option maxRecDepth 100000 in
set_option maxHeartbeats 1000000 in
theorem part6_any (at' n : Int) (h : Look fs D a1 a2 oa ea nt c1 c2 oc ec G base K w) :
    Calls Tryz.prog 95 #[.pointer (some ⟨K, 0, none⟩), .int .i64 at', .int .i64 6, .int .i64 n] w fun e w' => e = .returned (.bool (pB (PartP fs.length D at' 6 n))) ∧ Below w.heap.size w w' := by
  have c := h.cells
  by_cases hr : Reg n D.ops.length
  case neg =>
    have HB : pB (Reg n D.ops.length) = false := pB_no hr
    have HR : Hid (¬ Reg n D.ops.length) := hr
    clear hr
    go_enter Tryz.func95, Tryz.ntmps95
    go_wp2_with (go_at_call 128; refine (hasFOp_any _ _ _ _ _).mono ?_; rintro e w1 ⟨rfl, hw⟩; rw [hw, HB]; clear hw w1)
    go_ret
    exact ⟨ret_bool (pB_no (fun q => HR.out ⟨q.1, by obtain ⟨q1, q2, -⟩ := q; omega⟩)).symm, Below.refl _ _⟩
  have HB : pB (Reg n D.ops.length) = true := pB_yes hr
  obtain ⟨i, rfl⟩ : ∃ i : Nat, n = i := ⟨n.toNat, by have := hr.1; omega⟩
  have hi : i < D.ops.length := by have := hr.2; omega
  clear hr
  obtain ⟨b, off, rfl, -, d0, -⟩ := h.ops i hi
  by_cases ha : at' < (i : Int)
  case pos =>
    go_enter Tryz.func95, Tryz.ntmps95
    go_wp2_with (go_at_call 128; refine (hasFOp_any _ _ _ _ _).mono ?_; rintro e w1 ⟨rfl, hw⟩; rw [hw, HB]; clear hw w1)
    go_ret
    exact ⟨ret_bool (pB_yes ⟨by omega, by simpa using hi, .inl ha⟩).symm, Below.refl _ _⟩
  by_cases ho : D.ops[i].op = 25
  case pos =>
    rw [ho] at d0
    have HO : Hid (D.ops[i].op = 25) := ho
    clear ho
    go_enter Tryz.func95, Tryz.ntmps95
    go_wp2_with (go_at_call 128; refine (hasFOp_any _ _ _ _ _).mono ?_; rintro e w1 ⟨rfl, hw⟩; rw [hw, HB]; clear hw w1)
    go_ret
    exact ⟨ret_bool (pB_yes ⟨by omega, by simpa using hi, .inr (by simpa using HO.out)⟩).symm, Below.refl _ _⟩
  case neg =>
    have ho' : (D.ops[i].op == 25) = false := by simpa using ho
    have HO : Hid (¬ D.ops[i].op = 25) := ho
    clear ho
    go_enter Tryz.func95, Tryz.ntmps95
    go_wp2_with (go_at_call 128; refine (hasFOp_any _ _ _ _ _).mono ?_; rintro e w1 ⟨rfl, hw⟩; rw [hw, HB]; clear hw w1)
    go_ret
    refine ⟨ret_pB ⟨fun q => absurd (of_decide_eq_true q) (by omega), fun q => ?_⟩, Below.refl _ _⟩
    obtain ⟨_, _, q | q⟩ := q
    · exact decide_eq_true q
    · exact absurd (by simpa using q) HO.out

theorem partOk_any (at' n : Int) (p : Nat) (hp : p ≤ 8) (h : Look fs D a1 a2 oa ea nt c1 c2 oc ec G base K w) :
    Calls Tryz.prog 95 #[.pointer (some ⟨K, 0, none⟩), .int .i64 at', .int .i64 (p : Nat), .int .i64 n] w fun e w' => e = .returned (.bool (pB (PartP fs.length D at' p n))) ∧ Below w.heap.size w w' := by
  match p, hp with
  | 0, _ => exact part0_any at' n h
  | 1, _ => exact part1_any at' n h
  | 2, _ => exact part2_any at' n h
  | 3, _ => exact part3_any at' n h
  | 4, _ => exact part4_any at' n h
  | 5, _ => exact part5_any at' n h
  | 6, _ => exact part6_any at' n h
  | 7, _ => exact part7_any at' n h
  | 8, _ => exact part8_any at' n h
set_option maxRecDepth 100000 in
set_option maxHeartbeats 1000000 in
theorem const1_any (v : Vl) (hs : v.s.size ≤ 1048576) (h : Look fs D a1 a2 oa ea nt c1 c2 oc ec G base K w) :
    Calls Tryz.prog 96 #[.pointer (some ⟨K, 0, none⟩), .int .i64 1, .agg #[.int .i64 v.k, .int .i64 v.n, .string v.s]] w fun e w' => e = .returned (.bool (pB (ConstP fs.length 1 v))) ∧ Below w.heap.size w w' := by
  obtain ⟨wA, hwA⟩ : ∃ wA, wA = w.alloc (.cells #[.int .i64 v.k, .int .i64 v.n, .string v.s] 102) := ⟨_, rfl⟩
  have hbA : Below w.heap.size w wA := by rw [hwA]; exact (Below.refl _ _).alloc (Nat.le_refl _) _
  have hV : wA.heap[w.heap.size]? = some (.cells #[.int .i64 v.k, .int .i64 v.n, .string v.s] 102 (0, 0)) := by rw [hwA]; exact block_new _ _ _
  have hk := h.mono hbA
  have v0 := block_cell hV
  have c := hk.cells
  go_enter Tryz.func96, Tryz.ntmps96
  go_upto_region 3 with fail
  rw [← hwA]
  clear hwA
  have HS : Hid (∀ w', Below wA.heap.size wA w' → w'.cell? ⟨K, 0, none⟩ = some (.slice a1 nt c1) ∧ w'.cell? ⟨K, 1, none⟩ = some (.slice a2 fs.length c2) ∧ w'.cell? ⟨w.heap.size, 0, none⟩ = some (.int .i64 v.k) ∧ w'.cell? ⟨w.heap.size, 1, none⟩ = some (.int .i64 v.n) ∧ w'.cell? ⟨w.heap.size, 2, none⟩ = some (.string v.s)) := fun w' q => ⟨(hk.mono q).cells 0, (hk.mono q).cells 1, block_cell (block_kept hV q) 0, block_cell (block_kept hV q) 1, block_cell (block_kept hV q) 2⟩
  have HB : Hid (Below w.heap.size w wA) := hbA
  clear hbA hk v0 c h hV
  refine wp_below (by kernel_rfl) (by kernel_rfl) ?_
  iterate 5
    refine q_want (v := ?_) (by kernel_rfl) ?_ ?_
    rotate_left
    · intro w' hC
      obtain ⟨j0, j1, j2, j3, j4⟩ := HS.out w' hC
      go_simp
      try with_reducible rfl
    try simp only [Act.put, List.setIfInBounds_toArray, List.set_cons_zero, List.set_cons_succ]
  refine q_want (v := .bool (valB v.k v.n v.s fs.length 0)) (by kernel_rfl) ?_ ?_
  · intro w' hC
    go_simp
    refine (iIn_any v.k v.n v.s 0 _ _ _ _ fs.length _ _ hs).mono ?_
    rintro e w'' ⟨rfl, hb2⟩
    exact ⟨rfl, hC.trans (hb2.mono hC.size)⟩
  try simp only [Act.put, List.setIfInBounds_toArray, List.set_cons_zero, List.set_cons_succ]
  refine q_want (v := ?_) (by kernel_rfl) ?_ ?_
  rotate_left
  · intro w' hC
    obtain ⟨j0, j1, j2, j3, j4⟩ := HS.out w' hC
    go_simp
    try with_reducible rfl
  try simp only [Act.put, List.setIfInBounds_toArray, List.set_cons_zero, List.set_cons_succ]
  refine wpQuiet_nil ?_
  intro w2 q2
  go_wp2
  go_ret
  exact ⟨ret_pB Iff.rfl, HB.out.trans (q2.mono HB.out.size)⟩

set_option maxRecDepth 100000 in
set_option maxHeartbeats 1000000 in
theorem const2_any (v : Vl) (hs : v.s.size ≤ 1048576) (h : Look fs D a1 a2 oa ea nt c1 c2 oc ec G base K w) :
    Calls Tryz.prog 96 #[.pointer (some ⟨K, 0, none⟩), .int .i64 2, .agg #[.int .i64 v.k, .int .i64 v.n, .string v.s]] w fun e w' => e = .returned (.bool (pB (ConstP fs.length 2 v))) ∧ Below w.heap.size w w' := by
  obtain ⟨wA, hwA⟩ : ∃ wA, wA = w.alloc (.cells #[.int .i64 v.k, .int .i64 v.n, .string v.s] 102) := ⟨_, rfl⟩
  have hbA : Below w.heap.size w wA := by rw [hwA]; exact (Below.refl _ _).alloc (Nat.le_refl _) _
  have hV : wA.heap[w.heap.size]? = some (.cells #[.int .i64 v.k, .int .i64 v.n, .string v.s] 102 (0, 0)) := by rw [hwA]; exact block_new _ _ _
  have hk := h.mono hbA
  have v0 := block_cell hV
  have c := hk.cells
  by_cases hk1 : v.k = 1
  case neg =>
    have hk2 : (v.k == 1) = false := by simpa using hk1
    have HK : Hid (¬ v.k = 1) := hk1
    clear hk1
    go_enter Tryz.func96, Tryz.ntmps96
    go_upto_region 5 with fail
    rw [← hwA]
    clear hwA
    have HS : Hid (∀ w', Below wA.heap.size wA w' → w'.cell? ⟨K, 0, none⟩ = some (.slice a1 nt c1) ∧ w'.cell? ⟨K, 1, none⟩ = some (.slice a2 fs.length c2) ∧ w'.cell? ⟨w.heap.size, 0, none⟩ = some (.int .i64 v.k) ∧ w'.cell? ⟨w.heap.size, 1, none⟩ = some (.int .i64 v.n) ∧ w'.cell? ⟨w.heap.size, 2, none⟩ = some (.string v.s)) := fun w' q => ⟨(hk.mono q).cells 0, (hk.mono q).cells 1, block_cell (block_kept hV q) 0, block_cell (block_kept hV q) 1, block_cell (block_kept hV q) 2⟩
    have HB : Hid (Below w.heap.size w wA) := hbA
    clear hbA hk v0 c h hV
    refine wp_below (by kernel_rfl) (by kernel_rfl) ?_
    iterate 4
      refine q_want (v := ?_) (by kernel_rfl) ?_ ?_
      rotate_left
      · intro w' hC
        obtain ⟨j0, j1, j2, j3, j4⟩ := HS.out w' hC
        go_simp
        try with_reducible rfl
      try simp only [Act.put, List.setIfInBounds_toArray, List.set_cons_zero, List.set_cons_succ]
    iterate 6 go_big_quiet_skip
    iterate 2
      refine q_want (v := ?_) (by kernel_rfl) ?_ ?_
      rotate_left
      · intro w' hC
        obtain ⟨j0, j1, j2, j3, j4⟩ := HS.out w' hC
        go_simp
        try with_reducible rfl
      try simp only [Act.put, List.setIfInBounds_toArray, List.set_cons_zero, List.set_cons_succ]
    refine wpQuiet_nil ?_
    intro w2 q2
    go_wp2
    go_ret
    exact ⟨ret_bool (pB_no (fun q => HK.out q.1)).symm, HB.out.trans (q2.mono HB.out.size)⟩
  have hk2 : (v.k == 1) = true := by simpa using hk1
  have HK : Hid (v.k = 1) := hk1
  clear hk1
  go_enter Tryz.func96, Tryz.ntmps96
  go_upto_region 5 with fail
  rw [← hwA]
  clear hwA
  have HS : Hid (∀ w', Below wA.heap.size wA w' → w'.cell? ⟨K, 0, none⟩ = some (.slice a1 nt c1) ∧ w'.cell? ⟨K, 1, none⟩ = some (.slice a2 fs.length c2) ∧ w'.cell? ⟨w.heap.size, 0, none⟩ = some (.int .i64 v.k) ∧ w'.cell? ⟨w.heap.size, 1, none⟩ = some (.int .i64 v.n) ∧ w'.cell? ⟨w.heap.size, 2, none⟩ = some (.string v.s)) := fun w' q => ⟨(hk.mono q).cells 0, (hk.mono q).cells 1, block_cell (block_kept hV q) 0, block_cell (block_kept hV q) 1, block_cell (block_kept hV q) 2⟩
  have HB : Hid (Below w.heap.size w wA) := hbA
  clear hbA hk v0 c h hV
  refine wp_below (by kernel_rfl) (by kernel_rfl) ?_
  iterate 9
    refine q_want (v := ?_) (by kernel_rfl) ?_ ?_
    rotate_left
    · intro w' hC
      obtain ⟨j0, j1, j2, j3, j4⟩ := HS.out w' hC
      go_simp
      try with_reducible rfl
    try simp only [Act.put, List.setIfInBounds_toArray, List.set_cons_zero, List.set_cons_succ]
  refine q_want (v := .bool (valB v.k v.n v.s fs.length 0)) (by kernel_rfl) ?_ ?_
  · intro w' hC
    go_simp
    refine (iIn_any v.k v.n v.s 0 _ _ _ _ fs.length _ _ hs).mono ?_
    rintro e w'' ⟨rfl, hb2⟩
    exact ⟨rfl, hC.trans (hb2.mono hC.size)⟩
  try simp only [Act.put, List.setIfInBounds_toArray, List.set_cons_zero, List.set_cons_succ]
  iterate 2
    refine q_want (v := ?_) (by kernel_rfl) ?_ ?_
    rotate_left
    · intro w' hC
      obtain ⟨j0, j1, j2, j3, j4⟩ := HS.out w' hC
      go_simp
      try with_reducible rfl
    try simp only [Act.put, List.setIfInBounds_toArray, List.set_cons_zero, List.set_cons_succ]
  refine wpQuiet_nil ?_
  intro w2 q2
  go_wp2
  go_ret
  exact ⟨ret_pB ⟨fun q => ⟨HK.out, q⟩, fun q => q.2⟩, HB.out.trans (q2.mono HB.out.size)⟩

set_option maxRecDepth 100000 in
set_option maxHeartbeats 1000000 in
theorem constO_any (v : Vl) (h : Look fs D a1 a2 oa ea nt c1 c2 oc ec G base K w) (p : Nat) (hp1 : p ≠ 1) (hp2 : p ≠ 2) :
    Calls Tryz.prog 96 #[.pointer (some ⟨K, 0, none⟩), .int .i64 (p : Nat), .agg #[.int .i64 v.k, .int .i64 v.n, .string v.s]] w fun e w' => e = .returned (.bool (pB (ConstP fs.length p v))) ∧ Below w.heap.size w w' := by
  obtain ⟨wA, hwA⟩ : ∃ wA, wA = w.alloc (.cells #[.int .i64 v.k, .int .i64 v.n, .string v.s] 102) := ⟨_, rfl⟩
  have hbA : Below w.heap.size w wA := by rw [hwA]; exact (Below.refl _ _).alloc (Nat.le_refl _) _
  have hV : wA.heap[w.heap.size]? = some (.cells #[.int .i64 v.k, .int .i64 v.n, .string v.s] 102 (0, 0)) := by rw [hwA]; exact block_new _ _ _
  have hk := h.mono hbA
  have v0 := block_cell hV
  have c := hk.cells
  have g36 := guard36
  have e36 := eqIn36 v zeroV
  have HP : Hid (ConstP fs.length p v ↔ v = zeroV) := by
    match p, hp1, hp2 with
    | 0, _, _ => exact Iff.rfl
    | p + 3, _, _ => exact Iff.rfl
  have q1 : ((p : Int) == 1) = false := by simp; omega
  have q2 : ((p : Int) == 2) = false := by simp; omega
  have q1' : ¬ (p : Int) = 1 := by omega
  have q2' : ¬ (p : Int) = 2 := by omega
  unfold zeroV at e36
  dsimp only at e36
  have HB : Hid (Below w.heap.size w wA) := hbA
  clear hbA h hp1 hp2
  go_enter Tryz.func96, Tryz.ntmps96
  go_upto_region 6 with fail
  rw [← hwA]
  clear hwA
  go_wp2
  go_ret
  refine ⟨ret_pB ?_, HB.out⟩
  rw [HP.out]
  simp [pB, zeroV]

theorem constantOk_any (v : Vl) (p : Nat) (hs : v.s.size ≤ 1048576) (h : Look fs D a1 a2 oa ea nt c1 c2 oc ec G base K w) :
    Calls Tryz.prog 96 #[.pointer (some ⟨K, 0, none⟩), .int .i64 (p : Nat), .agg #[.int .i64 v.k, .int .i64 v.n, .string v.s]] w fun e w' => e = .returned (.bool (pB (ConstP fs.length p v))) ∧ Below w.heap.size w w' := by
  match p with
  | 0 => exact constO_any v h 0 (by decide) (by decide)
  | 1 => exact const1_any v hs h
  | 2 => exact const2_any v hs h
  | p + 3 => exact constO_any v h (p + 3) (by omega) (by omega)
end
end Go.Proofs.YtcbknjjnphknbaaGreatDoor
