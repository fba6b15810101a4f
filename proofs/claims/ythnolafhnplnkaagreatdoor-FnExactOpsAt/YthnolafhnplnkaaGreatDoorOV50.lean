/-
What spec.l05FrameOk returns.
The document's look at an exit: what is said of it on plain data; makes in a drawn region; l05FrameOk of nils.
A make in a region that draws its order.
-/
import Derived.Test.YthnolafhnplnkaaGreatDoorOV18
import Derived.Test.YthnolafhnplnkaaGreatDoorOV11
import Derived.Deep.QuietTactic
import Derived.BigQuiet
import Derived.Test.YthnolafhnplnkaaGreatDoorOV49
import Derived.Test.YthnolafhnplnkaaGreatDoorOV6
import Derived.Test.YthnolafhnplnkaaGreatDoorOV34
import Derived.Deep.RegionLaw
import Derived.Deep.CutRange
import Derived.Test.YthnolafhnplnkaaGreatDoorOV47
set_option maxRecDepth 100000
namespace Go.Proofs.YthnolafhnplnkaaGreatDoor
open Go.RowKit
def FrOk (fs : List Fn) (x : Fr) (r : Int) (last : Bool) : Prop := Fits fs x.fn x.pc x.locals.length x.stack.length last ∧ valsB x.locals fs.length r = true ∧ valsB x.stack fs.length r = true
set_option maxHeartbeats 4000000 in
theorem frameOk_any (a1 a2 la sa : Option Addr) (nt c1 c2 lc sc : Nat) (fs : List Fn) (x : Fr) (r : Int) (last : Bool) (w : World) (hn : fs.length ≤ 1048576) (hm : FnsAt w 0 a2 fs) (FF : ∀ k (hk : k < fs.length), Fine fs fs[k].code)
  (hsl : ValsSmall x.locals) (hss : ValsSmall x.stack) (hvl : ValsAt w 0 la x.locals) (hvs : ValsAt w 0 sa x.stack) :
  Calls Tryz.prog 107 #[.agg #[.slice a1 nt c1, .slice a2 fs.length c2], .agg #[.int .i64 x.fn, .int .i64 x.pc, .slice la x.locals.length lc, .slice sa x.stack.length sc], .int .i64 r, .bool last] w fun e w' => Says (FrOk fs x r last) e ∧ Below w.heap.size w w' := by
 have hbA : Below w.heap.size w ((w.alloc (.cells #[.slice a1 nt c1, .slice a2 fs.length c2] 36)).alloc (.cells #[.int .i64 x.fn, .int .i64 x.pc, .slice la x.locals.length lc, .slice sa x.stack.length sc] 184)) := ((Below.refl _ _).alloc (Nat.le_refl _) _).alloc (by simp) _
 have hll := hsl.1
 have hsl1 := hss.1
 by_cases hf : 0 ≤ x.fn ∧ x.fn < (fs.length : Int)
 case neg =>
  have hf' : (decide (0 ≤ x.fn) && decide (x.fn ≤ (fs.length : Int) - 1)) = false := by rw [Bool.eq_false_iff]; simp; omega
  go_enter Tryz.func107, Tryz.ntmps107
  go_wp2_with (go_at_call 60; refine (between_any _ _ _ _).mono ?_; rintro e w' ⟨rfl, hw⟩; rw [hw, hf']; clear hw w')
  go_ret
  exact ⟨Says.no rfl (fun h => absurd h.1 (fits_fn (by omega))), hbA⟩
 have hf' : (decide (0 ≤ x.fn) && decide (x.fn ≤ (fs.length : Int) - 1)) = true := by simp; omega
 obtain ⟨i, hxi⟩ : ∃ i : Nat, x.fn = i := ⟨x.fn.toNat, by omega⟩
 have hi : i < fs.length := by omega
 clear hf
 obtain ⟨b, off, ca, cc, rfl, -, d1, d2, d3, d4⟩ := hm i hi
 have d1' := cell_later hbA d1
 have d2' := cell_later hbA d2
 have d3' := cell_later hbA d3
 clear d1 d2 d3
 have F := FF i hi
 have hmost := F.most
 rw [hxi] at hf' hbA d1' d2' d3' ⊢
 have HXI : Hid (x.fn = (i : Int)) := hxi
 clear hxi
 obtain ⟨wx, hwx⟩ : ∃ wx, wx = ((w.alloc (.cells #[.slice a1 nt c1, .slice (some ⟨b, off, none⟩) fs.length c2] 36)).alloc (.cells #[.int .i64 (i : Int), .int .i64 x.pc, .slice la x.locals.length lc, .slice sa x.stack.length sc] 184)).alloc (.cells #[.int .i64 fs[i].params, .int .i64 fs[i].locals, .slice ca fs[i].code.length cc] 91) := ⟨_, rfl⟩
 have hMx : wx.heap[w.heap.size]? = some (.cells #[.slice a1 nt c1, .slice (some ⟨b, off, none⟩) fs.length c2] 36 (0, 0)) := by rw [hwx]; exact block_old (block_old (block_new _ _ _) _) _
 have hFx : wx.heap[w.heap.size + 1]? = some (.cells #[.int .i64 (i : Int), .int .i64 x.pc, .slice la x.locals.length lc, .slice sa x.stack.length sc] 184 (0, 0)) := by rw [hwx]; exact block_old (block_new_at _ _ _ _ (by simp)) _
 have hXx : wx.heap[w.heap.size + 1 + 1]? = some (.cells #[.int .i64 fs[i].params, .int .i64 fs[i].locals, .slice ca fs[i].code.length cc] 91 (0, 0)) := by rw [hwx]; exact block_new_at _ _ _ _ (by simp)
 have hbx : Below w.heap.size w wx := by rw [hwx]; exact hbA.alloc hbA.size _
 go_enter Tryz.func107, Tryz.ntmps107
 go_wp2_with (go_at_call 60; refine (between_any _ _ _ _).mono ?_; rintro e w' ⟨rfl, hw⟩; rw [hw, hf']; clear hw w')
 rw [← hwx]
 clear hwx d1' d2' d3' hf' hbA
 refine (sDepths_any _ _ _ _ _ fs i _ hi hn (hm.mono hbx) F).mono ?_
 rintro e w1 ⟨g, cap, d, rfl, -, hD, hH, hb1⟩
 have P := hD.hts F
 have hdl : Hid (d.length = fs[i].code.length) := P.len
 have hM1 := block_kept hMx hb1
 have hF1 := block_kept hFx hb1
 have hX1 := block_kept hXx hb1
 have hB1 := hbx.trans (hb1.mono hbx.size)
 have y1 := block_cell hM1
 have z1 := block_cell hF1
 have x1 := block_cell hX1
 clear hMx hFx hXx hb1 hbx
 by_cases hl : (x.locals.length : Int) = fs[i].locals
 case neg =>
  have hl' : ((x.locals.length : Int) != fs[i].locals) = true := by simpa using hl
  have HL : Hid ((x.locals.length : Int) ≠ fs[i].locals) := hl
  clear hl
  go_wp2
  go_ret
  exact ⟨Says.no rfl (fun h => absurd h.1 (by rw [HXI.out]; exact fits_locals hi HL.out)), hB1⟩
 have HL : Hid ((x.locals.length : Int) = fs[i].locals) := hl
 have hl' : ((x.locals.length : Int) != fs[i].locals) = false := by simpa using hl
 clear hl
 by_cases hp : 0 ≤ x.pc ∧ x.pc < (fs[i].code.length : Int)
 case neg =>
  have hp' : (decide (0 ≤ x.pc) && decide (x.pc ≤ (fs[i].code.length : Int) - 1)) = false := by rw [Bool.eq_false_iff]; simp; omega
  go_wp2_with (go_at_call 60; refine (between_any _ _ _ _).mono ?_; rintro e w' ⟨rfl, hw⟩; rw [hw, hp']; clear hw w')
  go_ret
  exact ⟨Says.no rfl (fun h => absurd h.1 (by rw [HXI.out]; exact fits_pc hi (by omega))), hB1⟩
 have hp' : (decide (0 ≤ x.pc) && decide (x.pc ≤ (fs[i].code.length : Int) - 1)) = true := by simp; omega
 obtain ⟨p, hxp⟩ : ∃ p : Nat, x.pc = p := ⟨x.pc.toNat, by omega⟩
 have hpl : p < fs[i].code.length := by omega
 have hpd : p < d.length := by rw [hdl.out]; exact hpl
 rw [hxp] at hp' hF1 z1 ⊢
 have HXP : Hid (x.pc = (p : Int)) := hxp
 clear hp hxp
 have hc0 := hH.cell hpd
 have hlow := P.low p hpd
 have hhigh := P.high p hpd
 by_cases hm1 : d[p] < 0
 ·
  have HM : Hid (d[p] < 0) := hm1
  go_wp2_with (go_at_call 60; refine (between_any _ _ _ _).mono ?_; rintro e w' ⟨rfl, hw⟩; rw [hw, hp']; clear hw w')
  go_ret
  exact ⟨Says.no rfl (fun h => absurd h.1 (by rw [HXI.out, HXP.out]; exact fits_none hi hD hpd HM.out)), hB1⟩
 have HM : Hid (0 ≤ d[p]) := by show 0 ≤ d[p]; omega
 go_wp2_with (first | (go_at_call 60; refine (between_any _ _ _ _).mono ?_; rintro e w' ⟨rfl, hw⟩; rw [hw, hp']; clear hw w'))
 refine (sValues_any _ _ _ _ _ _ _ _ _ _ _ hn hsl (hvl.mono hB1)).mono ?_
 rintro e w2 ⟨rfl, hb2⟩
 have hM2 := block_kept hM1 hb2
 have hF2 := block_kept hF1 hb2
 have hX2 := block_kept hX1 hb2
 have hH2 := hH.mono hb2
 have hB2 := hB1.trans (hb2.mono hB1.size)
 have y2 := block_cell hM2
 have z2 := block_cell hF2
 have x2 := block_cell hX2
 clear y1 z1 x1 hM1 hF1 hX1 hB1 hb2 hc0 hH hp' hl'
 by_cases hv : valsB x.locals fs.length r = true
 case neg =>
  have HV : Hid (¬ valsB x.locals fs.length r = true) := hv
  have hv' : valsB x.locals fs.length r = false := by simpa using hv
  clear hv
  go_wp2
  go_ret
  exact ⟨Says.no rfl (fun h => HV.out h.2.1), hB2⟩
 have HV : Hid (valsB x.locals fs.length r = true) := hv
 go_wp2_with fail
 refine (sValues_any _ _ _ _ _ _ _ _ _ _ _ hn hss (hvs.mono hB2)).mono ?_
 rintro e w3 ⟨rfl, hb3⟩
 have hF3 := block_kept hF2 hb3
 have hX3 := block_kept hX2 hb3
 have hH3 := hH2.mono hb3
 have hB3 := hB2.trans (hb3.mono hB2.size)
 have z3 := block_cell hF3
 have x3 := block_cell hX3
 have hc3 := hH3.cell hpd
 clear y2 z2 x2 hM2 hF2 hX2 hb3 hH2 hv
 by_cases hu : valsB x.stack fs.length r = true
 case neg =>
  have HU : Hid (¬ valsB x.stack fs.length r = true) := hu
  have hu' : valsB x.stack fs.length r = false := by simpa using hu
  clear hu
  go_wp2
  go_ret
  exact ⟨Says.no rfl (fun h => HU.out h.2.2), hB3⟩
 have HU : Hid (valsB x.stack fs.length r = true) := hu
 have d4' := d4.mono hB3
 cases last with
 | true =>
  go_wp2
  go_quiet (fail)
  go_wp2
  go_ret
  refine ⟨⟨_, rfl, ?_⟩, below_draws hB3 _⟩
  unfold FrOk
  rw [HXI.out, HXP.out, fits_last hi hD hpd hdl.out HL.out HM.out]
  constructor
  ·
   intro h
   exact ⟨by simpa using h, HV.out, HU.out⟩
  ·
   rintro ⟨h, -⟩
   simpa using h
 | false =>
  cases p with
  | zero =>
   go_wp2
   go_ret
   exact ⟨Says.no rfl (fun h => absurd h.1 (by rw [HXI.out, HXP.out]; exact fits_first)), hB3⟩
  | succ p =>
   have hpd0 : p < d.length := by omega
   have hpl0 : p < fs[i].code.length := by omega
   obtain ⟨cb, coff, rfl, -, e1, -⟩ := d4' p hpl0
   have hc1 := hH3.cell hpd0
   have hlow0 := P.low p hpd0
   by_cases hm0 : d[p] < 0
   ·
    have HM0 : Hid (d[p] < 0) := hm0
    go_wp2
    go_ret
    refine ⟨Says.no rfl (fun h => ?_), hB3⟩
    have h1 := h.1
    rw [HXI.out, HXP.out, fits_other hi hD hpd hdl.out HL.out HM.out] at h1
    exact absurd h1.1 (by have := HM0.out; omega)
   have HM0 : Hid (0 ≤ d[p]) := by show 0 ≤ d[p]; omega
   by_cases ho3 : fs[i].code[p].1 = 23
   ·
    have HO : Hid (fs[i].code[p].1 = 23 ∨ fs[i].code[p].1 = 24) := .inl ho3
    have b3 : (fs[i].code[p].1 == 23) = true := by simpa using ho3
    clear ho3
    go_wp2
    go_quiet (fail)
    go_wp2
    go_ret
    refine ⟨⟨_, rfl, ?_⟩, below_draws hB3 _⟩
    unfold FrOk
    rw [HXI.out, HXP.out, fits_other hi hD hpd hdl.out HL.out HM.out]
    constructor
    ·
     intro h
     exact ⟨⟨HM0.out, HO.out, by simpa using h⟩, HV.out, HU.out⟩
    ·
     rintro ⟨⟨-, -, h⟩, -⟩
     simpa using h
   have b3 : (fs[i].code[p].1 == 23) = false := by simpa using ho3
   by_cases ho4 : fs[i].code[p].1 = 24
   ·
    have HO : Hid (fs[i].code[p].1 = 23 ∨ fs[i].code[p].1 = 24) := .inr ho4
    have b4 : (fs[i].code[p].1 == 24) = true := by simpa using ho4
    clear ho3 ho4
    go_wp2
    go_quiet (fail)
    go_wp2
    go_ret
    refine ⟨⟨_, rfl, ?_⟩, below_draws hB3 _⟩
    unfold FrOk
    rw [HXI.out, HXP.out, fits_other hi hD hpd hdl.out HL.out HM.out]
    constructor
    ·
     intro h
     exact ⟨⟨HM0.out, HO.out, by simpa using h⟩, HV.out, HU.out⟩
    ·
     rintro ⟨⟨-, -, h⟩, -⟩
     simpa using h
   ·
    have b4 : (fs[i].code[p].1 == 24) = false := by simpa using ho4
    have HO : Hid (¬ (fs[i].code[p].1 = 23 ∨ fs[i].code[p].1 = 24)) := fun h => h.elim ho3 ho4
    clear ho3 ho4
    go_wp2
    go_quiet (fail)
    go_wp2
    go_ret
    refine ⟨Says.no rfl (fun h => ?_), below_draws hB3 _⟩
    have h1 := h.1
    rw [HXI.out, HXP.out, fits_other hi hD hpd hdl.out HL.out HM.out] at h1
    exact HO.out h1.2.1
theorem step_make {P : Program} {w : World} {ops : Array Oper} {o : Oper} {a : Act} {K : Act → World → Prop} {Q : Exit → Act → World → Prop} {E : Prop} (hgd : o.guard = none) (l c : Operand) (t : TypeId) (hop : o.op = Op.makeSlice t l c)
  (base : Nat) (e : TypeId) (i : TypeInfo) (z : Value) (size : Nat) (h1 : P.underlying t = some (.slice e)) (h2 : P.info? e = some i) (h3 : i.zero = some z) (h4 : i.size = size)
  (kl kc : IntKind) (L C : Int) (n : Nat) (hl : a.eval l = .int kl L) (hc : a.eval c = .int kc C) (hL : L = (n : Int)) (hC : C = (n : Int)) (b2 : i.bytes * n ≤ 281474976710656) (b3 : n ≤ maxLen) (b4 : base ≤ w.heap.size)
  (h : ∀ w', w'.ownsRow base e size (.slice (some ⟨w.heap.size, 0, none⟩) n n) n (madeCells z.cells (n * size)).toList → w.grownBy w' none → K (a.put o.dst (.slice (some ⟨w.heap.size, 0, none⟩) n n)) w') :
  if Region.wanted o (yielded ops a.tmps) = true then Oper.wp P o a w K Q else E := by
 have hw : Region.wanted o (yielded ops a.tmps) = true := by simp [Region.wanted, hgd]
 rw [if_pos hw]
 obtain ⟨w', hrun, r1, r2⟩ := run_make_full (P := P) w base t e i z size h1 h2 h3 h4 kl kc n b2 b3 b4
 subst hL
 subst hC
 unfold Oper.wp
 simp [execOp, hop, hl, hc, hrun, Result.andThen]
 exact h w' r1 r2
def nils (n : Nat) : List Vl := List.replicate n zeroV
theorem nils_small (n : Nat) (h : n ≤ 1048576) : ValsSmall (nils n) := ⟨by simpa [nils] using h, fun v hv => by rw [List.eq_of_mem_replicate hv]; decide⟩
theorem nils_ok (n nf : Nat) : valsB (nils n) nf 0 = true := by
 unfold valsB nils
 rw [List.all_eq_true]
 intro v hv
 rw [List.eq_of_mem_replicate hv]
 rfl
theorem made_get {z : Array Value} {n j : Nat} (h : j < n) : (madeCells z n).toList[j]? = some (z[j % z.size]!) := by simp [madeCells, h]
theorem made3 {w1 : World} {base g n : Nat} (h : w1.ownsRow base 56 3 (.slice (some ⟨g, 0, none⟩) n n) n (madeCells #[.int .i64 0, .int .i64 0, .string ByteArray.empty] (n * 3)).toList) :
  ∃ cur, w1.heap[g]? = some (.cells cur 56 (0, 0)) ∧ cur.size = n * 3 ∧ ∀ i, i < n → cur[i * 3]? = some (.int .i64 0) ∧ cur[i * 3 + 1]? = some (.int .i64 0) ∧ cur[i * 3 + 2]? = some (.string ⟨#[]⟩) := by
 rcases h.2 with ⟨hv, -⟩ | ⟨g', cap, cur, hv, -, hh, -, -, hs, ht⟩
 · cases hv
 ·
  cases hv
  refine ⟨cur, hh, hs, fun i hi => ?_⟩
  have get : ∀ j, j < n * 3 → cur[j]? = some ((#[.int .i64 0, .int .i64 0, .string ByteArray.empty] : Array Value)[j % 3]!) := fun j hj => by
   have e := made_get (z := #[.int .i64 0, .int .i64 0, .string ByteArray.empty]) hj
   rw [← ht, List.getElem?_take_of_lt hj] at e
   simpa using e
  refine ⟨?_, ?_, ?_⟩
  · rw [get _ (by omega), show i * 3 % 3 = 0 by omega]; rfl
  · rw [get _ (by omega), show (i * 3 + 1) % 3 = 1 by omega]; rfl
  · rw [get _ (by omega), show (i * 3 + 2) % 3 = 2 by omega]; rfl
theorem nils_at {w : World} {base g n : Nat} (h : w.ownsRow base 56 3 (.slice (some ⟨g, 0, none⟩) n n) n (madeCells (Value.agg #[.int .i64 0, .int .i64 0, .string ByteArray.empty]).cells (n * 3)).toList) : ValsAt w 0 (some ⟨g, 0, none⟩) (nils n) := by
 obtain ⟨cur, h1, -, h3⟩ := made3 h
 intro i hi
 have hi' : i < n := by simpa [nils] using hi
 obtain ⟨c1, c2, c3⟩ := h3 i hi'
 have e : (nils n)[i] = zeroV := by simp [nils]
 rw [e]
 exact ⟨g, 0, rfl, Nat.zero_le _, by rw [block_cell h1, Nat.zero_add]; exact c1, by rw [block_cell h1, Nat.zero_add]; exact c2, by rw [block_cell h1, Nat.zero_add]; exact c3⟩
theorem frOk_nils {fs : List Fn} {f pc : Int} {nl ns : Nat} {last : Bool} : FrOk fs ⟨f, pc, nils nl, nils ns⟩ 0 last ↔ Fits fs f pc nl ns last := by
 unfold FrOk
 simp only [nils_ok, and_true]
 simp [nils]
def FramesTo (fs : List Fn) (D : FastD) (nr : Nat) (fr : List EF) (k : Nat) : Prop := ∀ i (h : i < fr.length), i < k → EFrameP fs D nr fr[i] (decide ((i : Int) = (fr.length : Int) - 1))
def RecsTo (nf : Nat) (D : FastD) (nr : Nat) (rs : List ER) (k : Nat) : Prop := ∀ i (h : i < rs.length), i < k → ERecP nf D nr rs[i]
theorem FramesTo.more {fs : List Fn} {D : FastD} {nr k : Nat} {fr : List EF} (hk : k < fr.length) : FramesTo fs D nr fr k ∧ EFrameP fs D nr fr[k] (decide ((k : Int) = (fr.length : Int) - 1)) ↔ FramesTo fs D nr fr (k + 1) :=
 ⟨fun q i h hi => by
  by_cases e : i = k
  · subst e; exact q.2
  · exact q.1 i h (by omega), fun q => ⟨fun i h hi => q i h (by omega), q k hk (by omega)⟩⟩
theorem RecsTo.more {nf : Nat} {D : FastD} {nr k : Nat} {rs : List ER} (hk : k < rs.length) : RecsTo nf D nr rs k ∧ ERecP nf D nr rs[k] ↔ RecsTo nf D nr rs (k + 1) :=
 ⟨fun q i h hi => by
  by_cases e : i = k
  · subst e; exact q.2
  · exact q.1 i h (by omega), fun q => ⟨fun i h hi => q i h (by omega), q k hk (by omega)⟩⟩
theorem FramesTo.zero {fs : List Fn} {D : FastD} {nr : Nat} {fr : List EF} : FramesTo fs D nr fr 0 := fun _ _ h => absurd h (Nat.not_lt_zero _)
theorem RecsTo.zero {nf : Nat} {D : FastD} {nr : Nat} {rs : List ER} : RecsTo nf D nr rs 0 := fun _ _ h => absurd h (Nat.not_lt_zero _)
section
variable {fs : List Fn} {a1 a2 : Option Addr} {nt c1 c2 : Nat} {w : World}
theorem frB_any (f pc : Int) (gl gs : Nat) (nl ns : Nat) (last : Bool) (hn : fs.length ≤ 1048576) (hm : FnsAt w 0 a2 fs) (FF : ∀ k (hk : k < fs.length), Fine fs fs[k].code) (h1 : nl ≤ 1048576) (h2 : ns ≤ 1048576)
  (hvl : ValsAt w 0 (some ⟨gl, 0, none⟩) (nils nl)) (hvs : ValsAt w 0 (some ⟨gs, 0, none⟩) (nils ns)) :
  Calls Tryz.prog 107 #[.agg #[.slice a1 nt c1, .slice a2 fs.length c2], .agg #[.int .i64 f, .int .i64 pc, .slice (some ⟨gl, 0, none⟩) nl nl, .slice (some ⟨gs, 0, none⟩) ns ns], .int .i64 0, .bool last] w fun e w' => e = .returned (.bool (pB (Fits fs f pc nl ns last))) ∧ Below w.heap.size w w' := by
 have := frameOk_any a1 a2 (some ⟨gl, 0, none⟩) (some ⟨gs, 0, none⟩) nt c1 c2 nl ns fs ⟨f, pc, nils nl, nils ns⟩ 0 last w hn hm FF (nils_small nl h1) (nils_small ns h2) hvl hvs
 simp only [nils, List.length_replicate] at this
 exact this.mono fun _ _ q => ⟨by rw [← pB_congr (frOk_nils (fs := fs) (f := f) (pc := pc) (nl := nl) (ns := ns) (last := last))]; exact Says.pB q.1, q.2⟩
end
section
variable {P : Program} {ops : Array Oper} {Q : Exit → Act → World → Prop} {md : Region.Mode} {S : World → Prop}
theorem h_make {i : Nat} {n : Nat} {listed : Array Bool} {a : Act} {w : World} (l c : Operand) (t : TypeId) (dst : Option Nat)
  (ho : (ops[i]?).map (fun o => (o.op, o.dst, o.guard)) = some (Op.makeSlice t l c, dst, none))
  (base : Nat) (e : TypeId) (ti : TypeInfo) (z : Value) (size : Nat) (h1 : P.underlying t = some (.slice e)) (h2 : P.info? e = some ti) (h3 : ti.zero = some z) (h4 : ti.size = size)
  (m : Nat) (hl : a.eval l = .int .i64 (m : Int)) (hc : a.eval c = .int .i64 (m : Int)) (b2 : ti.bytes * m ≤ 281474976710656) (b3 : m ≤ maxLen) (b4 : base ≤ w.heap.size)
  (h : ∀ w', w'.ownsRow base e size (.slice (some ⟨w.heap.size, 0, none⟩) m m) m (madeCells z.cells (m * size)).toList → w.grownBy w' none → S w' ∧ wpAnyH P md ops Q S n (listed.setIfInBounds i true) (a.put dst (.slice (some ⟨w.heap.size, 0, none⟩) m m)) w') :
  wpOp P ops Q i (fun a' w' => S w' ∧ wpAnyH P md ops Q S n (listed.setIfInBounds i true) a' w') a w := by
 obtain ⟨o, ho1, ho2⟩ := Option.map_eq_some_iff.1 ho
 simp only [Prod.mk.injEq] at ho2
 obtain ⟨e1, e2, e3⟩ := ho2
 refine h_some ho1 (fun K hK => ?_)
 refine step_make e3 l c t e1 base e ti z size h1 h2 h3 h4 .i64 .i64 (m : Int) (m : Int) m hl hc rfl rfl b2 b3 b4 (fun w' k1 k2 => ?_)
 rw [e2]
 exact hK _ _ (h w' k1 k2).1 (h w' k1 k2).2
end
end Go.Proofs.YthnolafhnplnkaaGreatDoor
