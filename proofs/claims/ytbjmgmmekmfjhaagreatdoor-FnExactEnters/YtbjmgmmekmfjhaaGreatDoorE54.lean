/-
The closed facts of a row, limb by limb.
The closed facts of the row of laws.FnExactEnters.
From the form in which an argument is read to the predicates on lists of values, of records, of frames, and on states.
States that came in.
The law laws.FnExactEnters, as it was translated from the landed commit, returns true at every argument and leaves the arguments as they were. No condition, but that the listed tables (math/bits' and the program's own shapes) hold what the program's text lays into them.
-/
import Derived.Test.YtbjmgmmekmfjhaaGreatDoorRows
import Derived.JoinedOf
import Derived.KernelRfl
import Derived.Test.YtbjmgmmekmfjhaaGreatDoorE2
import Derived.Test.YtbjmgmmekmfjhaaGreatDoorE17
import Derived.Lib.SmallJoins
import Derived.Test.YtbjmgmmekmfjhaaGreatDoorE33
import Derived.Test.YtbjmgmmekmfjhaaGreatDoorE23
import Derived.Test.YtbjmgmmekmfjhaaGreatDoorE40
import Derived.Test.YtbjmgmmekmfjhaaGreatDoorE53
import Derived.Test.YtbjmgmmekmfjhaaGreatDoorCards
import Derived.Test.YtbjmgmmekmfjhaaGreatDoorTie
import Derived.ProofKit
import Derived.LaidMore
import Derived.OpenShut
import Derived.OpenVars
import Derived.ShutString
import Derived.ChangeOld
import Derived.Below
import Derived.ChangeVars
import Derived.Stop.Joined
import Derived.SevenTiedAt
set_option maxRecDepth 100000
namespace Go.Proofs.YtbjmgmmekmfjhaaGreatDoor
theorem joined_of {P : Program} {f : FuncId} {fn : Func} {s : ChangeSpec} {c : OpenClaim}
  (h0 : (c.wf (OpenSpec.ofChange s)) = true)
  (h1 : (laidOutB P) = true)
  (h2 : (mapsRowed P) = true)
  (h3 : (fn.params.all (P.readableRec ·)) = true)
  (h4 : (namedTie P c.named s.vars) = true)
  (h5 : ((c.stops == [])) = true)
  (h6 : ((P.stops == [])) = true)
  (h7 : ((c.knobs == [])) = true)
  (h8 : ((P.stopKnobs == [])) = true)
  (h9 : ((c.inPlace == P.inPlace f)) = true)
  (h10 : ((c.unfollowed == P.unfollowed f)) = true)
  (h11 : ((c.recurses == P.recurses f)) = true)
  (h12 : ((c.named == P.varsNamed f)) = true)
  (h13 : ((c.maps == (fn.params.toList ++ s.plain.varTypes P).any (P.mapsRec ·))) = true)
  (h14 : ((c.ifaces == (fn.params.toList ++ s.plain.varTypes P).any (P.ifacesRec ·))) = true)
  (h15 : ((c.mapsOut == P.mapsAmong fn.resultTypes.toList)) = true)
  (h16 : ((c.loops == (fn.params.toList ++ s.plain.varTypes P).any (P.loopsFrom ·))) = true)
  (h17 : ((c.wideKeys == (fn.params.toList ++ s.plain.varTypes P ++ fn.resultTypes.toList).any (P.wideKeysFrom ·))) = true)
  (h18 : (s.vars.all (P.varReadable ·)) = true)
  (h19 : (fn.resultTypes.all (fun t => P.readableRec t && decide (t < P.types.size))) = true)
  (h20 : ((c.ifacesOut == fn.resultTypes.toList.any (P.ifacesRec ·))) = true)
  (h21 : ((c.loopsOut == fn.resultTypes.toList.any (P.loopsFrom ·))) = true)
  (h22 : ((c.plainKeys == P.plainKeys)) = true)
  (h23 : (c.shortTexts.isNone) = true)
  (h24 : (P.stopsHeard) = true)
  (h25 : (P.mayEnter) = true)
  (h26 : ((c.lifted == P.liftsFinal)) = true)
  (h27 : ((P.make == some c.make)) = true)
  (h28 : c.kinds = []) (h28b : c.domain.isEmpty = true)
  (h29 : ((c.pinned == c.pinnedBy)) = true)
  (h30 : ((c.veiled == (fn.params.toList ++ s.plain.varTypes P ++ fn.resultTypes.toList).any (P.veiledRec ·))) = true)
  (h31 : (c.veiledFits P fn.params.toList (fn.params.toList ++ s.plain.varTypes P ++ fn.resultTypes.toList)) = true) : joinedFacts P f fn s c = true := by
 unfold joinedFacts
 rw [h0, h1, h2, h3, h4, h5, h6, h7, h8, h9, h10, h11, h12, h13, h14, h15, h16, h17, h18, h19, h20, h21, h22, h23, h24, h25, h26, h27, h29, h30, h31, h28, h28b]
 rfl
theorem jf0 : (Rows.fnExactEntersRow.wf (OpenSpec.ofChange Rows.fnExactEntersSpec)) = true := by kernel_rfl
theorem jf1 : (laidOutB Tryz.prog) = true := by kernel_rfl
theorem jf2 : (mapsRowed Tryz.prog) = true := by kernel_rfl
theorem jf3 : (Tryz.f6.params.all (Tryz.prog.readableRec ·)) = true := by kernel_rfl
theorem jf4 : (namedTie Tryz.prog Rows.fnExactEntersRow.named Rows.fnExactEntersSpec.vars) = true := by kernel_rfl
theorem jf5 : ((Rows.fnExactEntersRow.stops == [])) = true := by kernel_rfl
theorem jf6 : ((Tryz.prog.stops == [])) = true := by kernel_rfl
theorem jf7 : ((Rows.fnExactEntersRow.knobs == [])) = true := by kernel_rfl
theorem jf8 : ((Tryz.prog.stopKnobs == [])) = true := by kernel_rfl
theorem jf9 : ((Rows.fnExactEntersRow.inPlace == Tryz.prog.inPlace 6)) = true := by kernel_rfl
theorem jf10 : ((Rows.fnExactEntersRow.unfollowed == Tryz.prog.unfollowed 6)) = true := by kernel_rfl
theorem jf11 : ((Rows.fnExactEntersRow.recurses == Tryz.prog.recurses 6)) = true := by kernel_rfl
theorem jf12 : ((Rows.fnExactEntersRow.named == Tryz.prog.varsNamed 6)) = true := by kernel_rfl
theorem jf13 : ((Rows.fnExactEntersRow.maps == (Tryz.f6.params.toList ++ Rows.fnExactEntersSpec.plain.varTypes Tryz.prog).any (Tryz.prog.mapsRec ·))) = true := by kernel_rfl
theorem jf14 : ((Rows.fnExactEntersRow.ifaces == (Tryz.f6.params.toList ++ Rows.fnExactEntersSpec.plain.varTypes Tryz.prog).any (Tryz.prog.ifacesRec ·))) = true := by kernel_rfl
theorem jf15 : ((Rows.fnExactEntersRow.mapsOut == Tryz.prog.mapsAmong Tryz.f6.resultTypes.toList)) = true := by kernel_rfl
theorem jf16 : ((Rows.fnExactEntersRow.loops == (Tryz.f6.params.toList ++ Rows.fnExactEntersSpec.plain.varTypes Tryz.prog).any (Tryz.prog.loopsFrom ·))) = true := by kernel_rfl
theorem jf17 : ((Rows.fnExactEntersRow.wideKeys == (Tryz.f6.params.toList ++ Rows.fnExactEntersSpec.plain.varTypes Tryz.prog ++ Tryz.f6.resultTypes.toList).any (Tryz.prog.wideKeysFrom ·))) = true := by kernel_rfl
theorem jf18 : (Rows.fnExactEntersSpec.vars.all (Tryz.prog.varReadable ·)) = true := by kernel_rfl
theorem jf19 : (Tryz.f6.resultTypes.all (fun t => Tryz.prog.readableRec t && decide (t < Tryz.prog.types.size))) = true := by kernel_rfl
theorem jf20 : ((Rows.fnExactEntersRow.ifacesOut == Tryz.f6.resultTypes.toList.any (Tryz.prog.ifacesRec ·))) = true := by kernel_rfl
theorem jf21 : ((Rows.fnExactEntersRow.loopsOut == Tryz.f6.resultTypes.toList.any (Tryz.prog.loopsFrom ·))) = true := by kernel_rfl
theorem jf22 : ((Rows.fnExactEntersRow.plainKeys == Tryz.prog.plainKeys)) = true := by kernel_rfl
theorem jf23 : (Rows.fnExactEntersRow.shortTexts.isNone) = true := by kernel_rfl
theorem jf24 : (Tryz.prog.stopsHeard) = true := by kernel_rfl
theorem jf25 : (Tryz.prog.mayEnter) = true := by kernel_rfl
theorem jf26 : ((Rows.fnExactEntersRow.lifted == Tryz.prog.liftsFinal)) = true := by kernel_rfl
theorem jf27 : ((Tryz.prog.make == some Rows.fnExactEntersRow.make)) = true := by kernel_rfl
theorem jf28 : Rows.fnExactEntersRow.kinds = [] := by kernel_rfl
theorem jf28b : Rows.fnExactEntersRow.domain.isEmpty = true := by kernel_rfl
theorem jf29 : ((Rows.fnExactEntersRow.pinned == Rows.fnExactEntersRow.pinnedBy)) = true := by kernel_rfl
theorem jf30 : ((Rows.fnExactEntersRow.veiled == (Tryz.f6.params.toList ++ Rows.fnExactEntersSpec.plain.varTypes Tryz.prog ++ Tryz.f6.resultTypes.toList).any (Tryz.prog.veiledRec ·))) = true := by kernel_rfl
theorem jf31 : (Rows.fnExactEntersRow.veiledFits Tryz.prog Tryz.f6.params.toList (Tryz.f6.params.toList ++ Rows.fnExactEntersSpec.plain.varTypes Tryz.prog ++ Tryz.f6.resultTypes.toList)) = true := by kernel_rfl
theorem facts : joinedFacts Tryz.prog 6 Tryz.f6 Rows.fnExactEntersSpec Rows.fnExactEntersRow = true := joined_of jf0 jf1 jf2 jf3 jf4 jf5 jf6 jf7 jf8 jf9 jf10 jf11 jf12 jf13 jf14 jf15 jf16 jf17 jf18 jf19 jf20 jf21 jf22 jf23 jf24 jf25 jf26 jf27 jf28 jf28b jf29 jf30 jf31
end Go.Proofs.YtbjmgmmekmfjhaaGreatDoor
namespace Go.Proofs.YtbjmgmmekmfjhaaGreatDoor
open Go.RowKit Go.Deep Go.ChangeShapes Go.WideShapes Go.Joins
section
variable {H : Type} {enc : TypeId × Value → H} {P : Program} {w : World} {base : Nat} {spare : Nat → Bool} {held : Bool}
theorem read_vals {t e : TypeId} {f0 f1 f2 : Field} (ht : P.underlying t = some (.slice e)) (he : P.underlying e = some (.struct #[f0, f1, f2]))
  (ce : P.cellsOf e = 3) (o0 : f0.offset = 0) (o1 : f1.offset = 1) (o2 : f2.offset = 2) (c0 : P.cellsOf f0.type = 1) (c1 : P.cellsOf f1.type = 1) (c2 : P.cellsOf f2.type = 1)
  (k0 : P.underlying f0.type = some (.int .i64)) (k1 : P.underlying f1.type = some (.int .i64)) (k2 : P.underlying f2.type = some .string)
  {fuel : Nat} {v : Value} {y : DataW H × List MemPlace} (h : DataW.trod enc P w base spare held fuel t [v] = some y) :
  ∃ a cap vs, v = .slice a vs.length cap ∧ ValsMax vs ∧ ValsAt w 0 a vs := by
 rcases open_slice ht h with ⟨hcs, -⟩ | ⟨a, len, cap, m, n, D, Pl, hcs, -, hl, hm, hmm, -, hx⟩
 ·
  simp at hcs
  exact ⟨none, 0, [], by simpa using hcs, ⟨by simp, by simp⟩, fun i hi => by simp at hi⟩
 ·
  simp at hcs
  have hlm : len ≤ m := by rw [hmm]; split <;> omega
  have inh : Inhabited Vl := ⟨⟨0, 0, ⟨#[]⟩⟩⟩
  have hplain : ∀ i, i < m → ∃ b off, a = ⟨b, off, none⟩ := fun i hi => by
   obtain ⟨cs', h1, -⟩ := hx 0 (by omega)
   rw [ce] at h1
   obtain ⟨_, hlen, hcell⟩ := World.cells?_some h1
   have e0 := hcell 0 (by omega)
   rw [add_add] at e0
   match cs', hlen with
   | [v0, v1, v2], _ => exact plain_of (by simpa using e0)
  obtain ⟨q, hq⟩ := choose_lt (α := Vl) (n := m) (p := fun i z => z.s.size ≤ maxLen ∧ ∃ b off, a = ⟨b, off, none⟩ ∧ w.cell? ⟨b, off + i * 3, none⟩ = some (.int .i64 z.k) ∧
    w.cell? ⟨b, off + i * 3 + 1, none⟩ = some (.int .i64 z.n) ∧ w.cell? ⟨b, off + i * 3 + 2, none⟩ = some (.string z.s)) (fun i hi => by
   obtain ⟨cs', h1, h2⟩ := hx i hi
   rw [ce] at h1
   obtain ⟨_, hlen, hcell⟩ := World.cells?_some h1
   obtain ⟨y0, y1, y2, n', -, -, t0, t1, t2⟩ := trod_struct3 he h2
   match cs', hlen with
   | [v0, v1, v2], _ =>
    simp [o0, o1, o2, c0, c1, c2] at t0 t1 t2
    have e0 := hcell 0 (by omega)
    have e1 := hcell 1 (by omega)
    have e2 := hcell 2 (by omega)
    rw [add_add] at e0 e1 e2
    simp at e0 e1 e2
    obtain ⟨z0, x0, -, -⟩ := DataW.trod_int k0 t0
    obtain ⟨z1, x1, -, -⟩ := DataW.trod_int k1 t1
    obtain ⟨z2, x2, -, hz2⟩ := DataW.trod_string k2 t2
    simp at x0 x1 x2
    rw [x0] at e0
    rw [x1] at e1
    rw [x2] at e2
    obtain ⟨b, off, rfl⟩ := hplain i hi
    rw [Go.WideShapes.add_plain] at e0
    rw [Go.WideShapes.add_plain, ← Nat.add_assoc] at e1 e2
    exact ⟨⟨z0, z1, z2⟩, hz2, b, off, rfl, e0, e1, e2⟩)
  refine ⟨some a, cap, (List.range len).map q, by simpa using hcs, ⟨by simp; omega, ?_⟩, ?_⟩
  ·
   intro f hf
   obtain ⟨i, hi, rfl⟩ := List.mem_map.1 hf
   exact (hq i (by have := List.mem_range.1 hi; omega)).1
  ·
   intro i hi
   have hi' : i < len := by simpa using hi
   obtain ⟨-, b, off, rfl, r0, r1, r2⟩ := hq i (by omega)
   exact ⟨b, off, rfl, Nat.zero_le _, by simpa using r0, by simpa using r1, by simpa using r2⟩
theorem read_recs {t e tv : TypeId} {f0 : Field} (ht : P.underlying t = some (.slice e)) (he : P.underlying e = some (.struct #[f0])) (ce : P.cellsOf e = 1) (o0 : f0.offset = 0) (c0 : P.cellsOf f0.type = 1) (k0 : f0.type = tv)
  (HV : ∀ (fuel : Nat) (v : Value) (y : DataW H × List MemPlace), DataW.trod enc P w base spare held fuel tv [v] = some y → ∃ a cap vs, v = .slice a vs.length cap ∧ ValsMax vs ∧ ValsAt w 0 a vs)
  {fuel : Nat} {v : Value} {y : DataW H × List MemPlace} (h : DataW.trod enc P w base spare held fuel t [v] = some y) :
  ∃ a cap rs, v = .slice a rs.length cap ∧ rs.length ≤ maxLen ∧ (∀ r ∈ rs, ValsMax r) ∧ RecsAt w 0 a rs := by
 rcases open_slice ht h with ⟨hcs, -⟩ | ⟨a, len, cap, m, n, D, Pl, hcs, -, hl, hm, hmm, -, hx⟩
 ·
  simp at hcs
  exact ⟨none, 0, [], by simpa using hcs, by simp, by simp, fun i hi => by simp at hi⟩
 ·
  simp at hcs
  have hlm : len ≤ m := by rw [hmm]; split <;> omega
  have hplain : ∀ i, i < m → ∃ b off, a = ⟨b, off, none⟩ := fun i hi => by
   obtain ⟨cs', h1, -⟩ := hx 0 (by omega)
   rw [ce] at h1
   obtain ⟨_, hlen, hcell⟩ := World.cells?_some h1
   have e0 := hcell 0 (by omega)
   rw [add_add] at e0
   match cs', hlen with
   | [v0], _ => exact plain_of (by simpa using e0)
  obtain ⟨q, hq⟩ := choose_lt (α := List Vl) (n := m) (p := fun i z => ValsMax z ∧ ∃ b off ca cc, a = ⟨b, off, none⟩ ∧ w.cell? ⟨b, off + i, none⟩ = some (.slice ca z.length cc) ∧ ValsAt w 0 ca z) (fun i hi => by
   obtain ⟨cs', h1, h2⟩ := hx i hi
   rw [ce] at h1
   obtain ⟨_, hlen, hcell⟩ := World.cells?_some h1
   obtain ⟨y0, n', -, -, t0⟩ := trod_struct1 he h2
   match cs', hlen with
   | [v0], _ =>
    simp [o0, c0] at t0
    have e0 := hcell 0 (by omega)
    rw [add_add] at e0
    simp at e0
    rw [k0] at t0
    obtain ⟨ca, cc, xs, x0, hxs, hvs⟩ := HV _ _ _ t0
    rw [x0] at e0
    obtain ⟨b, off, rfl⟩ := hplain i hi
    rw [Go.WideShapes.add_plain] at e0
    exact ⟨xs, hxs, b, off, ca, cc, rfl, e0, hvs⟩)
  refine ⟨some a, cap, (List.range len).map q, by simpa using hcs, by simp; omega, ?_, ?_⟩
  ·
   intro f hf
   obtain ⟨i, hi, rfl⟩ := List.mem_map.1 hf
   exact (hq i (by have := List.mem_range.1 hi; omega)).1
  ·
   intro i hi
   have hi' : i < len := by simpa using hi
   obtain ⟨-, b, off, ca, cc, rfl, r0, r1⟩ := hq i (by omega)
   exact ⟨b, off, ca, cc, rfl, Nat.zero_le _, by simpa using r0, by simpa using r1⟩
theorem read_frs {t e tv : TypeId} {f0 f1 f2 f3 : Field} (ht : P.underlying t = some (.slice e)) (he : P.underlying e = some (.struct #[f0, f1, f2, f3])) (ce : P.cellsOf e = 4) (o0 : f0.offset = 0) (o1 : f1.offset = 1) (o2 : f2.offset = 2) (o3 : f3.offset = 3)
  (c0 : P.cellsOf f0.type = 1) (c1 : P.cellsOf f1.type = 1) (c2 : P.cellsOf f2.type = 1) (c3 : P.cellsOf f3.type = 1) (k0 : P.underlying f0.type = some (.int .i64)) (k1 : P.underlying f1.type = some (.int .i64)) (k2 : f2.type = tv) (k3 : f3.type = tv)
  (HV : ∀ (fuel : Nat) (v : Value) (y : DataW H × List MemPlace), DataW.trod enc P w base spare held fuel tv [v] = some y → ∃ a cap vs, v = .slice a vs.length cap ∧ ValsMax vs ∧ ValsAt w 0 a vs)
  {fuel : Nat} {v : Value} {y : DataW H × List MemPlace} (h : DataW.trod enc P w base spare held fuel t [v] = some y) :
  ∃ a cap fr, v = .slice a fr.length cap ∧ fr.length ≤ maxLen ∧ (∀ f ∈ fr, ValsMax f.locals) ∧ (∀ f ∈ fr, ValsMax f.stack) ∧ FrsAt w 0 a fr := by
 rcases open_slice ht h with ⟨hcs, -⟩ | ⟨a, len, cap, m, n, D, Pl, hcs, -, hl, hm, hmm, -, hx⟩
 ·
  simp at hcs
  exact ⟨none, 0, [], by simpa using hcs, by simp, by simp, by simp, fun i hi => by simp at hi⟩
 ·
  simp at hcs
  have hlm : len ≤ m := by rw [hmm]; split <;> omega
  have inh : Inhabited Fr := ⟨⟨0, 0, [], []⟩⟩
  have hplain : ∀ i, i < m → ∃ b off, a = ⟨b, off, none⟩ := fun i hi => by
   obtain ⟨cs', h1, -⟩ := hx 0 (by omega)
   rw [ce] at h1
   obtain ⟨_, hlen, hcell⟩ := World.cells?_some h1
   have e0 := hcell 0 (by omega)
   rw [add_add] at e0
   match cs', hlen with
   | [v0, v1, v2, v3], _ => exact plain_of (by simpa using e0)
  obtain ⟨q, hq⟩ := choose_lt (α := Fr) (n := m) (p := fun i z => (ValsMax z.locals ∧ ValsMax z.stack) ∧ ∃ b off la lc sa sc, a = ⟨b, off, none⟩ ∧ w.cell? ⟨b, off + i * 4, none⟩ = some (.int .i64 z.fn) ∧
    w.cell? ⟨b, off + i * 4 + 1, none⟩ = some (.int .i64 z.pc) ∧ w.cell? ⟨b, off + i * 4 + 2, none⟩ = some (.slice la z.locals.length lc) ∧ w.cell? ⟨b, off + i * 4 + 3, none⟩ = some (.slice sa z.stack.length sc) ∧ ValsAt w 0 la z.locals ∧ ValsAt w 0 sa z.stack) (fun i hi => by
   obtain ⟨cs', h1, h2⟩ := hx i hi
   rw [ce] at h1
   obtain ⟨_, hlen, hcell⟩ := World.cells?_some h1
   obtain ⟨y0, y1, y2, y3, n', -, -, t0, t1, t2, t3⟩ := trod_struct4 he h2
   match cs', hlen with
   | [v0, v1, v2, v3], _ =>
    simp [o0, o1, o2, o3, c0, c1, c2, c3] at t0 t1 t2 t3
    have e0 := hcell 0 (by omega)
    have e1 := hcell 1 (by omega)
    have e2 := hcell 2 (by omega)
    have e3 := hcell 3 (by omega)
    rw [add_add] at e0 e1 e2 e3
    simp at e0 e1 e2 e3
    obtain ⟨z0, x0, -, -⟩ := DataW.trod_int k0 t0
    obtain ⟨z1, x1, -, -⟩ := DataW.trod_int k1 t1
    rw [k2] at t2
    rw [k3] at t3
    obtain ⟨la, lc, ls, x2, hls, hla⟩ := HV _ _ _ t2
    obtain ⟨sa, sc, ss, x3, hss, hsa⟩ := HV _ _ _ t3
    simp at x0 x1
    rw [x0] at e0
    rw [x1] at e1
    rw [x2] at e2
    rw [x3] at e3
    obtain ⟨b, off, rfl⟩ := hplain i hi
    rw [Go.WideShapes.add_plain] at e0
    rw [Go.WideShapes.add_plain, ← Nat.add_assoc] at e1 e2 e3
    exact ⟨⟨z0, z1, ls, ss⟩, ⟨hls, hss⟩, b, off, la, lc, sa, sc, rfl, e0, e1, e2, e3, hla, hsa⟩)
  refine ⟨some a, cap, (List.range len).map q, by simpa using hcs, by simp; omega, ?_, ?_, ?_⟩
  ·
   intro f hf
   obtain ⟨i, hi, rfl⟩ := List.mem_map.1 hf
   exact (hq i (by have := List.mem_range.1 hi; omega)).1.1
  ·
   intro f hf
   obtain ⟨i, hi, rfl⟩ := List.mem_map.1 hf
   exact (hq i (by have := List.mem_range.1 hi; omega)).1.2
  ·
   intro i hi
   have hi' : i < len := by simpa using hi
   obtain ⟨-, b, off, la, lc, sa, sc, rfl, r0, r1, r2, r3, r4, r5⟩ := hq i (by omega)
   exact ⟨b, off, la, lc, sa, sc, rfl, Nat.zero_le _, by simpa using r0, by simpa using r1, by simpa using r2, by simpa using r3, by simpa using r4, by simpa using r5⟩
end
theorem array10 {α : Type} {cs : Array α} (h : cs.size = 10) : ∃ c0 c1 c2 c3 c4 c5 c6 c7 c8 c9, cs = #[c0, c1, c2, c3, c4, c5, c6, c7, c8, c9] := by
 obtain ⟨l⟩ := cs
 match l, h with
 | [c0, c1, c2, c3, c4, c5, c6, c7, c8, c9], _ => exact ⟨c0, c1, c2, c3, c4, c5, c6, c7, c8, c9, rfl⟩
theorem cells3 : Tryz.prog.cellsOf 3 = 1 := by kernel_rfl
theorem cells9 : Tryz.prog.cellsOf 9 = 1 := by kernel_rfl
theorem cells22 : Tryz.prog.cellsOf 22 = 1 := by kernel_rfl
theorem cells75 : Tryz.prog.cellsOf 75 = 3 := by kernel_rfl
end Go.Proofs.YtbjmgmmekmfjhaaGreatDoor
namespace Go.Proofs.YtbjmgmmekmfjhaaGreatDoor
open Go.RowKit Go.Deep Go.ChangeShapes Go.WideShapes Go.Joins
section
variable {H : Type} {enc : TypeId × Value → H} {P : Program} {w : World} {base : Nat} {spare : Nat → Bool} {held : Bool}
theorem cells54 : Tryz.prog.cellsOf 54 = 1 := by kernel_rfl
theorem cells73 : Tryz.prog.cellsOf 73 = 1 := by kernel_rfl
theorem cells55 : Tryz.prog.cellsOf 55 = 1 := by kernel_rfl
theorem cells77 : Tryz.prog.cellsOf 77 = 10 := by kernel_rfl
theorem read_values {H : Type} {enc : TypeId × Value → H} {w : World} {base : Nat} {sp : Nat → Bool} {held : Bool} (fuel : Nat) (v : Value) (y : DataW H × List MemPlace) (h : DataW.trod enc Tryz.prog w base sp held fuel 54 [v] = some y) :
  ∃ a cap vs, v = .slice a vs.length cap ∧ ValsMax vs ∧ ValsAt w 0 a vs :=
 read_vals Tryz.underlying54 Tryz.underlying75 cells75 rfl rfl rfl cells3 cells3 cells9 Tryz.underlying3 Tryz.underlying3 Tryz.underlying9 h
set_option maxHeartbeats 1000000 in
theorem open_vm {H : Type} {enc : TypeId × Value → H} {w : World} {base : Nat} {sp : Nat → Bool} {held : Bool} {r : Reach} {b0 : Nat} {v : Value} {d : DataW H} {p : List MemPlace}
  (hv : Value.okWide Tryz.prog w r b0 77 v) (h : DataW.Trod enc Tryz.prog w base sp held 77 v d p) :
  ∃ fa ha oa fc hcp oc, ∃ D : VmD, v = .agg (vmCells fa ha oa fc hcp oc D) ∧ VmMax D ∧ VmAt w 0 fa ha oa D := by
 obtain ⟨cs, rfl, hsz⟩ := okWide_struct Tryz.underlying77 hv
 obtain ⟨c0, c1, c2, c3, c4, c5, c6, c7, c8, c9, rfl⟩ := array10 (hsz.trans cells77)
 obtain ⟨fuel, hf⟩ := h
 obtain ⟨xs, n, -, -, -, hlen, hf⟩ := DataW.trod_struct Tryz.underlying77 hf
 have hlen8 : xs.length = 8 := hlen
 have get : ∀ i (hi : i < 8), xs[i]? = some (xs[i]'(by omega)) := fun i hi => List.getElem?_eq_getElem (by omega)
 have t0 : DataW.trod enc Tryz.prog w base sp held n 73 [c0] = some (xs[0]'(by omega)) := by rw [← get 0 (by omega)]; simpa [Value.cells, cells73] using hf 0 _ rfl
 have t1 : DataW.trod enc Tryz.prog w base sp held n 55 [c1] = some (xs[1]'(by omega)) := by rw [← get 1 (by omega)]; simpa [Value.cells, cells55] using hf 1 _ rfl
 have t2 : DataW.trod enc Tryz.prog w base sp held n 3 [c2] = some (xs[2]'(by omega)) := by rw [← get 2 (by omega)]; simpa [Value.cells, cells3] using hf 2 _ rfl
 have t3 : DataW.trod enc Tryz.prog w base sp held n 22 [c3] = some (xs[3]'(by omega)) := by rw [← get 3 (by omega)]; simpa [Value.cells, cells22] using hf 3 _ rfl
 have t4 : DataW.trod enc Tryz.prog w base sp held n 3 [c4] = some (xs[4]'(by omega)) := by rw [← get 4 (by omega)]; simpa [Value.cells, cells3] using hf 4 _ rfl
 have t5 : DataW.trod enc Tryz.prog w base sp held n 3 [c5] = some (xs[5]'(by omega)) := by rw [← get 5 (by omega)]; simpa [Value.cells, cells3] using hf 5 _ rfl
 have t6 : DataW.trod enc Tryz.prog w base sp held n 75 [c6, c7, c8] = some (xs[6]'(by omega)) := by rw [← get 6 (by omega)]; simpa [Value.cells, cells75] using hf 6 _ rfl
 have t7 : DataW.trod enc Tryz.prog w base sp held n 3 [c9] = some (xs[7]'(by omega)) := by rw [← get 7 (by omega)]; simpa [Value.cells, cells3] using hf 7 _ rfl
 obtain ⟨fa, fc, fr, rfl, f1, f2, f3, f4⟩ := read_frs (tv := 54) Tryz.underlying73 Tryz.underlying220 (by kernel_rfl) rfl rfl rfl rfl cells3 cells3 cells54 cells54 Tryz.underlying3 Tryz.underlying3 rfl rfl read_values t0
 obtain ⟨ha, hcp, rs, rfl, r1, r2, r3⟩ := read_recs (tv := 54) Tryz.underlying55 Tryz.underlying120 (by kernel_rfl) rfl cells54 rfl read_values t1
 obtain ⟨oa, oc, ss, rfl, s1, s2, s3⟩ := read_strs Tryz.underlying22 Tryz.underlying9 cells9 t3
 obtain ⟨z2, x2, -⟩ := DataW.trod_int Tryz.underlying3 t2
 obtain ⟨z4, x4, -⟩ := DataW.trod_int Tryz.underlying3 t4
 obtain ⟨z5, x5, -⟩ := DataW.trod_int Tryz.underlying3 t5
 obtain ⟨z9, x9, -⟩ := DataW.trod_int Tryz.underlying3 t7
 obtain ⟨y0, y1, y2, n', -, -, u0, u1, u2⟩ := trod_struct3 Tryz.underlying75 t6
 simp [cells3, cells9] at u0 u1 u2
 obtain ⟨z6, x6, -⟩ := DataW.trod_int Tryz.underlying3 u0
 obtain ⟨z7, x7, -⟩ := DataW.trod_int Tryz.underlying3 u1
 obtain ⟨z8, x8, -, hz8⟩ := DataW.trod_string Tryz.underlying9 u2
 simp only [List.cons.injEq, and_true] at x2 x4 x5 x9 x6 x7 x8
 subst x2 x4 x5 x9 x6 x7 x8
 exact ⟨fa, ha, oa, fc, hcp, oc, ⟨fr, rs, z2, ss, z4, z5, ⟨z6, z7, z8⟩, z9⟩, rfl, ⟨f1, f2, f3, r1, r2, s1, s2, hz8⟩, ⟨f4, r3, s3⟩⟩
end
end Go.Proofs.YtbjmgmmekmfjhaaGreatDoor
namespace Go.Proofs.YtbjmgmmekmfjhaaGreatDoor
open Go.ChangeShapes Go.WideShapes Go.ChangeAt Go.WideMaps Go.WideElems Go.RowKit Go.Joins
set_option linter.unusedVariables false
theorem laidOut : laidOutB Tryz.prog = true := by kernel_rfl
theorem own : ownKnob Tryz.prog.godebug = none := by kernel_rfl
theorem door_met (os : Os) (args : Array Value) : laidMetH Tryz.prog Rows.fnExactEntersRow.laid ((World.doorLaid Tryz.prog 400 os).forCall (fun _ _ => 0) ⟨#[], args, []⟩).memory :=
 laidMetH_of_parts3 (fuel := 8) (laidMet_of_run' 8 (by kernel_rfl) (by kernel_rfl)) (by kernel_rfl) (by kernel_rfl)
theorem lifted (os : Os) (started : os.Started) (H : Type) (enc : TypeId × Value → H) :
  ReturnsInHanded {} Tryz.checked os 6 .any (fun w args => (Rows.fnExactEntersSpec.pre enc Tryz.prog Tryz.f6 [] false w args ∧ laidMetH Tryz.prog Rows.fnExactEntersRow.laid w) ∧ sizedMet enc Tryz.prog Tryz.f6 (OpenSpec.ofChange Rows.fnExactEntersSpec) false w args)
   (Rows.fnExactEntersSpec.post enc Tryz.prog Tryz.f6 false true false false) := by
 refine returnsInHanded_of_change_and (C := Tryz.checked) (X := fun w _ => laidMetH Tryz.prog Rows.fnExactEntersRow.laid w) (fun _ _ _ hh h => h.of_heap hh) own started (by kernel_rfl) Tryz.func6
  (ChangeSpec.witness_shaped (enc := enc) (C := Tryz.checked) (os := os) (X := fun w _ => laidMetH Tryz.prog Rows.fnExactEntersRow.laid w) false (World.doorLaid Tryz.prog 400 os) #[.agg #[.slice none 0 0, .slice none 0 0], .agg #[.int .i64 0, .int .i64 0, .int .i64 0, .int .i64 0, .slice none 0 0, .slice none 0 0], .agg #[.slice none 0 0, .slice none 0 0, .int .i64 0, .slice none 0 0, .int .i64 0, .int .i64 0, .int .i64 0, .int .i64 0, .string ⟨#[]⟩, .int .i64 0]] 8 rfl (World.shaped_of_RefB (by kernel_rfl) (by kernel_rfl)) (by kernel_rfl) (by kernel_rfl) (by kernel_rfl) (door_met os _)) ?_
 intro W base args ds gs before hval0 hW _ _ hL _
 have hval : ∀ (j : Nat) t v, Tryz.f6.params[j]? = some t → args[j]? = some v → Value.okWide Tryz.prog W .any base t v := hval0
 have hW' := hW
 obtain ⟨p, q, hA0, hV0, rfl, hfz, hnd⟩ := hW
 have hV : DataW.TrodVars enc Tryz.prog W (fun _ => true) ["loop.example/g00094/impl.shapes"] gs q := hV0
 have hA : DataW.TrodAll enc Tryz.prog W 0 (fun _ => true) true Tryz.f6.params.toList args.toList ds p := hA0
 rw [Tryz.params6] at hA hval
 obtain ⟨v0, vs0, d0, ds0, p0, q0, hargs0, rfl, rfl, h0, r0⟩ := trodAll_cons hA
 obtain ⟨v1, vs1, d1, ds1, p1, q1, hargs1, rfl, rfl, h1, r1⟩ := trodAll_cons r0
 obtain ⟨v2, vs2, d2, ds2, p2, q2, hargs2, rfl, rfl, h2, r2⟩ := trodAll_cons r1
 obtain ⟨rfl, rfl, rfl⟩ := trodAll_nil r2
 subst hargs2
 subst hargs1
 obtain rfl : args = #[v0, v1, v2] := by cases args; simp_all
 obtain ⟨g1, rfl⟩ : ∃ g1, gs = [g1] := by
  obtain ⟨_, _, _, _, d, _, h, _⟩ := trodVars_one hV
  exact ⟨d, h⟩
 have k0 := h0
 have lt0 : ∀ x ∈ p0, x.block < W.heap.size := by obtain ⟨m, hm⟩ := k0; exact DataW.trod_lt m _ _ _ hm
 have k1 := h1
 have lt1 : ∀ x ∈ p1, x.block < W.heap.size := by obtain ⟨m, hm⟩ := k1; exact DataW.trod_lt m _ _ _ hm
 have k2 := h2
 have lt2 : ∀ x ∈ p2, x.block < W.heap.size := by obtain ⟨m, hm⟩ := k2; exact DataW.trod_lt m _ _ _ hm
 obtain ⟨u0, u1, y0, y1, n, rfl, hd, -, t0, t1⟩ := open_agg2 Tryz.underlying25 (by kernel_rfl) (by kernel_rfl) (hval 0 25 v0 rfl rfl) h0
 obtain ⟨a1, c1, ts, rfl, hn1, hs1, hm1⟩ := read_strs Tryz.underlying22 Tryz.underlying9 (by kernel_rfl) t0
 obtain ⟨a2, c2, fs, rfl, hn2, hs2, hm2⟩ := read_fns Tryz.underlying23 Tryz.underlying147 (by kernel_rfl) rfl rfl rfl (by kernel_rfl) (by kernel_rfl) (by kernel_rfl) Tryz.underlying3 Tryz.underlying3 rfl
  Tryz.underlying145 Tryz.underlying296 (by kernel_rfl) rfl rfl (by kernel_rfl) (by kernel_rfl) Tryz.underlying3 Tryz.underlying3 t1
 obtain ⟨oa, ea, oc, ec, D, rfl, hfm, hf0⟩ := open_fast (hval 1 29 v1 rfl rfl) h1
 obtain ⟨fa, ha, ua, fc, hcp, uc, d, rfl, hvm, hv0⟩ := open_vm (hval 2 77 v2 rfl rfl) h2
 obtain ⟨hSh, hDB⟩ := of_laid rfl hL
 clear hA0 hval0
 refine (lawEnters sFast_any a1 a2 oa ea ts fs D c1 c2 oc ec d fa ha ua fc hcp uc W hn1 hs1 hm1 hn2 hs2 hm2 hfm hf0 hvm hv0 hSh hDB).mono fun e W' ⟨he, bel⟩ => ?_
 subst he
 exact ⟨_, rfl, _, _, _, [], _, _, hW', trodAll_mk1 (shut_bool Tryz.underlying4 _), (trodAll_cons_mk (Below.trod laidOut (by kernel_rfl) (of_decide_eq_true (by kernel_rfl)) k0 bel lt0) (trodAll_cons_mk (Below.trod laidOut (by kernel_rfl) (of_decide_eq_true (by kernel_rfl)) k1 bel lt1) (trodAll_cons_mk (Below.trod laidOut (by kernel_rfl) (of_decide_eq_true (by kernel_rfl)) k2 bel lt2) trodAll_mk0))), Below.trodVars laidOut bel (by kernel_rfl) hV, bel.frame _, fun h => by cases h⟩
theorem over : Rows.FnExactEntersSaid :=
 OpenClaim.holds_of_wide 6 Tryz.f6 rfl rfl rfl rfl rfl rfl rfl ⟨rfl, rfl, rfl, rfl, rfl⟩ rfl rfl rfl rfl rfl (by kernel_rfl) Tryz.func6 facts
  (of_decide_eq_true (by kernel_rfl)) (by unfold Func.isWrapper; first | (rw [if_pos (by decide +kernel)]; kernel_rfl) | (rw [if_neg (by decide +kernel)]; exact ⟨rfl, rfl⟩))
  (fun os started H enc _ => lifted os started H enc)
theorem fnExactEnters_holds : Rows.FnExactEntersCardSaid :=
 Claim7.holds_tied_plain_at .later [] [.data, .data] true (true, "104cb62c62a58a74a7a544b5b22e3d489b95690b8974a6481f8a150c0184b88d") false
  over (fun _ h => by cases h) (by kernel_rfl) (fun _ h => by cases h) fnExactEnters_row_tie rfl ⟨rfl, rfl⟩ (by kernel_rfl) rfl
  (fun f fn hf hfn => by
   obtain rfl : f = 6 := Option.some.inj ((show Tryz.prog.funcNamed "loop.example/g00094/laws.FnExactEnters" = some 6 by kernel_rfl).symm.trans hf) |>.symm
   obtain rfl : fn = Tryz.f6 := (Option.some.inj (Tryz.func6.symm.trans hfn)).symm
   exact ⟨by kernel_rfl, fun j t ht => by
    rw [Tryz.params6] at ht
    have hm : t ∈ [25, 29, 77] := by simpa using Array.mem_of_getElem? ht
    have hall : ([25, 29, 77].all fun u => !Tryz.prog.wantsStandIn u) = true := by kernel_rfl
    exact (show Tryz.prog.wantsStandIn t = false by simpa using List.all_eq_true.1 hall t hm)⟩)
  (by kernel_rfl)
#print axioms fnExactEnters_holds
end Go.Proofs.YtbjmgmmekmfjhaaGreatDoor
