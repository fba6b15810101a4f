/-
  The law laws.FnShown, walked.
  The closed facts of a row, limb by limb.
  The closed facts of the row of laws.FnShown.
-/
import Derived.Test.YtpmkfdinkomaiaaGreatDoorS7
import Derived.Test.YtpmkfdinkomaiaaGreatDoorGQ19
import Derived.Test.YtpmkfdinkomaiaaGreatDoorRows
import Derived.JoinedOf
import Derived.KernelRfl
namespace Go.Proofs.YtpmkfdinkomaiaaGreatDoor
open Go.RowKit

theorem ShowP.of {w w' : World} {e : Ending} (h : DrawnPost w e w') : ShowP w e w' := by
  obtain ⟨ta, nt, tc, fa, fc, hs, rfl, hT, hn3, hG, hh1, hh14, hb⟩ := h
  obtain ⟨ts, hts, hst, hsz⟩ := strs_of hT
  obtain ⟨fs, hfs, hsf, hcl⟩ := fns_of hG
  subst hts
  refine ⟨ta, tc, fa, fc, ts, fs, by rw [hfs], hst, hsf, ⟨by omega, fun s h => Nat.le_trans (hsz s h) (by omega), by omega, fun f h => Nat.le_trans (hcl f h) (by omega)⟩, hb⟩
theorem ModPost.of {W w w' : World} {C : Nat} {xa : Option Addr} {bs : List Int} {xc M : Nat} {e : Ending} (h : SpoilPost W w C xa bs xc M e w') : ModPost W C xa bs xc M e w' := by
  obtain ⟨ta, nt, tc, fa, fc, hs, rfl, hT, hn3, hG, hh1, hh14, hC, -⟩ := h
  obtain ⟨ts, hts, hst, hsz⟩ := strs_of hT
  obtain ⟨fs, hfs, hsf, hcl⟩ := fns_of hG
  subst hts
  refine ⟨ta, tc, fa, fc, ts, fs, by rw [hfs], hst, hsf, ⟨by omega, fun s h => Nat.le_trans (hsz s h) (by omega), by omega, fun f h => Nat.le_trans (hcl f h) (by omega)⟩, hC⟩

theorem lawShownW (xa ya : Option Addr) (bs cs : List Int) (xc yc : Nat) (w : World) (hB : BytesAt w 0 xa bs) (hv : ∀ x ∈ bs, 0 ≤ x ∧ x ≤ 255) (hB2 : BytesAt w 0 ya cs) (hv2 : ∀ x ∈ cs, 0 ≤ x ∧ x ≤ 255)
    (hw : Hid (∀ k s, words[k]? = some s → w.cell? ⟨0, k, none⟩ = some (.string s))) (htab : Lib.TabIs Tryz.prog w "internal/strconv.uint64pow10" .u64 Lib.pow10Tab) (hvr : Vars w) :
    Calls Tryz.prog 3 #[.slice xa bs.length xc, .slice ya cs.length yc] w fun e w' => e = .returned (.bool true) ∧ Below w.heap.size w w' :=
  lawShown xa ya bs cs xc yc w (fun hn w' hb => (drawShow_any xa bs xc w' hn (hB.mono hb) hv).mono fun _ _ h => ShowP.of h)
    (fun hn w' hb => drawRead_any ya cs yc w' (open_any ya cs yc w' hn (hB2.mono hb) hv2) (fun w1 hC => (drawAny_any w' w'.heap.size yc 0 ya cs 20 w1 hC (by omega) (by omega) (by omega)).mono fun _ _ h => ModPost.of h)) hw htab hvr
end Go.Proofs.YtpmkfdinkomaiaaGreatDoor

namespace Go.Proofs.YtpmkfdinkomaiaaGreatDoor

theorem joined_of {P : Program} {f : FuncId} {fn : Func} {s : ChangeSpec} {c : OpenClaim}
    (h0 : (c.wf (OpenSpec.ofChange s)) = true)
    (h1 : (laidOutB P) = true)
    (h2 : (mapsRowed P) = true)
    (h3 : (fn.params.all (P.readableRec ·)) = true)
    (h4 : (namedTie P c.named s.vars) = true)
    (h5 : ((c.stops == [])) = true)
    (h6 : ((P.stops == [])) = true)
    (h7 : ((c.knobs == [])) = true)
    (h8 : ((P.stopKnobs == [])) = true)
    (h9 : ((c.inPlace == P.inPlace f)) = true)
    (h10 : ((c.unfollowed == P.unfollowed f)) = true)
    (h11 : ((c.recurses == P.recurses f)) = true)
    (h12 : ((c.named == P.varsNamed f)) = true)
    (h13 : ((c.maps == (fn.params.toList ++ s.plain.varTypes P).any (P.mapsRec ·))) = true)
    (h14 : ((c.ifaces == (fn.params.toList ++ s.plain.varTypes P).any (P.ifacesRec ·))) = true)
    (h15 : ((c.mapsOut == P.mapsAmong fn.resultTypes.toList)) = true)
    (h16 : ((c.loops == (fn.params.toList ++ s.plain.varTypes P).any (P.loopsFrom ·))) = true)
    (h17 : ((c.wideKeys == (fn.params.toList ++ s.plain.varTypes P ++ fn.resultTypes.toList).any (P.wideKeysFrom ·))) = true)
    (h18 : (s.vars.all (P.varReadable ·)) = true)
    (h19 : (fn.resultTypes.all (fun t => P.readableRec t && decide (t < P.types.size))) = true)
    (h20 : ((c.ifacesOut == fn.resultTypes.toList.any (P.ifacesRec ·))) = true)
    (h21 : ((c.loopsOut == fn.resultTypes.toList.any (P.loopsFrom ·))) = true)
    (h22 : ((c.plainKeys == P.plainKeys)) = true)
    (h23 : (c.shortTexts.isNone) = true)
    (h24 : (P.stopsHeard) = true)
    (h25 : (P.mayEnter) = true)
    (h26 : ((c.lifted == P.liftsFinal)) = true)
    (h27 : ((P.make == some c.make)) = true)
    (h28 : c.kinds = []) (h28b : c.domain.isEmpty = true)
    (h29 : ((c.pinned == c.pinnedBy)) = true)
    (h30 : ((c.veiled == (fn.params.toList ++ s.plain.varTypes P ++ fn.resultTypes.toList).any (P.veiledRec ·))) = true)
    (h31 : (c.veiledFits P fn.params.toList (fn.params.toList ++ s.plain.varTypes P ++ fn.resultTypes.toList)) = true) : joinedFacts P f fn s c = true := by
  unfold joinedFacts
  rw [h0, h1, h2, h3, h4, h5, h6, h7, h8, h9, h10, h11, h12, h13, h14, h15, h16, h17, h18, h19, h20, h21, h22, h23, h24, h25, h26, h27, h29, h30, h31, h28, h28b]
  rfl
end Go.Proofs.YtpmkfdinkomaiaaGreatDoor

namespace Go.Proofs.YtpmkfdinkomaiaaGreatDoor

theorem jf0 : (Rows.fnShownRow.wf (OpenSpec.ofChange Rows.fnShownSpec)) = true := by kernel_rfl
theorem jf1 : (laidOutB Tryz.prog) = true := by kernel_rfl
theorem jf2 : (mapsRowed Tryz.prog) = true := by kernel_rfl
theorem jf3 : (Tryz.f3.params.all (Tryz.prog.readableRec ·)) = true := by kernel_rfl
theorem jf4 : (namedTie Tryz.prog Rows.fnShownRow.named Rows.fnShownSpec.vars) = true := by kernel_rfl
theorem jf5 : ((Rows.fnShownRow.stops == [])) = true := by kernel_rfl
theorem jf6 : ((Tryz.prog.stops == [])) = true := by kernel_rfl
theorem jf7 : ((Rows.fnShownRow.knobs == [])) = true := by kernel_rfl
theorem jf8 : ((Tryz.prog.stopKnobs == [])) = true := by kernel_rfl
theorem jf9 : ((Rows.fnShownRow.inPlace == Tryz.prog.inPlace 3)) = true := by kernel_rfl
theorem jf10 : ((Rows.fnShownRow.unfollowed == Tryz.prog.unfollowed 3)) = true := by kernel_rfl
theorem jf11 : ((Rows.fnShownRow.recurses == Tryz.prog.recurses 3)) = true := by kernel_rfl
theorem jf12 : ((Rows.fnShownRow.named == Tryz.prog.varsNamed 3)) = true := by kernel_rfl
theorem jf13 : ((Rows.fnShownRow.maps == (Tryz.f3.params.toList ++ Rows.fnShownSpec.plain.varTypes Tryz.prog).any (Tryz.prog.mapsRec ·))) = true := by kernel_rfl
theorem jf14 : ((Rows.fnShownRow.ifaces == (Tryz.f3.params.toList ++ Rows.fnShownSpec.plain.varTypes Tryz.prog).any (Tryz.prog.ifacesRec ·))) = true := by kernel_rfl
theorem jf15 : ((Rows.fnShownRow.mapsOut == Tryz.prog.mapsAmong Tryz.f3.resultTypes.toList)) = true := by kernel_rfl
theorem jf16 : ((Rows.fnShownRow.loops == (Tryz.f3.params.toList ++ Rows.fnShownSpec.plain.varTypes Tryz.prog).any (Tryz.prog.loopsFrom ·))) = true := by kernel_rfl
theorem jf17 : ((Rows.fnShownRow.wideKeys == (Tryz.f3.params.toList ++ Rows.fnShownSpec.plain.varTypes Tryz.prog ++ Tryz.f3.resultTypes.toList).any (Tryz.prog.wideKeysFrom ·))) = true := by kernel_rfl
theorem jf18 : (Rows.fnShownSpec.vars.all (Tryz.prog.varReadable ·)) = true := by kernel_rfl
theorem jf19 : (Tryz.f3.resultTypes.all (fun t => Tryz.prog.readableRec t && decide (t < Tryz.prog.types.size))) = true := by kernel_rfl
theorem jf20 : ((Rows.fnShownRow.ifacesOut == Tryz.f3.resultTypes.toList.any (Tryz.prog.ifacesRec ·))) = true := by kernel_rfl
theorem jf21 : ((Rows.fnShownRow.loopsOut == Tryz.f3.resultTypes.toList.any (Tryz.prog.loopsFrom ·))) = true := by kernel_rfl
theorem jf22 : ((Rows.fnShownRow.plainKeys == Tryz.prog.plainKeys)) = true := by kernel_rfl
theorem jf23 : (Rows.fnShownRow.shortTexts.isNone) = true := by kernel_rfl
theorem jf24 : (Tryz.prog.stopsHeard) = true := by kernel_rfl
theorem jf25 : (Tryz.prog.mayEnter) = true := by kernel_rfl
theorem jf26 : ((Rows.fnShownRow.lifted == Tryz.prog.liftsFinal)) = true := by kernel_rfl
theorem jf27 : ((Tryz.prog.make == some Rows.fnShownRow.make)) = true := by kernel_rfl
theorem jf28 : Rows.fnShownRow.kinds = [] := by kernel_rfl
theorem jf28b : Rows.fnShownRow.domain.isEmpty = true := by kernel_rfl
theorem jf29 : ((Rows.fnShownRow.pinned == Rows.fnShownRow.pinnedBy)) = true := by kernel_rfl
theorem jf30 : ((Rows.fnShownRow.veiled == (Tryz.f3.params.toList ++ Rows.fnShownSpec.plain.varTypes Tryz.prog ++ Tryz.f3.resultTypes.toList).any (Tryz.prog.veiledRec ·))) = true := by kernel_rfl
theorem jf31 : (Rows.fnShownRow.veiledFits Tryz.prog Tryz.f3.params.toList (Tryz.f3.params.toList ++ Rows.fnShownSpec.plain.varTypes Tryz.prog ++ Tryz.f3.resultTypes.toList)) = true := by kernel_rfl
theorem facts : joinedFacts Tryz.prog 3 Tryz.f3 Rows.fnShownSpec Rows.fnShownRow = true := joined_of jf0 jf1 jf2 jf3 jf4 jf5 jf6 jf7 jf8 jf9 jf10 jf11 jf12 jf13 jf14 jf15 jf16 jf17 jf18 jf19 jf20 jf21 jf22 jf23 jf24 jf25 jf26 jf27 jf28 jf28b jf29 jf30 jf31
end Go.Proofs.YtpmkfdinkomaiaaGreatDoor
