/- RV53 -/
import Derived.Test.YtbjmgmmekmfjhaaGreatDoorRV19
namespace Go.Proofs.YtbjmgmmekmfjhaaGreatDoor
theorem jf0:(Rows.fnExactRebuildRow.wf (OpenSpec.ofChange Rows.fnExactRebuildSpec))=true:=by kernel_rfl
theorem jf1:(laidOutB Tryz.prog)=true:=by kernel_rfl
theorem jf2:(mapsRowed Tryz.prog)=true:=by kernel_rfl
theorem jf3:(Tryz.f5.params.all (Tryz.prog.readableRec ·))=true:=by kernel_rfl
theorem jf4:(namedTie Tryz.prog Rows.fnExactRebuildRow.named Rows.fnExactRebuildSpec.vars)=true:=by kernel_rfl
theorem jf5:((Rows.fnExactRebuildRow.stops == []))=true:=by kernel_rfl
theorem jf6:((Tryz.prog.stops == []))=true:=by kernel_rfl
theorem jf7:((Rows.fnExactRebuildRow.knobs == []))=true:=by kernel_rfl
theorem jf8:((Tryz.prog.stopKnobs == []))=true:=by kernel_rfl
theorem jf9:((Rows.fnExactRebuildRow.inPlace == Tryz.prog.inPlace 5))=true:=by kernel_rfl
theorem jf10:((Rows.fnExactRebuildRow.unfollowed == Tryz.prog.unfollowed 5))=true:=by kernel_rfl
theorem jf11:((Rows.fnExactRebuildRow.recurses == Tryz.prog.recurses 5))=true:=by kernel_rfl
theorem jf12:((Rows.fnExactRebuildRow.named == Tryz.prog.varsNamed 5))=true:=by kernel_rfl
theorem jf13:((Rows.fnExactRebuildRow.maps == (Tryz.f5.params.toList++Rows.fnExactRebuildSpec.plain.varTypes Tryz.prog).any (Tryz.prog.mapsRec ·)))=true:=by kernel_rfl
theorem jf14:((Rows.fnExactRebuildRow.ifaces == (Tryz.f5.params.toList++Rows.fnExactRebuildSpec.plain.varTypes Tryz.prog).any (Tryz.prog.ifacesRec ·)))=true:=by kernel_rfl
theorem jf15:((Rows.fnExactRebuildRow.mapsOut == Tryz.prog.mapsAmong Tryz.f5.resultTypes.toList))=true:=by kernel_rfl
theorem jf16:((Rows.fnExactRebuildRow.loops == (Tryz.f5.params.toList++Rows.fnExactRebuildSpec.plain.varTypes Tryz.prog).any (Tryz.prog.loopsFrom ·)))=true:=by kernel_rfl
theorem jf17:((Rows.fnExactRebuildRow.wideKeys == (Tryz.f5.params.toList++Rows.fnExactRebuildSpec.plain.varTypes Tryz.prog++Tryz.f5.resultTypes.toList).any (Tryz.prog.wideKeysFrom ·)))=true:=by kernel_rfl
theorem jf18:(Rows.fnExactRebuildSpec.vars.all (Tryz.prog.varReadable ·))=true:=by kernel_rfl
theorem jf19:(Tryz.f5.resultTypes.all (fun t=>Tryz.prog.readableRec t && decide (t<Tryz.prog.types.size)))=true:=by kernel_rfl
theorem jf20:((Rows.fnExactRebuildRow.ifacesOut == Tryz.f5.resultTypes.toList.any (Tryz.prog.ifacesRec ·)))=true:=by kernel_rfl
theorem jf21:((Rows.fnExactRebuildRow.loopsOut == Tryz.f5.resultTypes.toList.any (Tryz.prog.loopsFrom ·)))=true:=by kernel_rfl
theorem jf22:((Rows.fnExactRebuildRow.plainKeys == Tryz.prog.plainKeys))=true:=by kernel_rfl
theorem jf23:(Rows.fnExactRebuildRow.shortTexts.isNone)=true:=by kernel_rfl
theorem jf24:(Tryz.prog.stopsHeard)=true:=by kernel_rfl
theorem jf25:(Tryz.prog.mayEnter)=true:=by kernel_rfl
theorem jf26:((Rows.fnExactRebuildRow.lifted == Tryz.prog.liftsFinal))=true:=by kernel_rfl
theorem jf27:((Tryz.prog.make == some Rows.fnExactRebuildRow.make))=true:=by kernel_rfl
theorem jf28:Rows.fnExactRebuildRow.kinds=[]:=by kernel_rfl
theorem jf28b:Rows.fnExactRebuildRow.domain.isEmpty=true:=by kernel_rfl
theorem jf29:((Rows.fnExactRebuildRow.pinned == Rows.fnExactRebuildRow.pinnedBy))=true:=by kernel_rfl
theorem jf30:((Rows.fnExactRebuildRow.veiled == (Tryz.f5.params.toList++Rows.fnExactRebuildSpec.plain.varTypes Tryz.prog++Tryz.f5.resultTypes.toList).any (Tryz.prog.veiledRec ·)))=true:=by kernel_rfl
theorem jf31:(Rows.fnExactRebuildRow.veiledFits Tryz.prog Tryz.f5.params.toList (Tryz.f5.params.toList++Rows.fnExactRebuildSpec.plain.varTypes Tryz.prog++Tryz.f5.resultTypes.toList))=true:=by kernel_rfl
theorem facts:joinedFacts Tryz.prog 5 Tryz.f5 Rows.fnExactRebuildSpec Rows.fnExactRebuildRow=true:=joined_of jf0 jf1 jf2 jf3 jf4 jf5 jf6 jf7 jf8 jf9 jf10 jf11 jf12 jf13 jf14 jf15 jf16 jf17 jf18 jf19 jf20 jf21 jf22 jf23 jf24 jf25 jf26 jf27 jf28 jf28b jf29 jf30 jf31
end Go.Proofs.YtbjmgmmekmfjhaaGreatDoor
