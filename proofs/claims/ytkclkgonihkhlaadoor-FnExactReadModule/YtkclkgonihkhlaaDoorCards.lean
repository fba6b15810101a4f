/-
  DERIVED. GIVEN WITH THE SEED: THE CARDS: each row of YtkclkgonihkhlaaDoorRows.lean that lists a variable, with what it lists TIED to the program's text (the seventh form; the later family's looks); each row that meets fmt, with fmt's text TOLD by the authors' own Lean function (tested against real Go, not proved from fmt's source: count such statements apart). THE CARD IS WHAT COUNTS. Prove the row's statement (the work); the ties are given (YtkclkgonihkhlaaDoorTie.lean); close each card by the builder's one call (the guide's Derived/Test/ToyasCard.lean, 'card_holds'). Laid BY PROGRAM, IN A SANDBOX (cutbox-door.mjs). By AI agents, Wed Nov 11 2026. No macro, syntax, notation, axiom, sorry.
-/
import Derived.Test.YtkclkgonihkhlaaDoorRows
import GoSem.ClaimSeven
namespace Go.Proofs.YtkclkgonihkhlaaDoor
namespace Rows

/-- THE TIED CARD OF 'laws.FnExactInsText'. -/
def fnExactInsTextCard : Claim7 := { stood := { row := fnExactInsTextRow, standIns := [], harness := (true, "fdecf106cf2ec6f05126c7e9df96410667faa20cb8710240b9e94c9aa0e042ff"), looks := true }, kinds := [], alts := [], laidByText := true, laidKinds := [.data, .data, .data, .data], laidTests := true, laidLooks := .later }
def FnExactInsTextCardSaid : Prop := Claim7.holds Tryd.pinned (.plain (OpenSpec.ofChange fnExactInsTextSpec)) fnExactInsTextCard

/-- THE TIED CARD OF 'laws.FnExactShowModule'. -/
def fnExactShowModuleCard : Claim7 := { stood := { row := fnExactShowModuleRow, standIns := [], harness := (true, "fdecf106cf2ec6f05126c7e9df96410667faa20cb8710240b9e94c9aa0e042ff"), looks := true }, kinds := [], alts := [], laidByText := true, laidKinds := [.data, .data, .data, .data], laidTests := true, laidLooks := .later }
def FnExactShowModuleCardSaid : Prop := Claim7.holds Tryd.pinned (.plain (OpenSpec.ofChange fnExactShowModuleSpec)) fnExactShowModuleCard

/-- THE TIED CARD OF 'laws.FnExactReadModule'. -/
def fnExactReadModuleCard : Claim7 := { stood := { row := fnExactReadModuleRow, standIns := [], harness := (true, "fdecf106cf2ec6f05126c7e9df96410667faa20cb8710240b9e94c9aa0e042ff"), looks := true }, kinds := [], alts := [], laidByText := true, laidKinds := [.data, .data, .data, .sentinel, .sentinel, .data], laidTests := true, laidLooks := .later }
def FnExactReadModuleCardSaid : Prop := Claim7.holds Tryd.pinned (.plain (OpenSpec.ofChange fnExactReadModuleSpec)) fnExactReadModuleCard

/-- THE SECOND FORM's CARD OF 'laws.FnExactInsText'. -/
def fnExactInsTextUptoCard : Claim7 := { stood := { row := fnExactInsTextUptoRow, standIns := [], harness := (true, "fdecf106cf2ec6f05126c7e9df96410667faa20cb8710240b9e94c9aa0e042ff"), looks := true }, kinds := [], alts := [], laidByText := true, laidKinds := [.data, .data, .data, .data], laidTests := true, laidLooks := .later }
def FnExactInsTextUptoCardSaid : Prop := Claim7.holds Tryd.pinned (.plain (OpenSpec.upto fnExactInsTextSpec)) fnExactInsTextUptoCard

/-- THE SECOND FORM's CARD OF 'laws.FnExactShowModule'. -/
def fnExactShowModuleUptoCard : Claim7 := { stood := { row := fnExactShowModuleUptoRow, standIns := [], harness := (true, "fdecf106cf2ec6f05126c7e9df96410667faa20cb8710240b9e94c9aa0e042ff"), looks := true }, kinds := [], alts := [], laidByText := true, laidKinds := [.data, .data, .data, .data], laidTests := true, laidLooks := .later }
def FnExactShowModuleUptoCardSaid : Prop := Claim7.holds Tryd.pinned (.plain (OpenSpec.upto fnExactShowModuleSpec)) fnExactShowModuleUptoCard

/-- THE SECOND FORM's CARD OF 'laws.FnExactReadModule'. -/
def fnExactReadModuleUptoCard : Claim7 := { stood := { row := fnExactReadModuleUptoRow, standIns := [], harness := (true, "fdecf106cf2ec6f05126c7e9df96410667faa20cb8710240b9e94c9aa0e042ff"), looks := true }, kinds := [], alts := [], laidByText := true, laidKinds := [.data, .data, .data, .sentinel, .sentinel, .data], laidTests := true, laidLooks := .later }
def FnExactReadModuleUptoCardSaid : Prop := Claim7.holds Tryd.pinned (.plain (OpenSpec.upto fnExactReadModuleSpec)) fnExactReadModuleUptoCard
end Rows
end Go.Proofs.YtkclkgonihkhlaaDoor
