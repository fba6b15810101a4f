/-
  DERIVED. GIVEN WITH THE SEED: THE CARDS: each row of YtbjmgmmekmfjhaaGreatDoorRows.lean that lists a variable, with what it lists TIED to the program's text (the seventh form; the later family's looks); each row that meets fmt, with fmt's text TOLD by the authors' own Lean function (tested against real Go, not proved from fmt's source: count such statements apart). THE CARD IS WHAT COUNTS. Prove the row's statement (the work); the ties are given (YtbjmgmmekmfjhaaGreatDoorTie.lean); close each card by the builder's one call (the guide's Derived/Test/ToyasCard.lean, 'card_holds'). Laid BY PROGRAM, IN A SANDBOX (cutbox-door.mjs). By AI agents, Wed Nov 11 2026. No macro, syntax, notation, axiom, sorry.
-/
import Derived.Test.YtbjmgmmekmfjhaaGreatDoorRows
import GoSem.ClaimSeven
namespace Go.Proofs.YtbjmgmmekmfjhaaGreatDoor
namespace Rows

/-- THE TIED CARD OF 'laws.FnExactSpecsOf'. -/
def fnExactSpecsOfCard : Claim7 := { stood := { row := fnExactSpecsOfRow, standIns := [], harness := (true, "104cb62c62a58a74a7a544b5b22e3d489b95690b8974a6481f8a150c0184b88d"), looks := false }, kinds := [], alts := [], laidByText := true, laidKinds := [.data, .data], laidTests := true, laidLooks := .later }
def FnExactSpecsOfCardSaid : Prop := Claim7.holds Tryz.pinned (.plain (OpenSpec.ofChange fnExactSpecsOfSpec)) fnExactSpecsOfCard

/-- THE TIED CARD OF 'laws.FnExactLaidOf'. -/
def fnExactLaidOfCard : Claim7 := { stood := { row := fnExactLaidOfRow, standIns := [], harness := (true, "104cb62c62a58a74a7a544b5b22e3d489b95690b8974a6481f8a150c0184b88d"), looks := false }, kinds := [], alts := [], laidByText := true, laidKinds := [.data, .data], laidTests := true, laidLooks := .later }
def FnExactLaidOfCardSaid : Prop := Claim7.holds Tryz.pinned (.plain (OpenSpec.ofChange fnExactLaidOfSpec)) fnExactLaidOfCard

/-- THE TIED CARD OF 'laws.FnExactRebuild'. -/
def fnExactRebuildCard : Claim7 := { stood := { row := fnExactRebuildRow, standIns := [], harness := (true, "104cb62c62a58a74a7a544b5b22e3d489b95690b8974a6481f8a150c0184b88d"), looks := false }, kinds := [], alts := [], laidByText := true, laidKinds := [.data, .data], laidTests := true, laidLooks := .later }
def FnExactRebuildCardSaid : Prop := Claim7.holds Tryz.pinned (.plain (OpenSpec.ofChange fnExactRebuildSpec)) fnExactRebuildCard

/-- THE TIED CARD OF 'laws.FnExactEnters'. -/
def fnExactEntersCard : Claim7 := { stood := { row := fnExactEntersRow, standIns := [], harness := (true, "104cb62c62a58a74a7a544b5b22e3d489b95690b8974a6481f8a150c0184b88d"), looks := false }, kinds := [], alts := [], laidByText := true, laidKinds := [.data, .data], laidTests := true, laidLooks := .later }
def FnExactEntersCardSaid : Prop := Claim7.holds Tryz.pinned (.plain (OpenSpec.ofChange fnExactEntersSpec)) fnExactEntersCard

/-- THE SECOND FORM's CARD OF 'laws.FnExactSpecsOf'. -/
def fnExactSpecsOfUptoCard : Claim7 := { stood := { row := fnExactSpecsOfUptoRow, standIns := [], harness := (true, "104cb62c62a58a74a7a544b5b22e3d489b95690b8974a6481f8a150c0184b88d"), looks := false }, kinds := [], alts := [], laidByText := true, laidKinds := [.data, .data], laidTests := true, laidLooks := .later }
def FnExactSpecsOfUptoCardSaid : Prop := Claim7.holds Tryz.pinned (.plain (OpenSpec.upto fnExactSpecsOfSpec)) fnExactSpecsOfUptoCard

/-- THE SECOND FORM's CARD OF 'laws.FnExactLaidOf'. -/
def fnExactLaidOfUptoCard : Claim7 := { stood := { row := fnExactLaidOfUptoRow, standIns := [], harness := (true, "104cb62c62a58a74a7a544b5b22e3d489b95690b8974a6481f8a150c0184b88d"), looks := false }, kinds := [], alts := [], laidByText := true, laidKinds := [.data, .data], laidTests := true, laidLooks := .later }
def FnExactLaidOfUptoCardSaid : Prop := Claim7.holds Tryz.pinned (.plain (OpenSpec.upto fnExactLaidOfSpec)) fnExactLaidOfUptoCard

/-- THE SECOND FORM's CARD OF 'laws.FnExactRebuild'. -/
def fnExactRebuildUptoCard : Claim7 := { stood := { row := fnExactRebuildUptoRow, standIns := [], harness := (true, "104cb62c62a58a74a7a544b5b22e3d489b95690b8974a6481f8a150c0184b88d"), looks := false }, kinds := [], alts := [], laidByText := true, laidKinds := [.data, .data], laidTests := true, laidLooks := .later }
def FnExactRebuildUptoCardSaid : Prop := Claim7.holds Tryz.pinned (.plain (OpenSpec.upto fnExactRebuildSpec)) fnExactRebuildUptoCard

/-- THE SECOND FORM's CARD OF 'laws.FnExactEnters'. -/
def fnExactEntersUptoCard : Claim7 := { stood := { row := fnExactEntersUptoRow, standIns := [], harness := (true, "104cb62c62a58a74a7a544b5b22e3d489b95690b8974a6481f8a150c0184b88d"), looks := false }, kinds := [], alts := [], laidByText := true, laidKinds := [.data, .data], laidTests := true, laidLooks := .later }
def FnExactEntersUptoCardSaid : Prop := Claim7.holds Tryz.pinned (.plain (OpenSpec.upto fnExactEntersSpec)) fnExactEntersUptoCard
end Rows
end Go.Proofs.YtbjmgmmekmfjhaaGreatDoor
