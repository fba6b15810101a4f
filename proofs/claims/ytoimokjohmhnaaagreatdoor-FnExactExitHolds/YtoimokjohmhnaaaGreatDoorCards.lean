/-
  DERIVED. GIVEN WITH THE SEED: THE CARDS: each row of YtoimokjohmhnaaaGreatDoorRows.lean that lists a variable, with what it lists TIED to the program's text (the seventh form; the later family's looks); each row that meets fmt, with fmt's text TOLD by the authors' own Lean function (tested against real Go, not proved from fmt's source: count such statements apart). THE CARD IS WHAT COUNTS. Prove the row's statement (the work); the ties are given (YtoimokjohmhnaaaGreatDoorTie.lean); close each card by the builder's one call (the guide's Derived/Test/ToyasCard.lean, 'card_holds'). Laid BY PROGRAM, IN A SANDBOX (cutbox-door.mjs). By AI agents, Wed Nov 11 2026. No macro, syntax, notation, axiom, sorry.
-/
import Derived.Test.YtoimokjohmhnaaaGreatDoorRows
import GoSem.ClaimSeven
namespace Go.Proofs.YtoimokjohmhnaaaGreatDoor
namespace Rows

/-- THE TIED CARD OF 'laws.FnExactFastOk'. -/
def fnExactFastOkCard : Claim7 := { stood := { row := fnExactFastOkRow, standIns := [], harness := (true, "afa607a10b0330c8f4130ba0bac34c9ff8f2636da3407582df3b8d9da0d6a6bb"), looks := false }, kinds := [], alts := [], laidByText := true, laidKinds := [.data, .data], laidTests := true, laidLooks := .later }
def FnExactFastOkCardSaid : Prop := Claim7.holds Tryz.pinned (.plain (OpenSpec.ofChange fnExactFastOkSpec)) fnExactFastOkCard

/-- THE TIED CARD OF 'laws.FnExactRebuild'. -/
def fnExactRebuildCard : Claim7 := { stood := { row := fnExactRebuildRow, standIns := [], harness := (true, "afa607a10b0330c8f4130ba0bac34c9ff8f2636da3407582df3b8d9da0d6a6bb"), looks := false }, kinds := [], alts := [], laidByText := true, laidKinds := [.data, .data], laidTests := true, laidLooks := .later }
def FnExactRebuildCardSaid : Prop := Claim7.holds Tryz.pinned (.plain (OpenSpec.ofChange fnExactRebuildSpec)) fnExactRebuildCard

/-- THE TIED CARD OF 'laws.FnExactExitHolds'. -/
def fnExactExitHoldsCard : Claim7 := { stood := { row := fnExactExitHoldsRow, standIns := [], harness := (true, "afa607a10b0330c8f4130ba0bac34c9ff8f2636da3407582df3b8d9da0d6a6bb"), looks := false }, kinds := [], alts := [], laidByText := true, laidKinds := [.data, .data], laidTests := true, laidLooks := .later }
def FnExactExitHoldsCardSaid : Prop := Claim7.holds Tryz.pinned (.plain (OpenSpec.ofChange fnExactExitHoldsSpec)) fnExactExitHoldsCard

/-- THE SECOND FORM's CARD OF 'laws.FnExactFastOk'. -/
def fnExactFastOkUptoCard : Claim7 := { stood := { row := fnExactFastOkUptoRow, standIns := [], harness := (true, "afa607a10b0330c8f4130ba0bac34c9ff8f2636da3407582df3b8d9da0d6a6bb"), looks := false }, kinds := [], alts := [], laidByText := true, laidKinds := [.data, .data], laidTests := true, laidLooks := .later }
def FnExactFastOkUptoCardSaid : Prop := Claim7.holds Tryz.pinned (.plain (OpenSpec.upto fnExactFastOkSpec)) fnExactFastOkUptoCard

/-- THE SECOND FORM's CARD OF 'laws.FnExactRebuild'. -/
def fnExactRebuildUptoCard : Claim7 := { stood := { row := fnExactRebuildUptoRow, standIns := [], harness := (true, "afa607a10b0330c8f4130ba0bac34c9ff8f2636da3407582df3b8d9da0d6a6bb"), looks := false }, kinds := [], alts := [], laidByText := true, laidKinds := [.data, .data], laidTests := true, laidLooks := .later }
def FnExactRebuildUptoCardSaid : Prop := Claim7.holds Tryz.pinned (.plain (OpenSpec.upto fnExactRebuildSpec)) fnExactRebuildUptoCard

/-- THE SECOND FORM's CARD OF 'laws.FnExactExitHolds'. -/
def fnExactExitHoldsUptoCard : Claim7 := { stood := { row := fnExactExitHoldsUptoRow, standIns := [], harness := (true, "afa607a10b0330c8f4130ba0bac34c9ff8f2636da3407582df3b8d9da0d6a6bb"), looks := false }, kinds := [], alts := [], laidByText := true, laidKinds := [.data, .data], laidTests := true, laidLooks := .later }
def FnExactExitHoldsUptoCardSaid : Prop := Claim7.holds Tryz.pinned (.plain (OpenSpec.upto fnExactExitHoldsSpec)) fnExactExitHoldsUptoCard
end Rows
end Go.Proofs.YtoimokjohmhnaaaGreatDoor
