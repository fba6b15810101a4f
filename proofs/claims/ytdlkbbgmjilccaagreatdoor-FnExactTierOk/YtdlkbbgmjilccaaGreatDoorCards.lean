/-
  DERIVED. GIVEN WITH THE SEED: THE CARDS: each row of YtdlkbbgmjilccaaGreatDoorRows.lean that lists a variable, with what it lists TIED to the program's text (the seventh form; the later family's looks); each row that meets fmt, with fmt's text TOLD by the authors' own Lean function (tested against real Go, not proved from fmt's source: count such statements apart). THE CARD IS WHAT COUNTS. Prove the row's statement (the work); the ties are given (YtdlkbbgmjilccaaGreatDoorTie.lean); close each card by the builder's one call (the guide's Derived/Test/ToyasCard.lean, 'card_holds'). Laid BY PROGRAM, IN A SANDBOX (cutbox-door.mjs). By AI agents, Wed Nov 11 2026. No macro, syntax, notation, axiom, sorry.
-/
import Derived.Test.YtdlkbbgmjilccaaGreatDoorRows
import GoSem.ClaimSeven
namespace Go.Proofs.YtdlkbbgmjilccaaGreatDoor
namespace Rows

/-- THE TIED CARD OF 'laws.FnExactTierOk'. -/
def fnExactTierOkCard : Claim7 := { stood := { row := fnExactTierOkRow, standIns := [], harness := (true, "568f1c9a314d0fa6d6bcaf7e930ce3bf74a8242e8d1bae75885084255f9c4188"), looks := false }, kinds := [], alts := [], laidByText := true, laidKinds := [.data, .data], laidTests := true, laidLooks := .later }
def FnExactTierOkCardSaid : Prop := Claim7.holds Tryz.pinned (.plain (OpenSpec.ofChange fnExactTierOkSpec)) fnExactTierOkCard

/-- THE SECOND FORM's CARD OF 'laws.FnExactTierOk'. -/
def fnExactTierOkUptoCard : Claim7 := { stood := { row := fnExactTierOkUptoRow, standIns := [], harness := (true, "568f1c9a314d0fa6d6bcaf7e930ce3bf74a8242e8d1bae75885084255f9c4188"), looks := false }, kinds := [], alts := [], laidByText := true, laidKinds := [.data, .data], laidTests := true, laidLooks := .later }
def FnExactTierOkUptoCardSaid : Prop := Claim7.holds Tryz.pinned (.plain (OpenSpec.upto fnExactTierOkSpec)) fnExactTierOkUptoCard
end Rows
end Go.Proofs.YtdlkbbgmjilccaaGreatDoor
