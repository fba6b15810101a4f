/-
  DERIVED. GIVEN WITH THE SEED: THE CARDS: each row of YthnolafhnplnkaaGreatDoorRows.lean that lists a variable, with what it lists TIED to the program's text (the seventh form; the later family's looks); each row that meets fmt, with fmt's text TOLD by the authors' own Lean function (tested against real Go, not proved from fmt's source: count such statements apart). THE CARD IS WHAT COUNTS. Prove the row's statement (the work); the ties are given (YthnolafhnplnkaaGreatDoorTie.lean); close each card by the builder's one call (the guide's Derived/Test/ToyasCard.lean, 'card_holds'). Laid BY PROGRAM, IN A SANDBOX (cutbox-door.mjs). By AI agents, Wed Nov 11 2026. No macro, syntax, notation, axiom, sorry.
-/
import Derived.Test.YthnolafhnplnkaaGreatDoorRows
import GoSem.ClaimSeven
namespace Go.Proofs.YthnolafhnplnkaaGreatDoor
namespace Rows

/-- THE TIED CARD OF 'laws.FnExactOpsAt'. -/
def fnExactOpsAtCard : Claim7 := { stood := { row := fnExactOpsAtRow, standIns := [], harness := (true, "3fb91dcee3a9352935708c8eebbea35304776c83b3681c2b5c5f16b4df656c52"), looks := false }, kinds := [], alts := [], laidByText := true, laidKinds := [.data, .data], laidTests := true, laidLooks := .later }
def FnExactOpsAtCardSaid : Prop := Claim7.holds Tryz.pinned (.plain (OpenSpec.ofChange fnExactOpsAtSpec)) fnExactOpsAtCard

/-- THE SECOND FORM's CARD OF 'laws.FnExactOpsAt'. -/
def fnExactOpsAtUptoCard : Claim7 := { stood := { row := fnExactOpsAtUptoRow, standIns := [], harness := (true, "3fb91dcee3a9352935708c8eebbea35304776c83b3681c2b5c5f16b4df656c52"), looks := false }, kinds := [], alts := [], laidByText := true, laidKinds := [.data, .data], laidTests := true, laidLooks := .later }
def FnExactOpsAtUptoCardSaid : Prop := Claim7.holds Tryz.pinned (.plain (OpenSpec.upto fnExactOpsAtSpec)) fnExactOpsAtUptoCard
end Rows
end Go.Proofs.YthnolafhnplnkaaGreatDoor
