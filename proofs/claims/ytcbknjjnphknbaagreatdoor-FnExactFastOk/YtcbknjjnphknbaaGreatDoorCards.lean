/-
  DERIVED. GIVEN WITH THE SEED: THE CARDS: each row of YtcbknjjnphknbaaGreatDoorRows.lean that lists a variable, with what it lists TIED to the program's text (the seventh form; the later family's looks); each row that meets fmt, with fmt's text TOLD by the authors' own Lean function (tested against real Go, not proved from fmt's source: count such statements apart). THE CARD IS WHAT COUNTS. Prove the row's statement (the work); the ties are given (YtcbknjjnphknbaaGreatDoorTie.lean); close each card by the builder's one call (the guide's Derived/Test/ToyasCard.lean, 'card_holds'). Laid BY PROGRAM, IN A SANDBOX (cutbox-door.mjs). By AI agents, Wed Nov 11 2026. No macro, syntax, notation, axiom, sorry.
-/
import Derived.Test.YtcbknjjnphknbaaGreatDoorRows
import GoSem.ClaimSeven
namespace Go.Proofs.YtcbknjjnphknbaaGreatDoor
namespace Rows

/-- THE TIED CARD OF 'laws.FnExactFastOk'. -/
def fnExactFastOkCard : Claim7 := { stood := { row := fnExactFastOkRow, standIns := [], harness := (true, "3db426c9a4f67b5ec3f32f1d0dcd2f267ddb8cfab7e1493fd8b6d49bd5ed2612"), looks := false }, kinds := [], alts := [], laidByText := true, laidKinds := [.data, .data], laidTests := true, laidLooks := .later }
def FnExactFastOkCardSaid : Prop := Claim7.holds Tryz.pinned (.plain (OpenSpec.ofChange fnExactFastOkSpec)) fnExactFastOkCard

/-- THE SECOND FORM's CARD OF 'laws.FnExactFastOk'. -/
def fnExactFastOkUptoCard : Claim7 := { stood := { row := fnExactFastOkUptoRow, standIns := [], harness := (true, "3db426c9a4f67b5ec3f32f1d0dcd2f267ddb8cfab7e1493fd8b6d49bd5ed2612"), looks := false }, kinds := [], alts := [], laidByText := true, laidKinds := [.data, .data], laidTests := true, laidLooks := .later }
def FnExactFastOkUptoCardSaid : Prop := Claim7.holds Tryz.pinned (.plain (OpenSpec.upto fnExactFastOkSpec)) fnExactFastOkUptoCard
end Rows
end Go.Proofs.YtcbknjjnphknbaaGreatDoor
