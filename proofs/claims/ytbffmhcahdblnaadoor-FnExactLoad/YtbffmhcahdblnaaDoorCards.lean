/-
  DERIVED. GIVEN WITH THE SEED: THE CARDS: each row of YtbffmhcahdblnaaDoorRows.lean that lists a variable, with what it lists TIED to the program's text (the seventh form; the later family's looks); each row that meets fmt, with fmt's text TOLD by the authors' own Lean function (tested against real Go, not proved from fmt's source: count such statements apart). THE CARD IS WHAT COUNTS. Prove the row's statement (the work); the ties are given (YtbffmhcahdblnaaDoorTie.lean); close each card by the builder's one call (the guide's Derived/Test/ToyasCard.lean, 'card_holds'). Laid BY PROGRAM, IN A SANDBOX (cutbox-door.mjs). By AI agents, Wed Nov 11 2026. No macro, syntax, notation, axiom, sorry.
-/
import Derived.Test.YtbffmhcahdblnaaDoorRows
import GoSem.ClaimSeven
namespace Go.Proofs.YtbffmhcahdblnaaDoor
namespace Rows

/-- THE TIED CARD OF 'laws.FnSaved'. -/
def fnSavedCard : Claim7 := { stood := { row := fnSavedRow, standIns := [], harness := (true, "14ad3c857d24d553c9c05f928e07e63e9f0345b6f66a13aed985a84136cff192"), looks := true }, kinds := [], alts := [], laidByText := true, laidKinds := [.handle], laidTests := true, laidLooks := .later }
def FnSavedCardSaid : Prop := Claim7.holds Tryd.pinned (.plain (OpenSpec.ofChange fnSavedSpec)) fnSavedCard

/-- THE TIED CARD OF 'laws.FnExactLoad'. -/
def fnExactLoadCard : Claim7 := { stood := { row := fnExactLoadRow, standIns := [], harness := (true, "14ad3c857d24d553c9c05f928e07e63e9f0345b6f66a13aed985a84136cff192"), looks := true }, kinds := [], alts := [], laidByText := true, laidKinds := [.handle], laidTests := true, laidLooks := .later }
def FnExactLoadCardSaid : Prop := Claim7.holds Tryd.pinned (.plain (OpenSpec.ofChange fnExactLoadSpec)) fnExactLoadCard

/-- THE SECOND FORM's CARD OF 'laws.FnSaved'. -/
def fnSavedUptoCard : Claim7 := { stood := { row := fnSavedUptoRow, standIns := [], harness := (true, "14ad3c857d24d553c9c05f928e07e63e9f0345b6f66a13aed985a84136cff192"), looks := true }, kinds := [], alts := [], laidByText := true, laidKinds := [.handle], laidTests := true, laidLooks := .later }
def FnSavedUptoCardSaid : Prop := Claim7.holds Tryd.pinned (.plain (OpenSpec.upto fnSavedSpec)) fnSavedUptoCard

/-- THE SECOND FORM's CARD OF 'laws.FnExactLoad'. -/
def fnExactLoadUptoCard : Claim7 := { stood := { row := fnExactLoadUptoRow, standIns := [], harness := (true, "14ad3c857d24d553c9c05f928e07e63e9f0345b6f66a13aed985a84136cff192"), looks := true }, kinds := [], alts := [], laidByText := true, laidKinds := [.handle], laidTests := true, laidLooks := .later }
def FnExactLoadUptoCardSaid : Prop := Claim7.holds Tryd.pinned (.plain (OpenSpec.upto fnExactLoadSpec)) fnExactLoadUptoCard
end Rows
end Go.Proofs.YtbffmhcahdblnaaDoor
