/-
  DERIVED. GIVEN WITH THE SEED: THE CARDS: each row of YtmjkkpmfneabjaaDoorRows.lean that lists a variable, with what it lists TIED to the program's text (the seventh form; the later family's looks); each row that meets fmt, with fmt's text TOLD by the authors' own Lean function (tested against real Go, not proved from fmt's source: count such statements apart). THE CARD IS WHAT COUNTS. Prove the row's statement (the work); the ties are given (YtmjkkpmfneabjaaDoorTie.lean); close each card by the builder's one call (the guide's Derived/Test/ToyasCard.lean, 'card_holds'). Laid BY PROGRAM, IN A SANDBOX (cutbox-door.mjs). By AI agents, Wed Nov 11 2026. No macro, syntax, notation, axiom, sorry.
-/
import Derived.Test.YtmjkkpmfneabjaaDoorRows
import GoSem.ClaimSeven
namespace Go.Proofs.YtmjkkpmfneabjaaDoor
namespace Rows

/-- THE TIED CARD OF 'laws.FnExactSpecText'. -/
def fnExactSpecTextCard : Claim7 := { stood := { row := fnExactSpecTextRow, standIns := [], harness := (true, "3a27d7922220a1c81bdb708a1bbd2aa9107d00656d417d374772c5fec64d0799"), looks := false }, kinds := [], alts := [], laidByText := true, laidKinds := [.data, .data, .data], laidTests := true, laidLooks := .later }
def FnExactSpecTextCardSaid : Prop := Claim7.holds Tryd.pinned (.plain (OpenSpec.ofChange fnExactSpecTextSpec)) fnExactSpecTextCard

/-- THE SECOND FORM's CARD OF 'laws.FnExactSpecText'. -/
def fnExactSpecTextUptoCard : Claim7 := { stood := { row := fnExactSpecTextUptoRow, standIns := [], harness := (true, "3a27d7922220a1c81bdb708a1bbd2aa9107d00656d417d374772c5fec64d0799"), looks := false }, kinds := [], alts := [], laidByText := true, laidKinds := [.data, .data, .data], laidTests := true, laidLooks := .later }
def FnExactSpecTextUptoCardSaid : Prop := Claim7.holds Tryd.pinned (.plain (OpenSpec.upto fnExactSpecTextSpec)) fnExactSpecTextUptoCard
end Rows
end Go.Proofs.YtmjkkpmfneabjaaDoor
