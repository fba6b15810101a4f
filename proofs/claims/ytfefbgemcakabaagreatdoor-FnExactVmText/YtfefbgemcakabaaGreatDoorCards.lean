/-
  DERIVED. GIVEN WITH THE SEED: THE CARDS: each row of YtfefbgemcakabaaGreatDoorRows.lean that lists a variable, with what it lists TIED to the program's text (the seventh form; the later family's looks); each row that meets fmt, with fmt's text TOLD by the authors' own Lean function (tested against real Go, not proved from fmt's source: count such statements apart). THE CARD IS WHAT COUNTS. Prove the row's statement (the work); the ties are given (YtfefbgemcakabaaGreatDoorTie.lean); close each card by the builder's one call (the guide's Derived/Test/ToyasCard.lean, 'card_holds'). Laid BY PROGRAM, IN A SANDBOX (cutbox-door.mjs). By AI agents, Wed Nov 11 2026. No macro, syntax, notation, axiom, sorry.
-/
import Derived.Test.YtfefbgemcakabaaGreatDoorRows
import GoSem.ClaimSeven
namespace Go.Proofs.YtfefbgemcakabaaGreatDoor
namespace Rows

/-- THE TIED CARD OF 'laws.FnExactVmText'. -/
def fnExactVmTextCard : Claim7 := { stood := { row := fnExactVmTextRow, standIns := [], harness := (true, "1373b9575477c2767bd2d10a48710ce47ef4a05a8b30a9da6a9bcc438fd4bd0f"), looks := false }, kinds := [], alts := [], laidByText := true, laidKinds := [.data, .data, .data], laidTests := true, laidLooks := .later }
def FnExactVmTextCardSaid : Prop := Claim7.holds Tryz.pinned (.plain (OpenSpec.ofChange fnExactVmTextSpec)) fnExactVmTextCard

/-- THE SECOND FORM's CARD OF 'laws.FnExactVmText'. -/
def fnExactVmTextUptoCard : Claim7 := { stood := { row := fnExactVmTextUptoRow, standIns := [], harness := (true, "1373b9575477c2767bd2d10a48710ce47ef4a05a8b30a9da6a9bcc438fd4bd0f"), looks := false }, kinds := [], alts := [], laidByText := true, laidKinds := [.data, .data, .data], laidTests := true, laidLooks := .later }
def FnExactVmTextUptoCardSaid : Prop := Claim7.holds Tryz.pinned (.plain (OpenSpec.upto fnExactVmTextSpec)) fnExactVmTextUptoCard
end Rows
end Go.Proofs.YtfefbgemcakabaaGreatDoor
