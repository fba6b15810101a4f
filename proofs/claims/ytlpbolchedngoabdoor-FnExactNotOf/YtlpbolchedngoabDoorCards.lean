/-
  DERIVED. GIVEN WITH THE SEED: THE CARDS: each row of YtlpbolchedngoabDoorRows.lean that lists a variable, with what it lists TIED to the program's text (the seventh form; the later family's looks); each row that meets fmt, with fmt's text TOLD by the authors' own Lean function (tested against real Go, not proved from fmt's source: count such statements apart). THE CARD IS WHAT COUNTS. Prove the row's statement (the work); the ties are given (YtlpbolchedngoabDoorTie.lean); close each card by the builder's one call (the guide's Derived/Test/ToyasCard.lean, 'card_holds'). Laid BY PROGRAM, IN A SANDBOX (cutbox-door.mjs). By AI agents, Wed Nov 11 2026. No macro, syntax, notation, axiom, sorry.
-/
import Derived.Test.YtlpbolchedngoabDoorRows
import GoSem.ClaimSeven
namespace Go.Proofs.YtlpbolchedngoabDoor
namespace Rows

/-- THE TIED CARD OF 'laws.FnExactNotOf'. -/
def fnExactNotOfCard : Claim7 := { stood := { row := fnExactNotOfRow, standIns := [], harness := (true, "eb7945f0423bfa9dbf3757a766ab8edccd3a3a6619792a3554ff1afd9d685383"), looks := true }, kinds := [], alts := [], laidByText := true, laidKinds := [.sentinel, .sentinel, .sentinel], laidTests := true, laidLooks := .later }
def FnExactNotOfCardSaid : Prop := Claim7.holds Tryd.pinned (.plain (OpenSpec.ofChange fnExactNotOfSpec)) fnExactNotOfCard

/-- THE SECOND FORM's CARD OF 'laws.FnExactNotOf'. -/
def fnExactNotOfUptoCard : Claim7 := { stood := { row := fnExactNotOfUptoRow, standIns := [], harness := (true, "eb7945f0423bfa9dbf3757a766ab8edccd3a3a6619792a3554ff1afd9d685383"), looks := true }, kinds := [], alts := [], laidByText := true, laidKinds := [.sentinel, .sentinel, .sentinel], laidTests := true, laidLooks := .later }
def FnExactNotOfUptoCardSaid : Prop := Claim7.holds Tryd.pinned (.plain (OpenSpec.upto fnExactNotOfSpec)) fnExactNotOfUptoCard
end Rows
end Go.Proofs.YtlpbolchedngoabDoor
