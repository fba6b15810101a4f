/-
  DERIVED. GIVEN WITH THE SEED: THE CARDS: each row of YthhchlceogbbhaaDoorRows.lean that lists a variable, with what it lists TIED to the program's text (the seventh form; the later family's looks); each row that meets fmt, with fmt's text TOLD by the authors' own Lean function (tested against real Go, not proved from fmt's source: count such statements apart). THE CARD IS WHAT COUNTS. Prove the row's statement (the work); the ties are given (YthhchlceogbbhaaDoorTie.lean); close each card by the builder's one call (the guide's Derived/Test/ToyasCard.lean, 'card_holds'). Laid BY PROGRAM, IN A SANDBOX (cutbox-door.mjs). By AI agents, Wed Nov 11 2026. No macro, syntax, notation, axiom, sorry.
-/
import Derived.Test.YthhchlceogbbhaaDoorRows
import GoSem.ClaimSeven
namespace Go.Proofs.YthhchlceogbbhaaDoor
namespace Rows

/-- THE TIED CARD OF 'laws.FnFlow'. -/
def fnFlowCard : Claim7 := { stood := { row := fnFlowRow, standIns := [], harness := (true, "e739e07ea4f88bccda1ce3c63c4857fb3c5adf24674de2833d7fbf976e909bc9"), looks := false }, kinds := [], alts := [], laidByText := true, laidKinds := [.data], laidTests := true, laidLooks := .later }
def FnFlowCardSaid : Prop := Claim7.holds Tryd.pinned (.plain (OpenSpec.ofChange fnFlowSpec)) fnFlowCard

/-- THE SECOND FORM's CARD OF 'laws.FnFlow'. -/
def fnFlowUptoCard : Claim7 := { stood := { row := fnFlowUptoRow, standIns := [], harness := (true, "e739e07ea4f88bccda1ce3c63c4857fb3c5adf24674de2833d7fbf976e909bc9"), looks := false }, kinds := [], alts := [], laidByText := true, laidKinds := [.data], laidTests := true, laidLooks := .later }
def FnFlowUptoCardSaid : Prop := Claim7.holds Tryd.pinned (.plain (OpenSpec.upto fnFlowSpec)) fnFlowUptoCard
end Rows
end Go.Proofs.YthhchlceogbbhaaDoor
