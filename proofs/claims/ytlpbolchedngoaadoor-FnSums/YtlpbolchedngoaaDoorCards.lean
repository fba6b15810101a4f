/-
  DERIVED. GIVEN WITH THE SEED: THE CARDS: each row of YtlpbolchedngoaaDoorRows.lean that lists a variable, with what it lists TIED to the program's text (the seventh form; the later family's looks); each row that meets fmt, with fmt's text TOLD by the authors' own Lean function (tested against real Go, not proved from fmt's source: count such statements apart). THE CARD IS WHAT COUNTS. Prove the row's statement (the work); the ties are given (YtlpbolchedngoaaDoorTie.lean); close each card by the builder's one call (the guide's Derived/Test/ToyasCard.lean, 'card_holds'). Laid BY PROGRAM, IN A SANDBOX (cutbox-door.mjs). By AI agents, Wed Nov 11 2026. No macro, syntax, notation, axiom, sorry.
-/
import Derived.Test.YtlpbolchedngoaaDoorRows
import GoSem.ClaimSeven
namespace Go.Proofs.YtlpbolchedngoaaDoor
namespace Rows

/-- THE TIED CARD OF 'laws.FnSums'. -/
def fnSumsCard : Claim7 := { stood := { row := fnSumsRow, standIns := [], harness := (true, "911b84cfbe6acfe2f24c42f1928e4432ae45fc674f54d4f5f5507ecd5932c861"), looks := true }, kinds := [], alts := [], laidByText := true, laidKinds := [.sentinel, .sentinel, .sentinel], laidTests := true, laidLooks := .later }
def FnSumsCardSaid : Prop := Claim7.holds Tryd.pinned (.plain (OpenSpec.ofChange fnSumsSpec)) fnSumsCard

/-- THE TIED CARD OF 'laws.FnExactAddOf'. -/
def fnExactAddOfCard : Claim7 := { stood := { row := fnExactAddOfRow, standIns := [], harness := (true, "911b84cfbe6acfe2f24c42f1928e4432ae45fc674f54d4f5f5507ecd5932c861"), looks := true }, kinds := [], alts := [], laidByText := true, laidKinds := [.sentinel, .sentinel, .sentinel], laidTests := true, laidLooks := .later }
def FnExactAddOfCardSaid : Prop := Claim7.holds Tryd.pinned (.plain (OpenSpec.ofChange fnExactAddOfSpec)) fnExactAddOfCard

/-- THE TIED CARD OF 'laws.FnExactSubOf'. -/
def fnExactSubOfCard : Claim7 := { stood := { row := fnExactSubOfRow, standIns := [], harness := (true, "911b84cfbe6acfe2f24c42f1928e4432ae45fc674f54d4f5f5507ecd5932c861"), looks := true }, kinds := [], alts := [], laidByText := true, laidKinds := [.sentinel, .sentinel, .sentinel], laidTests := true, laidLooks := .later }
def FnExactSubOfCardSaid : Prop := Claim7.holds Tryd.pinned (.plain (OpenSpec.ofChange fnExactSubOfSpec)) fnExactSubOfCard

/-- THE TIED CARD OF 'laws.FnExactMulOf'. -/
def fnExactMulOfCard : Claim7 := { stood := { row := fnExactMulOfRow, standIns := [], harness := (true, "911b84cfbe6acfe2f24c42f1928e4432ae45fc674f54d4f5f5507ecd5932c861"), looks := true }, kinds := [], alts := [], laidByText := true, laidKinds := [.sentinel, .sentinel, .sentinel], laidTests := true, laidLooks := .later }
def FnExactMulOfCardSaid : Prop := Claim7.holds Tryd.pinned (.plain (OpenSpec.ofChange fnExactMulOfSpec)) fnExactMulOfCard

/-- THE TIED CARD OF 'laws.FnExactLessOf'. -/
def fnExactLessOfCard : Claim7 := { stood := { row := fnExactLessOfRow, standIns := [], harness := (true, "911b84cfbe6acfe2f24c42f1928e4432ae45fc674f54d4f5f5507ecd5932c861"), looks := true }, kinds := [], alts := [], laidByText := true, laidKinds := [.sentinel, .sentinel, .sentinel], laidTests := true, laidLooks := .later }
def FnExactLessOfCardSaid : Prop := Claim7.holds Tryd.pinned (.plain (OpenSpec.ofChange fnExactLessOfSpec)) fnExactLessOfCard

/-- THE SECOND FORM's CARD OF 'laws.FnSums'. -/
def fnSumsUptoCard : Claim7 := { stood := { row := fnSumsUptoRow, standIns := [], harness := (true, "911b84cfbe6acfe2f24c42f1928e4432ae45fc674f54d4f5f5507ecd5932c861"), looks := true }, kinds := [], alts := [], laidByText := true, laidKinds := [.sentinel, .sentinel, .sentinel], laidTests := true, laidLooks := .later }
def FnSumsUptoCardSaid : Prop := Claim7.holds Tryd.pinned (.plain (OpenSpec.upto fnSumsSpec)) fnSumsUptoCard

/-- THE SECOND FORM's CARD OF 'laws.FnExactAddOf'. -/
def fnExactAddOfUptoCard : Claim7 := { stood := { row := fnExactAddOfUptoRow, standIns := [], harness := (true, "911b84cfbe6acfe2f24c42f1928e4432ae45fc674f54d4f5f5507ecd5932c861"), looks := true }, kinds := [], alts := [], laidByText := true, laidKinds := [.sentinel, .sentinel, .sentinel], laidTests := true, laidLooks := .later }
def FnExactAddOfUptoCardSaid : Prop := Claim7.holds Tryd.pinned (.plain (OpenSpec.upto fnExactAddOfSpec)) fnExactAddOfUptoCard

/-- THE SECOND FORM's CARD OF 'laws.FnExactSubOf'. -/
def fnExactSubOfUptoCard : Claim7 := { stood := { row := fnExactSubOfUptoRow, standIns := [], harness := (true, "911b84cfbe6acfe2f24c42f1928e4432ae45fc674f54d4f5f5507ecd5932c861"), looks := true }, kinds := [], alts := [], laidByText := true, laidKinds := [.sentinel, .sentinel, .sentinel], laidTests := true, laidLooks := .later }
def FnExactSubOfUptoCardSaid : Prop := Claim7.holds Tryd.pinned (.plain (OpenSpec.upto fnExactSubOfSpec)) fnExactSubOfUptoCard

/-- THE SECOND FORM's CARD OF 'laws.FnExactMulOf'. -/
def fnExactMulOfUptoCard : Claim7 := { stood := { row := fnExactMulOfUptoRow, standIns := [], harness := (true, "911b84cfbe6acfe2f24c42f1928e4432ae45fc674f54d4f5f5507ecd5932c861"), looks := true }, kinds := [], alts := [], laidByText := true, laidKinds := [.sentinel, .sentinel, .sentinel], laidTests := true, laidLooks := .later }
def FnExactMulOfUptoCardSaid : Prop := Claim7.holds Tryd.pinned (.plain (OpenSpec.upto fnExactMulOfSpec)) fnExactMulOfUptoCard

/-- THE SECOND FORM's CARD OF 'laws.FnExactLessOf'. -/
def fnExactLessOfUptoCard : Claim7 := { stood := { row := fnExactLessOfUptoRow, standIns := [], harness := (true, "911b84cfbe6acfe2f24c42f1928e4432ae45fc674f54d4f5f5507ecd5932c861"), looks := true }, kinds := [], alts := [], laidByText := true, laidKinds := [.sentinel, .sentinel, .sentinel], laidTests := true, laidLooks := .later }
def FnExactLessOfUptoCardSaid : Prop := Claim7.holds Tryd.pinned (.plain (OpenSpec.upto fnExactLessOfSpec)) fnExactLessOfUptoCard
end Rows
end Go.Proofs.YtlpbolchedngoaaDoor
