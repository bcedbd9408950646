/-
  DERIVED. GIVEN WITH THE SEED: THE CARDS: each row of YtnpdecbgakgbgaaGreatDoorRows.lean that lists a variable, with what it lists TIED to the program's text (the seventh form; the later family's looks); each row that meets fmt, with fmt's text TOLD by the authors' own Lean function (tested against real Go, not proved from fmt's source: count such statements apart). THE CARD IS WHAT COUNTS. Prove the row's statement (the work); the ties are given (YtnpdecbgakgbgaaGreatDoorTie.lean); close each card by the builder's one call (the guide's Derived/Test/ToyasCard.lean, 'card_holds'). Laid BY PROGRAM, IN A SANDBOX (cutbox-door.mjs). By AI agents, Wed Nov 11 2026. No macro, syntax, notation, axiom, sorry.
-/
import Derived.Test.YtnpdecbgakgbgaaGreatDoorRows
import GoSem.ClaimSeven
namespace Go.Proofs.YtnpdecbgakgbgaaGreatDoor
namespace Rows

/-- THE TIED CARD OF 'longstoplaw06.ExprDeeper'. -/
def exprDeeperCard : Claim7 := { stood := { row := exprDeeperRow, standIns := [], harness := (true, "28f08295f3ee7a7ff02beb11aa8675b0a3f3bb3c0b053fa3d31d2f058f9d5b9c"), looks := true }, kinds := [], alts := [], laidByText := true, laidKinds := [.data, .data, .data, .data, .sentinel, .sentinel, .data, .pinned], laidTests := true, laidLooks := .later }
def ExprDeeperCardSaid : Prop := Claim7.holds Tryz.pinned (.plain (OpenSpec.ofChange exprDeeperSpec)) exprDeeperCard

/-- THE TIED CARD OF 'longstoplaw07.EvalSteps'. -/
def evalStepsCard : Claim7 := { stood := { row := evalStepsRow, standIns := [], harness := (true, "28f08295f3ee7a7ff02beb11aa8675b0a3f3bb3c0b053fa3d31d2f058f9d5b9c"), looks := true }, kinds := [], alts := [], laidByText := true, laidKinds := [.data, .data, .pinned], laidTests := true, laidLooks := .later }
def EvalStepsCardSaid : Prop := Claim7.holds Tryz.pinned (.plain (OpenSpec.ofChange evalStepsSpec)) evalStepsCard

/-- THE TIED CARD OF 'longstoplaw07.EvalFunctions'. -/
def evalFunctionsCard : Claim7 := { stood := { row := evalFunctionsRow, standIns := [], harness := (true, "28f08295f3ee7a7ff02beb11aa8675b0a3f3bb3c0b053fa3d31d2f058f9d5b9c"), looks := true }, kinds := [], alts := [], laidByText := true, laidKinds := [.data, .data, .pinned], laidTests := true, laidLooks := .later }
def EvalFunctionsCardSaid : Prop := Claim7.holds Tryz.pinned (.plain (OpenSpec.ofChange evalFunctionsSpec)) evalFunctionsCard

/-- THE TIED CARD OF 'longstoplaw07.EvalLaws'. -/
def evalLawsCard : Claim7 := { stood := { row := evalLawsRow, standIns := [], harness := (true, "28f08295f3ee7a7ff02beb11aa8675b0a3f3bb3c0b053fa3d31d2f058f9d5b9c"), looks := true }, kinds := [], alts := [], laidByText := true, laidKinds := [.data, .data, .pinned], laidTests := true, laidLooks := .later }
def EvalLawsCardSaid : Prop := Claim7.holds Tryz.pinned (.plain (OpenSpec.ofChange evalLawsSpec)) evalLawsCard

/-- THE TIED CARD OF 'longstoplaw07.EvalRight'. -/
def evalRightCard : Claim7 := { stood := { row := evalRightRow, standIns := [], harness := (true, "28f08295f3ee7a7ff02beb11aa8675b0a3f3bb3c0b053fa3d31d2f058f9d5b9c"), looks := true }, kinds := [], alts := [], laidByText := true, laidKinds := [.data, .data, .pinned], laidTests := true, laidLooks := .later }
def EvalRightCardSaid : Prop := Claim7.holds Tryz.pinned (.plain (OpenSpec.ofChange evalRightSpec)) evalRightCard

/-- THE TIED CARD OF 'longstoplaw07.EvalNulls'. -/
def evalNullsCard : Claim7 := { stood := { row := evalNullsRow, standIns := [], harness := (true, "28f08295f3ee7a7ff02beb11aa8675b0a3f3bb3c0b053fa3d31d2f058f9d5b9c"), looks := true }, kinds := [], alts := [], laidByText := true, laidKinds := [.data, .data, .pinned], laidTests := true, laidLooks := .later }
def EvalNullsCardSaid : Prop := Claim7.holds Tryz.pinned (.plain (OpenSpec.ofChange evalNullsSpec)) evalNullsCard

/-- THE SECOND FORM's CARD OF 'longstoplaw06.ExprDeeper'. -/
def exprDeeperUptoCard : Claim7 := { stood := { row := exprDeeperUptoRow, standIns := [], harness := (true, "28f08295f3ee7a7ff02beb11aa8675b0a3f3bb3c0b053fa3d31d2f058f9d5b9c"), looks := true }, kinds := [], alts := [], laidByText := true, laidKinds := [.data, .data, .data, .data, .sentinel, .sentinel, .data, .pinned], laidTests := true, laidLooks := .later }
def ExprDeeperUptoCardSaid : Prop := Claim7.holds Tryz.pinned (.plain (OpenSpec.upto exprDeeperSpec)) exprDeeperUptoCard

/-- THE SECOND FORM's CARD OF 'longstoplaw07.EvalSteps'. -/
def evalStepsUptoCard : Claim7 := { stood := { row := evalStepsUptoRow, standIns := [], harness := (true, "28f08295f3ee7a7ff02beb11aa8675b0a3f3bb3c0b053fa3d31d2f058f9d5b9c"), looks := true }, kinds := [], alts := [], laidByText := true, laidKinds := [.data, .data, .pinned], laidTests := true, laidLooks := .later }
def EvalStepsUptoCardSaid : Prop := Claim7.holds Tryz.pinned (.plain (OpenSpec.upto evalStepsSpec)) evalStepsUptoCard

/-- THE SECOND FORM's CARD OF 'longstoplaw07.EvalFunctions'. -/
def evalFunctionsUptoCard : Claim7 := { stood := { row := evalFunctionsUptoRow, standIns := [], harness := (true, "28f08295f3ee7a7ff02beb11aa8675b0a3f3bb3c0b053fa3d31d2f058f9d5b9c"), looks := true }, kinds := [], alts := [], laidByText := true, laidKinds := [.data, .data, .pinned], laidTests := true, laidLooks := .later }
def EvalFunctionsUptoCardSaid : Prop := Claim7.holds Tryz.pinned (.plain (OpenSpec.upto evalFunctionsSpec)) evalFunctionsUptoCard

/-- THE SECOND FORM's CARD OF 'longstoplaw07.EvalLaws'. -/
def evalLawsUptoCard : Claim7 := { stood := { row := evalLawsUptoRow, standIns := [], harness := (true, "28f08295f3ee7a7ff02beb11aa8675b0a3f3bb3c0b053fa3d31d2f058f9d5b9c"), looks := true }, kinds := [], alts := [], laidByText := true, laidKinds := [.data, .data, .pinned], laidTests := true, laidLooks := .later }
def EvalLawsUptoCardSaid : Prop := Claim7.holds Tryz.pinned (.plain (OpenSpec.upto evalLawsSpec)) evalLawsUptoCard

/-- THE SECOND FORM's CARD OF 'longstoplaw07.EvalRight'. -/
def evalRightUptoCard : Claim7 := { stood := { row := evalRightUptoRow, standIns := [], harness := (true, "28f08295f3ee7a7ff02beb11aa8675b0a3f3bb3c0b053fa3d31d2f058f9d5b9c"), looks := true }, kinds := [], alts := [], laidByText := true, laidKinds := [.data, .data, .pinned], laidTests := true, laidLooks := .later }
def EvalRightUptoCardSaid : Prop := Claim7.holds Tryz.pinned (.plain (OpenSpec.upto evalRightSpec)) evalRightUptoCard

/-- THE SECOND FORM's CARD OF 'longstoplaw07.EvalNulls'. -/
def evalNullsUptoCard : Claim7 := { stood := { row := evalNullsUptoRow, standIns := [], harness := (true, "28f08295f3ee7a7ff02beb11aa8675b0a3f3bb3c0b053fa3d31d2f058f9d5b9c"), looks := true }, kinds := [], alts := [], laidByText := true, laidKinds := [.data, .data, .pinned], laidTests := true, laidLooks := .later }
def EvalNullsUptoCardSaid : Prop := Claim7.holds Tryz.pinned (.plain (OpenSpec.upto evalNullsSpec)) evalNullsUptoCard
end Rows
end Go.Proofs.YtnpdecbgakgbgaaGreatDoor
