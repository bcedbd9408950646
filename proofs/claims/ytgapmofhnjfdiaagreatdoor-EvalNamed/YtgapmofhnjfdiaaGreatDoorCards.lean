/-
  DERIVED. GIVEN WITH THE SEED: THE CARDS: each row of YtgapmofhnjfdiaaGreatDoorRows.lean that lists a variable, with what it lists TIED to the program's text (the seventh form; the later family's looks); each row that meets fmt, with fmt's text TOLD by the authors' own Lean function (tested against real Go, not proved from fmt's source: count such statements apart). THE CARD IS WHAT COUNTS. Prove the row's statement (the work); the ties are given (YtgapmofhnjfdiaaGreatDoorTie.lean); close each card by the builder's one call (the guide's Derived/Test/ToyasCard.lean, 'card_holds'). Laid BY PROGRAM, IN A SANDBOX (cutbox-door.mjs). By AI agents, Wed Nov 11 2026. No macro, syntax, notation, axiom, sorry.
-/
import Derived.Test.YtgapmofhnjfdiaaGreatDoorRows
import GoSem.ClaimSeven
namespace Go.Proofs.YtgapmofhnjfdiaaGreatDoor
namespace Rows

/-- THE TIED CARD OF 'longstoplaw06.ExprDeeper'. -/
def exprDeeperCard : Claim7 := { stood := { row := exprDeeperRow, standIns := [], harness := (true, "a0ae317df294b5c4851fd71dd594afd574b222a5c2c001cd2b083891cc4e51fa"), looks := true }, kinds := [], alts := [], laidByText := true, laidKinds := [.data, .data, .data, .data, .sentinel, .sentinel, .data, .pinned], laidTests := true, laidLooks := .later }
def ExprDeeperCardSaid : Prop := Claim7.holds Tryz.pinned (.plain (OpenSpec.ofChange exprDeeperSpec)) exprDeeperCard

/-- THE TIED CARD OF 'longstoplaw07.EvalSteps'. -/
def evalStepsCard : Claim7 := { stood := { row := evalStepsRow, standIns := [], harness := (true, "a0ae317df294b5c4851fd71dd594afd574b222a5c2c001cd2b083891cc4e51fa"), looks := true }, kinds := [], alts := [], laidByText := true, laidKinds := [.data, .data, .pinned], laidTests := true, laidLooks := .later }
def EvalStepsCardSaid : Prop := Claim7.holds Tryz.pinned (.plain (OpenSpec.ofChange evalStepsSpec)) evalStepsCard

/-- THE TIED CARD OF 'longstoplaw07.EvalFunctions'. -/
def evalFunctionsCard : Claim7 := { stood := { row := evalFunctionsRow, standIns := [], harness := (true, "a0ae317df294b5c4851fd71dd594afd574b222a5c2c001cd2b083891cc4e51fa"), looks := true }, kinds := [], alts := [], laidByText := true, laidKinds := [.data, .data, .pinned], laidTests := true, laidLooks := .later }
def EvalFunctionsCardSaid : Prop := Claim7.holds Tryz.pinned (.plain (OpenSpec.ofChange evalFunctionsSpec)) evalFunctionsCard

/-- THE TIED CARD OF 'longstoplaw07.EvalAll'. -/
def evalAllCard : Claim7 := { stood := { row := evalAllRow, standIns := [], harness := (true, "a0ae317df294b5c4851fd71dd594afd574b222a5c2c001cd2b083891cc4e51fa"), looks := true }, kinds := [], alts := [], laidByText := true, laidKinds := [.data, .data, .pinned], laidTests := true, laidLooks := .later }
def EvalAllCardSaid : Prop := Claim7.holds Tryz.pinned (.plain (OpenSpec.ofChange evalAllSpec)) evalAllCard

/-- THE TIED CARD OF 'longstoplaw07.EvalNamed'. -/
def evalNamedCard : Claim7 := { stood := { row := evalNamedRow, standIns := [], harness := (true, "a0ae317df294b5c4851fd71dd594afd574b222a5c2c001cd2b083891cc4e51fa"), looks := true }, kinds := [], alts := [], laidByText := true, laidKinds := [.data, .data, .pinned], laidTests := true, laidLooks := .later }
def EvalNamedCardSaid : Prop := Claim7.holds Tryz.pinned (.plain (OpenSpec.ofChange evalNamedSpec)) evalNamedCard

/-- THE SECOND FORM's CARD OF 'longstoplaw06.ExprDeeper'. -/
def exprDeeperUptoCard : Claim7 := { stood := { row := exprDeeperUptoRow, standIns := [], harness := (true, "a0ae317df294b5c4851fd71dd594afd574b222a5c2c001cd2b083891cc4e51fa"), looks := true }, kinds := [], alts := [], laidByText := true, laidKinds := [.data, .data, .data, .data, .sentinel, .sentinel, .data, .pinned], laidTests := true, laidLooks := .later }
def ExprDeeperUptoCardSaid : Prop := Claim7.holds Tryz.pinned (.plain (OpenSpec.upto exprDeeperSpec)) exprDeeperUptoCard

/-- THE SECOND FORM's CARD OF 'longstoplaw07.EvalSteps'. -/
def evalStepsUptoCard : Claim7 := { stood := { row := evalStepsUptoRow, standIns := [], harness := (true, "a0ae317df294b5c4851fd71dd594afd574b222a5c2c001cd2b083891cc4e51fa"), looks := true }, kinds := [], alts := [], laidByText := true, laidKinds := [.data, .data, .pinned], laidTests := true, laidLooks := .later }
def EvalStepsUptoCardSaid : Prop := Claim7.holds Tryz.pinned (.plain (OpenSpec.upto evalStepsSpec)) evalStepsUptoCard

/-- THE SECOND FORM's CARD OF 'longstoplaw07.EvalFunctions'. -/
def evalFunctionsUptoCard : Claim7 := { stood := { row := evalFunctionsUptoRow, standIns := [], harness := (true, "a0ae317df294b5c4851fd71dd594afd574b222a5c2c001cd2b083891cc4e51fa"), looks := true }, kinds := [], alts := [], laidByText := true, laidKinds := [.data, .data, .pinned], laidTests := true, laidLooks := .later }
def EvalFunctionsUptoCardSaid : Prop := Claim7.holds Tryz.pinned (.plain (OpenSpec.upto evalFunctionsSpec)) evalFunctionsUptoCard

/-- THE SECOND FORM's CARD OF 'longstoplaw07.EvalAll'. -/
def evalAllUptoCard : Claim7 := { stood := { row := evalAllUptoRow, standIns := [], harness := (true, "a0ae317df294b5c4851fd71dd594afd574b222a5c2c001cd2b083891cc4e51fa"), looks := true }, kinds := [], alts := [], laidByText := true, laidKinds := [.data, .data, .pinned], laidTests := true, laidLooks := .later }
def EvalAllUptoCardSaid : Prop := Claim7.holds Tryz.pinned (.plain (OpenSpec.upto evalAllSpec)) evalAllUptoCard

/-- THE SECOND FORM's CARD OF 'longstoplaw07.EvalNamed'. -/
def evalNamedUptoCard : Claim7 := { stood := { row := evalNamedUptoRow, standIns := [], harness := (true, "a0ae317df294b5c4851fd71dd594afd574b222a5c2c001cd2b083891cc4e51fa"), looks := true }, kinds := [], alts := [], laidByText := true, laidKinds := [.data, .data, .pinned], laidTests := true, laidLooks := .later }
def EvalNamedUptoCardSaid : Prop := Claim7.holds Tryz.pinned (.plain (OpenSpec.upto evalNamedSpec)) evalNamedUptoCard
end Rows
end Go.Proofs.YtgapmofhnjfdiaaGreatDoor
