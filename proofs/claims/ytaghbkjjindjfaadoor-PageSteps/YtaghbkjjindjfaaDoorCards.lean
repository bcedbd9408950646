/-
  DERIVED. GIVEN WITH THE SEED: THE CARDS: each row of YtaghbkjjindjfaaDoorRows.lean that lists a variable, with what it lists TIED to the program's text (the seventh form; the later family's looks); each row that meets fmt, with fmt's text TOLD by the authors' own Lean function (tested against real Go, not proved from fmt's source: count such statements apart). THE CARD IS WHAT COUNTS. Prove the row's statement (the work); the ties are given (YtaghbkjjindjfaaDoorTie.lean); close each card by the builder's one call (the guide's Derived/Test/ToyasCard.lean, 'card_holds'). Laid BY PROGRAM, IN A SANDBOX (cutbox-door.mjs). By AI agents, Wed Nov 11 2026. No macro, syntax, notation, axiom, sorry.
-/
import Derived.Test.YtaghbkjjindjfaaDoorRows
import GoSem.ClaimSeven
namespace Go.Proofs.YtaghbkjjindjfaaDoor
namespace Rows

/-- THE TIED CARD OF 'longstoplaw12.PageLooks'. -/
def pageLooksCard : Claim7 := { stood := { row := pageLooksRow, standIns := [], harness := (true, "4ca23a7bc0b7d222f6dd231b7320d5441ec565b527bc8facb1a410d1a7079134"), looks := false }, kinds := [], alts := [], laidByText := true, laidKinds := [.data], laidTests := true, laidLooks := .later }
def PageLooksCardSaid : Prop := Claim7.holds Tryd.pinned (.plain (OpenSpec.ofChange pageLooksSpec)) pageLooksCard

/-- THE TIED CARD OF 'longstoplaw12.PageSteps'. -/
def pageStepsCard : Claim7 := { stood := { row := pageStepsRow, standIns := [], harness := (true, "4ca23a7bc0b7d222f6dd231b7320d5441ec565b527bc8facb1a410d1a7079134"), looks := false }, kinds := [], alts := [], laidByText := true, laidKinds := [.data], laidTests := true, laidLooks := .later }
def PageStepsCardSaid : Prop := Claim7.holds Tryd.pinned (.plain (OpenSpec.ofChange pageStepsSpec)) pageStepsCard

/-- THE SECOND FORM's CARD OF 'longstoplaw12.PageLooks'. -/
def pageLooksUptoCard : Claim7 := { stood := { row := pageLooksUptoRow, standIns := [], harness := (true, "4ca23a7bc0b7d222f6dd231b7320d5441ec565b527bc8facb1a410d1a7079134"), looks := false }, kinds := [], alts := [], laidByText := true, laidKinds := [.data], laidTests := true, laidLooks := .later }
def PageLooksUptoCardSaid : Prop := Claim7.holds Tryd.pinned (.plain (OpenSpec.upto pageLooksSpec)) pageLooksUptoCard

/-- THE SECOND FORM's CARD OF 'longstoplaw12.PageSteps'. -/
def pageStepsUptoCard : Claim7 := { stood := { row := pageStepsUptoRow, standIns := [], harness := (true, "4ca23a7bc0b7d222f6dd231b7320d5441ec565b527bc8facb1a410d1a7079134"), looks := false }, kinds := [], alts := [], laidByText := true, laidKinds := [.data], laidTests := true, laidLooks := .later }
def PageStepsUptoCardSaid : Prop := Claim7.holds Tryd.pinned (.plain (OpenSpec.upto pageStepsSpec)) pageStepsUptoCard
end Rows
end Go.Proofs.YtaghbkjjindjfaaDoor
