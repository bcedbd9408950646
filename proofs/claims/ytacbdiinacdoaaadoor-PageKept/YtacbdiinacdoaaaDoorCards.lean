/-
  DERIVED. GIVEN WITH THE SEED: THE CARDS: each row of YtacbdiinacdoaaaDoorRows.lean that lists a variable, with what it lists TIED to the program's text (the seventh form; the later family's looks); each row that meets fmt, with fmt's text TOLD by the authors' own Lean function (tested against real Go, not proved from fmt's source: count such statements apart). THE CARD IS WHAT COUNTS. Prove the row's statement (the work); the ties are given (YtacbdiinacdoaaaDoorTie.lean); close each card by the builder's one call (the guide's Derived/Test/ToyasCard.lean, 'card_holds'). Laid BY PROGRAM, IN A SANDBOX (cutbox-door.mjs). By AI agents, Wed Nov 11 2026. No macro, syntax, notation, axiom, sorry.
-/
import Derived.Test.YtacbdiinacdoaaaDoorRows
import GoSem.ClaimSeven
namespace Go.Proofs.YtacbdiinacdoaaaDoor
namespace Rows

/-- THE TIED CARD OF 'longstoplaw12.PageLooks'. -/
def pageLooksCard : Claim7 := { stood := { row := pageLooksRow, standIns := [], harness := (true, "8d5fac300d01f2ebb1f752fb1058cc6f9e81d222f1ad6da4bf35bdf5f8c5a801"), looks := false }, kinds := [], alts := [], laidByText := true, laidKinds := [.data], laidTests := true, laidLooks := .later }
def PageLooksCardSaid : Prop := Claim7.holds Tryd.pinned (.plain (OpenSpec.ofChange pageLooksSpec)) pageLooksCard

/-- THE TIED CARD OF 'longstoplaw12.PageSteps'. -/
def pageStepsCard : Claim7 := { stood := { row := pageStepsRow, standIns := [], harness := (true, "8d5fac300d01f2ebb1f752fb1058cc6f9e81d222f1ad6da4bf35bdf5f8c5a801"), looks := false }, kinds := [], alts := [], laidByText := true, laidKinds := [.data], laidTests := true, laidLooks := .later }
def PageStepsCardSaid : Prop := Claim7.holds Tryd.pinned (.plain (OpenSpec.ofChange pageStepsSpec)) pageStepsCard

/-- THE TIED CARD OF 'longstoplaw12.PageKept'. -/
def pageKeptCard : Claim7 := { stood := { row := pageKeptRow, standIns := [], harness := (true, "8d5fac300d01f2ebb1f752fb1058cc6f9e81d222f1ad6da4bf35bdf5f8c5a801"), looks := false }, kinds := [], alts := [], laidByText := true, laidKinds := [.data], laidTests := true, laidLooks := .later }
def PageKeptCardSaid : Prop := Claim7.holds Tryd.pinned (.plain (OpenSpec.ofChange pageKeptSpec)) pageKeptCard

/-- THE SECOND FORM's CARD OF 'longstoplaw12.PageLooks'. -/
def pageLooksUptoCard : Claim7 := { stood := { row := pageLooksUptoRow, standIns := [], harness := (true, "8d5fac300d01f2ebb1f752fb1058cc6f9e81d222f1ad6da4bf35bdf5f8c5a801"), looks := false }, kinds := [], alts := [], laidByText := true, laidKinds := [.data], laidTests := true, laidLooks := .later }
def PageLooksUptoCardSaid : Prop := Claim7.holds Tryd.pinned (.plain (OpenSpec.upto pageLooksSpec)) pageLooksUptoCard

/-- THE SECOND FORM's CARD OF 'longstoplaw12.PageSteps'. -/
def pageStepsUptoCard : Claim7 := { stood := { row := pageStepsUptoRow, standIns := [], harness := (true, "8d5fac300d01f2ebb1f752fb1058cc6f9e81d222f1ad6da4bf35bdf5f8c5a801"), looks := false }, kinds := [], alts := [], laidByText := true, laidKinds := [.data], laidTests := true, laidLooks := .later }
def PageStepsUptoCardSaid : Prop := Claim7.holds Tryd.pinned (.plain (OpenSpec.upto pageStepsSpec)) pageStepsUptoCard

/-- THE SECOND FORM's CARD OF 'longstoplaw12.PageKept'. -/
def pageKeptUptoCard : Claim7 := { stood := { row := pageKeptUptoRow, standIns := [], harness := (true, "8d5fac300d01f2ebb1f752fb1058cc6f9e81d222f1ad6da4bf35bdf5f8c5a801"), looks := false }, kinds := [], alts := [], laidByText := true, laidKinds := [.data], laidTests := true, laidLooks := .later }
def PageKeptUptoCardSaid : Prop := Claim7.holds Tryd.pinned (.plain (OpenSpec.upto pageKeptSpec)) pageKeptUptoCard
end Rows
end Go.Proofs.YtacbdiinacdoaaaDoor
