/-
  EvalFunctions: what the row's form asks of the program's own text.
-/
import Derived.Test.YtgapmofhnjfdiaaGreatDoorMyVTruW
namespace Go.Proofs.YtgapmofhnjfdiaaGreatDoor
open Go.ChangeShapes Go.WideShapes Go.ChangeAt Go.WideMaps Go.WideElems Go.RowKit Go.Shelf Go.Lib

theorem fnc_b : joinedFacts Tryz.pinned.checked.prog 5 Tryz.f5 Rows.evalFunctionsSpec Rows.evalFunctionsRow = true := by kernel_rfl
end Go.Proofs.YtgapmofhnjfdiaaGreatDoor
