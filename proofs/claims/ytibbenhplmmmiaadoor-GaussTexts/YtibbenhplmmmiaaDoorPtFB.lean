/-
  GaussTexts: what the row's form asks of the program's own text.
-/
import Derived.Test.YtibbenhplmmmiaaDoorPtE
namespace Go.Proofs.YtibbenhplmmmiaaDoor
open Go.ChangeShapes Go.WideShapes Go.ChangeAt Go.WideMaps Go.WideElems Go.RowKit Go.Shelf Go.Lib

theorem gtx_b : joinedFacts Tryd.pinned.checked.prog 3 Tryd.f3 Rows.gaussTextsSpec Rows.gaussTextsRow = true := by kernel_rfl
end Go.Proofs.YtibbenhplmmmiaaDoor
