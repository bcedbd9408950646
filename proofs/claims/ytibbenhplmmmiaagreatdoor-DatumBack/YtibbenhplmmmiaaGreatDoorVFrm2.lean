/-
  The listed table of powers as the walks ask for it.
-/
import Derived.Test.YtibbenhplmmmiaaGreatDoorMAVCmp
import Derived.Test.YtibbenhplmmmiaaGreatDoorVCmp2
namespace Go.Proofs.YtibbenhplmmmiaaGreatDoor
open Go.ChangeShapes Go.WideShapes Go.ChangeAt Go.WideMaps Go.WideElems Go.RowKit Go.Shelf Go.Lib

end Go.Proofs.YtibbenhplmmmiaaGreatDoor
