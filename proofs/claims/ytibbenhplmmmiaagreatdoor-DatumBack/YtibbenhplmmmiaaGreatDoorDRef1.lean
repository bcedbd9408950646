/-
  The document's wide numbers: of, plus.
-/
import Derived.Test.YtibbenhplmmmiaaGreatDoorDArith
import Derived.Deep.RegionHeld2
import Derived.LoopN
namespace Go.Proofs.YtibbenhplmmmiaaGreatDoor
open Go.RowKit

end Go.Proofs.YtibbenhplmmmiaaGreatDoor
