/-
  The document's wide numbers: back.
-/
import Derived.Test.YtibbenhplmmmiaaGreatDoorDRef1
namespace Go.Proofs.YtibbenhplmmmiaaGreatDoor
open Go.RowKit

end Go.Proofs.YtibbenhplmmmiaaGreatDoor
