/-
  The document's wide numbers: less, zero.
-/
import Derived.Test.YtibbenhplmmmiaaGreatDoorDRef1
namespace Go.Proofs.YtibbenhplmmmiaaGreatDoor
open Go.RowKit

end Go.Proofs.YtibbenhplmmmiaaGreatDoor
