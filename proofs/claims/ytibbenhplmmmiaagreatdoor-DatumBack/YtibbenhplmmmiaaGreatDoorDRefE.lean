/-
  The document's wide numbers: times by a number of one part, of numbers of two parts.
-/
import Derived.Test.YtibbenhplmmmiaaGreatDoorDRef1
namespace Go.Proofs.YtibbenhplmmmiaaGreatDoor
open Go.RowKit

end Go.Proofs.YtibbenhplmmmiaaGreatDoor
