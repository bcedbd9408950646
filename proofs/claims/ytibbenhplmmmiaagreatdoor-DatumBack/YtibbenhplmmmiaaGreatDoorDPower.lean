/-
  The contracts of the document's Power and Right, as the statements call them.
-/
import Derived.Test.YtibbenhplmmmiaaGreatDoorDArith
namespace Go.Proofs.YtibbenhplmmmiaaGreatDoor
open Go.RowKit

end Go.Proofs.YtibbenhplmmmiaaGreatDoor
