/-
  The contracts of the document's Power and Right, as the statements call them.
-/
import Derived.Test.YtclhmmgdhagloaaGreatDoorDArith
namespace Go.Proofs.YtclhmmgdhagloaaGreatDoor
open Go.RowKit

end Go.Proofs.YtclhmmgdhagloaaGreatDoor
