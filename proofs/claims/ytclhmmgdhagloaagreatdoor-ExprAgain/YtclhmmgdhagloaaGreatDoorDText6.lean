/-
  The program's Print of a decimal that is not right: the empty text.
-/
import Derived.Test.YtclhmmgdhagloaaGreatDoorDArith
import Derived.Test.YtclhmmgdhagloaaGreatDoorMjDText7
namespace Go.Proofs.YtclhmmgdhagloaaGreatDoor
open Go.RowKit

end Go.Proofs.YtclhmmgdhagloaaGreatDoor
