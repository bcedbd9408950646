/-
  The program's Print of a decimal that is not right: the empty text.
-/
import Derived.Test.YtgapmofhnjfdiaaGreatDoorDArith
import Derived.Test.YtgapmofhnjfdiaaGreatDoorMlDText7
namespace Go.Proofs.YtgapmofhnjfdiaaGreatDoor
open Go.RowKit

end Go.Proofs.YtgapmofhnjfdiaaGreatDoor
