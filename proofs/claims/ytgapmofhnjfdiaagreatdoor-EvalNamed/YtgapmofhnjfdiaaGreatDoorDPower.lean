/-
  The contracts of the document's Power and Right, as the statements call them.
-/
import Derived.Test.YtgapmofhnjfdiaaGreatDoorDArith
namespace Go.Proofs.YtgapmofhnjfdiaaGreatDoor
open Go.RowKit

end Go.Proofs.YtgapmofhnjfdiaaGreatDoor
