/-
  The contracts of the document's Power and Right, as the statements call them.
-/
import Derived.Test.YtljkonkfeiojnaaGreatDoorDArith
namespace Go.Proofs.YtljkonkfeiojnaaGreatDoor
open Go.RowKit
end Go.Proofs.YtljkonkfeiojnaaGreatDoor
