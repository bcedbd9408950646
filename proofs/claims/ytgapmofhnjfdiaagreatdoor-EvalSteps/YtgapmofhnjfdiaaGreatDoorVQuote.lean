/-
  The contracts of datum.quoted and datum.unquoted.
-/
import Derived.Test.YtgapmofhnjfdiaaGreatDoorMaLJumps
import Derived.WalkMore
namespace Go.Proofs.YtgapmofhnjfdiaaGreatDoor
open Go.RowKit

end Go.Proofs.YtgapmofhnjfdiaaGreatDoor
