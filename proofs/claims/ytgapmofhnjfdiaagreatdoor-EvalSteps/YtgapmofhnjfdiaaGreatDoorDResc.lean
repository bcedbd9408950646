/-
  decimal.Rescale in one contract, and what it reckons: exact to a greater scale, as near as can be to a lesser one.
-/
import Derived.Test.YtgapmofhnjfdiaaGreatDoorDDivs
import Derived.Test.YtgapmofhnjfdiaaGreatDoorDPower
namespace Go.Proofs.YtgapmofhnjfdiaaGreatDoor
open Go.RowKit

end Go.Proofs.YtgapmofhnjfdiaaGreatDoor
