/-
  The contract of math/bits.Div64: for every two words by a word above the first of them.
-/
import Derived.Test.YtclhmmgdhagloaaGreatDoorMlDDivP
import Derived.Test.YtclhmmgdhagloaaGreatDoorMeDWide3
import Derived.Deep.RegionWith
namespace Go.Proofs.YtclhmmgdhagloaaGreatDoor
open Go.RowKit

end Go.Proofs.YtclhmmgdhagloaaGreatDoor
