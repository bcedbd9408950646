/-
  The contract of decimal.quotient: a wide number by another, rounded to the nearest, of two as near to the even one.
-/
import Derived.Test.YtclhmmgdhagloaaGreatDoorDArith
import Derived.Test.YtclhmmgdhagloaaGreatDoorDDiv
namespace Go.Proofs.YtclhmmgdhagloaaGreatDoor
open Go.RowKit
attribute [local go_sem] cell?_more frozen?_more setCell_more more_lt more_more more_drew more_drewN setCell_drewN alloc_drewN

end Go.Proofs.YtclhmmgdhagloaaGreatDoor
