/-
  The contract of decimal.Compare: for every decimal.
-/
import Derived.Test.YtafmchgncahafaaGreatDoorDArith
namespace Go.Proofs.YtafmchgncahafaaGreatDoor
open Go.RowKit
attribute [local go_sem] cell?_more frozen?_more setCell_more more_lt more_more more_drew more_drewN setCell_drewN alloc_drewN

end Go.Proofs.YtafmchgncahafaaGreatDoor
