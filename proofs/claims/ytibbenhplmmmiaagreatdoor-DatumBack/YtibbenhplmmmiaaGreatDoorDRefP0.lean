/-
  The document's Parse: for every text.
-/
import Derived.Test.YtibbenhplmmmiaaGreatDoorMtDScan
import Derived.Test.YtibbenhplmmmiaaGreatDoorDRefE
import Derived.Test.YtibbenhplmmmiaaGreatDoorDRef6
namespace Go.Proofs.YtibbenhplmmmiaaGreatDoor
open Go.RowKit
attribute [local go_sem] cell?_more frozen?_more setCell_more more_lt more_more more_drew more_drewN setCell_drewN alloc_drewN

end Go.Proofs.YtibbenhplmmmiaaGreatDoor
