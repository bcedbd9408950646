/-
  The document's Parse of a text that begins with a minus and goes on.
  The document's Parse, at any text: what the program's answers.
-/
import Derived.Test.YtibbenhplmmmiaaGreatDoorMtDScan
import Derived.Test.YtibbenhplmmmiaaGreatDoorDRefE
import Derived.Test.YtibbenhplmmmiaaGreatDoorDRef3
import Derived.Test.YtibbenhplmmmiaaGreatDoorDRef6
import Derived.Test.YtibbenhplmmmiaaGreatDoorDRefP0
namespace Go.Proofs.YtibbenhplmmmiaaGreatDoor
open Go.RowKit
attribute [local go_sem] cell?_more frozen?_more setCell_more more_lt more_more more_drew more_drewN setCell_drewN alloc_drewN

end Go.Proofs.YtibbenhplmmmiaaGreatDoor

namespace Go.Proofs.YtibbenhplmmmiaaGreatDoor
open Go.RowKit
attribute [local go_sem] cell?_more frozen?_more setCell_more more_lt more_more more_drew more_drewN setCell_drewN alloc_drewN
attribute [local go_sem] undef

end Go.Proofs.YtibbenhplmmmiaaGreatDoor
