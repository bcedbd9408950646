/-
  The contracts of datum.byNumber and datum.Compare.
-/
import Derived.Test.YtafmchgncahafaaGreatDoorMDVCmp
import Derived.Test.YtafmchgncahafaaGreatDoorDCmp
import Derived.Test.YtafmchgncahafaaGreatDoorVPut2
namespace Go.Proofs.YtafmchgncahafaaGreatDoor
open Go.RowKit Go.Shelf
attribute [local go_sem] cell?_more frozen?_more setCell_more more_lt more_more more_drew more_drewN setCell_drewN alloc_drewN

end Go.Proofs.YtafmchgncahafaaGreatDoor
