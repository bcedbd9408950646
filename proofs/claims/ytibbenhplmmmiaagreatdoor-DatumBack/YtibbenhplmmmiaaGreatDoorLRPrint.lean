/-
  The document's Print: Ints, Decs and Texts.
-/
import Derived.Test.YtibbenhplmmmiaaGreatDoorMFVRows
import Derived.Test.YtibbenhplmmmiaaGreatDoorLVal
import Derived.Test.YtibbenhplmmmiaaGreatDoorLTok
import Derived.BigRegion
namespace Go.Proofs.YtibbenhplmmmiaaGreatDoor
open Go.RowKit Go.Shelf
attribute [local go_sem] cell?_more frozen?_more setCell_more more_lt more_more more_drew more_drewN setCell_drewN alloc_drewN

end Go.Proofs.YtibbenhplmmmiaaGreatDoor
