/-
  The document's quoted, of whatever text.
  The document's Parse, path by path: its text is the value's.
  The document's Parse, path by path: its text is another.
  The document's Parse of null, the two truths and nothing.
-/
import Derived.Test.YtibbenhplmmmiaaGreatDoorLRParse
namespace Go.Proofs.YtibbenhplmmmiaaGreatDoor.Dt
open Go.RowKit Go.Shelf
attribute [local go_sem] cell?_more frozen?_more setCell_more more_lt more_more more_drew more_drewN setCell_drewN alloc_drewN
end Go.Proofs.YtibbenhplmmmiaaGreatDoor.Dt

namespace Go.Proofs.YtibbenhplmmmiaaGreatDoor.Dt
open Go.RowKit Go.Shelf
attribute [local go_sem] cell?_more frozen?_more setCell_more more_lt more_more more_drew more_drewN setCell_drewN alloc_drewN

end Go.Proofs.YtibbenhplmmmiaaGreatDoor.Dt

namespace Go.Proofs.YtibbenhplmmmiaaGreatDoor.Dt
open Go.RowKit Go.Shelf
attribute [local go_sem] cell?_more frozen?_more setCell_more more_lt more_more more_drew more_drewN setCell_drewN alloc_drewN

end Go.Proofs.YtibbenhplmmmiaaGreatDoor.Dt

namespace Go.Proofs.YtibbenhplmmmiaaGreatDoor.Dt
open Go.RowKit Go.Shelf
attribute [local go_sem] cell?_more frozen?_more setCell_more more_lt more_more more_drew more_drewN setCell_drewN alloc_drewN

end Go.Proofs.YtibbenhplmmmiaaGreatDoor.Dt
