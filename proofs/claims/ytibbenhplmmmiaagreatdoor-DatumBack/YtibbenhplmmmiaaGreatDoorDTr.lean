/-
  The document's Print and Parse at whatever comes in.
-/
import Derived.Test.YtibbenhplmmmiaaGreatDoorDTm
import Derived.Test.YtibbenhplmmmiaaGreatDoorMXDTr3
import Derived.Test.YtibbenhplmmmiaaGreatDoorPtR
import Derived.Test.YtibbenhplmmmiaaGreatDoorM3DRefP2
namespace Go.Proofs.YtibbenhplmmmiaaGreatDoor.Dt
open Go.RowKit Go.Shelf
attribute [local go_sem] cell?_more frozen?_more setCell_more more_lt more_more more_drew more_drewN setCell_drewN alloc_drewN
theorem not_empty (c : UInt8) (l : List UInt8) : (ByteArray.mk (c :: l).toArray).toList.isEmpty = false := by rw [ByteArray.toList_eq]; rfl
end Go.Proofs.YtibbenhplmmmiaaGreatDoor.Dt
