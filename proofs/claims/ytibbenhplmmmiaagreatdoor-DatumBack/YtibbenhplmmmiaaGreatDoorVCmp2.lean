/-
  The contracts of datum.byNumber and datum.Compare.
-/
import Derived.Test.YtibbenhplmmmiaaGreatDoorMDVCmp
import Derived.Test.YtibbenhplmmmiaaGreatDoorDCmp
import Derived.Test.YtibbenhplmmmiaaGreatDoorVPut2
namespace Go.Proofs.YtibbenhplmmmiaaGreatDoor
open Go.RowKit Go.Shelf
attribute [local go_sem] cell?_more frozen?_more setCell_more more_lt more_more more_drew more_drewN setCell_drewN alloc_drewN

theorem Pw.below {w w' : World} (h : Pw w) (hb : Below w.heap.size w w') : Pw w' := fun k hk => by rw [hb.cell (p := ⟨2, k, none⟩) h.pos]; exact h k hk

end Go.Proofs.YtibbenhplmmmiaaGreatDoor
