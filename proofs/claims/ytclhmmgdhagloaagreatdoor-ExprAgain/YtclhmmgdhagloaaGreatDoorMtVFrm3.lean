/-
  The listed table of powers as the walks ask for it.
  The contracts of the document's Right and Same.
  The contracts of the law's Own and Same, and of datum.Rows.
  Lists of values that come in.
-/
import Derived.Test.YtclhmmgdhagloaaGreatDoorMrVCmp
import Derived.Test.YtclhmmgdhagloaaGreatDoorVCmp2
import Derived.Test.YtclhmmgdhagloaaGreatDoorVGood
import Derived.Test.YtclhmmgdhagloaaGreatDoorMaLJumps
import Derived.Deep.RegionHeld2
namespace Go.Proofs.YtclhmmgdhagloaaGreatDoor
open Go.ChangeShapes Go.WideShapes Go.ChangeAt Go.WideMaps Go.WideElems Go.RowKit Go.Shelf Go.Lib

end Go.Proofs.YtclhmmgdhagloaaGreatDoor

namespace Go.Proofs.YtclhmmgdhagloaaGreatDoor
open Go.RowKit Go.Shelf
attribute [local go_sem] cell?_more frozen?_more setCell_more more_lt more_more more_drew more_drewN setCell_drewN alloc_drewN

end Go.Proofs.YtclhmmgdhagloaaGreatDoor

namespace Go.Proofs.YtclhmmgdhagloaaGreatDoor
open Go.RowKit Go.Shelf
attribute [local go_sem] cell?_more frozen?_more setCell_more more_lt more_more more_drew more_drewN setCell_drewN alloc_drewN

/-- Are two values the same? -/
def sameV (a b : Va) : Bool := a.k == b.k && (a.n == b.n && (a.m == b.m && (ByteArray.mk a.b.toArray).toList == (ByteArray.mk b.b.toArray).toList))
theorem sameV_iff (a b : Va) : sameV a b = true ↔ a = b := by
  obtain ⟨k, n, m, l⟩ := a
  obtain ⟨k', n', m', l'⟩ := b
  unfold sameV
  rw [Lib.toList_data, Lib.toList_data]
  simp
instance : DecidableEq Va := fun a b => decidable_of_iff (sameV a b = true) (sameV_iff a b)

end Go.Proofs.YtclhmmgdhagloaaGreatDoor

namespace Go.Proofs.YtclhmmgdhagloaaGreatDoor
open Go.ChangeShapes Go.WideShapes Go.ChangeAt Go.WideMaps Go.WideElems Go.RowKit Go.Shelf Go.Lib

end Go.Proofs.YtclhmmgdhagloaaGreatDoor
