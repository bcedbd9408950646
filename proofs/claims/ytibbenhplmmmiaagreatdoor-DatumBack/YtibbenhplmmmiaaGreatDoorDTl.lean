/-
  The walk of DatumTexts.
-/
import Derived.Test.YtibbenhplmmmiaaGreatDoorDTp
import Derived.Test.YtibbenhplmmmiaaGreatDoorDTr
import Derived.Test.YtibbenhplmmmiaaGreatDoorVKnows
namespace Go.Proofs.YtibbenhplmmmiaaGreatDoor.Dt
open Go.RowKit Go.Shelf
attribute [local go_sem] cell?_more frozen?_more setCell_more more_lt more_more more_drew more_drewN setCell_drewN alloc_drewN

theorem lnum_any (n : Int) (w : World) : Calls Tryz.prog 11 #[.int .i64 n] w fun e w' => e = .returned (.int .i64 n) ∧ w = w' := by
  go_enter Tryz.func11, Tryz.ntmps11
  go_wp2
  go_ret
  exact ⟨rfl, rfl⟩
end Go.Proofs.YtibbenhplmmmiaaGreatDoor.Dt
