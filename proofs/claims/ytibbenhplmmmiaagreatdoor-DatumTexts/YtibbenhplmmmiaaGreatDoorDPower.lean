/-
  The contracts of the document's Power and Right, as the statements call them.
-/
import Derived.Test.YtibbenhplmmmiaaGreatDoorDArith
namespace Go.Proofs.YtibbenhplmmmiaaGreatDoor
open Go.RowKit

set_option maxHeartbeats 400000 in
theorem refRight_any (u s : Int) (w : World) : Calls Tryz.prog 89 #[dv u s] w fun e w' => e = .returned (.bool (rightS s)) ∧ Grew w w' := by
  go_enter Tryz.func89, Tryz.ntmps89
  go_wp2
  all_goals go_ret
  all_goals refine ⟨ret_bool ?_, by repeat (first | exact Grew.refl _ | apply Grew.drew | apply Grew.drewN | apply Grew.alloc | apply Grew.more)⟩
  all_goals rw [Bool.eq_iff_iff, rightS_iff]
  all_goals simp
  all_goals omega
end Go.Proofs.YtibbenhplmmmiaaGreatDoor
