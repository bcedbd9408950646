/-
  The program's Print of a decimal that is not right: the empty text.
-/
import Derived.Test.YtncpkdgpijempaaDoorDArith
import Derived.Test.YtncpkdgpijempaaDoorDJumps
namespace Go.Proofs.YtncpkdgpijempaaDoor
open Go.RowKit

set_option maxRecDepth 20000 in
set_option maxHeartbeats 2000000 in
theorem print_bad (u s : Int) (w : World) (hs : rightS s = false) : Calls Tryd.prog 6 #[dv u s] w fun e w' => e = .returned (.string ⟨#[]⟩) ∧ Grew w w' := by
  have R := fun W => right_any u s W
  rw [hs] at R
  go_enter Tryd.func6, Tryd.ntmps6
  go_wp2
  refine wp_scope_passes 0 1 rfl ?_
  go_wp2_with (go_at_call 22; refine (R _).mono ?_; rintro e w' ⟨rfl, os, n, rfl⟩)
  simp only [Exit.jump]
  go_ret
  refine ⟨rfl, ?_⟩
  repeat (first | exact Grew.refl _ | apply Grew.drew | apply Grew.drewN | apply Grew.alloc | apply Grew.more)
end Go.Proofs.YtncpkdgpijempaaDoor
