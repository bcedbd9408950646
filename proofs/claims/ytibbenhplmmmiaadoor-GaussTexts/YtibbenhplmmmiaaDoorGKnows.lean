/-
  The contracts of longstoplaw03.knows and of longstoplaw03.same.
-/
import Derived.Test.YtibbenhplmmmiaaDoorGSum
import Derived.Test.YtibbenhplmmmiaaDoorGTurn
namespace Go.Proofs.YtibbenhplmmmiaaDoor
open Go.RowKit
attribute [local go_sem] cell?_more frozen?_more setCell_more more_lt more_more more_drew more_drewN setCell_drewN alloc_drewN
attribute [local go_sem high] cellMA frozenMA setMA cellMAM frozenMAM setMAM cellMAA frozenMAA setMAA cellMAAM frozenMAAM setMAAM cellMAMA frozenMAMA setMAMA cellMAMAM frozenMAMAM setMAMAM cellMAMAMA frozenMAMAMA setMAMAMA cellMAMAMAM frozenMAMAMAM setMAMAMAM

set_option maxHeartbeats 2000000 in
theorem knows_any (w : World) : Calls Tryd.prog 12 #[] w fun e w' => e = .returned (.bool true) ∧ Grew w w' := by
  have M : ∀ W, Calls Tryd.prog 20 #[pv 1 2, pv 3 (-1)] W fun e w' => e = .returned (.tuple #[pv 5 5, .int .i64 0]) ∧ Grew W w' := fun W => mul_good 1 2 3 (-1) W (by decide) (by decide)
  have T : ∀ W, Calls Tryd.prog 21 #[pv 2 1, .int .i64 1] W fun e w' => e = .returned (pv (-1) 2) ∧ Grew W w' := fun W => turn_good 2 1 1 W (by decide)
  go_enter Tryd.func12, Tryd.ntmps12
  go_wp2_with (first
    | (go_at_call 20; refine (M _).mono ?_; rintro e w1 ⟨rfl, os1, n1, rfl⟩)
    | (go_at_call 21; refine (T _).mono ?_; rintro e w2 ⟨rfl, os2, n2, rfl⟩)
    | (go_at_call 9; refine (num_any 0 _).mono ?_; rintro e w' ⟨rfl, rfl⟩))
  go_ret
  refine ⟨rfl, ?_⟩
  repeat (first | exact Grew.refl _ | apply Grew.drew | apply Grew.drewN | apply Grew.alloc | apply Grew.more)

theorem same_any (x y : Int) (w : World) : Calls Tryd.prog 10 #[pv x y, pv x y] w fun e w' => e = .returned (.bool true) ∧ Grew w w' := by
  go_enter Tryd.func10, Tryd.ntmps10
  go_wp2
  all_goals go_ret
  all_goals exact ⟨rfl, by repeat (first | exact Grew.refl _ | apply Grew.drew | apply Grew.drewN | apply Grew.alloc | apply Grew.more)⟩
end Go.Proofs.YtibbenhplmmmiaaDoor
