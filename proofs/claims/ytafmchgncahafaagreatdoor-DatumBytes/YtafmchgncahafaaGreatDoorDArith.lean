/-
  The contracts of package decimal's sums and orders: rightScale, Right, raised, ofScale, Add, Sub, Neg, Compare: for every decimal.
-/
import Derived.Test.YtafmchgncahafaaGreatDoorMqDWide3
import Derived.Deep.RegionWith
import Derived.Deep.RegionHeld
import Derived.Deep.DrawnRows
namespace Go.Proofs.YtafmchgncahafaaGreatDoor
open Go.RowKit
attribute [local go_sem] cell?_more frozen?_more setCell_more more_lt more_drew more_drewN setCell_drewN alloc_drewN

/-- A decimal as a value. -/
abbrev dv (u s : Int) : Value := .agg #[.int .i64 u, .int .i64 s]
def rightS (s : Int) : Bool := decide (0 ≤ s ∧ s ≤ 6)
theorem rightS_iff (s : Int) : rightS s = true ↔ (0 ≤ s ∧ s ≤ 6) := by simp [rightS]
set_option maxHeartbeats 400000 in
theorem rightScale_any (s : Int) (w : World) : Calls Tryz.prog 100 #[.int .i64 s] w fun e w' => e = .returned (.bool (rightS s)) ∧ w = w' := by
  go_enter Tryz.func100, Tryz.ntmps100
  go_wp2
  all_goals go_ret
  all_goals refine ⟨ret_bool ?_, rfl⟩
  all_goals rw [Bool.eq_iff_iff, rightS_iff]
  all_goals simp
  all_goals omega

set_option maxHeartbeats 400000 in
theorem right_any (u s : Int) (w : World) : Calls Tryz.prog 86 #[dv u s] w fun e w' => e = .returned (.bool (rightS s)) ∧ Grew w w' := by
  go_enter Tryz.func86, Tryz.ntmps86
  go_wp2_with (go_at_call 100; refine (rightScale_any _ _).mono ?_; rintro e w' ⟨rfl, rfl⟩)
  go_ret
  exact ⟨rfl, (Grew.refl _).alloc _⟩

end Go.Proofs.YtafmchgncahafaaGreatDoor
