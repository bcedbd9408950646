/-
  decimal.Div by 0.
-/
import Derived.Test.YtclhmmgdhagloaaGreatDoorDDivs
namespace Go.Proofs.YtclhmmgdhagloaaGreatDoor
open Go.RowKit
attribute [local go_sem] cell?_more frozen?_more setCell_more more_lt more_more more_drew more_drewN setCell_drewN alloc_drewN

set_option maxHeartbeats 2000000 in
theorem div_zero (ua sa sb s : Int) (w : World) (ha : rightS sa = true) (hb : rightS sb = true) (hs : rightS s = true) :
    Calls Tryz.prog 153 #[dv ua sa, dv 0 sb, .int .i64 s] w fun e w' => e = .returned (dBad 33) ∧ Grew w w' := by
  have Ra := fun W => right_any ua sa W
  have Rb := fun W => right_any 0 sb W
  have Rs := fun W => rightScale_any s W
  rw [ha] at Ra
  rw [hb] at Rb
  rw [hs] at Rs
  clear ha hb hs
  go_enter Tryz.func153, Tryz.ntmps153
  go_wp2_with fail
  refine (Ra _).mono ?_
  rintro e w' ⟨rfl, os, n, rfl⟩
  go_wp2_with fail
  refine (Rb _).mono ?_
  rintro e w' ⟨rfl, os', n', rfl⟩
  go_wp2_with (go_at_call 213; refine (Rs _).mono ?_; rintro e w' ⟨rfl, rfl⟩)
  refine bodyPost_ret_by (v := dBad 33) ?_ rfl ⟨rfl, (by repeat (first | exact Grew.refl _ | apply Grew.drew | apply Grew.drewN | apply Grew.alloc | apply Grew.more))⟩
  simp [results, Tryz.results153, go_sem]
end Go.Proofs.YtclhmmgdhagloaaGreatDoor
