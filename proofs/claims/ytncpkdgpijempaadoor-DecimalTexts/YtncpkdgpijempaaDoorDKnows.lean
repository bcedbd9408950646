/-
  The contract of longstoplaw02.knows: whatever lies in memory, it answers true, and nothing that was there has changed.
-/
import Derived.Test.YtncpkdgpijempaaDoorDDivs
import Derived.Test.YtncpkdgpijempaaDoorDShow
namespace Go.Proofs.YtncpkdgpijempaaDoor
open Go.RowKit
attribute [local go_sem] cell?_more frozen?_more setCell_more more_lt more_more more_drew more_drewN setCell_drewN alloc_drewN

theorem num_any (n : Int) (w : World) : Calls Tryd.prog 26 #[.int .i64 n] w fun e w' => e = .returned (.int .i64 n) ∧ w = w' := by
  go_enter Tryd.func26, Tryd.ntmps26
  go_wp2
  go_ret
  exact ⟨rfl, rfl⟩

theorem k1 : dres (dq 1 0 3 0 2) 2 = .tuple #[dv 33 2, .int .i64 0] := by
  have e : dq 1 0 3 0 2 = 33 := by decide +kernel
  rw [e]; rfl
theorem k2 : dres (dq 25 1 1 0 0) 0 = .tuple #[dv 2 0, .int .i64 0] := by
  have e : dq 25 1 1 0 0 = 2 := by decide +kernel
  rw [e]; rfl

set_option maxHeartbeats 2000000 in
theorem knows_any (w : World) (hP : Pw w) : Calls Tryd.prog 10 #[] w fun e w' => e = .returned (.bool true) ∧ Grew w w' := by
  have D : ∀ (W : World), Grew w W → _ := fun W (h : Grew w W) => div_good 1 0 3 0 2 W (hP.later h) rfl rfl rfl (by decide) (by decide) (by decide) (by decide) (by decide)
  have E : ∀ (W : World), Grew w W → _ := fun W (h : Grew w W) => rescale_good 25 1 0 W (hP.later h) rfl rfl (by decide) (by decide)
  rw [k1] at D
  rw [k2] at E
  clear hP
  go_enter Tryd.func10, Tryd.ntmps10
  go_wp2_with (first
    | (go_at_call 27; refine (D _ (by repeat (first | exact Grew.refl _ | apply Grew.drew | apply Grew.drewN | apply Grew.alloc | apply Grew.more))).mono ?_; rintro e w1 ⟨rfl, os1, n1, rfl⟩)
    | (go_at_call 28; refine (E _ (by repeat (first | exact Grew.refl _ | apply Grew.drew | apply Grew.drewN | apply Grew.alloc | apply Grew.more))).mono ?_; rintro e w2 ⟨rfl, os2, n2, rfl⟩)
    | (go_at_call 26; refine (num_any 0 _).mono ?_; rintro e w' ⟨rfl, rfl⟩)
    | (go_at_call_of 6 (Value.int IntKind.i64 33); refine (print_33 _).mono ?_; rintro e w3 ⟨rfl, os3, n3, rfl⟩)
    | (go_at_call 6; refine (print_2 _).mono ?_; rintro e w4 ⟨rfl, os4, n4, rfl⟩))
  go_ret
  refine ⟨rfl, ?_⟩
  repeat (first | exact Grew.refl _ | apply Grew.drew | apply Grew.drewN | apply Grew.alloc | apply Grew.more)
end Go.Proofs.YtncpkdgpijempaaDoor
