/-
  The contract of longstoplaw02.knows: whatever lies in memory, it answers true, and nothing that was there has changed.
-/
import Derived.Test.YtfbkakchaabgeaaDoorDDivs
import Derived.Test.YtfbkakchaabgeaaDoorDShow
namespace Go.Proofs.YtfbkakchaabgeaaDoor
open Go.RowKit
attribute [local go_sem] cell?_more frozen?_more setCell_more more_lt more_more more_drew more_drewN setCell_drewN alloc_drewN

theorem num_any (n : Int) (w : World) : Calls Tryd.prog 36 #[.int .i64 n] w fun e w' => e = .returned (.int .i64 n) ∧ w = w' := by
  go_enter Tryd.func36, Tryd.ntmps36
  go_wp2
  go_ret
  exact ⟨rfl, rfl⟩

theorem k1 : dres (dq 1 0 3 0 2) 2 = .tuple #[dv 33 2, .int .i64 0] := by
  have e : dq 1 0 3 0 2 = 33 := by decide +kernel
  rw [e]; rfl
theorem k2 : dres (dq 25 1 1 0 0) 0 = .tuple #[dv 2 0, .int .i64 0] := by
  have e : dq 25 1 1 0 0 = 2 := by decide +kernel
  rw [e]; rfl

set_option maxHeartbeats 2000000 in
theorem knows_any (w : World) (hP : Pw w) : Calls Tryd.prog 21 #[] w fun e w' => e = .returned (.bool true) ∧ Grew w w' := by
  have D : ∀ (W : World), Grew w W → _ := fun W (h : Grew w W) => div_good 1 0 3 0 2 W (hP.later h) rfl rfl rfl (by decide) (by decide) (by decide) (by decide) (by decide)
  have E : ∀ (W : World), Grew w W → _ := fun W (h : Grew w W) => rescale_good 25 1 0 W (hP.later h) rfl rfl (by decide) (by decide)
  rw [k1] at D
  rw [k2] at E
  clear hP
  go_enter Tryd.func21, Tryd.ntmps21
  go_wp2_with (first
    | (go_at_call 24; refine (D _ (by repeat (first | exact Grew.refl _ | apply Grew.drew | apply Grew.drewN | apply Grew.alloc | apply Grew.more))).mono ?_; rintro e w1 ⟨rfl, os1, n1, rfl⟩)
    | (go_at_call 26; refine (E _ (by repeat (first | exact Grew.refl _ | apply Grew.drew | apply Grew.drewN | apply Grew.alloc | apply Grew.more))).mono ?_; rintro e w2 ⟨rfl, os2, n2, rfl⟩)
    | (go_at_call 36; refine (num_any 0 _).mono ?_; rintro e w' ⟨rfl, rfl⟩)
    | (go_at_call_of 30 (Value.int IntKind.i64 33); refine (print_33 _).mono ?_; rintro e w3 ⟨rfl, os3, n3, rfl⟩)
    | (go_at_call 30; refine (print_2 _).mono ?_; rintro e w4 ⟨rfl, os4, n4, rfl⟩))
  go_ret
  refine ⟨rfl, ?_⟩
  repeat (first | exact Grew.refl _ | apply Grew.drew | apply Grew.drewN | apply Grew.alloc | apply Grew.more)
end Go.Proofs.YtfbkakchaabgeaaDoor
