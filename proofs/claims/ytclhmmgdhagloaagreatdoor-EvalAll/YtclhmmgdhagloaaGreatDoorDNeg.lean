/-
  The contracts of decimal.Neg and of longstoplaw02.own.
-/
import Derived.Test.YtclhmmgdhagloaaGreatDoorDSub
namespace Go.Proofs.YtclhmmgdhagloaaGreatDoor
open Go.RowKit
attribute [local go_sem] cell?_more frozen?_more setCell_more more_lt more_more more_drew more_drewN setCell_drewN alloc_drewN

theorem at10_same (u s : Int) : at10 u s s = u := by simp [at10]

def negU (u s : Int) : Int := if rightS s then nz (-u) else 0
def negS (u s : Int) : Int := if rightS s then fs (-u) s else 0
def negE (u s : Int) : Int := if rightS s then nErr (-u) else 1

set_option maxHeartbeats 1000000 in
theorem neg_any (u s : Int) (w : World) (hP : Pw w) (u0 : -9223372036854775808 ≤ u) (u1 : u ≤ 9223372036854775807) :
    Calls Tryz.prog 223 #[dv u s] w fun e w' => e = .returned (.tuple #[dv (negU u s) (negS u s), .int .i64 (negE u s)]) ∧ Grew w w' := by
  have S : ∀ (W : World), Grew w W → Calls Tryz.prog 151 #[dv 0 s, dv u s] W fun e w' => e = .returned (.tuple #[dv (negU u s) (negS u s), .int .i64 (negE u s)]) ∧ Grew W w' := by
    intro W hW
    unfold negU negS negE
    by_cases h : rightS s = true
    · rw [if_pos h, if_pos h, if_pos h]
      have := sub_good 0 s u s s W (hP.later hW) h h (.inl ⟨rfl, Int.le_refl _⟩) (by decide) (by decide) u0 u1
      rw [at10_same, at10_same, Int.zero_sub] at this
      exact this
    · rw [if_neg h, if_neg h, if_neg h]
      exact sub_bad 0 s u s W (by simp [h])
  clear hP u0 u1
  go_enter Tryz.func223, Tryz.ntmps223
  go_wp2_with (go_at_call 151; refine (S _ (by repeat (first | exact Grew.refl _ | apply Grew.drew | apply Grew.drewN | apply Grew.alloc | apply Grew.more))).mono ?_; rintro e w' ⟨rfl, os, n, rfl⟩)
  refine bodyPost_ret_by (v := .tuple #[dv (negU u s) (negS u s), .int .i64 (negE u s)]) ?_ rfl ⟨rfl, ?_⟩
  · simp [results, Tryz.results223, go_sem]
  · repeat (first | exact Grew.refl _ | apply Grew.drew | apply Grew.drewN | apply Grew.alloc | apply Grew.more)

end Go.Proofs.YtclhmmgdhagloaaGreatDoor
