/-
  The contracts of decimal.Neg and of longstoplaw02.own.
-/
import Derived.Test.YtkfnmblfaaabkaaGreatDoorDSub
namespace Go.Proofs.YtkfnmblfaaabkaaGreatDoor
open Go.RowKit
attribute [local go_sem] cell?_more frozen?_more setCell_more more_lt more_more more_drew more_drewN setCell_drewN alloc_drewN

theorem at10_same (u s : Int) : at10 u s s = u := by simp [at10]

def negU (u s : Int) : Int := if rightS s then nz (-u) else 0
def negS (u s : Int) : Int := if rightS s then fs (-u) s else 0
def negE (u s : Int) : Int := if rightS s then nErr (-u) else 1

/-- What a negative without an error is. -/
theorem neg_ok (u s : Int) (h : negE u s = 0) : rightS s = true ∧ -9223372036854775808 ≤ -u ∧ -u ≤ 9223372036854775807 ∧ negU u s = -u ∧ negS u s = s := by
  unfold negE at h
  by_cases hr : rightS s = true
  · rw [if_pos hr] at h
    unfold nErr at h
    by_cases hf : fits (-u) = true
    · have hb := (fits_iff _).1 hf
      exact ⟨hr, hb.1, hb.2, by simp [negU, hr, nz, hf], by simp [negS, hr, fs, hf]⟩
    · rw [if_neg hf] at h
      exact absurd h (by decide)
  · rw [if_neg hr] at h
    exact absurd h (by decide)

end Go.Proofs.YtkfnmblfaaabkaaGreatDoor
