/-
  The contracts of decimal.Neg and of longstoplaw02.own.
-/
import Derived.Test.YtncpkdgpijempaaDoorDSub
namespace Go.Proofs.YtncpkdgpijempaaDoor
open Go.RowKit
attribute [local go_sem] cell?_more frozen?_more setCell_more more_lt more_more more_drew more_drewN setCell_drewN alloc_drewN

theorem at10_same (u s : Int) : at10 u s s = u := by simp [at10]

def negU (u s : Int) : Int := if rightS s then nz (-u) else 0
def negS (u s : Int) : Int := if rightS s then fs (-u) s else 0
def negE (u s : Int) : Int := if rightS s then nErr (-u) else 1

/-- What a negative without an error is. -/
theorem neg_ok (u s : Int) (h : negE u s = 0) : rightS s = true ∧ -9223372036854775808 ≤ -u ∧ -u ≤ 9223372036854775807 ∧ negU u s = -u ∧ negS u s = s := by
  unfold negE at h
  by_cases hr : rightS s = true
  · rw [if_pos hr] at h
    unfold nErr at h
    by_cases hf : fits (-u) = true
    · have hb := (fits_iff _).1 hf
      exact ⟨hr, hb.1, hb.2, by simp [negU, hr, nz, hf], by simp [negS, hr, fs, hf]⟩
    · rw [if_neg hf] at h
      exact absurd h (by decide)
  · rw [if_neg hr] at h
    exact absurd h (by decide)

set_option maxHeartbeats 1000000 in
theorem own_any (u s : Int) (w : World) : Calls Tryd.prog 7 #[dv u s] w fun e w' => e = .returned (dv u s) ∧ Grew w w' := by
  go_enter Tryd.func7, Tryd.ntmps7
  go_wp2
  refine bodyPost_ret_by (v := dv u s) ?_ rfl ⟨rfl, ?_⟩
  · simp [results, Tryd.results7, go_sem]
  · repeat (first | exact Grew.refl _ | apply Grew.drew | apply Grew.drewN | apply Grew.alloc | apply Grew.more)
end Go.Proofs.YtncpkdgpijempaaDoor
