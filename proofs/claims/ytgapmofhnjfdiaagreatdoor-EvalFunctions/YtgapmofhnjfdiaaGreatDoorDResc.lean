/-
  decimal.Rescale in one contract, and what it reckons: exact to a greater scale, as near as can be to a lesser one.
-/
import Derived.Test.YtgapmofhnjfdiaaGreatDoorDDivs
import Derived.Test.YtgapmofhnjfdiaaGreatDoorDPower
namespace Go.Proofs.YtgapmofhnjfdiaaGreatDoor
open Go.RowKit

def rU (u s t : Int) : Int := if (rightS s && rightS t) = true then nz (dq u s 1 0 t) else 0
def rS (u s t : Int) : Int := if (rightS s && rightS t) = true then fs (dq u s 1 0 t) t else 0
def rE (u s t : Int) : Int := if (rightS s && rightS t) = true then nErr (dq u s 1 0 t) else 1

theorem rescale_any (u s t : Int) (w : World) (hP : Pw w) (a0 : -9223372036854775808 ≤ u) (a1 : u ≤ 9223372036854775807) :
    Calls Tryz.prog 204 #[dv u s, .int .i64 t] w fun e w' => e = .returned (.tuple #[dv (rU u s t) (rS u s t), .int .i64 (rE u s t)]) ∧ Grew w w' := by
  unfold rU rS rE
  by_cases h : (rightS s && rightS t) = true
  · rw [if_pos h, if_pos h, if_pos h]
    have h' := Bool.and_eq_true_iff.1 h
    exact rescale_good u s t w hP h'.1 h'.2 a0 a1
  · rw [if_neg h, if_neg h, if_neg h]
    exact rescale_bad u s t w (by simpa using h)

theorem rq_one (n : Int) : rq n 1 = n := by
  have : rq n 1 = sval (decide (n < 0)) (rnd n.natAbs 1) := by simp [rq]
  rw [this, rnd_one, sval_of]
theorem dq_up (u s t : Int) (h : s ≤ t) : dq u s 1 0 t = u * (10 ^ (t - s).toNat : Nat) := by
  unfold dq
  rw [if_pos (by omega), rq_one, Int.add_zero]
theorem dq_down (u s t : Int) (h : ¬ s ≤ t) : dq u s 1 0 t = rq u (10 ^ (s - t).toNat : Nat) := by
  unfold dq
  rw [if_neg (by omega), Int.one_mul, Int.add_zero]

end Go.Proofs.YtgapmofhnjfdiaaGreatDoor
