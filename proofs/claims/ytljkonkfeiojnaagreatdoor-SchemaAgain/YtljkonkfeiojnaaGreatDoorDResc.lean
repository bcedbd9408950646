/-
  decimal.Rescale in one contract, and what it reckons: exact to a greater scale, as near as can be to a lesser one.
-/
import Derived.Test.YtljkonkfeiojnaaGreatDoorDDivs
import Derived.Test.YtljkonkfeiojnaaGreatDoorDPower
namespace Go.Proofs.YtljkonkfeiojnaaGreatDoor
open Go.RowKit
def rU (u s t:Int):Int:=if (z0u s&&z0u t)=true then nz (dq u s 1 0 t) else 0
def rS (u s t:Int):Int:=if (z0u s&&z0u t)=true then fs (dq u s 1 0 t) t else 0
def rE (u s t:Int):Int:=if (z0u s&&z0u t)=true then nErr (dq u s 1 0 t) else 1
theorem rescale_any (u s t:Int) (w:World) (hP:Pw w) (a0:-9223372036854775808≤u) (a1:u≤9223372036854775807) :
  Calls Tryz.prog 57 #[dv u s,.int .i64 t] w fun e w'=>e=.returned (.tuple #[dv (rU u s t) (rS u s t),.int .i64 (rE u s t)])∧Grew w w':=by
 unfold rU rS rE
 by_cases h:(z0u s&&z0u t)=true
 ·rw [if_pos h,if_pos h,if_pos h]
  have h':=Bool.and_eq_true_iff.1 h
  exact rescale_good u s t w hP h'.1 h'.2 a0 a1
 ·rw [if_neg h,if_neg h,if_neg h]
  exact rescale_bad u s t w (by simpa using h)
theorem rescale_ok (u s t:Int) (h:rE u s t=0):z0u s=true∧z0u t=true∧-9223372036854775808≤dq u s 1 0 t∧dq u s 1 0 t≤9223372036854775807∧rU u s t=dq u s 1 0 t∧rS u s t=t:=by
 unfold rE at h
 by_cases hr:(z0u s&&z0u t)=true
 ·rw [if_pos hr] at h
  have h':=Bool.and_eq_true_iff.1 hr
  unfold nErr at h
  by_cases hf:fits (dq u s 1 0 t)=true
  ·have hb:=(z5s _).1 hf
   refine ⟨h'.1,h'.2,hb.1,hb.2,?_,?_⟩
   ·unfold rU nz;rw [if_pos hr,if_pos hf]
   ·unfold rS fs;rw [if_pos hr,if_pos hf]
  ·rw [if_neg hf] at h
   exact absurd h (by decide)
 ·rw [if_neg hr] at h
  exact absurd h (by decide)
theorem rq_one (n:Int):rq n 1=n:=by
 have:rq n 1=sval (decide (n<0)) (rnd n.natAbs 1):=by simp [rq]
 rw [this,rnd_one,z8u]
end Go.Proofs.YtljkonkfeiojnaaGreatDoor
