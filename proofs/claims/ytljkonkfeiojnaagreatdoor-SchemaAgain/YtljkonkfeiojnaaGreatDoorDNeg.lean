/-
  The contracts of decimal.Neg and of longstoplaw02.own.
-/
import Derived.Test.YtljkonkfeiojnaaGreatDoorDSub
set_option maxHeartbeats 1000000
namespace Go.Proofs.YtljkonkfeiojnaaGreatDoor
open Go.RowKit
attribute [local go_sem] z0f z0b z0c z0e z0m z0k z0h z0d z0g
theorem at10_same (u s:Int):at10 u s s=u:=by simp [at10]
def negU (u s:Int):Int:=if z0u s then nz (-u) else 0
def negS (u s:Int):Int:=if z0u s then fs (-u) s else 0
def negE (u s:Int):Int:=if z0u s then nErr (-u) else 1
theorem neg_any (u s:Int) (w:World) (hP:Pw w) (u0:-9223372036854775808≤u) (u1:u≤9223372036854775807) :
  Calls Tryz.prog 153 #[dv u s] w fun e w'=>e=.returned (.tuple #[dv (negU u s) (negS u s),.int .i64 (negE u s)])∧Grew w w':=by
 have S:∀ (W:World),Grew w W→Calls Tryz.prog 164 #[dv 0 s,dv u s] W fun e w'=>e=.returned (.tuple #[dv (negU u s) (negS u s),.int .i64 (negE u s)])∧Grew W w':=by
  intro W hW
  unfold negU negS negE
  by_cases h:z0u s=true
  ·rw [if_pos h,if_pos h,if_pos h]
   have:=sub_good 0 s u s s W (hP.later hW) h h (.inl ⟨rfl,Int.le_refl _⟩) (by decide) (by decide) u0 u1
   rw [at10_same,at10_same,Int.zero_sub] at this
   exact this
  ·rw [if_neg h,if_neg h,if_neg h]
   exact sub_bad 0 s u s W (by simp [h])
 clear hP u0 u1
 go_enter Tryz.func153,Tryz.ntmps153
 go_wp2_with (go_at_call 164;refine (S _ gA).mono ?_;rintro e w' ⟨rfl,os,n,rfl⟩)
 refine bodyPost_ret_by (v:=.tuple #[dv (negU u s) (negS u s),.int .i64 (negE u s)]) ?_ rfl ⟨rfl,?_⟩
 ·simp [results,Tryz.results153,go_sem]
 ·exact gA
end Go.Proofs.YtljkonkfeiojnaaGreatDoor
