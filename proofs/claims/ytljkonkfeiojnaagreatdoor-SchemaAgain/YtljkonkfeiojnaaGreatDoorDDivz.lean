/-
  decimal.Div by 0.
-/
import Derived.Test.YtljkonkfeiojnaaGreatDoorDDivs
set_option maxHeartbeats 2000000
namespace Go.Proofs.YtljkonkfeiojnaaGreatDoor
open Go.RowKit
attribute [local go_sem] z0f z0b z0c z0e z0m z0k z0h z0d z0g
theorem div_zero (ua sa sb s:Int) (w:World) (ha:z0u sa=true) (hb:z0u sb=true) (hs:z0u s=true) :
  Calls Tryz.prog 80 #[dv ua sa,dv 0 sb,.int .i64 s] w fun e w'=>e=.returned (dBad 33)∧Grew w w':=by
 have Ra:=fun W=>right_any ua sa W
 have Rb:=fun W=>right_any 0 sb W
 have Rs:=fun W=>z3b s W
 rw [ha] at Ra
 rw [hb] at Rb
 rw [hs] at Rs
 clear ha hb hs
 go_enter Tryz.func80,Tryz.ntmps80
 go_wp2_with fail
 refine (Ra _).mono ?_
 rintro e w' ⟨rfl,os,n,rfl⟩
 go_wp2_with fail
 refine (Rb _).mono ?_
 rintro e w' ⟨rfl,os',n',rfl⟩
 go_wp2_with (go_at_call 94;refine (Rs _).mono ?_;rintro e w' ⟨rfl,rfl⟩)
 refine bodyPost_ret_by (v:=dBad 33) ?_ rfl ⟨rfl,gA⟩
 simp [results,Tryz.results80,go_sem]
end Go.Proofs.YtljkonkfeiojnaaGreatDoor
