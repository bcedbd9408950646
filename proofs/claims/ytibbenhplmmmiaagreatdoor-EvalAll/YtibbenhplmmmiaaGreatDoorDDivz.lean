/-
  decimal.Div by 0.
-/
import Derived.Test.YtibbenhplmmmiaaGreatDoorDDivs
set_option maxHeartbeats 2000000
namespace Go.Proofs.YtibbenhplmmmiaaGreatDoor
open Go.RowKit
attribute [local go_sem] z0e z0b z0c z0f z0m z0k z0h z0d z0g
theorem div_zero (ua sa sb s:Int) (w:World) (ha:z0s sa=true) (hb:z0s sb=true) (hs:z0s s=true) :
  Calls Tryz.prog 166 #[dv ua sa,dv 0 sb,.int .i64 s] w fun e w'=>e=.returned (dBad 33)∧Grew w w':=by
 have Ra:=fun W=>right_any ua sa W
 have Rb:=fun W=>right_any 0 sb W
 have Rs:=fun W=>z2y s W
 rw [ha] at Ra
 rw [hb] at Rb
 rw [hs] at Rs
 clear ha hb hs
 go_enter Tryz.func166,Tryz.ntmps166
 go_wp2_with fail
 refine (Ra _).mono ?_
 rintro e w' ⟨rfl,os,n,rfl⟩
 go_wp2_with fail
 refine (Rb _).mono ?_
 rintro e w' ⟨rfl,os',n',rfl⟩
 go_wp2_with (go_at_call 215;refine (Rs _).mono ?_;rintro e w' ⟨rfl,rfl⟩)
 refine bodyPost_ret_by (v:=dBad 33) ?_ rfl ⟨rfl,gA⟩
 simp [results,Tryz.results166,go_sem]
end Go.Proofs.YtibbenhplmmmiaaGreatDoor
