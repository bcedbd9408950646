/-
  The document's answers: Compare.
-/
import Derived.Test.YtibbenhplmmmiaaGreatDoorDRef7
import Derived.Test.YtibbenhplmmmiaaGreatDoorMMDRef6
import Derived.Test.YtibbenhplmmmiaaGreatDoorDNeg
import Derived.Test.YtibbenhplmmmiaaGreatDoorDRef8
import Derived.Deep.RegionWith
set_option maxHeartbeats 4000000
set_option maxRecDepth 5000
namespace Go.Proofs.YtibbenhplmmmiaaGreatDoor
open Go.RowKit
attribute [local go_sem] z0e z0b z0c z0f z0m z0k z0h z0d z0g
attribute [local go_sem high] cellMA frozenMA setMA cellMAM frozenMAM setMAM
theorem rcmp_good (ua sa ub sb:Int) (w:World) (ha:z0s sa=true) (hb:z0s sb=true) (a0:-9223372036854775808≤ua) (a1:ua≤9223372036854775807) (b0:-9223372036854775808≤ub) (b1:ub≤9223372036854775807) :
  Calls Tryz.prog 137 #[dv ua sa,dv ub sb] w fun e w'=>e=.returned (.int .i64 (at10 ua sa 6 - at10 ub sb 6).sign)∧Grew w w':=by
 have Ra:=fun W=>qz1cB ua sa W
 have Rb:=fun W=>qz1cB ub sb W
 rw [ha] at Ra
 rw [hb] at Rb
 rw [z0w] at ha hb
 have Sa:=fun W=>z3b ua sa 6 W a0 a1 (by omega) (by omega) (by omega)
 have Sb:=fun W=>z3b ub sb 6 W b0 b1 (by omega) (by omega) (by omega)
 clear a0 a1 b0 b1 ha hb
 generalize at10 ua sa 6=za at *
 generalize at10 ub sb 6=zb at *
 go_enter Tryz.func137,Tryz.ntmps137
 go_wp2_with fail
 refine (Ra _).mono ?_
 rintro e w' ⟨rfl,os,n,rfl⟩
 go_wp2_with fail
 refine (Rb _).mono ?_
 rintro e w' ⟨rfl,os',n',rfl⟩
 clear Ra Rb
 go_wp2_with fail
 refine (Sb _).mono ?_
 rintro e w2 ⟨q0,q1,q2,q3,q4,q5,rfl,lo2,hv2,bd2,os2,n2,rfl⟩
 have HN:=sval_not (decide (ub<0)) (val6 q0 q1 q2 q3 q4 q5)
 rw [hv2.out] at HN
 have HN2:Hid (sval (!decide (ub<0)) (val6 q0 q1 q2 q3 q4 q5)=-zb):=HN
 clear HN Sb
 go_wp2_with fail
 go_region_with (first
  | (go_at_call_of 188 (Value.int IntKind.i64 ua);refine (Sa _).mono ?_;rintro e w1 ⟨p0,p1,p2,p3,p4,p5,rfl,lo1,hv1,bd1,os1,n1,rfl⟩)
  | (go_at_call 195;refine (z6w p0 p1 p2 p3 p4 p5 q0 q1 q2 q3 q4 q5 _ _ _ lo1 lo2 (by have h1:=bd1.out;have h2:=bd2.out;omega)).mono ?_;rw [hv1.out,HN2.out];rintro e w3 ⟨r0,r1,r2,r3,r4,r5,s3,rfl,lo3,v3,os3,n3,rfl⟩))
 all_goals clear hv1 bd1 hv2 bd2 HN2
 all_goals
  go_wp2_with fail
  refine (zero_any r0 r1 r2 r3 r4 r5 s3 _).mono ?_
  by_cases hz:val6 r0 r1 r2 r3 r4 r5=0
  ·have hzd:decide (val6 r0 r1 r2 r3 r4 r5=0)=true:=by simp [hz]
   have hd:za+-zb=0:=by rw [← v3,hz,z5d]
   rw [hzd]
   rintro e w5 ⟨rfl,os5,n5,rfl⟩
   clear hz hzd v3 lo1 lo2 lo3
   go_wp2
   go_ret
   exact ⟨z5w (by rw [Int.sub_eq_add_neg,hd];rfl),gA⟩
  ·have hzd:decide (val6 r0 r1 r2 r3 r4 r5=0)=false:=by simp [hz]
   have hp:(0:Int)<(val6 r0 r1 r2 r3 r4 r5:Int):=by omega
   rw [hzd]
   rintro e w5 ⟨rfl,os5,n5,rfl⟩
   cases s3
   ·have hd:0<za+-zb:=by rw [← v3];exact hp
    clear hz hzd v3 lo1 lo2 lo3 hp
    go_wp2
    go_ret
    exact ⟨z5w (by rw [Int.sub_eq_add_neg,Int.sign_eq_one_of_pos hd]),gA⟩
   ·have hd:za+-zb<0:=by rw [← v3];simp only [sval];simp;omega
    clear hz hzd v3 lo1 lo2 lo3 hp
    go_wp2
    go_ret
    exact ⟨z5w (by rw [Int.sub_eq_add_neg,Int.sign_eq_neg_one_of_neg hd]),gA⟩
end Go.Proofs.YtibbenhplmmmiaaGreatDoor
