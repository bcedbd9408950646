/-
  The document's answers: Add, Sub, Neg.
-/
import Derived.Test.YtibbenhplmmmiaaGreatDoorDRef7
import Derived.Test.YtibbenhplmmmiaaGreatDoorMMDRef6
import Derived.Test.YtibbenhplmmmiaaGreatDoorDNeg
import Derived.Deep.RegionHeld2
import Derived.Deep.RegionWith
set_option maxHeartbeats 4000000
set_option maxRecDepth 5000
namespace Go.Proofs.YtibbenhplmmmiaaGreatDoor
open Go.RowKit
attribute [local go_sem] z0e z0b z0c z0f z0m z0k z0h z0d z0g
attribute [local go_sem high] cellMA frozenMA setMA cellMAM frozenMAM setMAM
theorem sval_not (b:Bool) (m:Nat):sval (!b) m=- sval b m:=by cases b <;> simp [sval]
theorem radd_good (ua sa ub sb t:Int) (w:World) (ha:z0s sa=true) (hb:z0s sb=true) (ht:(t=sa∧sb≤sa)∨(t=sb∧sa<sb)) (a0:-9223372036854775808≤ua) (a1:ua≤9223372036854775807) (b0:-9223372036854775808≤ub) (b1:ub≤9223372036854775807) :
  Calls Tryz.prog 251 #[dv ua sa,dv ub sb] w fun e w'=>e=.returned (dres (at10 ua sa t+at10 ub sb t) t)∧Grew w w':=by
 have Ra:=fun W=>qz1cB ua sa W
 have Rb:=fun W=>qz1cB ub sb W
 rw [ha] at Ra
 rw [hb] at Rb
 rw [z0w] at ha hb
 have Sa:=fun W=>z3b ua sa t W a0 a1 (by omega) (by omega) (by omega)
 have Sb:=fun W=>z3b ub sb t W b0 b1 (by omega) (by omega) (by omega)
 clear a0 a1 b0 b1 ha hb
 rcases ht with ⟨rfl,h⟩|⟨rfl,h⟩
 ·generalize at10 ua t t=za at *
  generalize at10 ub sb t=zb at *
  go_enter Tryz.func251,Tryz.ntmps251
  go_wp2_with fail
  refine (Ra _).mono ?_
  rintro e w' ⟨rfl,os,n,rfl⟩
  go_wp2_with fail
  refine (Rb _).mono ?_
  rintro e w' ⟨rfl,os',n',rfl⟩
  clear Ra Rb
  go_wp2_with fail
  go_region_held2 (fun W=>W.cell? ⟨w.heap.size,0,none⟩=some (.int .i64 ua)∧W.cell? ⟨w.heap.size,1,none⟩=some (.int .i64 t)∧W.cell? ⟨w.heap.size+1,0,none⟩=some (.int .i64 ub)∧W.cell? ⟨w.heap.size+1,1,none⟩=some (.int .i64 sb)) (simp (maxDischargeDepth:=12) [go_sem])
   ((first
    | (go_at_call_of 188 (Value.int IntKind.i64 ua);refine (Sa _).mono ?_;rintro e w1 ⟨p0,p1,p2,p3,p4,p5,rfl,lo1,hv1,bd1,os1,n1,rfl⟩)
    | (go_at_call_of 188 (Value.int IntKind.i64 ub);refine (Sb _).mono ?_;rintro e w2 ⟨q0,q1,q2,q3,q4,q5,rfl,lo2,hv2,bd2,os2,n2,rfl⟩)
    | (go_at_call 195;refine (z6w p0 p1 p2 p3 p4 p5 q0 q1 q2 q3 q4 q5 _ _ _ lo1 lo2 (by have h1:=bd1.out;have h2:=bd2.out;omega)).mono ?_;rw [hv1.out,hv2.out];rintro e w3 ⟨r0,r1,r2,r3,r4,r5,s3,rfl,lo3,v3,os3,n3,rfl⟩)
    | (go_at_call 82;refine (z2q r0 r1 r2 r3 r4 r5 s3 _ _ lo3).mono ?_;rw [v3];rintro e w4 ⟨rfl,os4,n4,rfl⟩)))
  all_goals go_wp2_with fail
  all_goals refine bodyPost_ret_by (v:=dres _ _) ?_ rfl ⟨rfl,(by repeat (first | exact Grew.refl _ | apply Grew.drew | apply Grew.drewN | apply Grew.alloc | apply Grew.more))⟩
  all_goals simp [results,Tryz.results251,go_sem]
 ·generalize at10 ua sa t=za at *
  generalize at10 ub t t=zb at *
  go_enter Tryz.func251,Tryz.ntmps251
  go_wp2_with fail
  refine (Ra _).mono ?_
  rintro e w' ⟨rfl,os,n,rfl⟩
  go_wp2_with fail
  refine (Rb _).mono ?_
  rintro e w' ⟨rfl,os',n',rfl⟩
  clear Ra Rb
  go_wp2_with fail
  go_region_held2 (fun W=>W.cell? ⟨w.heap.size,0,none⟩=some (.int .i64 ua)∧W.cell? ⟨w.heap.size,1,none⟩=some (.int .i64 sa)∧W.cell? ⟨w.heap.size+1,0,none⟩=some (.int .i64 ub)∧W.cell? ⟨w.heap.size+1,1,none⟩=some (.int .i64 t)) (simp (maxDischargeDepth:=12) [go_sem])
   ((first
    | (go_at_call_of 188 (Value.int IntKind.i64 ua);refine (Sa _).mono ?_;rintro e w1 ⟨p0,p1,p2,p3,p4,p5,rfl,lo1,hv1,bd1,os1,n1,rfl⟩)
    | (go_at_call_of 188 (Value.int IntKind.i64 ub);refine (Sb _).mono ?_;rintro e w2 ⟨q0,q1,q2,q3,q4,q5,rfl,lo2,hv2,bd2,os2,n2,rfl⟩)
    | (go_at_call 195;refine (z6w p0 p1 p2 p3 p4 p5 q0 q1 q2 q3 q4 q5 _ _ _ lo1 lo2 (by have h1:=bd1.out;have h2:=bd2.out;omega)).mono ?_;rw [hv1.out,hv2.out];rintro e w3 ⟨r0,r1,r2,r3,r4,r5,s3,rfl,lo3,v3,os3,n3,rfl⟩)
    | (go_at_call 82;refine (z2q r0 r1 r2 r3 r4 r5 s3 _ _ lo3).mono ?_;rw [v3];rintro e w4 ⟨rfl,os4,n4,rfl⟩)))
  all_goals go_wp2_with fail
  all_goals refine bodyPost_ret_by (v:=dres _ _) ?_ rfl ⟨rfl,(by repeat (first | exact Grew.refl _ | apply Grew.drew | apply Grew.drewN | apply Grew.alloc | apply Grew.more))⟩
  all_goals simp [results,Tryz.results251,go_sem]
theorem rsub_bad (ua sa ub sb:Int) (w:World) (hr:(z0s sa&&z0s sb)=false) :
  Calls Tryz.prog 191 #[dv ua sa,dv ub sb] w fun e w'=>e=.returned (dBad 1)∧Grew w w':=by
 have Ra:=fun W=>qz1cB ua sa W
 have Rb:=fun W=>qz1cB ub sb W
 cases ha:z0s sa
 ·rw [ha] at Ra
  clear Rb hr ha
  go_enter Tryz.func191,Tryz.ntmps191
  go_wp2_with (go_at_call 89;refine (Ra _).mono ?_;rintro e w' ⟨rfl,os,n,rfl⟩)
  refine bodyPost_ret_by (v:=dBad 1) ?_ rfl ⟨rfl,(by repeat (first | exact Grew.refl _ | apply Grew.drew | apply Grew.drewN | apply Grew.alloc | apply Grew.more))⟩
  simp [results,Tryz.results191,go_sem]
 ·rw [ha] at Ra hr
  have hb:z0s sb=false:=by simpa using hr
  rw [hb] at Rb
  clear hb hr ha
  go_enter Tryz.func191,Tryz.ntmps191
  go_wp2_with fail
  refine (Ra _).mono ?_
  rintro e w' ⟨rfl,os,n,rfl⟩
  go_wp2_with fail
  refine (Rb _).mono ?_
  rintro e w' ⟨rfl,os',n',rfl⟩
  go_wp2
  refine bodyPost_ret_by (v:=dBad 1) ?_ rfl ⟨rfl,(by repeat (first | exact Grew.refl _ | apply Grew.drew | apply Grew.drewN | apply Grew.alloc | apply Grew.more))⟩
  simp [results,Tryz.results191,go_sem]
theorem rsub_good (ua sa ub sb t:Int) (w:World) (ha:z0s sa=true) (hb:z0s sb=true) (ht:(t=sa∧sb≤sa)∨(t=sb∧sa<sb)) (a0:-9223372036854775808≤ua) (a1:ua≤9223372036854775807) (b0:-9223372036854775808≤ub) (b1:ub≤9223372036854775807) :
  Calls Tryz.prog 191 #[dv ua sa,dv ub sb] w fun e w'=>e=.returned (dres (at10 ua sa t - at10 ub sb t) t)∧Grew w w':=by
 have Ra:=fun W=>qz1cB ua sa W
 have Rb:=fun W=>qz1cB ub sb W
 rw [ha] at Ra
 rw [hb] at Rb
 rw [z0w] at ha hb
 have Sa:=fun W=>z3b ua sa t W a0 a1 (by omega) (by omega) (by omega)
 have Sb:=fun W=>z3b ub sb t W b0 b1 (by omega) (by omega) (by omega)
 clear a0 a1 b0 b1 ha hb
 rcases ht with ⟨rfl,h⟩|⟨rfl,h⟩
 ·generalize at10 ua t t=za at *
  generalize at10 ub sb t=zb at *
  go_enter Tryz.func191,Tryz.ntmps191
  go_wp2_with fail
  refine (Ra _).mono ?_
  rintro e w' ⟨rfl,os,n,rfl⟩
  go_wp2_with fail
  refine (Rb _).mono ?_
  rintro e w' ⟨rfl,os',n',rfl⟩
  clear Ra Rb
  go_wp2_with fail
  refine (Sb _).mono ?_
  rintro e w2 ⟨q0,q1,q2,q3,q4,q5,rfl,lo2,hv2,bd2,os2,n2,rfl⟩
  have HN:=sval_not (decide (ub<0)) (val6 q0 q1 q2 q3 q4 q5)
  rw [hv2.out] at HN
  have HN2:Hid (sval (!decide (ub<0)) (val6 q0 q1 q2 q3 q4 q5)=-zb):=HN
  clear HN
  go_wp2_with fail
  clear Sb
  go_region_with (first
   | (go_at_call_of 188 (Value.int IntKind.i64 ua);refine (Sa _).mono ?_;rintro e w1 ⟨p0,p1,p2,p3,p4,p5,rfl,lo1,hv1,bd1,os1,n1,rfl⟩)
   | (go_at_call 195;refine (z6w p0 p1 p2 p3 p4 p5 q0 q1 q2 q3 q4 q5 _ _ _ lo1 lo2 (by have h1:=bd1.out;have h2:=bd2.out;omega)).mono ?_;rw [hv1.out,HN2.out];rintro e w3 ⟨r0,r1,r2,r3,r4,r5,s3,rfl,lo3,v3,os3,n3,rfl⟩)
   | (go_at_call 82;refine (z2q r0 r1 r2 r3 r4 r5 s3 _ _ lo3).mono ?_;rw [v3];rintro e w4 ⟨rfl,os4,n4,rfl⟩))
  all_goals go_wp2_with fail
  all_goals refine bodyPost_ret_by (v:=dres _ _) ?_ rfl ⟨by rw [Int.sub_eq_add_neg],(by repeat (first | exact Grew.refl _ | apply Grew.drew | apply Grew.drewN | apply Grew.alloc | apply Grew.more))⟩
  all_goals simp [results,Tryz.results191,go_sem]
 ·generalize at10 ua sa t=za at *
  generalize at10 ub t t=zb at *
  go_enter Tryz.func191,Tryz.ntmps191
  go_wp2_with fail
  refine (Ra _).mono ?_
  rintro e w' ⟨rfl,os,n,rfl⟩
  go_wp2_with fail
  refine (Rb _).mono ?_
  rintro e w' ⟨rfl,os',n',rfl⟩
  clear Ra Rb
  go_wp2_with fail
  refine (Sb _).mono ?_
  rintro e w2 ⟨q0,q1,q2,q3,q4,q5,rfl,lo2,hv2,bd2,os2,n2,rfl⟩
  have HN:=sval_not (decide (ub<0)) (val6 q0 q1 q2 q3 q4 q5)
  rw [hv2.out] at HN
  have HN2:Hid (sval (!decide (ub<0)) (val6 q0 q1 q2 q3 q4 q5)=-zb):=HN
  clear HN
  go_wp2_with fail
  clear Sb
  go_region_with (first
   | (go_at_call_of 188 (Value.int IntKind.i64 ua);refine (Sa _).mono ?_;rintro e w1 ⟨p0,p1,p2,p3,p4,p5,rfl,lo1,hv1,bd1,os1,n1,rfl⟩)
   | (go_at_call 195;refine (z6w p0 p1 p2 p3 p4 p5 q0 q1 q2 q3 q4 q5 _ _ _ lo1 lo2 (by have h1:=bd1.out;have h2:=bd2.out;omega)).mono ?_;rw [hv1.out,HN2.out];rintro e w3 ⟨r0,r1,r2,r3,r4,r5,s3,rfl,lo3,v3,os3,n3,rfl⟩)
   | (go_at_call 82;refine (z2q r0 r1 r2 r3 r4 r5 s3 _ _ lo3).mono ?_;rw [v3];rintro e w4 ⟨rfl,os4,n4,rfl⟩))
  all_goals go_wp2_with fail
  all_goals refine bodyPost_ret_by (v:=dres _ _) ?_ rfl ⟨by rw [Int.sub_eq_add_neg],(by repeat (first | exact Grew.refl _ | apply Grew.drew | apply Grew.drewN | apply Grew.alloc | apply Grew.more))⟩
  all_goals simp [results,Tryz.results191,go_sem]
theorem rneg_any (u s:Int) (w:World) (u0:-9223372036854775808≤u) (u1:u≤9223372036854775807) :
  Calls Tryz.prog 130 #[dv u s] w fun e w'=>e=.returned (.tuple #[dv (negU u s) (negS u s),.int .i64 (negE u s)])∧Grew w w':=by
 have S:∀ (W:World),Calls Tryz.prog 191 #[dv 0 s,dv u s] W fun e w'=>e=.returned (.tuple #[dv (negU u s) (negS u s),.int .i64 (negE u s)])∧Grew W w':=by
  intro W
  unfold negU negS negE
  by_cases h:z0s s=true
  ·rw [if_pos h,if_pos h,if_pos h]
   have:=rsub_good 0 s u s s W h h (.inl ⟨rfl,Int.le_refl _⟩) (by decide) (by decide) u0 u1
   rw [z8b,z8b,Int.zero_sub] at this
   exact this
  ·rw [if_neg h,if_neg h,if_neg h]
   exact rsub_bad 0 s u s W (by simp [h])
 clear u0 u1
 go_enter Tryz.func130,Tryz.ntmps130
 go_wp2_with (go_at_call 191;refine (S _).mono ?_;rintro e w' ⟨rfl,os,n,rfl⟩)
 refine bodyPost_ret_by (v:=.tuple #[dv (negU u s) (negS u s),.int .i64 (negE u s)]) ?_ rfl ⟨rfl,(by repeat (first | exact Grew.refl _ | apply Grew.drew | apply Grew.drewN | apply Grew.alloc | apply Grew.more))⟩
 simp [results,Tryz.results130,go_sem]
end Go.Proofs.YtibbenhplmmmiaaGreatDoor
