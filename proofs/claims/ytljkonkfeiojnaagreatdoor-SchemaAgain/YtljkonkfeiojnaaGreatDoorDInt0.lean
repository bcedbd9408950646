/-
  AddInt and MulInt of the program: the exact sum or product, if that is an int.
-/
import Derived.Test.YtljkonkfeiojnaaGreatDoorDArith
set_option maxHeartbeats 1000000
namespace Go.Proofs.YtljkonkfeiojnaaGreatDoor
open Go.RowKit
attribute [local go_sem] z0f z0b z0c z0e z0m z0k z0h z0d z0g
abbrev ires (z:Int):Value:=.tuple #[.int .i64 (nz z),.int .i64 (nErr z)]
theorem addInt_any (a b:Int) (w:World) (a0:-9223372036854775808≤a) (a1:a≤9223372036854775807) (b0:-9223372036854775808≤b) (b1:b≤9223372036854775807) :
  Calls Tryz.prog 158 #[.int .i64 a,.int .i64 b] w fun e w'=>e=.returned (ires (a+b))∧Grew w w':=by
 have S:=fun W=>sum_any (decide (a<0)) (decide (b<0)) 0 a.natAbs 0 b.natAbs W (by omega) (by omega) (by omega) (by omega)
 rw [Nat.zero_mul,Nat.zero_add,Nat.zero_add,z8u,z8u] at S
 generalize a+b=z at *
 go_enter Tryz.func158,Tryz.ntmps158
 go_wp2_with fail
 refine (z5b a _ a0 a1).mono ?_
 rintro e w1 ⟨rfl,os1,n1,rfl⟩
 go_wp2_with fail
 refine (z5b b _ b0 b1).mono ?_
 rintro e w2 ⟨rfl,os2,n2,rfl⟩
 clear a0 a1 b0 b1
 go_wp2_with fail
 refine (S _).mono ?_
 rintro e w3 ⟨s,h,l,rfl,hv,hl,hh,os3,n3,rfl⟩
 have N:=fun W=>z6n s h l W hl
 rw [hv] at N
 clear S hv hl hh
 go_wp2_with fail
 refine (N _).mono ?_
 rintro e w4 ⟨rfl,os4,n4,rfl⟩
 go_wp2
 refine bodyPost_ret_by (v:=ires z) ?_ (by rfl) ⟨rfl,gA⟩
 simp [results,Tryz.results158,go_sem]
theorem mulInt_any (a b:Int) (w:World) (a0:-9223372036854775808≤a) (a1:a≤9223372036854775807) (b0:-9223372036854775808≤b) (b1:b≤9223372036854775807) :
  Calls Tryz.prog 159 #[.int .i64 a,.int .i64 b] w fun e w'=>e=.returned (ires (a*b))∧Grew w w':=by
 have S:=fun W=>z5h a b W a0 a1 b0 b1
 generalize a*b=z at *
 clear a0 a1 b0 b1
 go_enter Tryz.func159,Tryz.ntmps159
 go_wp2_with fail
 refine (S _).mono ?_
 rintro e w3 ⟨s,h,l,rfl,hv,hl,hh,os3,n3,rfl⟩
 have N:=fun W=>z6n s h l W hl
 rw [hv] at N
 clear S hv hl hh
 go_wp2_with fail
 refine (N _).mono ?_
 rintro e w4 ⟨rfl,os4,n4,rfl⟩
 go_wp2
 refine bodyPost_ret_by (v:=ires z) ?_ (by rfl) ⟨rfl,gA⟩
 simp [results,Tryz.results159,go_sem]
end Go.Proofs.YtljkonkfeiojnaaGreatDoor
