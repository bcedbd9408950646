/-
  AddInt and MulInt, the program's and the document's: the exact sum or product, if that is an int.
-/
import Derived.Test.YtibbenhplmmmiaaGreatDoorDRef4
import Derived.Test.YtibbenhplmmmiaaGreatDoorMMDRef6
import Derived.Test.YtibbenhplmmmiaaGreatDoorDInt0
set_option maxHeartbeats 1000000
namespace Go.Proofs.YtibbenhplmmmiaaGreatDoor
open Go.RowKit
attribute [local go_sem] z0e z0b z0c z0f z0m z0k z0h z0d z0g
theorem z3x (u q r:Nat) (h:u<18446744073709551616) (hq:q=u / 4294967296) (hr:r=u%4294967296):Low6 r q 0 0 0 0∧val6 r q 0 0 0 0=u:=by
 refine ⟨⟨by omega,by omega,by decide,by decide,by decide,by decide⟩,?_⟩
 unfold val6;omega
theorem raddInt_any (a b:Int) (w:World) (a0:-9223372036854775808≤a) (a1:a≤9223372036854775807) (b0:-9223372036854775808≤b) (b1:b≤9223372036854775807) :
  Calls Tryz.prog 248 #[.int .i64 a,.int .i64 b] w fun e w'=>e=.returned (ires (a+b))∧Grew w w':=by
 have A:=fun W=>z2m a _ _ _ W a0 a1 rfl rfl rfl
 have B:=fun W=>z2m b _ _ _ W b0 b1 rfl rfl rfl
 have la:=z3x a.natAbs _ _ (by omega) rfl rfl
 have lb:=z3x b.natAbs _ _ (by omega) rfl rfl
 have S:=fun W=>z6w _ _ _ _ _ _ _ _ _ _ _ _ (decide (a<0)) (decide (b<0)) W la.1 lb.1 (by rw [la.2,lb.2];omega)
 rw [la.2,lb.2,z3n,z3n] at S
 generalize a.natAbs%4294967296=ra at *
 generalize a.natAbs / 4294967296=qa at *
 generalize b.natAbs%4294967296=rb at *
 generalize b.natAbs / 4294967296=qb at *
 clear la lb a0 a1 b0 b1
 generalize a+b=z at *
 go_enter Tryz.func248,Tryz.ntmps248
 go_wp2_with fail
 refine (A _).mono ?_
 rintro e w1 ⟨rfl,os1,n1,rfl⟩
 go_wp2_with fail
 refine (B _).mono ?_
 rintro e w2 ⟨rfl,os2,n2,rfl⟩
 go_wp2_with fail
 refine (S _).mono ?_
 rintro e w3 ⟨o0,o1,o2,o3,o4,o5,s,rfl,lo,hv,os3,n3,rfl⟩
 have N:=fun W=>z2q o0 o1 o2 o3 o4 o5 s 0 W lo
 rw [hv] at N
 clear S hv lo A B
 go_wp2_with fail
 refine (N _).mono ?_
 rintro e w4 ⟨rfl,os4,n4,rfl⟩
 go_wp2
 refine bodyPost_ret_by (v:=ires z) ?_ (by rfl) ⟨rfl,gA⟩
 simp [results,Tryz.results248,go_sem]
theorem rmulInt_any (a b:Int) (w:World) (a0:-9223372036854775808≤a) (a1:a≤9223372036854775807) (b0:-9223372036854775808≤b) (b1:b≤9223372036854775807) :
  Calls Tryz.prog 247 #[.int .i64 a,.int .i64 b] w fun e w'=>e=.returned (ires (a*b))∧Grew w w':=by
 have A:=fun W=>z2m a _ _ _ W a0 a1 rfl rfl rfl
 have B:=fun W=>z2m b _ _ _ W b0 b1 rfl rfl rfl
 have la:=z3x a.natAbs _ _ (by omega) rfl rfl
 have lb:=z3x b.natAbs _ _ (by omega) rfl rfl
 have S:=fun W=>z5b _ _ _ _ _ _ _ _ _ _ _ _ (decide (a<0)) (decide (b<0)) W la.1 lb.1 (show Hid (0=0∧0=0∧0=0∧0=0) from ⟨rfl,rfl,rfl,rfl⟩) (show Hid (0=0∧0=0∧0=0∧0=0) from ⟨rfl,rfl,rfl,rfl⟩)
 have ea:a.natAbs%4294967296+4294967296*(a.natAbs / 4294967296)=a.natAbs:=by omega
 have eb:b.natAbs%4294967296+4294967296*(b.natAbs / 4294967296)=b.natAbs:=by omega
 rw [ea,eb] at S
 have hm:=y0d a b
 generalize a.natAbs%4294967296=ra at *
 generalize a.natAbs / 4294967296=qa at *
 generalize b.natAbs%4294967296=rb at *
 generalize b.natAbs / 4294967296=qb at *
 obtain ⟨z,hz⟩:∃ z,z=a*b:=⟨_,rfl⟩
 rw [← hz] at hm ⊢
 have HM:Hid (sval (decide (a<0) != decide (b<0)) (a.natAbs*b.natAbs)=z):=hm
 clear la lb a0 a1 b0 b1 ea eb hz hm
 go_enter Tryz.func247,Tryz.ntmps247
 go_wp2_with fail
 refine (A _).mono ?_
 rintro e w1 ⟨rfl,os1,n1,rfl⟩
 go_wp2_with fail
 refine (B _).mono ?_
 rintro e w2 ⟨rfl,os2,n2,rfl⟩
 go_wp2_with fail
 refine (S _).mono ?_
 rintro e w3 ⟨o0,o1,o2,o3,o4,o5,rfl,lo,hv,os3,n3,rfl⟩
 have N:=fun W=>z2q o0 o1 o2 o3 o4 o5 (decide (a<0) != decide (b<0)) 0 W lo
 rw [hv.out,HM.out] at N
 clear S hv lo A B HM
 go_wp2_with fail
 refine (N _).mono ?_
 rintro e w4 ⟨rfl,os4,n4,rfl⟩
 go_wp2
 refine bodyPost_ret_by (v:=ires z) ?_ (by rfl) ⟨rfl,gA⟩
 simp [results,Tryz.results247,go_sem]
end Go.Proofs.YtibbenhplmmmiaaGreatDoor
