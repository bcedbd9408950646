/-
  The contracts of datum's truths: And, Or, Not, Of, and the document's.
-/
import Derived.Test.YtljkonkfeiojnaaGreatDoorProg
import Derived.WalkKit
import Derived.WalkMore
import Derived.WalkSpells
import Derived.WalkLawsBesides
import Derived.RowKit
import Derived.Below
import Derived.Test.YtljkonkfeiojnaaGreatDoorVMath
import Derived.Test.YtljkonkfeiojnaaGreatDoorMeDWide3
namespace Go.Proofs.YtljkonkfeiojnaaGreatDoor
open Go.RowKit
attribute [local go_sem] z0f z0b z0c z0e z0m z0k z0h z0d z0g
def tand (a b:Int):Int:=if a=0∨b=0 then 0 else if a=1∧b=1 then 1 else 2
def tnot (a:Int):Int:=if a=0 then 1 else if a=1 then 0 else 2
def tor (a b:Int):Int:=if a=1∨b=1 then 1 else if a=0∧b=0 then 0 else 2
theorem tor_eq (a b:Int):tnot (tand (tnot a) (tnot b))=tor a b:=by
 unfold tnot tand tor
 by_cases h0:a=0 <;> by_cases h1:a=1 <;> by_cases g0:b=0 <;> by_cases g1:b=1 <;> simp_all
theorem and_any (a b:Int) (w:World):Calls Tryz.prog 156 #[.int .i64 a,.int .i64 b] w fun e w'=>e=.returned (.int .i64 (tand a b))∧w=w':=by
 by_cases a0:a=0
 ·subst a0
  by_cases b0:b=0
  ·subst b0
   rw [show tand 0 0=0 by (unfold tand;repeat' split) <;> omega]
   go_enter Tryz.func156,Tryz.ntmps156
   go_wp2
   all_goals go_ret
   all_goals exact ⟨rfl,rfl⟩
  have d0:(b==0)=false:=by simpa using b0
  by_cases b1:b=1
  ·subst b1
   rw [show tand 0 1=0 by (unfold tand;repeat' split) <;> omega]
   go_enter Tryz.func156,Tryz.ntmps156
   go_wp2
   all_goals go_ret
   all_goals exact ⟨rfl,rfl⟩
  have d1:(b==1)=false:=by simpa using b1
  rw [show tand 0 b=0 by (unfold tand;repeat' split) <;> omega]
  go_enter Tryz.func156,Tryz.ntmps156
  go_wp2
  all_goals go_ret
  all_goals exact ⟨rfl,rfl⟩
 have c0:(a==0)=false:=by simpa using a0
 by_cases a1:a=1
 ·subst a1
  by_cases b0:b=0
  ·subst b0
   rw [show tand 1 0=0 by (unfold tand;repeat' split) <;> omega]
   go_enter Tryz.func156,Tryz.ntmps156
   go_wp2
   all_goals go_ret
   all_goals exact ⟨rfl,rfl⟩
  have d0:(b==0)=false:=by simpa using b0
  by_cases b1:b=1
  ·subst b1
   rw [show tand 1 1=1 by (unfold tand;repeat' split) <;> omega]
   go_enter Tryz.func156,Tryz.ntmps156
   go_wp2
   all_goals go_ret
   all_goals exact ⟨rfl,rfl⟩
  have d1:(b==1)=false:=by simpa using b1
  rw [show tand 1 b=2 by (unfold tand;repeat' split) <;> omega]
  go_enter Tryz.func156,Tryz.ntmps156
  go_wp2
  all_goals go_ret
  all_goals exact ⟨rfl,rfl⟩
 have c1:(a==1)=false:=by simpa using a1
 by_cases b0:b=0
 ·subst b0
  rw [show tand a 0=0 by (unfold tand;repeat' split) <;> omega]
  go_enter Tryz.func156,Tryz.ntmps156
  go_wp2
  all_goals go_ret
  all_goals exact ⟨rfl,rfl⟩
 have d0:(b==0)=false:=by simpa using b0
 by_cases b1:b=1
 ·subst b1
  rw [show tand a 1=2 by (unfold tand;repeat' split) <;> omega]
  go_enter Tryz.func156,Tryz.ntmps156
  go_wp2
  all_goals go_ret
  all_goals exact ⟨rfl,rfl⟩
 have d1:(b==1)=false:=by simpa using b1
 rw [show tand a b=2 by (unfold tand;repeat' split) <;> omega]
 go_enter Tryz.func156,Tryz.ntmps156
 go_wp2
 all_goals go_ret
 all_goals exact ⟨rfl,rfl⟩
theorem not_any (a:Int) (w:World):Calls Tryz.prog 150 #[.int .i64 a] w fun e w'=>e=.returned (.int .i64 (tnot a))∧w=w':=by
 by_cases a0:a=0
 ·subst a0
  rw [show tnot 0=1 by (unfold tnot;repeat' split) <;> omega]
  go_enter Tryz.func150,Tryz.ntmps150
  go_wp2
  all_goals go_ret
  all_goals exact ⟨rfl,rfl⟩
 have c0:(a==0)=false:=by simpa using a0
 by_cases a1:a=1
 ·subst a1
  rw [show tnot 1=0 by (unfold tnot;repeat' split) <;> omega]
  go_enter Tryz.func150,Tryz.ntmps150
  go_wp2
  all_goals go_ret
  all_goals exact ⟨rfl,rfl⟩
 have c1:(a==1)=false:=by simpa using a1
 rw [show tnot a=2 by (unfold tnot;repeat' split) <;> omega]
 go_enter Tryz.func150,Tryz.ntmps150
 go_wp2
 all_goals go_ret
 all_goals exact ⟨rfl,rfl⟩
theorem or_any (a b:Int) (w:World):Calls Tryz.prog 157 #[.int .i64 a,.int .i64 b] w fun e w'=>e=.returned (.int .i64 (tor a b))∧w=w':=by
 rw [← tor_eq]
 go_enter Tryz.func157,Tryz.ntmps157
 go_wp2_with fail
 refine (not_any a _).mono ?_
 rintro e w' ⟨rfl,rfl⟩
 go_wp2_with fail
 refine (not_any b _).mono ?_
 rintro e w' ⟨rfl,rfl⟩
 go_wp2_with fail
 refine (and_any _ _ _).mono ?_
 rintro e w' ⟨rfl,rfl⟩
 go_wp2_with fail
 refine (not_any _ _).mono ?_
 rintro e w' ⟨rfl,rfl⟩
 go_wp2
 go_ret
 exact ⟨rfl,rfl⟩
abbrev va (k n m:Int) (b:ByteArray):Value:=.agg #[.int .i64 k,.int .i64 n,.int .i64 m,.string b]
def vof (a:Int):Value:=if a=0∨a=1 then va 4 a 0 ⟨#[]⟩ else va 0 0 0 ⟨#[]⟩
theorem of_any (a:Int) (w:World):Calls Tryz.prog 63 #[.int .i64 a] w fun e w'=>e=.returned (vof a)∧Grew w w':=by
 by_cases a0:a=0
 ·subst a0
  rw [show vof 0=va 4 0 0 ⟨#[]⟩ by simp [vof]]
  go_enter Tryz.func63,Tryz.ntmps63
  go_wp2
  refine bodyPost_ret_by (v:=va 4 0 0 ⟨#[]⟩) ?_ rfl ⟨rfl,?_⟩
  ·simp [results,Tryz.results63,go_sem]
  ·exact gA
 have c0:(a==0)=false:=by simpa using a0
 by_cases a1:a=1
 ·subst a1
  rw [show vof 1=va 4 1 0 ⟨#[]⟩ by simp [vof]]
  go_enter Tryz.func63,Tryz.ntmps63
  go_wp2
  refine bodyPost_ret_by (v:=va 4 1 0 ⟨#[]⟩) ?_ rfl ⟨rfl,?_⟩
  ·simp [results,Tryz.results63,go_sem]
  ·exact gA
 have c1:(a==1)=false:=by simpa using a1
 rw [show vof a=va 0 0 0 ⟨#[]⟩ by simp [vof,a0,a1]]
 go_enter Tryz.func63,Tryz.ntmps63
 go_wp2
 refine bodyPost_ret_by (v:=va 0 0 0 ⟨#[]⟩) ?_ rfl ⟨rfl,?_⟩
 ·simp [results,Tryz.results63,go_sem]
 ·exact gA
end Go.Proofs.YtljkonkfeiojnaaGreatDoor
