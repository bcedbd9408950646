/-
  The contracts of datum.Right and of what it calls.
-/
import Derived.Test.YtljkonkfeiojnaaGreatDoorVLogic
import Derived.Test.YtljkonkfeiojnaaGreatDoorDArith
import Derived.Deep.RegionWith
import Derived.Deep.RegionHeld
import Derived.Deep.RegionHeld2
import Derived.Shelf.Unicode.ValidAny
import Derived.Ground.NamesProg
import Derived.Shelf.Lay
set_option maxHeartbeats 1000000
namespace Go.Proofs.YtljkonkfeiojnaaGreatDoor
open Go.RowKit Go.Shelf
attribute [local go_sem] z0f z0b z0c z0e z0m z0k z0h z0d z0g
shelf_lay Lays.n196 Nm 196 at Tryz as Tryz.laysValid
def Tabs (w:World):Prop:=Lib.Utf8Tabs (Tryz.laysValid_ren.g 3) (Tryz.laysValid_ren.g 4) w
theorem eqVa (k n m k' n' m':Int) (b b':ByteArray) (w:World):(Op.equalIn 10000 44 (va k n m b) (va k' n' m' b')).run Tryz.prog w=.ok (k==k'&&(n==n'&&(m==m'&&b.toList==b'.toList))) w:=by
 have u3:=Tryz.underlying3
 have a3:=Tryz.isAgg3
 have z3:=Tryz.sizeOf3
 have u4:=Tryz.underlying9
 have a4:=Tryz.isAgg9
 have z4:=Tryz.sizeOf9
 have hS:Tryz.prog.underlying 44=some (.struct (Tryz.prog.fieldsOf 44)):=by kernel_rfl
 have hp:Tryz.prog.stoodInHeld 44=false:=by kernel_rfl
 rw [show (10000:Nat)=9999+1 from rfl,run_equalIn_agg w 9999 44 _ _ hS hp]
 simp only [Program.fieldsOf,Tryz.underlying44]
 go_simp
 by_cases h1:k=k' <;> by_cases h2:n=n' <;> by_cases h3:m=m' <;> by_cases h4:b.toList=b'.toList <;> simp [h1,h2,h3,h4]
def vnm (k n m:Int) (b:ByteArray):Value:=if k=1∨k=4 then va k n 0 ⟨#[]⟩ else if k=2∨k=5 then va k n m ⟨#[]⟩ else if k=3 then va k 0 0 b else va k 0 0 ⟨#[]⟩
theorem named_any (k n m:Int) (b:ByteArray) (w:World):Calls Tryz.prog 43 #[va k n m b] w fun e w'=>e=.returned (vnm k n m b)∧Grew w w':=by
 by_cases h1:k=1
 ·subst h1
  go_enter Tryz.func43,Tryz.ntmps43
  go_wp2
  refine bodyPost_ret_by (v:=va 1 n 0 ⟨#[]⟩) ?_ rfl ⟨by simp [vnm],?_⟩
  ·simp [results,Tryz.results43,go_sem]
  ·exact gA
 have c1:(k==1)=false:=by simpa using h1
 by_cases h4:k=4
 ·subst h4
  go_enter Tryz.func43,Tryz.ntmps43
  go_wp2
  refine bodyPost_ret_by (v:=va 4 n 0 ⟨#[]⟩) ?_ rfl ⟨by simp [vnm],?_⟩
  ·simp [results,Tryz.results43,go_sem]
  ·exact gA
 have c4:(k==4)=false:=by simpa using h4
 by_cases h2:k=2
 ·subst h2
  go_enter Tryz.func43,Tryz.ntmps43
  go_wp2
  refine bodyPost_ret_by (v:=va 2 n m ⟨#[]⟩) ?_ rfl ⟨by simp [vnm],?_⟩
  ·simp [results,Tryz.results43,go_sem]
  ·exact gA
 have c2:(k==2)=false:=by simpa using h2
 by_cases h5:k=5
 ·subst h5
  go_enter Tryz.func43,Tryz.ntmps43
  go_wp2
  refine bodyPost_ret_by (v:=va 5 n m ⟨#[]⟩) ?_ rfl ⟨by simp [vnm],?_⟩
  ·simp [results,Tryz.results43,go_sem]
  ·exact gA
 have c5:(k==5)=false:=by simpa using h5
 by_cases h3:k=3
 ·subst h3
  go_enter Tryz.func43,Tryz.ntmps43
  go_wp2
  refine bodyPost_ret_by (v:=va 3 0 0 b) ?_ rfl ⟨by simp [vnm],?_⟩
  ·simp [results,Tryz.results43,go_sem]
  ·exact gA
 have c3:(k==3)=false:=by simpa using h3
 go_enter Tryz.func43,Tryz.ntmps43
 go_wp2
 refine bodyPost_ret_by (v:=va k 0 0 ⟨#[]⟩) ?_ rfl ⟨by simp [vnm,h1,h2,h3,h4,h5],?_⟩
 ·simp [results,Tryz.results43,go_sem]
 ·exact gA
theorem z6w (k n m:Int) (b:ByteArray) (w:World):Calls Tryz.prog 47 #[va k n m b] w fun e w'=>e=.returned (dv n m)∧Grew w w':=by
 go_enter Tryz.func47,Tryz.ntmps47
 go_wp2
 refine bodyPost_ret_by (v:=dv n m) ?_ rfl ⟨rfl,?_⟩
 ·simp [results,Tryz.results47,go_sem]
 ·exact gA
theorem z3r (k n m:Int) (b:ByteArray) (w:World):Calls Tryz.prog 28 #[va k n m b] w fun e w'=>e=.returned (dv n m)∧Grew w w':=by
 go_enter Tryz.func28,Tryz.ntmps28
 go_wp2
 refine bodyPost_ret_by (v:=dv n m) ?_ rfl ⟨rfl,?_⟩
 ·simp [results,Tryz.results28,go_sem]
 ·exact gA
def ok1 (x:Int):Bool:=decide (-1048576≤x∧x≤1048576)
theorem gfits_any (n:Int) (w:World):Calls Tryz.prog 73 #[.int .i64 n] w fun e w'=>e=.returned (.bool (ok1 n))∧w=w':=by
 unfold ok1
 by_cases h1:-1048576≤n
 ·by_cases h2:n≤1048576
  ·have h3:decide (-1048576≤n∧n≤1048576)=true:=by simp [h1,h2]
   rw [h3]
   go_enter Tryz.func73,Tryz.ntmps73
   go_wp2
   all_goals go_ret
   all_goals exact ⟨rfl,rfl⟩
  ·have h3:decide (-1048576≤n∧n≤1048576)=false:=by simp [h2]
   rw [h3]
   go_enter Tryz.func73,Tryz.ntmps73
   go_wp2
   all_goals go_ret
   all_goals exact ⟨rfl,rfl⟩
 ·have h3:decide (-1048576≤n∧n≤1048576)=false:=by simp [h1]
  rw [h3]
  go_enter Tryz.func73,Tryz.ntmps73
  go_wp2
  all_goals go_ret
  all_goals exact ⟨rfl,rfl⟩
theorem gright_any (x y:Int) (w:World):Calls Tryz.prog 48 #[dv x y] w fun e w'=>e=.returned (.bool (ok1 x&&ok1 y))∧Grew w w':=by
 cases hx:ok1 x
 ·have X:∀ W,Calls Tryz.prog 73 #[.int .i64 x] W fun e w'=>e=.returned (.bool false)∧W=w':=fun W=>by have:=gfits_any x W;rwa [hx] at this
  clear hx
  go_enter Tryz.func48,Tryz.ntmps48
  go_wp2_with (go_at_call 73;refine (X _).mono ?_;rintro e w' ⟨rfl,rfl⟩)
  all_goals go_ret
  all_goals exact ⟨rfl,gA⟩
 ·have X:∀ W,Calls Tryz.prog 73 #[.int .i64 x] W fun e w'=>e=.returned (.bool true)∧W=w':=fun W=>by have:=gfits_any x W;rwa [hx] at this
  have Y:=fun W=>gfits_any y W
  generalize ok1 y=b at *
  clear hx
  go_enter Tryz.func48,Tryz.ntmps48
  go_wp2_with (first
   | (go_at_call_of 73 (Value.int IntKind.i64 x);refine (X _).mono ?_;rintro e w' ⟨rfl,rfl⟩)
   | (go_at_call 73;refine (Y _).mono ?_;rintro e w' ⟨rfl,rfl⟩))
  all_goals go_ret
  all_goals exact ⟨rfl,gA⟩
def vft (k n m:Int) (b:ByteArray):Bool :=
 if k=0∨k=1 then true else if k=2 then z0u m else if k=3 then decide (b.size≤256)&&Lib.validD b.data.toList
 else if k=4 then n==0 || n==1 else if k=5 then ok1 n&&ok1 m else false
theorem z0a {a b c:World} (h:Below a.heap.size a b) (k:Below b.heap.size b c):Below a.heap.size a c:=h.trans (k.mono h.size)
theorem Tabs.later {w w':World} (h:Tabs w) (hb:Below w.heap.size w w'):Tabs w':=Utf8Tabs_below h hb
theorem vfits_any (k n m:Int) (b:ByteArray) (w:World) (hT:Tabs w):Calls Tryz.prog 44 #[va k n m b] w fun e w'=>e=.returned (.bool (vft k n m b))∧Below w.heap.size w w':=by
 by_cases h0:k=0
 ·subst h0
  go_enter Tryz.func44,Tryz.ntmps44
  go_wp2
  all_goals go_ret
  all_goals exact ⟨by simp [vft],Grew.below gA⟩
 have c0:(k==0)=false:=by simpa using h0
 by_cases h1:k=1
 ·subst h1
  go_enter Tryz.func44,Tryz.ntmps44
  go_wp2
  all_goals go_ret
  all_goals exact ⟨by simp [vft],Grew.below gA⟩
 have c1:(k==1)=false:=by simpa using h1
 by_cases h2:k=2
 ·subst h2
  have U:=fun W=>z6w 2 n m b W
  have R:=fun W=>right_any n m W
  go_enter Tryz.func44,Tryz.ntmps44
  go_wp2_with (first
   | (go_at_call 47;refine (U _).mono ?_;rintro e w1 ⟨rfl,os1,n1,rfl⟩)
   | (go_at_call 69;refine (R _).mono ?_;rintro e w2 ⟨rfl,os2,n2,rfl⟩))
  all_goals go_ret
  all_goals exact ⟨by simp [vft],Grew.below gA⟩
 have c2:(k==2)=false:=by simpa using h2
 by_cases h3:k=3
 ·subst h3
  by_cases g0:b.size≤256
  ·have d0:(b.size:Int)≤256:=by omega
   have V:∀ W,Grew w W→_:=fun W (h:Grew w W)=>Any.utf8_ValidString Tryz.laysValid b W (by omega) (hT.later h.below)
   have V':∀ W,Grew w W→Calls Tryz.prog 70 #[.string b] W fun e w'=>e=.returned (.bool (Lib.validD b.data.toList))∧Below W.heap.size W w':=V
   clear V
   generalize hg:Lib.validD b.data.toList=g at V'
   clear hT
   go_enter Tryz.func44,Tryz.ntmps44
   go_wp2_with (go_at_call 70;refine (V' _ gA).mono ?_;rintro e w1 ⟨rfl,hb1⟩)
   all_goals go_ret
   all_goals refine ⟨by simp [vft,hg,g0],?_⟩
   all_goals exact z0a (Grew.below gA) hb1
  have d0:¬ (b.size:Int)≤256:=by omega
  go_enter Tryz.func44,Tryz.ntmps44
  go_wp2
  all_goals go_ret
  all_goals exact ⟨by simp [vft,g0],Grew.below gA⟩
 have c3:(k==3)=false:=by simpa using h3
 by_cases h4:k=4
 ·subst h4
  by_cases g0:n=0
  ·subst g0
   go_enter Tryz.func44,Tryz.ntmps44
   go_wp2
   all_goals go_ret
   all_goals exact ⟨by simp [vft],Grew.below gA⟩
  have d0:(n==0)=false:=by simpa using g0
  go_enter Tryz.func44,Tryz.ntmps44
  go_wp2
  all_goals go_ret
  all_goals exact ⟨by simp [vft,d0],Grew.below gA⟩
 have c4:(k==4)=false:=by simpa using h4
 by_cases h5:k=5
 ·subst h5
  have U:=fun W=>z3r 5 n m b W
  have R:=fun W=>gright_any n m W
  generalize hg:(ok1 n&&ok1 m)=g at R
  go_enter Tryz.func44,Tryz.ntmps44
  go_wp2_with (first
   | (go_at_call 28;refine (U _).mono ?_;rintro e w1 ⟨rfl,os1,n1,rfl⟩)
   | (go_at_call 48;refine (R _).mono ?_;rintro e w2 ⟨rfl,os2,n2,rfl⟩))
  all_goals go_ret
  all_goals exact ⟨by simp [vft,hg],Grew.below gA⟩
 have c5:(k==5)=false:=by simpa using h5
 go_enter Tryz.func44,Tryz.ntmps44
 go_wp2
 all_goals go_ret
 all_goals exact ⟨by simp [vft,h0,h1,h2,h3,h4,h5],Grew.below gA⟩
end Go.Proofs.YtljkonkfeiojnaaGreatDoor
