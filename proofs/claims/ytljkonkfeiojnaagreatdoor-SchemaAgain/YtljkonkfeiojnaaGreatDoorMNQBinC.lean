/-
  What ops of one and of two come to, as plain data.
  A scope whose gotos are followed one by one, at most n of them: the walk goes on at the label. Nothing of the program is in it.
  The smallest functions of package eval.
  What a call gives in every later world; three boxes.
  eval.Binary, path by path: from kind to kind.
-/
import Derived.Test.YtljkonkfeiojnaaGreatDoorVMath
import Derived.Test.YtljkonkfeiojnaaGreatDoorMeDWide3
import Derived.Test.YtljkonkfeiojnaaGreatDoorMLHFloat
import Derived.Test.YtljkonkfeiojnaaGreatDoorMBVKeyB
import Derived.Test.YtljkonkfeiojnaaGreatDoorVCmp2
import Derived.Test.YtljkonkfeiojnaaGreatDoorDDivs
import Derived.Test.YtljkonkfeiojnaaGreatDoorMMHTurn
import Derived.Test.YtljkonkfeiojnaaGreatDoorMaLJumps
set_option maxHeartbeats 4000000
set_option maxRecDepth 20000
namespace Go.Proofs.YtljkonkfeiojnaaGreatDoor
def nul:Va:=⟨0,0,0,[]⟩
def vI (z:Int):Va:=⟨1,z,0,[]⟩
def vD (u s:Int):Va:=⟨2,u,s,[]⟩
def vT (l:List UInt8):Va:=⟨3,0,0,l⟩
def vB (b:Bool):Va:=⟨4,if b then 1 else 0,0,[]⟩
def vP (x y:Int):Va:=⟨5,x,y,[]⟩
def vO (t:Int):Va:=if t=0∨t=1 then ⟨4,t,0,[]⟩ else nul
abbrev rs (r:Va × Int):Value:=.tuple #[vv r.1,.int .i64 r.2]
def z1e (z e:Int):Va × Int:=if e=0 then (vI z,0) else (nul,e)
def z5g (u s e:Int):Va × Int:=if e=0 then (vD u s,0) else (nul,e)
def z0z (x y e:Int):Va × Int:=if e=0 then (vP x y,0) else (nul,e)
def cmpR (op c:Int):Va × Int :=
 if op=11 then (vB (c==0),0) else if op=12 then (vB (!(c==0)),0) else if op=13 then (vB (decide (c<0)),0) else if op=14 then (vB (decide (c≤0)),0)
 else if op=15 then (vB (decide (c > 0)),0) else if op=16 then (vB (decide (c ≥ 0)),0) else (nul,31)
def quoR (a b:Int):Int × Int:=if b=0 then (0,33) else if b=-1 then (nz (-a),nErr (-a)) else (a.tdiv b,0)
def remR (a b:Int):Int × Int:=if b=0 then (0,33) else (a.tmod b,0)
def intsR (op a b:Int):Va × Int :=
 if op=9 then z1e (nz (a+b)) (nErr (a+b)) else if op=10 then z1e (nz (a - b)) (nErr (a - b)) else if op=6 then z1e (nz (a*b)) (nErr (a*b))
 else if op=7 then z1e (quoR a b).1 (quoR a b).2 else if op=8 then z1e (remR a b).1 (remR a b).2 else cmpR op (numc a b)
def gsc (s t:Int):Int:=if t≤s then s else t
def psc (s t:Int):Int:=if s+t≤6 then s+t else 6
def decR (z s:Int):Va × Int:=z5g (nz z) (fs z s) (nErr z)
def numsR (op:Int) (a b:Va):Va × Int :=
 if op=9 then decR (at10 a.n a.m (gsc a.m b.m)+at10 b.n b.m (gsc a.m b.m)) (gsc a.m b.m)
 else if op=10 then decR (at10 a.n a.m (gsc a.m b.m) - at10 b.n b.m (gsc a.m b.m)) (gsc a.m b.m)
 else if op=6 then decR (rq (a.n*b.n) (10^(a.m+b.m - psc a.m b.m).toNat:Nat)) (psc a.m b.m)
 else if op=7 then (if b.n=0 then (nul,33) else decR (dq a.n a.m b.n b.m 6) 6)
 else cmpR op (numc (at6 a) (at6 b))
def ptR (x y:Int):Va × Int:=z0z (Ga.tX x y) (Ga.tY x y) (Ga.tE x y)
def ptsR (op:Int) (a b:Va):Va × Int :=
 if op=9 then ptR (a.n+b.n) (a.m+b.m)
 else if op=10 then ptR (a.n - b.n) (a.m - b.m)
 else if op=6 then ptR (a.n*b.n - a.m*b.m) (a.n*b.m+a.m*b.n)
 else if op=7 then (if b.n=0∧b.m=0 then (nul,33) else (vP (Ga.qX a.n a.m b.n b.m) (Ga.qY a.n a.m b.n b.m),0))
 else if op=8 then (if b.n=0∧b.m=0 then (nul,33) else (vP (Ga.rX a.n a.m b.n b.m) (Ga.rY a.n a.m b.n b.m),0))
 else cmpR op (pcmp a b)
def txtR (op:Int) (a b:Va):Va × Int :=
 if op=9 then (if 256<a.b.length+b.b.length then (nul,32) else (vT (a.b++b.b),0)) else cmpR op (pcmp a b)
def tN (a:Va):Int:=truN a.k a.n a.m ⟨a.b.toArray⟩
def tB (a:Va):Bool:=truB a.k a.n a.m ⟨a.b.toArray⟩
def truR (op:Int) (a b:Va):Va × Int :=
 if (tB a&&tB b)=true then (if op=17 then (vO (tand (tN a) (tN b)),0) else (vO (tor (tN a) (tN b)),0)) else (nul,31)
def binR (op:Int) (a b:Va):Va × Int :=
 if ¬ (6≤op∧op≤18∧vr a=true∧vr b=true) then (nul,1)
 else if op=17∨op=18 then truR op a b
 else if a.k=0∨b.k=0 then (nul,0)
 else if a.k=1∧b.k=1 then intsR op a.n b.n
 else if isn a∧isn b then numsR op a b
 else if a.k=5∧b.k=5 then ptsR op a b
 else if a.k=3∧b.k=3 then txtR op a b
 else if a.k=4∧b.k=4 then cmpR op (pcmp a b)
 else (nul,31)
def negR (a:Va):Va × Int :=
 if a.k=0 then (nul,0) else if a.k=1 then z1e (nz (0 - a.n)) (nErr (0 - a.n)) else if a.k=2 then decR (-a.n) a.m
 else if a.k=5 then (vP (-a.n) (-a.m),0) else (nul,31)
def notR (a:Va):Va × Int:=if tB a=true then (vO (tnot (tN a)),0) else (nul,31)
def unR (op:Int) (a:Va):Va × Int :=
 if ¬ (3≤op∧op≤5∧vr a=true) then (nul,1)
 else if op=5 then (vB (a.k==0),0) else if op=4 then notR a else negR a
def onward (P:Program) (c:Code) (Q:Exit→Act→World→Prop):Nat→Exit→Act→World→Prop
 | 0,.goto _,_,_=>False
 | n+1,.goto l,a,w=>∃ rest,findLabel c l=some rest∧rest.wp P (onward P c Q n) a w
 | _,e,a,w=>Q e a w
theorem z0p {P:Program} {c rest:Code} {Q:Exit→Act→World→Prop} {K:Act→World→Prop} {n l:Nat} {a:Act} {w:World} (hf:findLabel c l=some rest) (h:rest.wp P (onward P c Q n) a w):(Code.goto l).wp P (Exit.then K (onward P c Q (n+1))) a w :=
 wp_goto (show onward P c Q (n+1) (.goto l) a w from ⟨rest,hf,h⟩)
theorem z0x {P:Program} {c:Code} {Q:Exit→Act→World→Prop} {n:Nat} {e:Exit} {a:Act} {w:World} (he:∀ l,e≠.goto l) (h:Q e a w):onward P c Q n e a w:=by
 cases n <;> cases e <;> first|exact h|exact absurd rfl (he _)
theorem z0t {P:Program} {a:Act} {w:World} {Q:Exit→Act→World→Prop} {c:Code} (n:Nat) (h:c.wp P (onward P c Q n) a w):(Code.scope c).wp P Q a w:=by
 intro b k cs
 have key:∀ n e a w,onward P c Q n e a w→∃ e' a' w',Q e' a' w'∧∀ s,Arrives P s b (.inScope c::k) cs e a w→Arrives P s b k cs e' a' w':=by
  intro n
  induction n with
  | zero =>
   intro e a w h
   cases e with
   | normal=>exact ⟨.normal,a,w,h,fun s harr=>Steps.trans harr (.one step_inScope)⟩
   | exit id=>exact ⟨.exit id,a,w,h,fun s harr k' hk=>harr k' (by simp [exitTo,hk])⟩
   | goto l'=>exact h.elim
   | ret=>exact ⟨_,a,w,h,fun s harr=>harr⟩
   | panic ch=>exact ⟨_,a,w,h,fun s harr=>harr⟩
   | outgrown=>exact ⟨_,a,w,h,fun s harr=>harr⟩
  | succ n ih =>
   intro e a w h
   cases e with
   | normal=>exact ⟨.normal,a,w,h,fun s harr=>Steps.trans harr (.one step_inScope)⟩
   | exit id=>exact ⟨.exit id,a,w,h,fun s harr k' hk=>harr k' (by simp [exitTo,hk])⟩
   | goto l' =>
    obtain ⟨rest,hf,hp⟩:=h
    obtain ⟨e₁,a₁,w₁,hq,harr₁⟩:=hp b (.inScope c::k) cs
    obtain ⟨e',a',w',hQ,hk⟩:=ih e₁ a₁ w₁ hq
    have hg:gotoIn l' (.inScope c::k)=some (.code rest::.inScope c::k):=by simp [gotoIn,hf]
    exact ⟨e',a',w',hQ,fun s harr=>.of_steps (harr _ hg) (hk _ harr₁)⟩
   | ret=>exact ⟨_,a,w,h,fun s harr=>harr⟩
   | panic ch=>exact ⟨_,a,w,h,fun s harr=>harr⟩
   | outgrown=>exact ⟨_,a,w,h,fun s harr=>harr⟩
 obtain ⟨e,a₁,w₁,hq,harr⟩:=h b (.inScope c::k) cs
 obtain ⟨e',a',w',hQ,hk⟩:=key n e a₁ w₁ hq
 exact ⟨e',a',w',hQ,.of_steps (.one step_scope) (hk _ harr)⟩
end Go.Proofs.YtljkonkfeiojnaaGreatDoor

namespace Go.Proofs.YtljkonkfeiojnaaGreatDoor
open Go.RowKit Go.Shelf
attribute [local go_sem] z0f z0b z0c z0e z0m z0k z0h z0d z0g
theorem z2e (k n m:Int) (b:ByteArray) (w:World):Calls Tryz.prog 119 #[va k n m b] w fun e w'=>e=.returned (.bool (k==1 || k==2))∧Grew w w':=by
 by_cases h:k=1
 ·subst h
  go_enter Tryz.func119,Tryz.ntmps119
  go_wp2
  all_goals go_ret
  all_goals exact ⟨rfl,gA⟩
 ·have h':(k==1)=false:=by simpa using h
  rw [h',Bool.false_or]
  go_enter Tryz.func119,Tryz.ntmps119
  go_wp2
  all_goals go_ret
  all_goals exact ⟨rfl,gA⟩
theorem z3y (k n m:Int) (b:ByteArray) (w:World):Calls Tryz.prog 121 #[va k n m b] w fun e w'=>e=.returned (dv n m)∧Grew w w':=by
 go_enter Tryz.func121,Tryz.ntmps121
 go_wp2
 refine bodyPost_ret_by (v:=dv n m) ?_ rfl ⟨rfl,?_⟩
 ·simp [results,Tryz.results121,go_sem]
 ·exact gA
theorem z8q (k n m:Int) (b:ByteArray) (w:World):Calls Tryz.prog 147 #[va k n m b] w fun e w'=>e=.returned (dv n m)∧Grew w w':=by
 go_enter Tryz.func147,Tryz.ntmps147
 go_wp2
 refine bodyPost_ret_by (v:=dv n m) ?_ rfl ⟨rfl,?_⟩
 ·simp [results,Tryz.results147,go_sem]
 ·exact gA
theorem qtruth_any (b:Bool) (w:World):Calls Tryz.prog 114 #[.bool b] w fun e w'=>e=.returned (vv (vB b))∧Grew w w':=by
 have O1:∀ W,Calls Tryz.prog 63 #[.int .i64 1] W fun e w'=>e=.returned (va 4 1 0 ⟨#[]⟩)∧Grew W w':=fun W=>of_any 1 W
 have O0:∀ W,Calls Tryz.prog 63 #[.int .i64 0] W fun e w'=>e=.returned (va 4 0 0 ⟨#[]⟩)∧Grew W w':=fun W=>of_any 0 W
 cases b
 ·go_enter Tryz.func114,Tryz.ntmps114
  go_wp2_with (first
   | (go_at_call_of 63 (Value.int IntKind.i64 1);refine (O1 _).mono ?_;rintro e w1 ⟨rfl,os1,n1,rfl⟩)
   | (go_at_call_of 63 (Value.int IntKind.i64 0);refine (O0 _).mono ?_;rintro e w1 ⟨rfl,os1,n1,rfl⟩))
  refine bodyPost_ret_by (v:=vv (vB false)) ?_ rfl ⟨rfl,?_⟩
  ·simp [results,Tryz.results114,go_sem,vB]
  ·exact gA
 ·go_enter Tryz.func114,Tryz.ntmps114
  go_wp2_with (first
   | (go_at_call_of 63 (Value.int IntKind.i64 1);refine (O1 _).mono ?_;rintro e w1 ⟨rfl,os1,n1,rfl⟩)
   | (go_at_call_of 63 (Value.int IntKind.i64 0);refine (O0 _).mono ?_;rintro e w1 ⟨rfl,os1,n1,rfl⟩))
  refine bodyPost_ret_by (v:=vv (vB true)) ?_ rfl ⟨rfl,?_⟩
  ·simp [results,Tryz.results114,go_sem,vB]
  ·exact gA
theorem z2h (n x:Int) (w:World):Calls Tryz.prog 144 #[.int .i64 n,.int .i64 x] w fun e w'=>e=.returned (rs (z1e n x))∧Grew w w':=by
 unfold z1e
 by_cases h:x=0
 ·subst h
  rw [if_pos rfl]
  go_enter Tryz.func144,Tryz.ntmps144
  go_wp2
  refine bodyPost_ret_by (v:=rs (vI n,0)) ?_ rfl ⟨rfl,?_⟩
  ·simp [results,Tryz.results144,go_sem,vI]
  ·exact gA
 ·rw [if_neg h]
  have h':(x==0)=false:=by simpa using h
  go_enter Tryz.func144,Tryz.ntmps144
  go_wp2
  refine bodyPost_ret_by (v:=rs (nul,x)) ?_ rfl ⟨rfl,?_⟩
  ·simp [results,Tryz.results144,go_sem,nul]
  ·exact gA
theorem z3x (u s x:Int) (w:World):Calls Tryz.prog 152 #[dv u s,.int .i64 x] w fun e w'=>e=.returned (rs (z5g u s x))∧Grew w w':=by
 unfold z5g
 by_cases h:x=0
 ·subst h
  rw [if_pos rfl]
  go_enter Tryz.func152,Tryz.ntmps152
  go_wp2
  refine bodyPost_ret_by (v:=rs (vD u s,0)) ?_ rfl ⟨rfl,?_⟩
  ·simp [results,Tryz.results152,go_sem,vD]
  ·exact gA
 ·rw [if_neg h]
  have h':(x==0)=false:=by simpa using h
  go_enter Tryz.func152,Tryz.ntmps152
  go_wp2
  refine bodyPost_ret_by (v:=rs (nul,x)) ?_ rfl ⟨rfl,?_⟩
  ·simp [results,Tryz.results152,go_sem,nul]
  ·exact gA
theorem z7h (u s x:Int) (w:World):Calls Tryz.prog 154 #[dv u s,.int .i64 x] w fun e w'=>e=.returned (rs (z0z u s x))∧Grew w w':=by
 unfold z0z
 by_cases h:x=0
 ·subst h
  rw [if_pos rfl]
  go_enter Tryz.func154,Tryz.ntmps154
  go_wp2
  refine bodyPost_ret_by (v:=rs (vP u s,0)) ?_ rfl ⟨rfl,?_⟩
  ·simp [results,Tryz.results154,go_sem,vP]
  ·exact gA
 ·rw [if_neg h]
  have h':(x==0)=false:=by simpa using h
  go_enter Tryz.func154,Tryz.ntmps154
  go_wp2
  refine bodyPost_ret_by (v:=rs (nul,x)) ?_ rfl ⟨rfl,?_⟩
  ·simp [results,Tryz.results154,go_sem,nul]
  ·exact gA
theorem z3t (op c:Int) (w:World):Calls Tryz.prog 124 #[.int .i64 op,.int .i64 c] w fun e w'=>e=.returned (rs (cmpR op c))∧Grew w w':=by
 have T:=fun b W=>qtruth_any b W
 unfold cmpR
 by_cases h11:op=11
 ·subst h11
  rw [if_pos rfl]
  go_enter Tryz.func124,Tryz.ntmps124
  go_wp2_with (go_at_call 114;refine (T (c==0) _).mono ?_;rintro e w1 ⟨rfl,os1,n1,rfl⟩)
  refine bodyPost_ret_by (v:=rs (vB (c==0),0)) ?_ rfl ⟨rfl,?_⟩
  ·simp [results,Tryz.results124,go_sem]
  ·exact gA
 have c11:(op==11)=false:=by simpa using h11
 by_cases h12:op=12
 ·subst h12
  rw [if_neg (by decide),if_pos rfl]
  go_enter Tryz.func124,Tryz.ntmps124
  go_wp2_with (go_at_call 114;refine (T (!(c==0)) _).mono ?_;rintro e w1 ⟨rfl,os1,n1,rfl⟩)
  refine bodyPost_ret_by (v:=rs (vB (!(c==0)),0)) ?_ rfl ⟨rfl,?_⟩
  ·simp [results,Tryz.results124,go_sem]
  ·exact gA
 have c12:(op==12)=false:=by simpa using h12
 by_cases h13:op=13
 ·subst h13
  rw [if_neg (by decide),if_neg (by decide),if_pos rfl]
  go_enter Tryz.func124,Tryz.ntmps124
  go_wp2_with (go_at_call 114;refine (T (decide (c<0)) _).mono ?_;rintro e w1 ⟨rfl,os1,n1,rfl⟩)
  refine bodyPost_ret_by (v:=rs (vB (decide (c<0)),0)) ?_ rfl ⟨rfl,?_⟩
  ·simp [results,Tryz.results124,go_sem]
  ·exact gA
 have c13:(op==13)=false:=by simpa using h13
 by_cases h14:op=14
 ·subst h14
  rw [if_neg (by decide),if_neg (by decide),if_neg (by decide),if_pos rfl]
  go_enter Tryz.func124,Tryz.ntmps124
  go_wp2_with (go_at_call 114;refine (T (decide (c≤0)) _).mono ?_;rintro e w1 ⟨rfl,os1,n1,rfl⟩)
  refine bodyPost_ret_by (v:=rs (vB (decide (c≤0)),0)) ?_ rfl ⟨rfl,?_⟩
  ·simp [results,Tryz.results124,go_sem]
  ·exact gA
 have c14:(op==14)=false:=by simpa using h14
 by_cases h15:op=15
 ·subst h15
  rw [if_neg (by decide),if_neg (by decide),if_neg (by decide),if_neg (by decide),if_pos rfl]
  go_enter Tryz.func124,Tryz.ntmps124
  go_wp2_with (go_at_call 114;refine (T (decide (c > 0)) _).mono ?_;rintro e w1 ⟨rfl,os1,n1,rfl⟩)
  refine bodyPost_ret_by (v:=rs (vB (decide (c > 0)),0)) ?_ rfl ⟨rfl,?_⟩
  ·simp [results,Tryz.results124,go_sem]
  ·exact gA
 have c15:(op==15)=false:=by simpa using h15
 by_cases h16:op=16
 ·subst h16
  rw [if_neg (by decide),if_neg (by decide),if_neg (by decide),if_neg (by decide),if_neg (by decide),if_pos rfl]
  go_enter Tryz.func124,Tryz.ntmps124
  go_wp2_with (go_at_call 114;refine (T (decide (c ≥ 0)) _).mono ?_;rintro e w1 ⟨rfl,os1,n1,rfl⟩)
  refine bodyPost_ret_by (v:=rs (vB (decide (c ≥ 0)),0)) ?_ rfl ⟨rfl,?_⟩
  ·simp [results,Tryz.results124,go_sem]
  ·exact gA
 have c16:(op==16)=false:=by simpa using h16
 rw [if_neg h11,if_neg h12,if_neg h13,if_neg h14,if_neg h15,if_neg h16]
 clear T
 go_enter Tryz.func124,Tryz.ntmps124
 go_wp2
 refine bodyPost_ret_by (v:=rs (nul,31)) ?_ rfl ⟨rfl,?_⟩
 ·simp [results,Tryz.results124,go_sem,nul]
 ·exact gA
abbrev z0s (f:Nat) (args:Array Value) (w:World) (v:Value):Prop:=∀ W:World,Below w.heap.size w W→Calls Tryz.prog f args W fun e w'=>e=.returned v∧Below W.heap.size W w'
theorem z0s.later {f:Nat} {args:Array Value} {w w':World} {v:Value} (h:z0s f args w v) (hb:Below w.heap.size w w'):z0s f args w' v:=fun W hW=>h W (z0a hb hW)
theorem z0w (w:World) (a b:Va):∃ w0,w0=(((w.alloc (.cells #[.int .i64 a.k,.int .i64 a.n,.int .i64 a.m,.string ⟨a.b.toArray⟩] 44)).alloc (.cells #[.int .i64 b.k,.int .i64 b.n,.int .i64 b.m,.string ⟨b.b.toArray⟩] 44)).alloc (.cells #[.int .i64 0,.int .i64 0,.int .i64 0,.string ⟨#[]⟩] 44)) ∧
  Box w0 w.heap.size a∧Box w0 (w.heap.size+1) b∧Box w0 (w.heap.size+1+1) nul∧Below w.heap.size w w0:=by
 obtain ⟨h1,h2,h3⟩:=two_boxes w a b
 refine ⟨_,rfl,h1.later ((Below.refl _ _).alloc (Nat.le_refl _) _),h2.later ((Below.refl _ _).alloc (Nat.le_refl _) _),?_,h3.alloc (by simp;omega) _⟩
 have:=Box.new (((w.alloc (.cells #[.int .i64 a.k,.int .i64 a.n,.int .i64 a.m,.string ⟨a.b.toArray⟩] 44)).alloc (.cells #[.int .i64 b.k,.int .i64 b.n,.int .i64 b.m,.string ⟨b.b.toArray⟩] 44))) 0 0 0 []
 simp only [World.size_alloc] at this
 exact this
theorem qbin_low (op:Int) (ak:Int) (bk:Int) (an am bn bm:Int) (ab bb:List UInt8) (w:World) (o1:op<6)  :
  Calls Tryz.prog 84 #[.int .i64 op,va ak an am ⟨ab.toArray⟩,va bk bn bm ⟨bb.toArray⟩] w fun e w'=>e=.returned (.tuple #[va 0 0 0 ⟨#[]⟩,.int .i64 1])∧Below w.heap.size w w':=by
 obtain ⟨w0,hw0,bxa,bxb,bxr,Bw⟩:=z0w w ⟨ak,an,am,ab⟩ ⟨bk,bn,bm,bb⟩
 dsimp only at hw0
 go_enter Tryz.func84,Tryz.ntmps84
 go_wp2_with fail
 rw [← hw0]
 clear hw0
 refine z0t 9 ?_
 have B0:Below w0.heap.size w0 w0:=Below.refl _ _
 obtain ⟨a0,a1,a2,a3⟩:=(bxa.later B0).at4
 obtain ⟨b0,b1,b2,b3⟩:=(bxb.later B0).at4
 dsimp only at a0 a1 a2 a3 b0 b1 b2 b3
 have br:=bxr.later B0
 obtain ⟨r0,r1,r2,r3⟩:=br.at4
 have f0:=br.free 0
 have f1:=br.free 1
 have f2:=br.free 2
 have f3:=br.free 3
 have lt1:=br.lt
 have Be:=z0a Bw B0
 go_wp2
 refine z0x (by intro l h;cases h) ?_
 refine bodyPost_ret_by (v:=.tuple #[va 0 0 0 ⟨#[]⟩,.int .i64 1]) ?_ rfl ⟨rfl,?_⟩
 ·simp [results,Tryz.results84,go_sem,r0,r1,r2,r3,nul]
 ·exact (((Be.setCell (p:=⟨w.heap.size+1+1,0,none⟩) (by simp;omega) _).setCell (p:=⟨w.heap.size+1+1,1,none⟩) (by simp;omega) _).setCell (p:=⟨w.heap.size+1+1,2,none⟩) (by simp;omega) _).setCell (p:=⟨w.heap.size+1+1,3,none⟩) (by simp;omega) _
theorem qbin_t17 (ak:Int) (bk:Int) (an am bn bm:Int) (ab bb:List UInt8) (w:World) (rk rn rm re:Int) (rb:ByteArray) (Ra:z0s 22 #[va ak an am ⟨ab.toArray⟩] w (.bool true)) (Rb:z0s 22 #[va bk bn bm ⟨bb.toArray⟩] w (.bool true)) (F:z0s 117 #[.int .i64 17,va ak an am ⟨ab.toArray⟩,va bk bn bm ⟨bb.toArray⟩] w (.tuple #[va rk rn rm rb,.int .i64 re])) :
  Calls Tryz.prog 84 #[.int .i64 17,va ak an am ⟨ab.toArray⟩,va bk bn bm ⟨bb.toArray⟩] w fun e w'=>e=.returned (.tuple #[va rk rn rm rb,.int .i64 re])∧Below w.heap.size w w':=by
 obtain ⟨w0,hw0,bxa,bxb,bxr,Bw⟩:=z0w w ⟨ak,an,am,ab⟩ ⟨bk,bn,bm,bb⟩
 dsimp only at hw0
 go_enter Tryz.func84,Tryz.ntmps84
 go_wp2_with fail
 rw [← hw0]
 clear hw0
 refine z0t 9 ?_
 have B0:Below w0.heap.size w0 w0:=Below.refl _ _
 obtain ⟨a0,a1,a2,a3⟩:=(bxa.later B0).at4
 obtain ⟨b0,b1,b2,b3⟩:=(bxb.later B0).at4
 dsimp only at a0 a1 a2 a3 b0 b1 b2 b3
 go_wp2_with fail
 refine (Ra _ (z0a Bw B0)).mono ?_
 rintro e w1 ⟨rfl,c⟩
 have B1:=z0a B0 c
 clear a0 a1 a2 a3 b0 b1 b2 b3 c
 obtain ⟨a0,a1,a2,a3⟩:=(bxa.later B1).at4
 obtain ⟨b0,b1,b2,b3⟩:=(bxb.later B1).at4
 dsimp only at a0 a1 a2 a3 b0 b1 b2 b3
 go_wp2_with fail
 refine (Rb _ (z0a Bw B1)).mono ?_
 rintro e w2 ⟨rfl,c⟩
 have B2:=z0a B1 c
 clear a0 a1 a2 a3 b0 b1 b2 b3 c
 obtain ⟨a0,a1,a2,a3⟩:=(bxa.later B2).at4
 obtain ⟨b0,b1,b2,b3⟩:=(bxb.later B2).at4
 dsimp only at a0 a1 a2 a3 b0 b1 b2 b3
 go_wp2_with fail
 refine (F _ (z0a Bw B2)).mono ?_
 rintro e w3 ⟨rfl,c⟩
 have B3:=z0a B2 c
 clear a0 a1 a2 a3 b0 b1 b2 b3 c
 obtain ⟨a0,a1,a2,a3⟩:=(bxa.later B3).at4
 obtain ⟨b0,b1,b2,b3⟩:=(bxb.later B3).at4
 dsimp only at a0 a1 a2 a3 b0 b1 b2 b3
 have br:=bxr.later B3
 obtain ⟨r0,r1,r2,r3⟩:=br.at4
 have f0:=br.free 0
 have f1:=br.free 1
 have f2:=br.free 2
 have f3:=br.free 3
 have lt1:=br.lt
 have Be:=z0a Bw B3
 go_wp2
 refine z0x (by intro l h;cases h) ?_
 refine bodyPost_ret_by (v:=.tuple #[va rk rn rm rb,.int .i64 re]) ?_ rfl ⟨rfl,?_⟩
 ·simp [results,Tryz.results84,go_sem,r0,r1,r2,r3,nul]
 ·exact (((Be.setCell (p:=⟨w.heap.size+1+1,0,none⟩) (by simp;omega) _).setCell (p:=⟨w.heap.size+1+1,1,none⟩) (by simp;omega) _).setCell (p:=⟨w.heap.size+1+1,2,none⟩) (by simp;omega) _).setCell (p:=⟨w.heap.size+1+1,3,none⟩) (by simp;omega) _
theorem qbin_ints (op:Int) (an am bn bm:Int) (ab bb:List UInt8) (w:World) (rk rn rm re:Int) (rb:ByteArray) (o1:¬ op<6) (o2:¬ op > 18) (e17:(op != 17)=true) (e18:(op != 18)=true) (Ra:z0s 22 #[va 1 an am ⟨ab.toArray⟩] w (.bool true)) (Rb:z0s 22 #[va 1 bn bm ⟨bb.toArray⟩] w (.bool true)) (F:z0s 118 #[.int .i64 op,.int .i64 an,.int .i64 bn] w (.tuple #[va rk rn rm rb,.int .i64 re])) :
  Calls Tryz.prog 84 #[.int .i64 op,va 1 an am ⟨ab.toArray⟩,va 1 bn bm ⟨bb.toArray⟩] w fun e w'=>e=.returned (.tuple #[va rk rn rm rb,.int .i64 re])∧Below w.heap.size w w':=by
 obtain ⟨w0,hw0,bxa,bxb,bxr,Bw⟩:=z0w w ⟨1,an,am,ab⟩ ⟨1,bn,bm,bb⟩
 dsimp only at hw0
 go_enter Tryz.func84,Tryz.ntmps84
 go_wp2_with fail
 rw [← hw0]
 clear hw0
 refine z0t 9 ?_
 have B0:Below w0.heap.size w0 w0:=Below.refl _ _
 obtain ⟨a0,a1,a2,a3⟩:=(bxa.later B0).at4
 obtain ⟨b0,b1,b2,b3⟩:=(bxb.later B0).at4
 dsimp only at a0 a1 a2 a3 b0 b1 b2 b3
 go_wp2_with fail
 refine (Ra _ (z0a Bw B0)).mono ?_
 rintro e w1 ⟨rfl,c⟩
 have B1:=z0a B0 c
 clear a0 a1 a2 a3 b0 b1 b2 b3 c
 obtain ⟨a0,a1,a2,a3⟩:=(bxa.later B1).at4
 obtain ⟨b0,b1,b2,b3⟩:=(bxb.later B1).at4
 dsimp only at a0 a1 a2 a3 b0 b1 b2 b3
 go_wp2_with fail
 refine (Rb _ (z0a Bw B1)).mono ?_
 rintro e w2 ⟨rfl,c⟩
 have B2:=z0a B1 c
 clear a0 a1 a2 a3 b0 b1 b2 b3 c
 obtain ⟨a0,a1,a2,a3⟩:=(bxa.later B2).at4
 obtain ⟨b0,b1,b2,b3⟩:=(bxb.later B2).at4
 dsimp only at a0 a1 a2 a3 b0 b1 b2 b3
 go_wp2_with fail
 refine z0p (n:=8) rfl ?_
 go_wp2_with fail
 refine z0p (n:=7) rfl ?_
 go_wp2_with fail
 refine (F _ (z0a Bw B2)).mono ?_
 rintro e w3 ⟨rfl,c⟩
 have B3:=z0a B2 c
 clear a0 a1 a2 a3 b0 b1 b2 b3 c
 obtain ⟨a0,a1,a2,a3⟩:=(bxa.later B3).at4
 obtain ⟨b0,b1,b2,b3⟩:=(bxb.later B3).at4
 dsimp only at a0 a1 a2 a3 b0 b1 b2 b3
 have br:=bxr.later B3
 obtain ⟨r0,r1,r2,r3⟩:=br.at4
 have f0:=br.free 0
 have f1:=br.free 1
 have f2:=br.free 2
 have f3:=br.free 3
 have lt1:=br.lt
 have Be:=z0a Bw B3
 go_wp2
 refine z0x (by intro l h;cases h) ?_
 refine bodyPost_ret_by (v:=.tuple #[va rk rn rm rb,.int .i64 re]) ?_ rfl ⟨rfl,?_⟩
 ·simp [results,Tryz.results84,go_sem,r0,r1,r2,r3,nul]
 ·exact (((Be.setCell (p:=⟨w.heap.size+1+1,0,none⟩) (by simp;omega) _).setCell (p:=⟨w.heap.size+1+1,1,none⟩) (by simp;omega) _).setCell (p:=⟨w.heap.size+1+1,2,none⟩) (by simp;omega) _).setCell (p:=⟨w.heap.size+1+1,3,none⟩) (by simp;omega) _
theorem qbin_pts (op:Int) (an am bn bm:Int) (ab bb:List UInt8) (w:World) (rk rn rm re:Int) (rb:ByteArray) (o1:¬ op<6) (o2:¬ op > 18) (e17:(op != 17)=true) (e18:(op != 18)=true) (Ra:z0s 22 #[va 5 an am ⟨ab.toArray⟩] w (.bool true)) (Rb:z0s 22 #[va 5 bn bm ⟨bb.toArray⟩] w (.bool true)) (Na:z0s 119 #[va 5 an am ⟨ab.toArray⟩] w (.bool false)) (F:z0s 122 #[.int .i64 op,va 5 an am ⟨ab.toArray⟩,va 5 bn bm ⟨bb.toArray⟩] w (.tuple #[va rk rn rm rb,.int .i64 re])) :
  Calls Tryz.prog 84 #[.int .i64 op,va 5 an am ⟨ab.toArray⟩,va 5 bn bm ⟨bb.toArray⟩] w fun e w'=>e=.returned (.tuple #[va rk rn rm rb,.int .i64 re])∧Below w.heap.size w w':=by
 obtain ⟨w0,hw0,bxa,bxb,bxr,Bw⟩:=z0w w ⟨5,an,am,ab⟩ ⟨5,bn,bm,bb⟩
 dsimp only at hw0
 go_enter Tryz.func84,Tryz.ntmps84
 go_wp2_with fail
 rw [← hw0]
 clear hw0
 refine z0t 9 ?_
 have B0:Below w0.heap.size w0 w0:=Below.refl _ _
 obtain ⟨a0,a1,a2,a3⟩:=(bxa.later B0).at4
 obtain ⟨b0,b1,b2,b3⟩:=(bxb.later B0).at4
 dsimp only at a0 a1 a2 a3 b0 b1 b2 b3
 go_wp2_with fail
 refine (Ra _ (z0a Bw B0)).mono ?_
 rintro e w1 ⟨rfl,c⟩
 have B1:=z0a B0 c
 clear a0 a1 a2 a3 b0 b1 b2 b3 c
 obtain ⟨a0,a1,a2,a3⟩:=(bxa.later B1).at4
 obtain ⟨b0,b1,b2,b3⟩:=(bxb.later B1).at4
 dsimp only at a0 a1 a2 a3 b0 b1 b2 b3
 go_wp2_with fail
 refine (Rb _ (z0a Bw B1)).mono ?_
 rintro e w2 ⟨rfl,c⟩
 have B2:=z0a B1 c
 clear a0 a1 a2 a3 b0 b1 b2 b3 c
 obtain ⟨a0,a1,a2,a3⟩:=(bxa.later B2).at4
 obtain ⟨b0,b1,b2,b3⟩:=(bxb.later B2).at4
 dsimp only at a0 a1 a2 a3 b0 b1 b2 b3
 go_wp2_with fail
 refine z0p (n:=8) rfl ?_
 go_wp2_with fail
 refine z0p (n:=7) rfl ?_
 go_wp2_with fail
 refine z0p (n:=6) rfl ?_
 go_wp2_with fail
 refine (Na _ (z0a Bw B2)).mono ?_
 rintro e w3 ⟨rfl,c⟩
 have B3:=z0a B2 c
 clear a0 a1 a2 a3 b0 b1 b2 b3 c
 obtain ⟨a0,a1,a2,a3⟩:=(bxa.later B3).at4
 obtain ⟨b0,b1,b2,b3⟩:=(bxb.later B3).at4
 dsimp only at a0 a1 a2 a3 b0 b1 b2 b3
 go_wp2_with fail
 refine z0p (n:=5) rfl ?_
 go_wp2_with fail
 refine (F _ (z0a Bw B3)).mono ?_
 rintro e w4 ⟨rfl,c⟩
 have B4:=z0a B3 c
 clear a0 a1 a2 a3 b0 b1 b2 b3 c
 obtain ⟨a0,a1,a2,a3⟩:=(bxa.later B4).at4
 obtain ⟨b0,b1,b2,b3⟩:=(bxb.later B4).at4
 dsimp only at a0 a1 a2 a3 b0 b1 b2 b3
 have br:=bxr.later B4
 obtain ⟨r0,r1,r2,r3⟩:=br.at4
 have f0:=br.free 0
 have f1:=br.free 1
 have f2:=br.free 2
 have f3:=br.free 3
 have lt1:=br.lt
 have Be:=z0a Bw B4
 go_wp2
 refine z0x (by intro l h;cases h) ?_
 refine bodyPost_ret_by (v:=.tuple #[va rk rn rm rb,.int .i64 re]) ?_ rfl ⟨rfl,?_⟩
 ·simp [results,Tryz.results84,go_sem,r0,r1,r2,r3,nul]
 ·exact (((Be.setCell (p:=⟨w.heap.size+1+1,0,none⟩) (by simp;omega) _).setCell (p:=⟨w.heap.size+1+1,1,none⟩) (by simp;omega) _).setCell (p:=⟨w.heap.size+1+1,2,none⟩) (by simp;omega) _).setCell (p:=⟨w.heap.size+1+1,3,none⟩) (by simp;omega) _
theorem qbin_o2 (op:Int) (bk:Int) (an am bn bm:Int) (ab bb:List UInt8) (w:World) (o1:¬ op<6) (o2:¬ op > 18) (e17:(op != 17)=true) (e18:(op != 18)=true) (eb:(bk != 0)=true)  (Ra:z0s 22 #[va 2 an am ⟨ab.toArray⟩] w (.bool true)) (Rb:z0s 22 #[va bk bn bm ⟨bb.toArray⟩] w (.bool true)) (Na:z0s 119 #[va 2 an am ⟨ab.toArray⟩] w (.bool true)) (Nb:z0s 119 #[va bk bn bm ⟨bb.toArray⟩] w (.bool false)) :
  Calls Tryz.prog 84 #[.int .i64 op,va 2 an am ⟨ab.toArray⟩,va bk bn bm ⟨bb.toArray⟩] w fun e w'=>e=.returned (.tuple #[va 0 0 0 ⟨#[]⟩,.int .i64 31])∧Below w.heap.size w w':=by
 obtain ⟨w0,hw0,bxa,bxb,bxr,Bw⟩:=z0w w ⟨2,an,am,ab⟩ ⟨bk,bn,bm,bb⟩
 dsimp only at hw0
 go_enter Tryz.func84,Tryz.ntmps84
 go_wp2_with fail
 rw [← hw0]
 clear hw0
 refine z0t 9 ?_
 have B0:Below w0.heap.size w0 w0:=Below.refl _ _
 obtain ⟨a0,a1,a2,a3⟩:=(bxa.later B0).at4
 obtain ⟨b0,b1,b2,b3⟩:=(bxb.later B0).at4
 dsimp only at a0 a1 a2 a3 b0 b1 b2 b3
 go_wp2_with fail
 refine (Ra _ (z0a Bw B0)).mono ?_
 rintro e w1 ⟨rfl,c⟩
 have B1:=z0a B0 c
 clear a0 a1 a2 a3 b0 b1 b2 b3 c
 obtain ⟨a0,a1,a2,a3⟩:=(bxa.later B1).at4
 obtain ⟨b0,b1,b2,b3⟩:=(bxb.later B1).at4
 dsimp only at a0 a1 a2 a3 b0 b1 b2 b3
 go_wp2_with fail
 refine (Rb _ (z0a Bw B1)).mono ?_
 rintro e w2 ⟨rfl,c⟩
 have B2:=z0a B1 c
 clear a0 a1 a2 a3 b0 b1 b2 b3 c
 obtain ⟨a0,a1,a2,a3⟩:=(bxa.later B2).at4
 obtain ⟨b0,b1,b2,b3⟩:=(bxb.later B2).at4
 dsimp only at a0 a1 a2 a3 b0 b1 b2 b3
 go_wp2_with fail
 refine z0p (n:=8) rfl ?_
 go_wp2_with fail
 refine z0p (n:=7) rfl ?_
 go_wp2_with fail
 refine z0p (n:=6) rfl ?_
 go_wp2_with fail
 refine (Na _ (z0a Bw B2)).mono ?_
 rintro e w3 ⟨rfl,c⟩
 have B3:=z0a B2 c
 clear a0 a1 a2 a3 b0 b1 b2 b3 c
 obtain ⟨a0,a1,a2,a3⟩:=(bxa.later B3).at4
 obtain ⟨b0,b1,b2,b3⟩:=(bxb.later B3).at4
 dsimp only at a0 a1 a2 a3 b0 b1 b2 b3
 go_wp2_with fail
 refine (Nb _ (z0a Bw B3)).mono ?_
 rintro e w4 ⟨rfl,c⟩
 have B4:=z0a B3 c
 clear a0 a1 a2 a3 b0 b1 b2 b3 c
 obtain ⟨a0,a1,a2,a3⟩:=(bxa.later B4).at4
 obtain ⟨b0,b1,b2,b3⟩:=(bxb.later B4).at4
 dsimp only at a0 a1 a2 a3 b0 b1 b2 b3
 go_wp2_with fail
 refine z0p (n:=5) rfl ?_
 go_wp2_with fail
 refine z0p (n:=4) rfl ?_
 go_wp2_with fail
 refine z0p (n:=3) rfl ?_
 go_wp2_with fail
 refine z0p (n:=2) rfl ?_
 have br:=bxr.later B4
 obtain ⟨r0,r1,r2,r3⟩:=br.at4
 have f0:=br.free 0
 have f1:=br.free 1
 have f2:=br.free 2
 have f3:=br.free 3
 have lt1:=br.lt
 have Be:=z0a Bw B4
 go_wp2
 refine z0x (by intro l h;cases h) ?_
 refine bodyPost_ret_by (v:=.tuple #[va 0 0 0 ⟨#[]⟩,.int .i64 31]) ?_ rfl ⟨rfl,?_⟩
 ·simp [results,Tryz.results84,go_sem,r0,r1,r2,r3,nul]
 ·exact (((Be.setCell (p:=⟨w.heap.size+1+1,0,none⟩) (by simp;omega) _).setCell (p:=⟨w.heap.size+1+1,1,none⟩) (by simp;omega) _).setCell (p:=⟨w.heap.size+1+1,2,none⟩) (by simp;omega) _).setCell (p:=⟨w.heap.size+1+1,3,none⟩) (by simp;omega) _
theorem qbin_high (op:Int) (ak:Int) (bk:Int) (an am bn bm:Int) (ab bb:List UInt8) (w:World) (o1:¬ op<6) (o2:op > 18)  :
  Calls Tryz.prog 84 #[.int .i64 op,va ak an am ⟨ab.toArray⟩,va bk bn bm ⟨bb.toArray⟩] w fun e w'=>e=.returned (.tuple #[va 0 0 0 ⟨#[]⟩,.int .i64 1])∧Below w.heap.size w w':=by
 obtain ⟨w0,hw0,bxa,bxb,bxr,Bw⟩:=z0w w ⟨ak,an,am,ab⟩ ⟨bk,bn,bm,bb⟩
 dsimp only at hw0
 go_enter Tryz.func84,Tryz.ntmps84
 go_wp2_with fail
 rw [← hw0]
 clear hw0
 refine z0t 9 ?_
 have B0:Below w0.heap.size w0 w0:=Below.refl _ _
 obtain ⟨a0,a1,a2,a3⟩:=(bxa.later B0).at4
 obtain ⟨b0,b1,b2,b3⟩:=(bxb.later B0).at4
 dsimp only at a0 a1 a2 a3 b0 b1 b2 b3
 have br:=bxr.later B0
 obtain ⟨r0,r1,r2,r3⟩:=br.at4
 have f0:=br.free 0
 have f1:=br.free 1
 have f2:=br.free 2
 have f3:=br.free 3
 have lt1:=br.lt
 have Be:=z0a Bw B0
 go_wp2
 refine z0x (by intro l h;cases h) ?_
 refine bodyPost_ret_by (v:=.tuple #[va 0 0 0 ⟨#[]⟩,.int .i64 1]) ?_ rfl ⟨rfl,?_⟩
 ·simp [results,Tryz.results84,go_sem,r0,r1,r2,r3,nul]
 ·exact (((Be.setCell (p:=⟨w.heap.size+1+1,0,none⟩) (by simp;omega) _).setCell (p:=⟨w.heap.size+1+1,1,none⟩) (by simp;omega) _).setCell (p:=⟨w.heap.size+1+1,2,none⟩) (by simp;omega) _).setCell (p:=⟨w.heap.size+1+1,3,none⟩) (by simp;omega) _
theorem qbin_t18 (ak:Int) (bk:Int) (an am bn bm:Int) (ab bb:List UInt8) (w:World) (rk rn rm re:Int) (rb:ByteArray) (Ra:z0s 22 #[va ak an am ⟨ab.toArray⟩] w (.bool true)) (Rb:z0s 22 #[va bk bn bm ⟨bb.toArray⟩] w (.bool true)) (F:z0s 117 #[.int .i64 18,va ak an am ⟨ab.toArray⟩,va bk bn bm ⟨bb.toArray⟩] w (.tuple #[va rk rn rm rb,.int .i64 re])) :
  Calls Tryz.prog 84 #[.int .i64 18,va ak an am ⟨ab.toArray⟩,va bk bn bm ⟨bb.toArray⟩] w fun e w'=>e=.returned (.tuple #[va rk rn rm rb,.int .i64 re])∧Below w.heap.size w w':=by
 obtain ⟨w0,hw0,bxa,bxb,bxr,Bw⟩:=z0w w ⟨ak,an,am,ab⟩ ⟨bk,bn,bm,bb⟩
 dsimp only at hw0
 go_enter Tryz.func84,Tryz.ntmps84
 go_wp2_with fail
 rw [← hw0]
 clear hw0
 refine z0t 9 ?_
 have B0:Below w0.heap.size w0 w0:=Below.refl _ _
 obtain ⟨a0,a1,a2,a3⟩:=(bxa.later B0).at4
 obtain ⟨b0,b1,b2,b3⟩:=(bxb.later B0).at4
 dsimp only at a0 a1 a2 a3 b0 b1 b2 b3
 go_wp2_with fail
 refine (Ra _ (z0a Bw B0)).mono ?_
 rintro e w1 ⟨rfl,c⟩
 have B1:=z0a B0 c
 clear a0 a1 a2 a3 b0 b1 b2 b3 c
 obtain ⟨a0,a1,a2,a3⟩:=(bxa.later B1).at4
 obtain ⟨b0,b1,b2,b3⟩:=(bxb.later B1).at4
 dsimp only at a0 a1 a2 a3 b0 b1 b2 b3
 go_wp2_with fail
 refine (Rb _ (z0a Bw B1)).mono ?_
 rintro e w2 ⟨rfl,c⟩
 have B2:=z0a B1 c
 clear a0 a1 a2 a3 b0 b1 b2 b3 c
 obtain ⟨a0,a1,a2,a3⟩:=(bxa.later B2).at4
 obtain ⟨b0,b1,b2,b3⟩:=(bxb.later B2).at4
 dsimp only at a0 a1 a2 a3 b0 b1 b2 b3
 go_wp2_with fail
 refine (F _ (z0a Bw B2)).mono ?_
 rintro e w3 ⟨rfl,c⟩
 have B3:=z0a B2 c
 clear a0 a1 a2 a3 b0 b1 b2 b3 c
 obtain ⟨a0,a1,a2,a3⟩:=(bxa.later B3).at4
 obtain ⟨b0,b1,b2,b3⟩:=(bxb.later B3).at4
 dsimp only at a0 a1 a2 a3 b0 b1 b2 b3
 have br:=bxr.later B3
 obtain ⟨r0,r1,r2,r3⟩:=br.at4
 have f0:=br.free 0
 have f1:=br.free 1
 have f2:=br.free 2
 have f3:=br.free 3
 have lt1:=br.lt
 have Be:=z0a Bw B3
 go_wp2
 refine z0x (by intro l h;cases h) ?_
 refine bodyPost_ret_by (v:=.tuple #[va rk rn rm rb,.int .i64 re]) ?_ rfl ⟨rfl,?_⟩
 ·simp [results,Tryz.results84,go_sem,r0,r1,r2,r3,nul]
 ·exact (((Be.setCell (p:=⟨w.heap.size+1+1,0,none⟩) (by simp;omega) _).setCell (p:=⟨w.heap.size+1+1,1,none⟩) (by simp;omega) _).setCell (p:=⟨w.heap.size+1+1,2,none⟩) (by simp;omega) _).setCell (p:=⟨w.heap.size+1+1,3,none⟩) (by simp;omega) _
theorem qbin_n12 (op:Int) (an am bn bm:Int) (ab bb:List UInt8) (w:World) (rk rn rm re:Int) (rb:ByteArray) (o1:¬ op<6) (o2:¬ op > 18) (e17:(op != 17)=true) (e18:(op != 18)=true) (Ra:z0s 22 #[va 1 an am ⟨ab.toArray⟩] w (.bool true)) (Rb:z0s 22 #[va 2 bn bm ⟨bb.toArray⟩] w (.bool true)) (Na:z0s 119 #[va 1 an am ⟨ab.toArray⟩] w (.bool true)) (Nb:z0s 119 #[va 2 bn bm ⟨bb.toArray⟩] w (.bool true))  (F:∀ W,Below w.heap.size w W→Calls Tryz.prog 120 #[.int .i64 op,dv an am,dv bn bm] W fun e w'=>e=.returned (.tuple #[va rk rn rm rb,.int .i64 re])∧Grew W w') :
  Calls Tryz.prog 84 #[.int .i64 op,va 1 an am ⟨ab.toArray⟩,va 2 bn bm ⟨bb.toArray⟩] w fun e w'=>e=.returned (.tuple #[va rk rn rm rb,.int .i64 re])∧Below w.heap.size w w':=by
 obtain ⟨w0,hw0,bxa,bxb,bxr,Bw⟩:=z0w w ⟨1,an,am,ab⟩ ⟨2,bn,bm,bb⟩
 dsimp only at hw0
 go_enter Tryz.func84,Tryz.ntmps84
 go_wp2_with fail
 rw [← hw0]
 clear hw0
 refine z0t 9 ?_
 have B0:Below w0.heap.size w0 w0:=Below.refl _ _
 obtain ⟨a0,a1,a2,a3⟩:=(bxa.later B0).at4
 obtain ⟨b0,b1,b2,b3⟩:=(bxb.later B0).at4
 dsimp only at a0 a1 a2 a3 b0 b1 b2 b3
 go_wp2_with fail
 refine (Ra _ (z0a Bw B0)).mono ?_
 rintro e w1 ⟨rfl,c⟩
 have B1:=z0a B0 c
 clear a0 a1 a2 a3 b0 b1 b2 b3 c
 obtain ⟨a0,a1,a2,a3⟩:=(bxa.later B1).at4
 obtain ⟨b0,b1,b2,b3⟩:=(bxb.later B1).at4
 dsimp only at a0 a1 a2 a3 b0 b1 b2 b3
 go_wp2_with fail
 refine (Rb _ (z0a Bw B1)).mono ?_
 rintro e w2 ⟨rfl,c⟩
 have B2:=z0a B1 c
 clear a0 a1 a2 a3 b0 b1 b2 b3 c
 obtain ⟨a0,a1,a2,a3⟩:=(bxa.later B2).at4
 obtain ⟨b0,b1,b2,b3⟩:=(bxb.later B2).at4
 dsimp only at a0 a1 a2 a3 b0 b1 b2 b3
 go_wp2_with fail
 refine z0p (n:=8) rfl ?_
 go_wp2_with fail
 refine z0p (n:=7) rfl ?_
 go_wp2_with fail
 refine z0p (n:=6) rfl ?_
 go_wp2_with fail
 refine (Na _ (z0a Bw B2)).mono ?_
 rintro e w3 ⟨rfl,c⟩
 have B3:=z0a B2 c
 clear a0 a1 a2 a3 b0 b1 b2 b3 c
 obtain ⟨a0,a1,a2,a3⟩:=(bxa.later B3).at4
 obtain ⟨b0,b1,b2,b3⟩:=(bxb.later B3).at4
 dsimp only at a0 a1 a2 a3 b0 b1 b2 b3
 go_wp2_with fail
 refine (Nb _ (z0a Bw B3)).mono ?_
 rintro e w4 ⟨rfl,c⟩
 have B4:=z0a B3 c
 clear a0 a1 a2 a3 b0 b1 b2 b3 c
 obtain ⟨a0,a1,a2,a3⟩:=(bxa.later B4).at4
 obtain ⟨b0,b1,b2,b3⟩:=(bxb.later B4).at4
 dsimp only at a0 a1 a2 a3 b0 b1 b2 b3
 simp only [Nat.zero_add] at a1 a2 a3 b1 b2 b3
 have lta:=(bxa.later B4).lt
 have ltb:=(bxb.later B4).lt
 have U:=fun k n m b W=>z3y k n m b W
 have F4:∀ W,Grew w4 W→Calls Tryz.prog 120 #[.int .i64 op,dv an am,dv bn bm] W fun e w'=>e=.returned (.tuple #[va rk rn rm rb,.int .i64 re])∧Grew W w':=fun W h=>F W (z0a (z0a Bw B4) h.below)
 have br:=bxr.later B4
 obtain ⟨r0,r1,r2,r3⟩:=br.at4
 have f0:=br.free 0
 have f1:=br.free 1
 have f2:=br.free 2
 have f3:=br.free 3
 have lt1:=br.lt
 have Be:=z0a Bw B4
 dsimp only [nul] at r0 r1 r2 r3
 simp only [Nat.zero_add] at r1 r2 r3
 clear Ra Rb Na Nb F bxa bxb bxr br B0 B1 B2 B3 B4 Bw
 go_wp2_with fail
 go_region_held2 (fun W=>W.cell? ⟨w.heap.size,0,none⟩=some (.int .i64 1)∧W.cell? ⟨w.heap.size,1,none⟩=some (.int .i64 an)∧W.cell? ⟨w.heap.size,2,none⟩=some (.int .i64 am)∧W.cell? ⟨w.heap.size,3,none⟩=some (.string ⟨ab.toArray⟩) ∧
   W.cell? ⟨w.heap.size+1,0,none⟩=some (.int .i64 2)∧W.cell? ⟨w.heap.size+1,1,none⟩=some (.int .i64 bn)∧W.cell? ⟨w.heap.size+1,2,none⟩=some (.int .i64 bm)∧W.cell? ⟨w.heap.size+1,3,none⟩=some (.string ⟨bb.toArray⟩)) (simp (maxDischargeDepth:=12) [go_sem,a0,a1,a2,a3,b0,b1,b2,b3,lta,ltb]) (first
  | (go_at_call 121;refine (U _ _ _ _ _).mono ?_;rintro e w1 ⟨rfl,os1,n1,rfl⟩)
  | (go_at_call 120;refine (F4 _ gB).mono ?_;rintro e w2 ⟨rfl,os2,n2,rfl⟩))
 go_wp2
 refine z0x (by intro l h;cases h) ?_
 refine bodyPost_ret_by (v:=.tuple #[va rk rn rm rb,.int .i64 re]) ?_ rfl ⟨rfl,?_⟩
 ·simp [results,Tryz.results84,go_sem,r0,r1,r2,r3,lt1]
 ·refine z0a (Be.setCell (p:=⟨w.heap.size+1+1,0,none⟩) (by simp;omega) (.int .i64 rk) |>.setCell (p:=⟨w.heap.size+1+1,1,none⟩) (by simp;omega) (.int .i64 rn) |>.setCell (p:=⟨w.heap.size+1+1,2,none⟩) (by simp;omega) (.int .i64 rm) |>.setCell (p:=⟨w.heap.size+1+1,3,none⟩) (by simp;omega) (.string rb)) (Grew.below ?_)
  repeat exact gB
theorem qbin_txt (op:Int) (an am bn bm:Int) (ab bb:List UInt8) (w:World) (rk rn rm re:Int) (rb:ByteArray) (o1:¬ op<6) (o2:¬ op > 18) (e17:(op != 17)=true) (e18:(op != 18)=true) (Ra:z0s 22 #[va 3 an am ⟨ab.toArray⟩] w (.bool true)) (Rb:z0s 22 #[va 3 bn bm ⟨bb.toArray⟩] w (.bool true)) (Na:z0s 119 #[va 3 an am ⟨ab.toArray⟩] w (.bool false)) (F:z0s 123 #[.int .i64 op,va 3 an am ⟨ab.toArray⟩,va 3 bn bm ⟨bb.toArray⟩] w (.tuple #[va rk rn rm rb,.int .i64 re])) :
  Calls Tryz.prog 84 #[.int .i64 op,va 3 an am ⟨ab.toArray⟩,va 3 bn bm ⟨bb.toArray⟩] w fun e w'=>e=.returned (.tuple #[va rk rn rm rb,.int .i64 re])∧Below w.heap.size w w':=by
 obtain ⟨w0,hw0,bxa,bxb,bxr,Bw⟩:=z0w w ⟨3,an,am,ab⟩ ⟨3,bn,bm,bb⟩
 dsimp only at hw0
 go_enter Tryz.func84,Tryz.ntmps84
 go_wp2_with fail
 rw [← hw0]
 clear hw0
 refine z0t 9 ?_
 have B0:Below w0.heap.size w0 w0:=Below.refl _ _
 obtain ⟨a0,a1,a2,a3⟩:=(bxa.later B0).at4
 obtain ⟨b0,b1,b2,b3⟩:=(bxb.later B0).at4
 dsimp only at a0 a1 a2 a3 b0 b1 b2 b3
 go_wp2_with fail
 refine (Ra _ (z0a Bw B0)).mono ?_
 rintro e w1 ⟨rfl,c⟩
 have B1:=z0a B0 c
 clear a0 a1 a2 a3 b0 b1 b2 b3 c
 obtain ⟨a0,a1,a2,a3⟩:=(bxa.later B1).at4
 obtain ⟨b0,b1,b2,b3⟩:=(bxb.later B1).at4
 dsimp only at a0 a1 a2 a3 b0 b1 b2 b3
 go_wp2_with fail
 refine (Rb _ (z0a Bw B1)).mono ?_
 rintro e w2 ⟨rfl,c⟩
 have B2:=z0a B1 c
 clear a0 a1 a2 a3 b0 b1 b2 b3 c
 obtain ⟨a0,a1,a2,a3⟩:=(bxa.later B2).at4
 obtain ⟨b0,b1,b2,b3⟩:=(bxb.later B2).at4
 dsimp only at a0 a1 a2 a3 b0 b1 b2 b3
 go_wp2_with fail
 refine z0p (n:=8) rfl ?_
 go_wp2_with fail
 refine z0p (n:=7) rfl ?_
 go_wp2_with fail
 refine z0p (n:=6) rfl ?_
 go_wp2_with fail
 refine (Na _ (z0a Bw B2)).mono ?_
 rintro e w3 ⟨rfl,c⟩
 have B3:=z0a B2 c
 clear a0 a1 a2 a3 b0 b1 b2 b3 c
 obtain ⟨a0,a1,a2,a3⟩:=(bxa.later B3).at4
 obtain ⟨b0,b1,b2,b3⟩:=(bxb.later B3).at4
 dsimp only at a0 a1 a2 a3 b0 b1 b2 b3
 go_wp2_with fail
 refine z0p (n:=5) rfl ?_
 go_wp2_with fail
 refine z0p (n:=4) rfl ?_
 go_wp2_with fail
 refine (F _ (z0a Bw B3)).mono ?_
 rintro e w4 ⟨rfl,c⟩
 have B4:=z0a B3 c
 clear a0 a1 a2 a3 b0 b1 b2 b3 c
 obtain ⟨a0,a1,a2,a3⟩:=(bxa.later B4).at4
 obtain ⟨b0,b1,b2,b3⟩:=(bxb.later B4).at4
 dsimp only at a0 a1 a2 a3 b0 b1 b2 b3
 have br:=bxr.later B4
 obtain ⟨r0,r1,r2,r3⟩:=br.at4
 have f0:=br.free 0
 have f1:=br.free 1
 have f2:=br.free 2
 have f3:=br.free 3
 have lt1:=br.lt
 have Be:=z0a Bw B4
 go_wp2
 refine z0x (by intro l h;cases h) ?_
 refine bodyPost_ret_by (v:=.tuple #[va rk rn rm rb,.int .i64 re]) ?_ rfl ⟨rfl,?_⟩
 ·simp [results,Tryz.results84,go_sem,r0,r1,r2,r3,nul]
 ·exact (((Be.setCell (p:=⟨w.heap.size+1+1,0,none⟩) (by simp;omega) _).setCell (p:=⟨w.heap.size+1+1,1,none⟩) (by simp;omega) _).setCell (p:=⟨w.heap.size+1+1,2,none⟩) (by simp;omega) _).setCell (p:=⟨w.heap.size+1+1,3,none⟩) (by simp;omega) _
theorem qbin_o5 (op:Int) (bk:Int) (an am bn bm:Int) (ab bb:List UInt8) (w:World) (o1:¬ op<6) (o2:¬ op > 18) (e17:(op != 17)=true) (e18:(op != 18)=true) (eb:(bk != 0)=true) (eb1:(bk != 5)=true) (Ra:z0s 22 #[va 5 an am ⟨ab.toArray⟩] w (.bool true)) (Rb:z0s 22 #[va bk bn bm ⟨bb.toArray⟩] w (.bool true)) (Na:z0s 119 #[va 5 an am ⟨ab.toArray⟩] w (.bool false)) :
  Calls Tryz.prog 84 #[.int .i64 op,va 5 an am ⟨ab.toArray⟩,va bk bn bm ⟨bb.toArray⟩] w fun e w'=>e=.returned (.tuple #[va 0 0 0 ⟨#[]⟩,.int .i64 31])∧Below w.heap.size w w':=by
 obtain ⟨w0,hw0,bxa,bxb,bxr,Bw⟩:=z0w w ⟨5,an,am,ab⟩ ⟨bk,bn,bm,bb⟩
 dsimp only at hw0
 go_enter Tryz.func84,Tryz.ntmps84
 go_wp2_with fail
 rw [← hw0]
 clear hw0
 refine z0t 9 ?_
 have B0:Below w0.heap.size w0 w0:=Below.refl _ _
 obtain ⟨a0,a1,a2,a3⟩:=(bxa.later B0).at4
 obtain ⟨b0,b1,b2,b3⟩:=(bxb.later B0).at4
 dsimp only at a0 a1 a2 a3 b0 b1 b2 b3
 go_wp2_with fail
 refine (Ra _ (z0a Bw B0)).mono ?_
 rintro e w1 ⟨rfl,c⟩
 have B1:=z0a B0 c
 clear a0 a1 a2 a3 b0 b1 b2 b3 c
 obtain ⟨a0,a1,a2,a3⟩:=(bxa.later B1).at4
 obtain ⟨b0,b1,b2,b3⟩:=(bxb.later B1).at4
 dsimp only at a0 a1 a2 a3 b0 b1 b2 b3
 go_wp2_with fail
 refine (Rb _ (z0a Bw B1)).mono ?_
 rintro e w2 ⟨rfl,c⟩
 have B2:=z0a B1 c
 clear a0 a1 a2 a3 b0 b1 b2 b3 c
 obtain ⟨a0,a1,a2,a3⟩:=(bxa.later B2).at4
 obtain ⟨b0,b1,b2,b3⟩:=(bxb.later B2).at4
 dsimp only at a0 a1 a2 a3 b0 b1 b2 b3
 go_wp2_with fail
 refine z0p (n:=8) rfl ?_
 go_wp2_with fail
 refine z0p (n:=7) rfl ?_
 go_wp2_with fail
 refine z0p (n:=6) rfl ?_
 go_wp2_with fail
 refine (Na _ (z0a Bw B2)).mono ?_
 rintro e w3 ⟨rfl,c⟩
 have B3:=z0a B2 c
 clear a0 a1 a2 a3 b0 b1 b2 b3 c
 obtain ⟨a0,a1,a2,a3⟩:=(bxa.later B3).at4
 obtain ⟨b0,b1,b2,b3⟩:=(bxb.later B3).at4
 dsimp only at a0 a1 a2 a3 b0 b1 b2 b3
 go_wp2_with fail
 refine z0p (n:=5) rfl ?_
 go_wp2_with fail
 refine z0p (n:=4) rfl ?_
 go_wp2_with fail
 refine z0p (n:=3) rfl ?_
 go_wp2_with fail
 refine z0p (n:=2) rfl ?_
 have br:=bxr.later B3
 obtain ⟨r0,r1,r2,r3⟩:=br.at4
 have f0:=br.free 0
 have f1:=br.free 1
 have f2:=br.free 2
 have f3:=br.free 3
 have lt1:=br.lt
 have Be:=z0a Bw B3
 go_wp2
 refine z0x (by intro l h;cases h) ?_
 refine bodyPost_ret_by (v:=.tuple #[va 0 0 0 ⟨#[]⟩,.int .i64 31]) ?_ rfl ⟨rfl,?_⟩
 ·simp [results,Tryz.results84,go_sem,r0,r1,r2,r3,nul]
 ·exact (((Be.setCell (p:=⟨w.heap.size+1+1,0,none⟩) (by simp;omega) _).setCell (p:=⟨w.heap.size+1+1,1,none⟩) (by simp;omega) _).setCell (p:=⟨w.heap.size+1+1,2,none⟩) (by simp;omega) _).setCell (p:=⟨w.heap.size+1+1,3,none⟩) (by simp;omega) _
theorem qbin_badA (op:Int) (ak:Int) (bk:Int) (an am bn bm:Int) (ab bb:List UInt8) (w:World) (o1:¬ op<6) (o2:¬ op > 18) (Ra:z0s 22 #[va ak an am ⟨ab.toArray⟩] w (.bool false)) :
  Calls Tryz.prog 84 #[.int .i64 op,va ak an am ⟨ab.toArray⟩,va bk bn bm ⟨bb.toArray⟩] w fun e w'=>e=.returned (.tuple #[va 0 0 0 ⟨#[]⟩,.int .i64 1])∧Below w.heap.size w w':=by
 obtain ⟨w0,hw0,bxa,bxb,bxr,Bw⟩:=z0w w ⟨ak,an,am,ab⟩ ⟨bk,bn,bm,bb⟩
 dsimp only at hw0
 go_enter Tryz.func84,Tryz.ntmps84
 go_wp2_with fail
 rw [← hw0]
 clear hw0
 refine z0t 9 ?_
 have B0:Below w0.heap.size w0 w0:=Below.refl _ _
 obtain ⟨a0,a1,a2,a3⟩:=(bxa.later B0).at4
 obtain ⟨b0,b1,b2,b3⟩:=(bxb.later B0).at4
 dsimp only at a0 a1 a2 a3 b0 b1 b2 b3
 go_wp2_with fail
 refine (Ra _ (z0a Bw B0)).mono ?_
 rintro e w1 ⟨rfl,c⟩
 have B1:=z0a B0 c
 clear a0 a1 a2 a3 b0 b1 b2 b3 c
 obtain ⟨a0,a1,a2,a3⟩:=(bxa.later B1).at4
 obtain ⟨b0,b1,b2,b3⟩:=(bxb.later B1).at4
 dsimp only at a0 a1 a2 a3 b0 b1 b2 b3
 have br:=bxr.later B1
 obtain ⟨r0,r1,r2,r3⟩:=br.at4
 have f0:=br.free 0
 have f1:=br.free 1
 have f2:=br.free 2
 have f3:=br.free 3
 have lt1:=br.lt
 have Be:=z0a Bw B1
 go_wp2
 refine z0x (by intro l h;cases h) ?_
 refine bodyPost_ret_by (v:=.tuple #[va 0 0 0 ⟨#[]⟩,.int .i64 1]) ?_ rfl ⟨rfl,?_⟩
 ·simp [results,Tryz.results84,go_sem,r0,r1,r2,r3,nul]
 ·exact (((Be.setCell (p:=⟨w.heap.size+1+1,0,none⟩) (by simp;omega) _).setCell (p:=⟨w.heap.size+1+1,1,none⟩) (by simp;omega) _).setCell (p:=⟨w.heap.size+1+1,2,none⟩) (by simp;omega) _).setCell (p:=⟨w.heap.size+1+1,3,none⟩) (by simp;omega) _
theorem qbin_nullA (op:Int) (bk:Int) (an am bn bm:Int) (ab bb:List UInt8) (w:World) (o1:¬ op<6) (o2:¬ op > 18) (e17:(op != 17)=true) (e18:(op != 18)=true) (Ra:z0s 22 #[va 0 an am ⟨ab.toArray⟩] w (.bool true)) (Rb:z0s 22 #[va bk bn bm ⟨bb.toArray⟩] w (.bool true)) :
  Calls Tryz.prog 84 #[.int .i64 op,va 0 an am ⟨ab.toArray⟩,va bk bn bm ⟨bb.toArray⟩] w fun e w'=>e=.returned (.tuple #[va 0 0 0 ⟨#[]⟩,.int .i64 0])∧Below w.heap.size w w':=by
 obtain ⟨w0,hw0,bxa,bxb,bxr,Bw⟩:=z0w w ⟨0,an,am,ab⟩ ⟨bk,bn,bm,bb⟩
 dsimp only at hw0
 go_enter Tryz.func84,Tryz.ntmps84
 go_wp2_with fail
 rw [← hw0]
 clear hw0
 refine z0t 9 ?_
 have B0:Below w0.heap.size w0 w0:=Below.refl _ _
 obtain ⟨a0,a1,a2,a3⟩:=(bxa.later B0).at4
 obtain ⟨b0,b1,b2,b3⟩:=(bxb.later B0).at4
 dsimp only at a0 a1 a2 a3 b0 b1 b2 b3
 go_wp2_with fail
 refine (Ra _ (z0a Bw B0)).mono ?_
 rintro e w1 ⟨rfl,c⟩
 have B1:=z0a B0 c
 clear a0 a1 a2 a3 b0 b1 b2 b3 c
 obtain ⟨a0,a1,a2,a3⟩:=(bxa.later B1).at4
 obtain ⟨b0,b1,b2,b3⟩:=(bxb.later B1).at4
 dsimp only at a0 a1 a2 a3 b0 b1 b2 b3
 go_wp2_with fail
 refine (Rb _ (z0a Bw B1)).mono ?_
 rintro e w2 ⟨rfl,c⟩
 have B2:=z0a B1 c
 clear a0 a1 a2 a3 b0 b1 b2 b3 c
 obtain ⟨a0,a1,a2,a3⟩:=(bxa.later B2).at4
 obtain ⟨b0,b1,b2,b3⟩:=(bxb.later B2).at4
 dsimp only at a0 a1 a2 a3 b0 b1 b2 b3
 go_wp2_with fail
 refine z0p (n:=8) rfl ?_
 have br:=bxr.later B2
 obtain ⟨r0,r1,r2,r3⟩:=br.at4
 have f0:=br.free 0
 have f1:=br.free 1
 have f2:=br.free 2
 have f3:=br.free 3
 have lt1:=br.lt
 have Be:=z0a Bw B2
 go_wp2
 refine z0x (by intro l h;cases h) ?_
 refine bodyPost_ret_by (v:=.tuple #[va 0 0 0 ⟨#[]⟩,.int .i64 0]) ?_ rfl ⟨rfl,?_⟩
 ·simp [results,Tryz.results84,go_sem,r0,r1,r2,r3,nul]
 ·exact (((Be.setCell (p:=⟨w.heap.size+1+1,0,none⟩) (by simp;omega) _).setCell (p:=⟨w.heap.size+1+1,1,none⟩) (by simp;omega) _).setCell (p:=⟨w.heap.size+1+1,2,none⟩) (by simp;omega) _).setCell (p:=⟨w.heap.size+1+1,3,none⟩) (by simp;omega) _
theorem qbin_n21 (op:Int) (an am bn bm:Int) (ab bb:List UInt8) (w:World) (rk rn rm re:Int) (rb:ByteArray) (o1:¬ op<6) (o2:¬ op > 18) (e17:(op != 17)=true) (e18:(op != 18)=true) (Ra:z0s 22 #[va 2 an am ⟨ab.toArray⟩] w (.bool true)) (Rb:z0s 22 #[va 1 bn bm ⟨bb.toArray⟩] w (.bool true)) (Na:z0s 119 #[va 2 an am ⟨ab.toArray⟩] w (.bool true)) (Nb:z0s 119 #[va 1 bn bm ⟨bb.toArray⟩] w (.bool true))  (F:∀ W,Below w.heap.size w W→Calls Tryz.prog 120 #[.int .i64 op,dv an am,dv bn bm] W fun e w'=>e=.returned (.tuple #[va rk rn rm rb,.int .i64 re])∧Grew W w') :
  Calls Tryz.prog 84 #[.int .i64 op,va 2 an am ⟨ab.toArray⟩,va 1 bn bm ⟨bb.toArray⟩] w fun e w'=>e=.returned (.tuple #[va rk rn rm rb,.int .i64 re])∧Below w.heap.size w w':=by
 obtain ⟨w0,hw0,bxa,bxb,bxr,Bw⟩:=z0w w ⟨2,an,am,ab⟩ ⟨1,bn,bm,bb⟩
 dsimp only at hw0
 go_enter Tryz.func84,Tryz.ntmps84
 go_wp2_with fail
 rw [← hw0]
 clear hw0
 refine z0t 9 ?_
 have B0:Below w0.heap.size w0 w0:=Below.refl _ _
 obtain ⟨a0,a1,a2,a3⟩:=(bxa.later B0).at4
 obtain ⟨b0,b1,b2,b3⟩:=(bxb.later B0).at4
 dsimp only at a0 a1 a2 a3 b0 b1 b2 b3
 go_wp2_with fail
 refine (Ra _ (z0a Bw B0)).mono ?_
 rintro e w1 ⟨rfl,c⟩
 have B1:=z0a B0 c
 clear a0 a1 a2 a3 b0 b1 b2 b3 c
 obtain ⟨a0,a1,a2,a3⟩:=(bxa.later B1).at4
 obtain ⟨b0,b1,b2,b3⟩:=(bxb.later B1).at4
 dsimp only at a0 a1 a2 a3 b0 b1 b2 b3
 go_wp2_with fail
 refine (Rb _ (z0a Bw B1)).mono ?_
 rintro e w2 ⟨rfl,c⟩
 have B2:=z0a B1 c
 clear a0 a1 a2 a3 b0 b1 b2 b3 c
 obtain ⟨a0,a1,a2,a3⟩:=(bxa.later B2).at4
 obtain ⟨b0,b1,b2,b3⟩:=(bxb.later B2).at4
 dsimp only at a0 a1 a2 a3 b0 b1 b2 b3
 go_wp2_with fail
 refine z0p (n:=8) rfl ?_
 go_wp2_with fail
 refine z0p (n:=7) rfl ?_
 go_wp2_with fail
 refine z0p (n:=6) rfl ?_
 go_wp2_with fail
 refine (Na _ (z0a Bw B2)).mono ?_
 rintro e w3 ⟨rfl,c⟩
 have B3:=z0a B2 c
 clear a0 a1 a2 a3 b0 b1 b2 b3 c
 obtain ⟨a0,a1,a2,a3⟩:=(bxa.later B3).at4
 obtain ⟨b0,b1,b2,b3⟩:=(bxb.later B3).at4
 dsimp only at a0 a1 a2 a3 b0 b1 b2 b3
 go_wp2_with fail
 refine (Nb _ (z0a Bw B3)).mono ?_
 rintro e w4 ⟨rfl,c⟩
 have B4:=z0a B3 c
 clear a0 a1 a2 a3 b0 b1 b2 b3 c
 obtain ⟨a0,a1,a2,a3⟩:=(bxa.later B4).at4
 obtain ⟨b0,b1,b2,b3⟩:=(bxb.later B4).at4
 dsimp only at a0 a1 a2 a3 b0 b1 b2 b3
 simp only [Nat.zero_add] at a1 a2 a3 b1 b2 b3
 have lta:=(bxa.later B4).lt
 have ltb:=(bxb.later B4).lt
 have U:=fun k n m b W=>z3y k n m b W
 have F4:∀ W,Grew w4 W→Calls Tryz.prog 120 #[.int .i64 op,dv an am,dv bn bm] W fun e w'=>e=.returned (.tuple #[va rk rn rm rb,.int .i64 re])∧Grew W w':=fun W h=>F W (z0a (z0a Bw B4) h.below)
 have br:=bxr.later B4
 obtain ⟨r0,r1,r2,r3⟩:=br.at4
 have f0:=br.free 0
 have f1:=br.free 1
 have f2:=br.free 2
 have f3:=br.free 3
 have lt1:=br.lt
 have Be:=z0a Bw B4
 dsimp only [nul] at r0 r1 r2 r3
 simp only [Nat.zero_add] at r1 r2 r3
 clear Ra Rb Na Nb F bxa bxb bxr br B0 B1 B2 B3 B4 Bw
 go_wp2_with fail
 go_region_held2 (fun W=>W.cell? ⟨w.heap.size,0,none⟩=some (.int .i64 2)∧W.cell? ⟨w.heap.size,1,none⟩=some (.int .i64 an)∧W.cell? ⟨w.heap.size,2,none⟩=some (.int .i64 am)∧W.cell? ⟨w.heap.size,3,none⟩=some (.string ⟨ab.toArray⟩) ∧
   W.cell? ⟨w.heap.size+1,0,none⟩=some (.int .i64 1)∧W.cell? ⟨w.heap.size+1,1,none⟩=some (.int .i64 bn)∧W.cell? ⟨w.heap.size+1,2,none⟩=some (.int .i64 bm)∧W.cell? ⟨w.heap.size+1,3,none⟩=some (.string ⟨bb.toArray⟩)) (simp (maxDischargeDepth:=12) [go_sem,a0,a1,a2,a3,b0,b1,b2,b3,lta,ltb]) (first
  | (go_at_call 121;refine (U _ _ _ _ _).mono ?_;rintro e w1 ⟨rfl,os1,n1,rfl⟩)
  | (go_at_call 120;refine (F4 _ gB).mono ?_;rintro e w2 ⟨rfl,os2,n2,rfl⟩))
 go_wp2
 refine z0x (by intro l h;cases h) ?_
 refine bodyPost_ret_by (v:=.tuple #[va rk rn rm rb,.int .i64 re]) ?_ rfl ⟨rfl,?_⟩
 ·simp [results,Tryz.results84,go_sem,r0,r1,r2,r3,lt1]
 ·refine z0a (Be.setCell (p:=⟨w.heap.size+1+1,0,none⟩) (by simp;omega) (.int .i64 rk) |>.setCell (p:=⟨w.heap.size+1+1,1,none⟩) (by simp;omega) (.int .i64 rn) |>.setCell (p:=⟨w.heap.size+1+1,2,none⟩) (by simp;omega) (.int .i64 rm) |>.setCell (p:=⟨w.heap.size+1+1,3,none⟩) (by simp;omega) (.string rb)) (Grew.below ?_)
  repeat exact gB
theorem qbin_bools (op:Int) (an am bn bm:Int) (ab bb:List UInt8) (w:World) (rk rn rm re:Int) (rb:ByteArray) (c:Int) (o1:¬ op<6) (o2:¬ op > 18) (e17:(op != 17)=true) (e18:(op != 18)=true) (Ra:z0s 22 #[va 4 an am ⟨ab.toArray⟩] w (.bool true)) (Rb:z0s 22 #[va 4 bn bm ⟨bb.toArray⟩] w (.bool true)) (Na:z0s 119 #[va 4 an am ⟨ab.toArray⟩] w (.bool false)) (D:z0s 125 #[va 4 an am ⟨ab.toArray⟩,va 4 bn bm ⟨bb.toArray⟩] w (.int .i64 c)) (F:z0s 124 #[.int .i64 op,.int .i64 c] w (.tuple #[va rk rn rm rb,.int .i64 re])) :
  Calls Tryz.prog 84 #[.int .i64 op,va 4 an am ⟨ab.toArray⟩,va 4 bn bm ⟨bb.toArray⟩] w fun e w'=>e=.returned (.tuple #[va rk rn rm rb,.int .i64 re])∧Below w.heap.size w w':=by
 obtain ⟨w0,hw0,bxa,bxb,bxr,Bw⟩:=z0w w ⟨4,an,am,ab⟩ ⟨4,bn,bm,bb⟩
 dsimp only at hw0
 go_enter Tryz.func84,Tryz.ntmps84
 go_wp2_with fail
 rw [← hw0]
 clear hw0
 refine z0t 9 ?_
 have B0:Below w0.heap.size w0 w0:=Below.refl _ _
 obtain ⟨a0,a1,a2,a3⟩:=(bxa.later B0).at4
 obtain ⟨b0,b1,b2,b3⟩:=(bxb.later B0).at4
 dsimp only at a0 a1 a2 a3 b0 b1 b2 b3
 go_wp2_with fail
 refine (Ra _ (z0a Bw B0)).mono ?_
 rintro e w1 ⟨rfl,c⟩
 have B1:=z0a B0 c
 clear a0 a1 a2 a3 b0 b1 b2 b3 c
 obtain ⟨a0,a1,a2,a3⟩:=(bxa.later B1).at4
 obtain ⟨b0,b1,b2,b3⟩:=(bxb.later B1).at4
 dsimp only at a0 a1 a2 a3 b0 b1 b2 b3
 go_wp2_with fail
 refine (Rb _ (z0a Bw B1)).mono ?_
 rintro e w2 ⟨rfl,c⟩
 have B2:=z0a B1 c
 clear a0 a1 a2 a3 b0 b1 b2 b3 c
 obtain ⟨a0,a1,a2,a3⟩:=(bxa.later B2).at4
 obtain ⟨b0,b1,b2,b3⟩:=(bxb.later B2).at4
 dsimp only at a0 a1 a2 a3 b0 b1 b2 b3
 go_wp2_with fail
 refine z0p (n:=8) rfl ?_
 go_wp2_with fail
 refine z0p (n:=7) rfl ?_
 go_wp2_with fail
 refine z0p (n:=6) rfl ?_
 go_wp2_with fail
 refine (Na _ (z0a Bw B2)).mono ?_
 rintro e w3 ⟨rfl,c⟩
 have B3:=z0a B2 c
 clear a0 a1 a2 a3 b0 b1 b2 b3 c
 obtain ⟨a0,a1,a2,a3⟩:=(bxa.later B3).at4
 obtain ⟨b0,b1,b2,b3⟩:=(bxb.later B3).at4
 dsimp only at a0 a1 a2 a3 b0 b1 b2 b3
 go_wp2_with fail
 refine z0p (n:=5) rfl ?_
 go_wp2_with fail
 refine z0p (n:=4) rfl ?_
 go_wp2_with fail
 refine z0p (n:=3) rfl ?_
 go_wp2_with fail
 refine (D _ (z0a Bw B3)).mono ?_
 rintro e w4 ⟨rfl,c⟩
 have B4:=z0a B3 c
 clear a0 a1 a2 a3 b0 b1 b2 b3 c
 obtain ⟨a0,a1,a2,a3⟩:=(bxa.later B4).at4
 obtain ⟨b0,b1,b2,b3⟩:=(bxb.later B4).at4
 dsimp only at a0 a1 a2 a3 b0 b1 b2 b3
 go_wp2_with fail
 refine (F _ (z0a Bw B4)).mono ?_
 rintro e w5 ⟨rfl,c⟩
 have B5:=z0a B4 c
 clear a0 a1 a2 a3 b0 b1 b2 b3 c
 obtain ⟨a0,a1,a2,a3⟩:=(bxa.later B5).at4
 obtain ⟨b0,b1,b2,b3⟩:=(bxb.later B5).at4
 dsimp only at a0 a1 a2 a3 b0 b1 b2 b3
 have br:=bxr.later B5
 obtain ⟨r0,r1,r2,r3⟩:=br.at4
 have f0:=br.free 0
 have f1:=br.free 1
 have f2:=br.free 2
 have f3:=br.free 3
 have lt1:=br.lt
 have Be:=z0a Bw B5
 go_wp2
 refine z0x (by intro l h;cases h) ?_
 refine bodyPost_ret_by (v:=.tuple #[va rk rn rm rb,.int .i64 re]) ?_ rfl ⟨rfl,?_⟩
 ·simp [results,Tryz.results84,go_sem,r0,r1,r2,r3,nul]
 ·exact (((Be.setCell (p:=⟨w.heap.size+1+1,0,none⟩) (by simp;omega) _).setCell (p:=⟨w.heap.size+1+1,1,none⟩) (by simp;omega) _).setCell (p:=⟨w.heap.size+1+1,2,none⟩) (by simp;omega) _).setCell (p:=⟨w.heap.size+1+1,3,none⟩) (by simp;omega) _
theorem qbin_o3 (op:Int) (bk:Int) (an am bn bm:Int) (ab bb:List UInt8) (w:World) (o1:¬ op<6) (o2:¬ op > 18) (e17:(op != 17)=true) (e18:(op != 18)=true) (eb:(bk != 0)=true) (eb1:(bk != 3)=true) (Ra:z0s 22 #[va 3 an am ⟨ab.toArray⟩] w (.bool true)) (Rb:z0s 22 #[va bk bn bm ⟨bb.toArray⟩] w (.bool true)) (Na:z0s 119 #[va 3 an am ⟨ab.toArray⟩] w (.bool false)) :
  Calls Tryz.prog 84 #[.int .i64 op,va 3 an am ⟨ab.toArray⟩,va bk bn bm ⟨bb.toArray⟩] w fun e w'=>e=.returned (.tuple #[va 0 0 0 ⟨#[]⟩,.int .i64 31])∧Below w.heap.size w w':=by
 obtain ⟨w0,hw0,bxa,bxb,bxr,Bw⟩:=z0w w ⟨3,an,am,ab⟩ ⟨bk,bn,bm,bb⟩
 dsimp only at hw0
 go_enter Tryz.func84,Tryz.ntmps84
 go_wp2_with fail
 rw [← hw0]
 clear hw0
 refine z0t 9 ?_
 have B0:Below w0.heap.size w0 w0:=Below.refl _ _
 obtain ⟨a0,a1,a2,a3⟩:=(bxa.later B0).at4
 obtain ⟨b0,b1,b2,b3⟩:=(bxb.later B0).at4
 dsimp only at a0 a1 a2 a3 b0 b1 b2 b3
 go_wp2_with fail
 refine (Ra _ (z0a Bw B0)).mono ?_
 rintro e w1 ⟨rfl,c⟩
 have B1:=z0a B0 c
 clear a0 a1 a2 a3 b0 b1 b2 b3 c
 obtain ⟨a0,a1,a2,a3⟩:=(bxa.later B1).at4
 obtain ⟨b0,b1,b2,b3⟩:=(bxb.later B1).at4
 dsimp only at a0 a1 a2 a3 b0 b1 b2 b3
 go_wp2_with fail
 refine (Rb _ (z0a Bw B1)).mono ?_
 rintro e w2 ⟨rfl,c⟩
 have B2:=z0a B1 c
 clear a0 a1 a2 a3 b0 b1 b2 b3 c
 obtain ⟨a0,a1,a2,a3⟩:=(bxa.later B2).at4
 obtain ⟨b0,b1,b2,b3⟩:=(bxb.later B2).at4
 dsimp only at a0 a1 a2 a3 b0 b1 b2 b3
 go_wp2_with fail
 refine z0p (n:=8) rfl ?_
 go_wp2_with fail
 refine z0p (n:=7) rfl ?_
 go_wp2_with fail
 refine z0p (n:=6) rfl ?_
 go_wp2_with fail
 refine (Na _ (z0a Bw B2)).mono ?_
 rintro e w3 ⟨rfl,c⟩
 have B3:=z0a B2 c
 clear a0 a1 a2 a3 b0 b1 b2 b3 c
 obtain ⟨a0,a1,a2,a3⟩:=(bxa.later B3).at4
 obtain ⟨b0,b1,b2,b3⟩:=(bxb.later B3).at4
 dsimp only at a0 a1 a2 a3 b0 b1 b2 b3
 go_wp2_with fail
 refine z0p (n:=5) rfl ?_
 go_wp2_with fail
 refine z0p (n:=4) rfl ?_
 go_wp2_with fail
 refine z0p (n:=3) rfl ?_
 go_wp2_with fail
 refine z0p (n:=2) rfl ?_
 have br:=bxr.later B3
 obtain ⟨r0,r1,r2,r3⟩:=br.at4
 have f0:=br.free 0
 have f1:=br.free 1
 have f2:=br.free 2
 have f3:=br.free 3
 have lt1:=br.lt
 have Be:=z0a Bw B3
 go_wp2
 refine z0x (by intro l h;cases h) ?_
 refine bodyPost_ret_by (v:=.tuple #[va 0 0 0 ⟨#[]⟩,.int .i64 31]) ?_ rfl ⟨rfl,?_⟩
 ·simp [results,Tryz.results84,go_sem,r0,r1,r2,r3,nul]
 ·exact (((Be.setCell (p:=⟨w.heap.size+1+1,0,none⟩) (by simp;omega) _).setCell (p:=⟨w.heap.size+1+1,1,none⟩) (by simp;omega) _).setCell (p:=⟨w.heap.size+1+1,2,none⟩) (by simp;omega) _).setCell (p:=⟨w.heap.size+1+1,3,none⟩) (by simp;omega) _
end Go.Proofs.YtljkonkfeiojnaaGreatDoor
