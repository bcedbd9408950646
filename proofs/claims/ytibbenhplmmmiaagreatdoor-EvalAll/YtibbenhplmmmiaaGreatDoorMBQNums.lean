/-
  What ops of one and of two come to, as plain data.
  A scope whose gotos are followed one by one, at most n of them: the walk goes on at the label. Nothing of the program is in it.
  The smallest functions of package eval.
  What a call gives in every later world; three boxes.
  eval.Binary, path by path: from kind to kind.
  Ops of two Ints: eval.difference, quotient, rest, ofInts.
  Ops of two numbers: eval.ofNumbers.
-/
import Derived.Test.YtibbenhplmmmiaaGreatDoorMbVGood
import Derived.Test.YtibbenhplmmmiaaGreatDoorMcDWide3
import Derived.Test.YtibbenhplmmmiaaGreatDoorMAHRef4
import Derived.Test.YtibbenhplmmmiaaGreatDoorMvVOrd1
import Derived.Test.YtibbenhplmmmiaaGreatDoorVCmp2
import Derived.Test.YtibbenhplmmmiaaGreatDoorDDivs
import Derived.Test.YtibbenhplmmmiaaGreatDoorMaLJumps
import Derived.Test.YtibbenhplmmmiaaGreatDoorDInt0
import Derived.Test.YtibbenhplmmmiaaGreatDoorDSub
import Derived.Test.YtibbenhplmmmiaaGreatDoorDAdd
import Derived.Test.YtibbenhplmmmiaaGreatDoorDMul
import Derived.Test.YtibbenhplmmmiaaGreatDoorDDivz
set_option maxHeartbeats 4000000
set_option maxRecDepth 20000
namespace Go.Proofs.YtibbenhplmmmiaaGreatDoor
def nul:Va:=⟨0,0,0,[]⟩
def vI (z:Int):Va:=⟨1,z,0,[]⟩
def vD (u s:Int):Va:=⟨2,u,s,[]⟩
def vT (l:List UInt8):Va:=⟨3,0,0,l⟩
def vB (b:Bool):Va:=⟨4,if b then 1 else 0,0,[]⟩
def vP (x y:Int):Va:=⟨5,x,y,[]⟩
def vO (t:Int):Va:=if t=0∨t=1 then ⟨4,t,0,[]⟩ else nul
abbrev rs (r:Va × Int):Value:=.tuple #[vv r.1,.int .i64 r.2]
def z0v (z e:Int):Va × Int:=if e=0 then (vI z,0) else (nul,e)
def z2a (u s e:Int):Va × Int:=if e=0 then (vD u s,0) else (nul,e)
def z0u (x y e:Int):Va × Int:=if e=0 then (vP x y,0) else (nul,e)
def cmpR (op c:Int):Va × Int :=
 if op=11 then (vB (c==0),0) else if op=12 then (vB (!(c==0)),0) else if op=13 then (vB (decide (c<0)),0) else if op=14 then (vB (decide (c≤0)),0)
 else if op=15 then (vB (decide (c > 0)),0) else if op=16 then (vB (decide (c ≥ 0)),0) else (nul,31)
def quoR (a b:Int):Int × Int:=if b=0 then (0,33) else if b=-1 then (nz (-a),nErr (-a)) else (a.tdiv b,0)
def remR (a b:Int):Int × Int:=if b=0 then (0,33) else (a.tmod b,0)
def intsR (op a b:Int):Va × Int :=
 if op=9 then z0v (nz (a+b)) (nErr (a+b)) else if op=10 then z0v (nz (a - b)) (nErr (a - b)) else if op=6 then z0v (nz (a*b)) (nErr (a*b))
 else if op=7 then z0v (quoR a b).1 (quoR a b).2 else if op=8 then z0v (remR a b).1 (remR a b).2 else cmpR op (numc a b)
def gsc (s t:Int):Int:=if t≤s then s else t
def psc (s t:Int):Int:=if s+t≤6 then s+t else 6
def decR (z s:Int):Va × Int:=z2a (nz z) (fs z s) (nErr z)
def z9s (op:Int) (a b:Va):Va × Int :=
 if op=9 then decR (at10 a.n a.m (gsc a.m b.m)+at10 b.n b.m (gsc a.m b.m)) (gsc a.m b.m)
 else if op=10 then decR (at10 a.n a.m (gsc a.m b.m) - at10 b.n b.m (gsc a.m b.m)) (gsc a.m b.m)
 else if op=6 then decR (rq (a.n*b.n) (10^(a.m+b.m - psc a.m b.m).toNat:Nat)) (psc a.m b.m)
 else if op=7 then (if b.n=0 then (nul,33) else decR (dq a.n a.m b.n b.m 6) 6)
 else cmpR op (numc (at6 a) (at6 b))
def ptR (x y:Int):Va × Int:=z0u (Ga.tX x y) (Ga.tY x y) (Ga.tE x y)
def ptsR (op:Int) (a b:Va):Va × Int :=
 if op=9 then ptR (a.n+b.n) (a.m+b.m)
 else if op=10 then ptR (a.n - b.n) (a.m - b.m)
 else if op=6 then ptR (a.n*b.n - a.m*b.m) (a.n*b.m+a.m*b.n)
 else if op=7 then (if b.n=0∧b.m=0 then (nul,33) else (vP (Ga.qX a.n a.m b.n b.m) (Ga.qY a.n a.m b.n b.m),0))
 else if op=8 then (if b.n=0∧b.m=0 then (nul,33) else (vP (Ga.rX a.n a.m b.n b.m) (Ga.rY a.n a.m b.n b.m),0))
 else cmpR op (pcmp a b)
def txtR (op:Int) (a b:Va):Va × Int :=
 if op=9 then (if 256<a.b.length+b.b.length then (nul,32) else (vT (a.b++b.b),0)) else cmpR op (pcmp a b)
def tN (a:Va):Int:=truN a.k a.n a.m ⟨a.b.toArray⟩
def tB (a:Va):Bool:=truB a.k a.n a.m ⟨a.b.toArray⟩
def truR (op:Int) (a b:Va):Va × Int :=
 if (tB a&&tB b)=true then (if op=17 then (vO (tand (tN a) (tN b)),0) else (vO (tor (tN a) (tN b)),0)) else (nul,31)
def binR (op:Int) (a b:Va):Va × Int :=
 if ¬ (6≤op∧op≤18∧vr a=true∧vr b=true) then (nul,1)
 else if op=17∨op=18 then truR op a b
 else if a.k=0∨b.k=0 then (nul,0)
 else if a.k=1∧b.k=1 then intsR op a.n b.n
 else if isn a∧isn b then z9s op a b
 else if a.k=5∧b.k=5 then ptsR op a b
 else if a.k=3∧b.k=3 then txtR op a b
 else if a.k=4∧b.k=4 then cmpR op (pcmp a b)
 else (nul,31)
def negR (a:Va):Va × Int :=
 if a.k=0 then (nul,0) else if a.k=1 then z0v (nz (0 - a.n)) (nErr (0 - a.n)) else if a.k=2 then decR (-a.n) a.m
 else if a.k=5 then (vP (-a.n) (-a.m),0) else (nul,31)
def notR (a:Va):Va × Int:=if tB a=true then (vO (tnot (tN a)),0) else (nul,31)
def unR (op:Int) (a:Va):Va × Int :=
 if ¬ (3≤op∧op≤5∧vr a=true) then (nul,1)
 else if op=5 then (vB (a.k==0),0) else if op=4 then notR a else negR a
def onward (P:Program) (c:Code) (Q:Exit→Act→World→Prop):Nat→Exit→Act→World→Prop
 | 0,.goto _,_,_=>False
 | n+1,.goto l,a,w=>∃ rest,findLabel c l=some rest∧rest.wp P (onward P c Q n) a w
 | _,e,a,w=>Q e a w
theorem z0r {P:Program} {c rest:Code} {Q:Exit→Act→World→Prop} {K:Act→World→Prop} {n l:Nat} {a:Act} {w:World} (hf:findLabel c l=some rest) (h:rest.wp P (onward P c Q n) a w):(Code.goto l).wp P (Exit.then K (onward P c Q (n+1))) a w :=
 wp_goto (show onward P c Q (n+1) (.goto l) a w from ⟨rest,hf,h⟩)
theorem z1a {P:Program} {c:Code} {Q:Exit→Act→World→Prop} {n:Nat} {e:Exit} {a:Act} {w:World} (he:∀ l,e≠.goto l) (h:Q e a w):onward P c Q n e a w:=by
 cases n <;> cases e <;> first|exact h|exact absurd rfl (he _)
theorem z0x {P:Program} {a:Act} {w:World} {Q:Exit→Act→World→Prop} {c:Code} (n:Nat) (h:c.wp P (onward P c Q n) a w):(Code.scope c).wp P Q a w:=by
 intro b k cs
 have key:∀ n e a w,onward P c Q n e a w→∃ e' a' w',Q e' a' w'∧∀ s,Arrives P s b (.inScope c::k) cs e a w→Arrives P s b k cs e' a' w':=by
  intro n
  induction n with
  | zero =>
   intro e a w h
   cases e with
   | normal=>exact ⟨.normal,a,w,h,fun s harr=>Steps.trans harr (.one step_inScope)⟩
   | exit id=>exact ⟨.exit id,a,w,h,fun s harr k' hk=>harr k' (by simp [exitTo,hk])⟩
   | goto l'=>exact h.elim
   | ret=>exact ⟨_,a,w,h,fun s harr=>harr⟩
   | panic ch=>exact ⟨_,a,w,h,fun s harr=>harr⟩
   | outgrown=>exact ⟨_,a,w,h,fun s harr=>harr⟩
  | succ n ih =>
   intro e a w h
   cases e with
   | normal=>exact ⟨.normal,a,w,h,fun s harr=>Steps.trans harr (.one step_inScope)⟩
   | exit id=>exact ⟨.exit id,a,w,h,fun s harr k' hk=>harr k' (by simp [exitTo,hk])⟩
   | goto l' =>
    obtain ⟨rest,hf,hp⟩:=h
    obtain ⟨e₁,a₁,w₁,hq,harr₁⟩:=hp b (.inScope c::k) cs
    obtain ⟨e',a',w',hQ,hk⟩:=ih e₁ a₁ w₁ hq
    have hg:gotoIn l' (.inScope c::k)=some (.code rest::.inScope c::k):=by simp [gotoIn,hf]
    exact ⟨e',a',w',hQ,fun s harr=>.of_steps (harr _ hg) (hk _ harr₁)⟩
   | ret=>exact ⟨_,a,w,h,fun s harr=>harr⟩
   | panic ch=>exact ⟨_,a,w,h,fun s harr=>harr⟩
   | outgrown=>exact ⟨_,a,w,h,fun s harr=>harr⟩
 obtain ⟨e,a₁,w₁,hq,harr⟩:=h b (.inScope c::k) cs
 obtain ⟨e',a',w',hQ,hk⟩:=key n e a₁ w₁ hq
 exact ⟨e',a',w',hQ,.of_steps (.one step_scope) (hk _ harr)⟩
end Go.Proofs.YtibbenhplmmmiaaGreatDoor

namespace Go.Proofs.YtibbenhplmmmiaaGreatDoor
open Go.RowKit Go.Shelf
attribute [local go_sem] z0e z0b z0c z0f z0m z0k z0h z0d z0g
theorem z2g (k n m:Int) (b:ByteArray) (w:World):Calls Tryz.prog 102 #[va k n m b] w fun e w'=>e=.returned (.bool (k==1 || k==2))∧Grew w w':=by
 by_cases h:k=1
 ·subst h
  go_enter Tryz.func102,Tryz.ntmps102
  go_wp2
  all_goals go_ret
  all_goals exact ⟨rfl,gA⟩
 ·have h':(k==1)=false:=by simpa using h
  rw [h',Bool.false_or]
  go_enter Tryz.func102,Tryz.ntmps102
  go_wp2
  all_goals go_ret
  all_goals exact ⟨rfl,gA⟩
theorem z3q (k n m:Int) (b:ByteArray) (w:World):Calls Tryz.prog 104 #[va k n m b] w fun e w'=>e=.returned (dv n m)∧Grew w w':=by
 go_enter Tryz.func104,Tryz.ntmps104
 go_wp2
 refine bodyPost_ret_by (v:=dv n m) ?_ rfl ⟨rfl,?_⟩
 ·simp [results,Tryz.results104,go_sem]
 ·exact gA
theorem z8g (k n m:Int) (b:ByteArray) (w:World):Calls Tryz.prog 168 #[va k n m b] w fun e w'=>e=.returned (dv n m)∧Grew w w':=by
 go_enter Tryz.func168,Tryz.ntmps168
 go_wp2
 refine bodyPost_ret_by (v:=dv n m) ?_ rfl ⟨rfl,?_⟩
 ·simp [results,Tryz.results168,go_sem]
 ·exact gA
theorem z8v (b:Bool) (w:World):Calls Tryz.prog 70 #[.bool b] w fun e w'=>e=.returned (vv (vB b))∧Grew w w':=by
 have O1:∀ W,Calls Tryz.prog 72 #[.int .i64 1] W fun e w'=>e=.returned (va 4 1 0 ⟨#[]⟩)∧Grew W w':=fun W=>of_any 1 W
 have O0:∀ W,Calls Tryz.prog 72 #[.int .i64 0] W fun e w'=>e=.returned (va 4 0 0 ⟨#[]⟩)∧Grew W w':=fun W=>of_any 0 W
 cases b
 ·go_enter Tryz.func70,Tryz.ntmps70
  go_wp2_with (first
   | (go_at_call_of 72 (Value.int IntKind.i64 1);refine (O1 _).mono ?_;rintro e w1 ⟨rfl,os1,n1,rfl⟩)
   | (go_at_call_of 72 (Value.int IntKind.i64 0);refine (O0 _).mono ?_;rintro e w1 ⟨rfl,os1,n1,rfl⟩))
  refine bodyPost_ret_by (v:=vv (vB false)) ?_ rfl ⟨rfl,?_⟩
  ·simp [results,Tryz.results70,go_sem,vB]
  ·exact gA
 ·go_enter Tryz.func70,Tryz.ntmps70
  go_wp2_with (first
   | (go_at_call_of 72 (Value.int IntKind.i64 1);refine (O1 _).mono ?_;rintro e w1 ⟨rfl,os1,n1,rfl⟩)
   | (go_at_call_of 72 (Value.int IntKind.i64 0);refine (O0 _).mono ?_;rintro e w1 ⟨rfl,os1,n1,rfl⟩))
  refine bodyPost_ret_by (v:=vv (vB true)) ?_ rfl ⟨rfl,?_⟩
  ·simp [results,Tryz.results70,go_sem,vB]
  ·exact gA
theorem z2e (n x:Int) (w:World):Calls Tryz.prog 155 #[.int .i64 n,.int .i64 x] w fun e w'=>e=.returned (rs (z0v n x))∧Grew w w':=by
 unfold z0v
 by_cases h:x=0
 ·subst h
  rw [if_pos rfl]
  go_enter Tryz.func155,Tryz.ntmps155
  go_wp2
  refine bodyPost_ret_by (v:=rs (vI n,0)) ?_ rfl ⟨rfl,?_⟩
  ·simp [results,Tryz.results155,go_sem,vI]
  ·exact gA
 ·rw [if_neg h]
  have h':(x==0)=false:=by simpa using h
  go_enter Tryz.func155,Tryz.ntmps155
  go_wp2
  refine bodyPost_ret_by (v:=rs (nul,x)) ?_ rfl ⟨rfl,?_⟩
  ·simp [results,Tryz.results155,go_sem,nul]
  ·exact gA
theorem z3t (u s x:Int) (w:World):Calls Tryz.prog 162 #[dv u s,.int .i64 x] w fun e w'=>e=.returned (rs (z2a u s x))∧Grew w w':=by
 unfold z2a
 by_cases h:x=0
 ·subst h
  rw [if_pos rfl]
  go_enter Tryz.func162,Tryz.ntmps162
  go_wp2
  refine bodyPost_ret_by (v:=rs (vD u s,0)) ?_ rfl ⟨rfl,?_⟩
  ·simp [results,Tryz.results162,go_sem,vD]
  ·exact gA
 ·rw [if_neg h]
  have h':(x==0)=false:=by simpa using h
  go_enter Tryz.func162,Tryz.ntmps162
  go_wp2
  refine bodyPost_ret_by (v:=rs (nul,x)) ?_ rfl ⟨rfl,?_⟩
  ·simp [results,Tryz.results162,go_sem,nul]
  ·exact gA
theorem z7g (u s x:Int) (w:World):Calls Tryz.prog 169 #[dv u s,.int .i64 x] w fun e w'=>e=.returned (rs (z0u u s x))∧Grew w w':=by
 unfold z0u
 by_cases h:x=0
 ·subst h
  rw [if_pos rfl]
  go_enter Tryz.func169,Tryz.ntmps169
  go_wp2
  refine bodyPost_ret_by (v:=rs (vP u s,0)) ?_ rfl ⟨rfl,?_⟩
  ·simp [results,Tryz.results169,go_sem,vP]
  ·exact gA
 ·rw [if_neg h]
  have h':(x==0)=false:=by simpa using h
  go_enter Tryz.func169,Tryz.ntmps169
  go_wp2
  refine bodyPost_ret_by (v:=rs (nul,x)) ?_ rfl ⟨rfl,?_⟩
  ·simp [results,Tryz.results169,go_sem,nul]
  ·exact gA
theorem z3f (op c:Int) (w:World):Calls Tryz.prog 107 #[.int .i64 op,.int .i64 c] w fun e w'=>e=.returned (rs (cmpR op c))∧Grew w w':=by
 have T:=fun b W=>z8v b W
 unfold cmpR
 by_cases h11:op=11
 ·subst h11
  rw [if_pos rfl]
  go_enter Tryz.func107,Tryz.ntmps107
  go_wp2_with (go_at_call 70;refine (T (c==0) _).mono ?_;rintro e w1 ⟨rfl,os1,n1,rfl⟩)
  refine bodyPost_ret_by (v:=rs (vB (c==0),0)) ?_ rfl ⟨rfl,?_⟩
  ·simp [results,Tryz.results107,go_sem]
  ·exact gA
 have c11:(op==11)=false:=by simpa using h11
 by_cases h12:op=12
 ·subst h12
  rw [if_neg (by decide),if_pos rfl]
  go_enter Tryz.func107,Tryz.ntmps107
  go_wp2_with (go_at_call 70;refine (T (!(c==0)) _).mono ?_;rintro e w1 ⟨rfl,os1,n1,rfl⟩)
  refine bodyPost_ret_by (v:=rs (vB (!(c==0)),0)) ?_ rfl ⟨rfl,?_⟩
  ·simp [results,Tryz.results107,go_sem]
  ·exact gA
 have c12:(op==12)=false:=by simpa using h12
 by_cases h13:op=13
 ·subst h13
  rw [if_neg (by decide),if_neg (by decide),if_pos rfl]
  go_enter Tryz.func107,Tryz.ntmps107
  go_wp2_with (go_at_call 70;refine (T (decide (c<0)) _).mono ?_;rintro e w1 ⟨rfl,os1,n1,rfl⟩)
  refine bodyPost_ret_by (v:=rs (vB (decide (c<0)),0)) ?_ rfl ⟨rfl,?_⟩
  ·simp [results,Tryz.results107,go_sem]
  ·exact gA
 have c13:(op==13)=false:=by simpa using h13
 by_cases h14:op=14
 ·subst h14
  rw [if_neg (by decide),if_neg (by decide),if_neg (by decide),if_pos rfl]
  go_enter Tryz.func107,Tryz.ntmps107
  go_wp2_with (go_at_call 70;refine (T (decide (c≤0)) _).mono ?_;rintro e w1 ⟨rfl,os1,n1,rfl⟩)
  refine bodyPost_ret_by (v:=rs (vB (decide (c≤0)),0)) ?_ rfl ⟨rfl,?_⟩
  ·simp [results,Tryz.results107,go_sem]
  ·exact gA
 have c14:(op==14)=false:=by simpa using h14
 by_cases h15:op=15
 ·subst h15
  rw [if_neg (by decide),if_neg (by decide),if_neg (by decide),if_neg (by decide),if_pos rfl]
  go_enter Tryz.func107,Tryz.ntmps107
  go_wp2_with (go_at_call 70;refine (T (decide (c > 0)) _).mono ?_;rintro e w1 ⟨rfl,os1,n1,rfl⟩)
  refine bodyPost_ret_by (v:=rs (vB (decide (c > 0)),0)) ?_ rfl ⟨rfl,?_⟩
  ·simp [results,Tryz.results107,go_sem]
  ·exact gA
 have c15:(op==15)=false:=by simpa using h15
 by_cases h16:op=16
 ·subst h16
  rw [if_neg (by decide),if_neg (by decide),if_neg (by decide),if_neg (by decide),if_neg (by decide),if_pos rfl]
  go_enter Tryz.func107,Tryz.ntmps107
  go_wp2_with (go_at_call 70;refine (T (decide (c ≥ 0)) _).mono ?_;rintro e w1 ⟨rfl,os1,n1,rfl⟩)
  refine bodyPost_ret_by (v:=rs (vB (decide (c ≥ 0)),0)) ?_ rfl ⟨rfl,?_⟩
  ·simp [results,Tryz.results107,go_sem]
  ·exact gA
 have c16:(op==16)=false:=by simpa using h16
 rw [if_neg h11,if_neg h12,if_neg h13,if_neg h14,if_neg h15,if_neg h16]
 clear T
 go_enter Tryz.func107,Tryz.ntmps107
 go_wp2
 refine bodyPost_ret_by (v:=rs (nul,31)) ?_ rfl ⟨rfl,?_⟩
 ·simp [results,Tryz.results107,go_sem,nul]
 ·exact gA
abbrev z0n (f:Nat) (args:Array Value) (w:World) (v:Value):Prop:=∀ W:World,Below w.heap.size w W→Calls Tryz.prog f args W fun e w'=>e=.returned v∧Below W.heap.size W w'
theorem z0n.later {f:Nat} {args:Array Value} {w w':World} {v:Value} (h:z0n f args w v) (hb:Below w.heap.size w w'):z0n f args w' v:=fun W hW=>h W (z0a hb hW)
theorem z0q (w:World) (a b:Va):∃ w0,w0=(((w.alloc (.cells #[.int .i64 a.k,.int .i64 a.n,.int .i64 a.m,.string ⟨a.b.toArray⟩] 23)).alloc (.cells #[.int .i64 b.k,.int .i64 b.n,.int .i64 b.m,.string ⟨b.b.toArray⟩] 23)).alloc (.cells #[.int .i64 0,.int .i64 0,.int .i64 0,.string ⟨#[]⟩] 23)) ∧
  Box w0 w.heap.size a∧Box w0 (w.heap.size+1) b∧Box w0 (w.heap.size+1+1) nul∧Below w.heap.size w w0:=by
 obtain ⟨h1,h2,h3⟩:=z7n w a b
 refine ⟨_,rfl,h1.later ((Below.refl _ _).alloc (Nat.le_refl _) _),h2.later ((Below.refl _ _).alloc (Nat.le_refl _) _),?_,h3.alloc (by simp;omega) _⟩
 have:=Box.new (((w.alloc (.cells #[.int .i64 a.k,.int .i64 a.n,.int .i64 a.m,.string ⟨a.b.toArray⟩] 23)).alloc (.cells #[.int .i64 b.k,.int .i64 b.n,.int .i64 b.m,.string ⟨b.b.toArray⟩] 23))) 0 0 0 []
 simp only [World.size_alloc] at this
 exact this
theorem qbin_low (op:Int) (ak:Int) (bk:Int) (an am bn bm:Int) (ab bb:List UInt8) (w:World) (o1:op<6)  :
  Calls Tryz.prog 56 #[.int .i64 op,va ak an am ⟨ab.toArray⟩,va bk bn bm ⟨bb.toArray⟩] w fun e w'=>e=.returned (.tuple #[va 0 0 0 ⟨#[]⟩,.int .i64 1])∧Below w.heap.size w w':=by
 obtain ⟨w0,hw0,bxa,bxb,bxr,Bw⟩:=z0q w ⟨ak,an,am,ab⟩ ⟨bk,bn,bm,bb⟩
 dsimp only at hw0
 go_enter Tryz.func56,Tryz.ntmps56
 go_wp2_with fail
 rw [← hw0]
 clear hw0
 refine z0x 9 ?_
 have B0:Below w0.heap.size w0 w0:=Below.refl _ _
 obtain ⟨a0,a1,a2,a3⟩:=(bxa.later B0).at4
 obtain ⟨b0,b1,b2,b3⟩:=(bxb.later B0).at4
 dsimp only at a0 a1 a2 a3 b0 b1 b2 b3
 have br:=bxr.later B0
 obtain ⟨r0,r1,r2,r3⟩:=br.at4
 have f0:=br.free 0
 have f1:=br.free 1
 have f2:=br.free 2
 have f3:=br.free 3
 have lt1:=br.lt
 have Be:=z0a Bw B0
 go_wp2
 refine z1a (by intro l h;cases h) ?_
 refine bodyPost_ret_by (v:=.tuple #[va 0 0 0 ⟨#[]⟩,.int .i64 1]) ?_ rfl ⟨rfl,?_⟩
 ·simp [results,Tryz.results56,go_sem,r0,r1,r2,r3,nul]
 ·exact (((Be.setCell (p:=⟨w.heap.size+1+1,0,none⟩) (by simp;omega) _).setCell (p:=⟨w.heap.size+1+1,1,none⟩) (by simp;omega) _).setCell (p:=⟨w.heap.size+1+1,2,none⟩) (by simp;omega) _).setCell (p:=⟨w.heap.size+1+1,3,none⟩) (by simp;omega) _
theorem qbin_t17 (ak:Int) (bk:Int) (an am bn bm:Int) (ab bb:List UInt8) (w:World) (rk rn rm re:Int) (rb:ByteArray) (Ra:z0n 34 #[va ak an am ⟨ab.toArray⟩] w (.bool true)) (Rb:z0n 34 #[va bk bn bm ⟨bb.toArray⟩] w (.bool true)) (F:z0n 100 #[.int .i64 17,va ak an am ⟨ab.toArray⟩,va bk bn bm ⟨bb.toArray⟩] w (.tuple #[va rk rn rm rb,.int .i64 re])) :
  Calls Tryz.prog 56 #[.int .i64 17,va ak an am ⟨ab.toArray⟩,va bk bn bm ⟨bb.toArray⟩] w fun e w'=>e=.returned (.tuple #[va rk rn rm rb,.int .i64 re])∧Below w.heap.size w w':=by
 obtain ⟨w0,hw0,bxa,bxb,bxr,Bw⟩:=z0q w ⟨ak,an,am,ab⟩ ⟨bk,bn,bm,bb⟩
 dsimp only at hw0
 go_enter Tryz.func56,Tryz.ntmps56
 go_wp2_with fail
 rw [← hw0]
 clear hw0
 refine z0x 9 ?_
 have B0:Below w0.heap.size w0 w0:=Below.refl _ _
 obtain ⟨a0,a1,a2,a3⟩:=(bxa.later B0).at4
 obtain ⟨b0,b1,b2,b3⟩:=(bxb.later B0).at4
 dsimp only at a0 a1 a2 a3 b0 b1 b2 b3
 go_wp2_with fail
 refine (Ra _ (z0a Bw B0)).mono ?_
 rintro e w1 ⟨rfl,c⟩
 have B1:=z0a B0 c
 clear a0 a1 a2 a3 b0 b1 b2 b3 c
 obtain ⟨a0,a1,a2,a3⟩:=(bxa.later B1).at4
 obtain ⟨b0,b1,b2,b3⟩:=(bxb.later B1).at4
 dsimp only at a0 a1 a2 a3 b0 b1 b2 b3
 go_wp2_with fail
 refine (Rb _ (z0a Bw B1)).mono ?_
 rintro e w2 ⟨rfl,c⟩
 have B2:=z0a B1 c
 clear a0 a1 a2 a3 b0 b1 b2 b3 c
 obtain ⟨a0,a1,a2,a3⟩:=(bxa.later B2).at4
 obtain ⟨b0,b1,b2,b3⟩:=(bxb.later B2).at4
 dsimp only at a0 a1 a2 a3 b0 b1 b2 b3
 go_wp2_with fail
 refine (F _ (z0a Bw B2)).mono ?_
 rintro e w3 ⟨rfl,c⟩
 have B3:=z0a B2 c
 clear a0 a1 a2 a3 b0 b1 b2 b3 c
 obtain ⟨a0,a1,a2,a3⟩:=(bxa.later B3).at4
 obtain ⟨b0,b1,b2,b3⟩:=(bxb.later B3).at4
 dsimp only at a0 a1 a2 a3 b0 b1 b2 b3
 have br:=bxr.later B3
 obtain ⟨r0,r1,r2,r3⟩:=br.at4
 have f0:=br.free 0
 have f1:=br.free 1
 have f2:=br.free 2
 have f3:=br.free 3
 have lt1:=br.lt
 have Be:=z0a Bw B3
 go_wp2
 refine z1a (by intro l h;cases h) ?_
 refine bodyPost_ret_by (v:=.tuple #[va rk rn rm rb,.int .i64 re]) ?_ rfl ⟨rfl,?_⟩
 ·simp [results,Tryz.results56,go_sem,r0,r1,r2,r3,nul]
 ·exact (((Be.setCell (p:=⟨w.heap.size+1+1,0,none⟩) (by simp;omega) _).setCell (p:=⟨w.heap.size+1+1,1,none⟩) (by simp;omega) _).setCell (p:=⟨w.heap.size+1+1,2,none⟩) (by simp;omega) _).setCell (p:=⟨w.heap.size+1+1,3,none⟩) (by simp;omega) _
theorem qbin_ints (op:Int) (an am bn bm:Int) (ab bb:List UInt8) (w:World) (rk rn rm re:Int) (rb:ByteArray) (o1:¬ op<6) (o2:¬ op > 18) (e17:(op != 17)=true) (e18:(op != 18)=true) (Ra:z0n 34 #[va 1 an am ⟨ab.toArray⟩] w (.bool true)) (Rb:z0n 34 #[va 1 bn bm ⟨bb.toArray⟩] w (.bool true)) (F:z0n 101 #[.int .i64 op,.int .i64 an,.int .i64 bn] w (.tuple #[va rk rn rm rb,.int .i64 re])) :
  Calls Tryz.prog 56 #[.int .i64 op,va 1 an am ⟨ab.toArray⟩,va 1 bn bm ⟨bb.toArray⟩] w fun e w'=>e=.returned (.tuple #[va rk rn rm rb,.int .i64 re])∧Below w.heap.size w w':=by
 obtain ⟨w0,hw0,bxa,bxb,bxr,Bw⟩:=z0q w ⟨1,an,am,ab⟩ ⟨1,bn,bm,bb⟩
 dsimp only at hw0
 go_enter Tryz.func56,Tryz.ntmps56
 go_wp2_with fail
 rw [← hw0]
 clear hw0
 refine z0x 9 ?_
 have B0:Below w0.heap.size w0 w0:=Below.refl _ _
 obtain ⟨a0,a1,a2,a3⟩:=(bxa.later B0).at4
 obtain ⟨b0,b1,b2,b3⟩:=(bxb.later B0).at4
 dsimp only at a0 a1 a2 a3 b0 b1 b2 b3
 go_wp2_with fail
 refine (Ra _ (z0a Bw B0)).mono ?_
 rintro e w1 ⟨rfl,c⟩
 have B1:=z0a B0 c
 clear a0 a1 a2 a3 b0 b1 b2 b3 c
 obtain ⟨a0,a1,a2,a3⟩:=(bxa.later B1).at4
 obtain ⟨b0,b1,b2,b3⟩:=(bxb.later B1).at4
 dsimp only at a0 a1 a2 a3 b0 b1 b2 b3
 go_wp2_with fail
 refine (Rb _ (z0a Bw B1)).mono ?_
 rintro e w2 ⟨rfl,c⟩
 have B2:=z0a B1 c
 clear a0 a1 a2 a3 b0 b1 b2 b3 c
 obtain ⟨a0,a1,a2,a3⟩:=(bxa.later B2).at4
 obtain ⟨b0,b1,b2,b3⟩:=(bxb.later B2).at4
 dsimp only at a0 a1 a2 a3 b0 b1 b2 b3
 go_wp2_with fail
 refine z0r (n:=8) rfl ?_
 go_wp2_with fail
 refine z0r (n:=7) rfl ?_
 go_wp2_with fail
 refine (F _ (z0a Bw B2)).mono ?_
 rintro e w3 ⟨rfl,c⟩
 have B3:=z0a B2 c
 clear a0 a1 a2 a3 b0 b1 b2 b3 c
 obtain ⟨a0,a1,a2,a3⟩:=(bxa.later B3).at4
 obtain ⟨b0,b1,b2,b3⟩:=(bxb.later B3).at4
 dsimp only at a0 a1 a2 a3 b0 b1 b2 b3
 have br:=bxr.later B3
 obtain ⟨r0,r1,r2,r3⟩:=br.at4
 have f0:=br.free 0
 have f1:=br.free 1
 have f2:=br.free 2
 have f3:=br.free 3
 have lt1:=br.lt
 have Be:=z0a Bw B3
 go_wp2
 refine z1a (by intro l h;cases h) ?_
 refine bodyPost_ret_by (v:=.tuple #[va rk rn rm rb,.int .i64 re]) ?_ rfl ⟨rfl,?_⟩
 ·simp [results,Tryz.results56,go_sem,r0,r1,r2,r3,nul]
 ·exact (((Be.setCell (p:=⟨w.heap.size+1+1,0,none⟩) (by simp;omega) _).setCell (p:=⟨w.heap.size+1+1,1,none⟩) (by simp;omega) _).setCell (p:=⟨w.heap.size+1+1,2,none⟩) (by simp;omega) _).setCell (p:=⟨w.heap.size+1+1,3,none⟩) (by simp;omega) _
theorem qbin_pts (op:Int) (an am bn bm:Int) (ab bb:List UInt8) (w:World) (rk rn rm re:Int) (rb:ByteArray) (o1:¬ op<6) (o2:¬ op > 18) (e17:(op != 17)=true) (e18:(op != 18)=true) (Ra:z0n 34 #[va 5 an am ⟨ab.toArray⟩] w (.bool true)) (Rb:z0n 34 #[va 5 bn bm ⟨bb.toArray⟩] w (.bool true)) (Na:z0n 102 #[va 5 an am ⟨ab.toArray⟩] w (.bool false)) (F:z0n 105 #[.int .i64 op,va 5 an am ⟨ab.toArray⟩,va 5 bn bm ⟨bb.toArray⟩] w (.tuple #[va rk rn rm rb,.int .i64 re])) :
  Calls Tryz.prog 56 #[.int .i64 op,va 5 an am ⟨ab.toArray⟩,va 5 bn bm ⟨bb.toArray⟩] w fun e w'=>e=.returned (.tuple #[va rk rn rm rb,.int .i64 re])∧Below w.heap.size w w':=by
 obtain ⟨w0,hw0,bxa,bxb,bxr,Bw⟩:=z0q w ⟨5,an,am,ab⟩ ⟨5,bn,bm,bb⟩
 dsimp only at hw0
 go_enter Tryz.func56,Tryz.ntmps56
 go_wp2_with fail
 rw [← hw0]
 clear hw0
 refine z0x 9 ?_
 have B0:Below w0.heap.size w0 w0:=Below.refl _ _
 obtain ⟨a0,a1,a2,a3⟩:=(bxa.later B0).at4
 obtain ⟨b0,b1,b2,b3⟩:=(bxb.later B0).at4
 dsimp only at a0 a1 a2 a3 b0 b1 b2 b3
 go_wp2_with fail
 refine (Ra _ (z0a Bw B0)).mono ?_
 rintro e w1 ⟨rfl,c⟩
 have B1:=z0a B0 c
 clear a0 a1 a2 a3 b0 b1 b2 b3 c
 obtain ⟨a0,a1,a2,a3⟩:=(bxa.later B1).at4
 obtain ⟨b0,b1,b2,b3⟩:=(bxb.later B1).at4
 dsimp only at a0 a1 a2 a3 b0 b1 b2 b3
 go_wp2_with fail
 refine (Rb _ (z0a Bw B1)).mono ?_
 rintro e w2 ⟨rfl,c⟩
 have B2:=z0a B1 c
 clear a0 a1 a2 a3 b0 b1 b2 b3 c
 obtain ⟨a0,a1,a2,a3⟩:=(bxa.later B2).at4
 obtain ⟨b0,b1,b2,b3⟩:=(bxb.later B2).at4
 dsimp only at a0 a1 a2 a3 b0 b1 b2 b3
 go_wp2_with fail
 refine z0r (n:=8) rfl ?_
 go_wp2_with fail
 refine z0r (n:=7) rfl ?_
 go_wp2_with fail
 refine z0r (n:=6) rfl ?_
 go_wp2_with fail
 refine (Na _ (z0a Bw B2)).mono ?_
 rintro e w3 ⟨rfl,c⟩
 have B3:=z0a B2 c
 clear a0 a1 a2 a3 b0 b1 b2 b3 c
 obtain ⟨a0,a1,a2,a3⟩:=(bxa.later B3).at4
 obtain ⟨b0,b1,b2,b3⟩:=(bxb.later B3).at4
 dsimp only at a0 a1 a2 a3 b0 b1 b2 b3
 go_wp2_with fail
 refine z0r (n:=5) rfl ?_
 go_wp2_with fail
 refine (F _ (z0a Bw B3)).mono ?_
 rintro e w4 ⟨rfl,c⟩
 have B4:=z0a B3 c
 clear a0 a1 a2 a3 b0 b1 b2 b3 c
 obtain ⟨a0,a1,a2,a3⟩:=(bxa.later B4).at4
 obtain ⟨b0,b1,b2,b3⟩:=(bxb.later B4).at4
 dsimp only at a0 a1 a2 a3 b0 b1 b2 b3
 have br:=bxr.later B4
 obtain ⟨r0,r1,r2,r3⟩:=br.at4
 have f0:=br.free 0
 have f1:=br.free 1
 have f2:=br.free 2
 have f3:=br.free 3
 have lt1:=br.lt
 have Be:=z0a Bw B4
 go_wp2
 refine z1a (by intro l h;cases h) ?_
 refine bodyPost_ret_by (v:=.tuple #[va rk rn rm rb,.int .i64 re]) ?_ rfl ⟨rfl,?_⟩
 ·simp [results,Tryz.results56,go_sem,r0,r1,r2,r3,nul]
 ·exact (((Be.setCell (p:=⟨w.heap.size+1+1,0,none⟩) (by simp;omega) _).setCell (p:=⟨w.heap.size+1+1,1,none⟩) (by simp;omega) _).setCell (p:=⟨w.heap.size+1+1,2,none⟩) (by simp;omega) _).setCell (p:=⟨w.heap.size+1+1,3,none⟩) (by simp;omega) _
theorem qbin_o2 (op:Int) (bk:Int) (an am bn bm:Int) (ab bb:List UInt8) (w:World) (o1:¬ op<6) (o2:¬ op > 18) (e17:(op != 17)=true) (e18:(op != 18)=true) (eb:(bk != 0)=true)  (Ra:z0n 34 #[va 2 an am ⟨ab.toArray⟩] w (.bool true)) (Rb:z0n 34 #[va bk bn bm ⟨bb.toArray⟩] w (.bool true)) (Na:z0n 102 #[va 2 an am ⟨ab.toArray⟩] w (.bool true)) (Nb:z0n 102 #[va bk bn bm ⟨bb.toArray⟩] w (.bool false)) :
  Calls Tryz.prog 56 #[.int .i64 op,va 2 an am ⟨ab.toArray⟩,va bk bn bm ⟨bb.toArray⟩] w fun e w'=>e=.returned (.tuple #[va 0 0 0 ⟨#[]⟩,.int .i64 31])∧Below w.heap.size w w':=by
 obtain ⟨w0,hw0,bxa,bxb,bxr,Bw⟩:=z0q w ⟨2,an,am,ab⟩ ⟨bk,bn,bm,bb⟩
 dsimp only at hw0
 go_enter Tryz.func56,Tryz.ntmps56
 go_wp2_with fail
 rw [← hw0]
 clear hw0
 refine z0x 9 ?_
 have B0:Below w0.heap.size w0 w0:=Below.refl _ _
 obtain ⟨a0,a1,a2,a3⟩:=(bxa.later B0).at4
 obtain ⟨b0,b1,b2,b3⟩:=(bxb.later B0).at4
 dsimp only at a0 a1 a2 a3 b0 b1 b2 b3
 go_wp2_with fail
 refine (Ra _ (z0a Bw B0)).mono ?_
 rintro e w1 ⟨rfl,c⟩
 have B1:=z0a B0 c
 clear a0 a1 a2 a3 b0 b1 b2 b3 c
 obtain ⟨a0,a1,a2,a3⟩:=(bxa.later B1).at4
 obtain ⟨b0,b1,b2,b3⟩:=(bxb.later B1).at4
 dsimp only at a0 a1 a2 a3 b0 b1 b2 b3
 go_wp2_with fail
 refine (Rb _ (z0a Bw B1)).mono ?_
 rintro e w2 ⟨rfl,c⟩
 have B2:=z0a B1 c
 clear a0 a1 a2 a3 b0 b1 b2 b3 c
 obtain ⟨a0,a1,a2,a3⟩:=(bxa.later B2).at4
 obtain ⟨b0,b1,b2,b3⟩:=(bxb.later B2).at4
 dsimp only at a0 a1 a2 a3 b0 b1 b2 b3
 go_wp2_with fail
 refine z0r (n:=8) rfl ?_
 go_wp2_with fail
 refine z0r (n:=7) rfl ?_
 go_wp2_with fail
 refine z0r (n:=6) rfl ?_
 go_wp2_with fail
 refine (Na _ (z0a Bw B2)).mono ?_
 rintro e w3 ⟨rfl,c⟩
 have B3:=z0a B2 c
 clear a0 a1 a2 a3 b0 b1 b2 b3 c
 obtain ⟨a0,a1,a2,a3⟩:=(bxa.later B3).at4
 obtain ⟨b0,b1,b2,b3⟩:=(bxb.later B3).at4
 dsimp only at a0 a1 a2 a3 b0 b1 b2 b3
 go_wp2_with fail
 refine (Nb _ (z0a Bw B3)).mono ?_
 rintro e w4 ⟨rfl,c⟩
 have B4:=z0a B3 c
 clear a0 a1 a2 a3 b0 b1 b2 b3 c
 obtain ⟨a0,a1,a2,a3⟩:=(bxa.later B4).at4
 obtain ⟨b0,b1,b2,b3⟩:=(bxb.later B4).at4
 dsimp only at a0 a1 a2 a3 b0 b1 b2 b3
 go_wp2_with fail
 refine z0r (n:=5) rfl ?_
 go_wp2_with fail
 refine z0r (n:=4) rfl ?_
 go_wp2_with fail
 refine z0r (n:=3) rfl ?_
 go_wp2_with fail
 refine z0r (n:=2) rfl ?_
 have br:=bxr.later B4
 obtain ⟨r0,r1,r2,r3⟩:=br.at4
 have f0:=br.free 0
 have f1:=br.free 1
 have f2:=br.free 2
 have f3:=br.free 3
 have lt1:=br.lt
 have Be:=z0a Bw B4
 go_wp2
 refine z1a (by intro l h;cases h) ?_
 refine bodyPost_ret_by (v:=.tuple #[va 0 0 0 ⟨#[]⟩,.int .i64 31]) ?_ rfl ⟨rfl,?_⟩
 ·simp [results,Tryz.results56,go_sem,r0,r1,r2,r3,nul]
 ·exact (((Be.setCell (p:=⟨w.heap.size+1+1,0,none⟩) (by simp;omega) _).setCell (p:=⟨w.heap.size+1+1,1,none⟩) (by simp;omega) _).setCell (p:=⟨w.heap.size+1+1,2,none⟩) (by simp;omega) _).setCell (p:=⟨w.heap.size+1+1,3,none⟩) (by simp;omega) _
theorem qbin_high (op:Int) (ak:Int) (bk:Int) (an am bn bm:Int) (ab bb:List UInt8) (w:World) (o1:¬ op<6) (o2:op > 18)  :
  Calls Tryz.prog 56 #[.int .i64 op,va ak an am ⟨ab.toArray⟩,va bk bn bm ⟨bb.toArray⟩] w fun e w'=>e=.returned (.tuple #[va 0 0 0 ⟨#[]⟩,.int .i64 1])∧Below w.heap.size w w':=by
 obtain ⟨w0,hw0,bxa,bxb,bxr,Bw⟩:=z0q w ⟨ak,an,am,ab⟩ ⟨bk,bn,bm,bb⟩
 dsimp only at hw0
 go_enter Tryz.func56,Tryz.ntmps56
 go_wp2_with fail
 rw [← hw0]
 clear hw0
 refine z0x 9 ?_
 have B0:Below w0.heap.size w0 w0:=Below.refl _ _
 obtain ⟨a0,a1,a2,a3⟩:=(bxa.later B0).at4
 obtain ⟨b0,b1,b2,b3⟩:=(bxb.later B0).at4
 dsimp only at a0 a1 a2 a3 b0 b1 b2 b3
 have br:=bxr.later B0
 obtain ⟨r0,r1,r2,r3⟩:=br.at4
 have f0:=br.free 0
 have f1:=br.free 1
 have f2:=br.free 2
 have f3:=br.free 3
 have lt1:=br.lt
 have Be:=z0a Bw B0
 go_wp2
 refine z1a (by intro l h;cases h) ?_
 refine bodyPost_ret_by (v:=.tuple #[va 0 0 0 ⟨#[]⟩,.int .i64 1]) ?_ rfl ⟨rfl,?_⟩
 ·simp [results,Tryz.results56,go_sem,r0,r1,r2,r3,nul]
 ·exact (((Be.setCell (p:=⟨w.heap.size+1+1,0,none⟩) (by simp;omega) _).setCell (p:=⟨w.heap.size+1+1,1,none⟩) (by simp;omega) _).setCell (p:=⟨w.heap.size+1+1,2,none⟩) (by simp;omega) _).setCell (p:=⟨w.heap.size+1+1,3,none⟩) (by simp;omega) _
theorem qbin_t18 (ak:Int) (bk:Int) (an am bn bm:Int) (ab bb:List UInt8) (w:World) (rk rn rm re:Int) (rb:ByteArray) (Ra:z0n 34 #[va ak an am ⟨ab.toArray⟩] w (.bool true)) (Rb:z0n 34 #[va bk bn bm ⟨bb.toArray⟩] w (.bool true)) (F:z0n 100 #[.int .i64 18,va ak an am ⟨ab.toArray⟩,va bk bn bm ⟨bb.toArray⟩] w (.tuple #[va rk rn rm rb,.int .i64 re])) :
  Calls Tryz.prog 56 #[.int .i64 18,va ak an am ⟨ab.toArray⟩,va bk bn bm ⟨bb.toArray⟩] w fun e w'=>e=.returned (.tuple #[va rk rn rm rb,.int .i64 re])∧Below w.heap.size w w':=by
 obtain ⟨w0,hw0,bxa,bxb,bxr,Bw⟩:=z0q w ⟨ak,an,am,ab⟩ ⟨bk,bn,bm,bb⟩
 dsimp only at hw0
 go_enter Tryz.func56,Tryz.ntmps56
 go_wp2_with fail
 rw [← hw0]
 clear hw0
 refine z0x 9 ?_
 have B0:Below w0.heap.size w0 w0:=Below.refl _ _
 obtain ⟨a0,a1,a2,a3⟩:=(bxa.later B0).at4
 obtain ⟨b0,b1,b2,b3⟩:=(bxb.later B0).at4
 dsimp only at a0 a1 a2 a3 b0 b1 b2 b3
 go_wp2_with fail
 refine (Ra _ (z0a Bw B0)).mono ?_
 rintro e w1 ⟨rfl,c⟩
 have B1:=z0a B0 c
 clear a0 a1 a2 a3 b0 b1 b2 b3 c
 obtain ⟨a0,a1,a2,a3⟩:=(bxa.later B1).at4
 obtain ⟨b0,b1,b2,b3⟩:=(bxb.later B1).at4
 dsimp only at a0 a1 a2 a3 b0 b1 b2 b3
 go_wp2_with fail
 refine (Rb _ (z0a Bw B1)).mono ?_
 rintro e w2 ⟨rfl,c⟩
 have B2:=z0a B1 c
 clear a0 a1 a2 a3 b0 b1 b2 b3 c
 obtain ⟨a0,a1,a2,a3⟩:=(bxa.later B2).at4
 obtain ⟨b0,b1,b2,b3⟩:=(bxb.later B2).at4
 dsimp only at a0 a1 a2 a3 b0 b1 b2 b3
 go_wp2_with fail
 refine (F _ (z0a Bw B2)).mono ?_
 rintro e w3 ⟨rfl,c⟩
 have B3:=z0a B2 c
 clear a0 a1 a2 a3 b0 b1 b2 b3 c
 obtain ⟨a0,a1,a2,a3⟩:=(bxa.later B3).at4
 obtain ⟨b0,b1,b2,b3⟩:=(bxb.later B3).at4
 dsimp only at a0 a1 a2 a3 b0 b1 b2 b3
 have br:=bxr.later B3
 obtain ⟨r0,r1,r2,r3⟩:=br.at4
 have f0:=br.free 0
 have f1:=br.free 1
 have f2:=br.free 2
 have f3:=br.free 3
 have lt1:=br.lt
 have Be:=z0a Bw B3
 go_wp2
 refine z1a (by intro l h;cases h) ?_
 refine bodyPost_ret_by (v:=.tuple #[va rk rn rm rb,.int .i64 re]) ?_ rfl ⟨rfl,?_⟩
 ·simp [results,Tryz.results56,go_sem,r0,r1,r2,r3,nul]
 ·exact (((Be.setCell (p:=⟨w.heap.size+1+1,0,none⟩) (by simp;omega) _).setCell (p:=⟨w.heap.size+1+1,1,none⟩) (by simp;omega) _).setCell (p:=⟨w.heap.size+1+1,2,none⟩) (by simp;omega) _).setCell (p:=⟨w.heap.size+1+1,3,none⟩) (by simp;omega) _
theorem qbin_n12 (op:Int) (an am bn bm:Int) (ab bb:List UInt8) (w:World) (rk rn rm re:Int) (rb:ByteArray) (o1:¬ op<6) (o2:¬ op > 18) (e17:(op != 17)=true) (e18:(op != 18)=true) (Ra:z0n 34 #[va 1 an am ⟨ab.toArray⟩] w (.bool true)) (Rb:z0n 34 #[va 2 bn bm ⟨bb.toArray⟩] w (.bool true)) (Na:z0n 102 #[va 1 an am ⟨ab.toArray⟩] w (.bool true)) (Nb:z0n 102 #[va 2 bn bm ⟨bb.toArray⟩] w (.bool true))  (F:∀ W,Below w.heap.size w W→Calls Tryz.prog 103 #[.int .i64 op,dv an am,dv bn bm] W fun e w'=>e=.returned (.tuple #[va rk rn rm rb,.int .i64 re])∧Grew W w') :
  Calls Tryz.prog 56 #[.int .i64 op,va 1 an am ⟨ab.toArray⟩,va 2 bn bm ⟨bb.toArray⟩] w fun e w'=>e=.returned (.tuple #[va rk rn rm rb,.int .i64 re])∧Below w.heap.size w w':=by
 obtain ⟨w0,hw0,bxa,bxb,bxr,Bw⟩:=z0q w ⟨1,an,am,ab⟩ ⟨2,bn,bm,bb⟩
 dsimp only at hw0
 go_enter Tryz.func56,Tryz.ntmps56
 go_wp2_with fail
 rw [← hw0]
 clear hw0
 refine z0x 9 ?_
 have B0:Below w0.heap.size w0 w0:=Below.refl _ _
 obtain ⟨a0,a1,a2,a3⟩:=(bxa.later B0).at4
 obtain ⟨b0,b1,b2,b3⟩:=(bxb.later B0).at4
 dsimp only at a0 a1 a2 a3 b0 b1 b2 b3
 go_wp2_with fail
 refine (Ra _ (z0a Bw B0)).mono ?_
 rintro e w1 ⟨rfl,c⟩
 have B1:=z0a B0 c
 clear a0 a1 a2 a3 b0 b1 b2 b3 c
 obtain ⟨a0,a1,a2,a3⟩:=(bxa.later B1).at4
 obtain ⟨b0,b1,b2,b3⟩:=(bxb.later B1).at4
 dsimp only at a0 a1 a2 a3 b0 b1 b2 b3
 go_wp2_with fail
 refine (Rb _ (z0a Bw B1)).mono ?_
 rintro e w2 ⟨rfl,c⟩
 have B2:=z0a B1 c
 clear a0 a1 a2 a3 b0 b1 b2 b3 c
 obtain ⟨a0,a1,a2,a3⟩:=(bxa.later B2).at4
 obtain ⟨b0,b1,b2,b3⟩:=(bxb.later B2).at4
 dsimp only at a0 a1 a2 a3 b0 b1 b2 b3
 go_wp2_with fail
 refine z0r (n:=8) rfl ?_
 go_wp2_with fail
 refine z0r (n:=7) rfl ?_
 go_wp2_with fail
 refine z0r (n:=6) rfl ?_
 go_wp2_with fail
 refine (Na _ (z0a Bw B2)).mono ?_
 rintro e w3 ⟨rfl,c⟩
 have B3:=z0a B2 c
 clear a0 a1 a2 a3 b0 b1 b2 b3 c
 obtain ⟨a0,a1,a2,a3⟩:=(bxa.later B3).at4
 obtain ⟨b0,b1,b2,b3⟩:=(bxb.later B3).at4
 dsimp only at a0 a1 a2 a3 b0 b1 b2 b3
 go_wp2_with fail
 refine (Nb _ (z0a Bw B3)).mono ?_
 rintro e w4 ⟨rfl,c⟩
 have B4:=z0a B3 c
 clear a0 a1 a2 a3 b0 b1 b2 b3 c
 obtain ⟨a0,a1,a2,a3⟩:=(bxa.later B4).at4
 obtain ⟨b0,b1,b2,b3⟩:=(bxb.later B4).at4
 dsimp only at a0 a1 a2 a3 b0 b1 b2 b3
 simp only [Nat.zero_add] at a1 a2 a3 b1 b2 b3
 have lta:=(bxa.later B4).lt
 have ltb:=(bxb.later B4).lt
 have U:=fun k n m b W=>z3q k n m b W
 have F4:∀ W,Grew w4 W→Calls Tryz.prog 103 #[.int .i64 op,dv an am,dv bn bm] W fun e w'=>e=.returned (.tuple #[va rk rn rm rb,.int .i64 re])∧Grew W w':=fun W h=>F W (z0a (z0a Bw B4) h.below)
 have br:=bxr.later B4
 obtain ⟨r0,r1,r2,r3⟩:=br.at4
 have f0:=br.free 0
 have f1:=br.free 1
 have f2:=br.free 2
 have f3:=br.free 3
 have lt1:=br.lt
 have Be:=z0a Bw B4
 dsimp only [nul] at r0 r1 r2 r3
 simp only [Nat.zero_add] at r1 r2 r3
 clear Ra Rb Na Nb F bxa bxb bxr br B0 B1 B2 B3 B4 Bw
 go_wp2_with fail
 go_region_held2 (fun W=>W.cell? ⟨w.heap.size,0,none⟩=some (.int .i64 1)∧W.cell? ⟨w.heap.size,1,none⟩=some (.int .i64 an)∧W.cell? ⟨w.heap.size,2,none⟩=some (.int .i64 am)∧W.cell? ⟨w.heap.size,3,none⟩=some (.string ⟨ab.toArray⟩) ∧
   W.cell? ⟨w.heap.size+1,0,none⟩=some (.int .i64 2)∧W.cell? ⟨w.heap.size+1,1,none⟩=some (.int .i64 bn)∧W.cell? ⟨w.heap.size+1,2,none⟩=some (.int .i64 bm)∧W.cell? ⟨w.heap.size+1,3,none⟩=some (.string ⟨bb.toArray⟩)) (simp (maxDischargeDepth:=12) [go_sem,a0,a1,a2,a3,b0,b1,b2,b3,lta,ltb]) (first
  | (go_at_call 104;refine (U _ _ _ _ _).mono ?_;rintro e w1 ⟨rfl,os1,n1,rfl⟩)
  | (go_at_call 103;refine (F4 _ gB).mono ?_;rintro e w2 ⟨rfl,os2,n2,rfl⟩))
 go_wp2
 refine z1a (by intro l h;cases h) ?_
 refine bodyPost_ret_by (v:=.tuple #[va rk rn rm rb,.int .i64 re]) ?_ rfl ⟨rfl,?_⟩
 ·simp [results,Tryz.results56,go_sem,r0,r1,r2,r3,lt1]
 ·refine z0a (Be.setCell (p:=⟨w.heap.size+1+1,0,none⟩) (by simp;omega) (.int .i64 rk) |>.setCell (p:=⟨w.heap.size+1+1,1,none⟩) (by simp;omega) (.int .i64 rn) |>.setCell (p:=⟨w.heap.size+1+1,2,none⟩) (by simp;omega) (.int .i64 rm) |>.setCell (p:=⟨w.heap.size+1+1,3,none⟩) (by simp;omega) (.string rb)) (Grew.below ?_)
  repeat exact gB
theorem qbin_txt (op:Int) (an am bn bm:Int) (ab bb:List UInt8) (w:World) (rk rn rm re:Int) (rb:ByteArray) (o1:¬ op<6) (o2:¬ op > 18) (e17:(op != 17)=true) (e18:(op != 18)=true) (Ra:z0n 34 #[va 3 an am ⟨ab.toArray⟩] w (.bool true)) (Rb:z0n 34 #[va 3 bn bm ⟨bb.toArray⟩] w (.bool true)) (Na:z0n 102 #[va 3 an am ⟨ab.toArray⟩] w (.bool false)) (F:z0n 106 #[.int .i64 op,va 3 an am ⟨ab.toArray⟩,va 3 bn bm ⟨bb.toArray⟩] w (.tuple #[va rk rn rm rb,.int .i64 re])) :
  Calls Tryz.prog 56 #[.int .i64 op,va 3 an am ⟨ab.toArray⟩,va 3 bn bm ⟨bb.toArray⟩] w fun e w'=>e=.returned (.tuple #[va rk rn rm rb,.int .i64 re])∧Below w.heap.size w w':=by
 obtain ⟨w0,hw0,bxa,bxb,bxr,Bw⟩:=z0q w ⟨3,an,am,ab⟩ ⟨3,bn,bm,bb⟩
 dsimp only at hw0
 go_enter Tryz.func56,Tryz.ntmps56
 go_wp2_with fail
 rw [← hw0]
 clear hw0
 refine z0x 9 ?_
 have B0:Below w0.heap.size w0 w0:=Below.refl _ _
 obtain ⟨a0,a1,a2,a3⟩:=(bxa.later B0).at4
 obtain ⟨b0,b1,b2,b3⟩:=(bxb.later B0).at4
 dsimp only at a0 a1 a2 a3 b0 b1 b2 b3
 go_wp2_with fail
 refine (Ra _ (z0a Bw B0)).mono ?_
 rintro e w1 ⟨rfl,c⟩
 have B1:=z0a B0 c
 clear a0 a1 a2 a3 b0 b1 b2 b3 c
 obtain ⟨a0,a1,a2,a3⟩:=(bxa.later B1).at4
 obtain ⟨b0,b1,b2,b3⟩:=(bxb.later B1).at4
 dsimp only at a0 a1 a2 a3 b0 b1 b2 b3
 go_wp2_with fail
 refine (Rb _ (z0a Bw B1)).mono ?_
 rintro e w2 ⟨rfl,c⟩
 have B2:=z0a B1 c
 clear a0 a1 a2 a3 b0 b1 b2 b3 c
 obtain ⟨a0,a1,a2,a3⟩:=(bxa.later B2).at4
 obtain ⟨b0,b1,b2,b3⟩:=(bxb.later B2).at4
 dsimp only at a0 a1 a2 a3 b0 b1 b2 b3
 go_wp2_with fail
 refine z0r (n:=8) rfl ?_
 go_wp2_with fail
 refine z0r (n:=7) rfl ?_
 go_wp2_with fail
 refine z0r (n:=6) rfl ?_
 go_wp2_with fail
 refine (Na _ (z0a Bw B2)).mono ?_
 rintro e w3 ⟨rfl,c⟩
 have B3:=z0a B2 c
 clear a0 a1 a2 a3 b0 b1 b2 b3 c
 obtain ⟨a0,a1,a2,a3⟩:=(bxa.later B3).at4
 obtain ⟨b0,b1,b2,b3⟩:=(bxb.later B3).at4
 dsimp only at a0 a1 a2 a3 b0 b1 b2 b3
 go_wp2_with fail
 refine z0r (n:=5) rfl ?_
 go_wp2_with fail
 refine z0r (n:=4) rfl ?_
 go_wp2_with fail
 refine (F _ (z0a Bw B3)).mono ?_
 rintro e w4 ⟨rfl,c⟩
 have B4:=z0a B3 c
 clear a0 a1 a2 a3 b0 b1 b2 b3 c
 obtain ⟨a0,a1,a2,a3⟩:=(bxa.later B4).at4
 obtain ⟨b0,b1,b2,b3⟩:=(bxb.later B4).at4
 dsimp only at a0 a1 a2 a3 b0 b1 b2 b3
 have br:=bxr.later B4
 obtain ⟨r0,r1,r2,r3⟩:=br.at4
 have f0:=br.free 0
 have f1:=br.free 1
 have f2:=br.free 2
 have f3:=br.free 3
 have lt1:=br.lt
 have Be:=z0a Bw B4
 go_wp2
 refine z1a (by intro l h;cases h) ?_
 refine bodyPost_ret_by (v:=.tuple #[va rk rn rm rb,.int .i64 re]) ?_ rfl ⟨rfl,?_⟩
 ·simp [results,Tryz.results56,go_sem,r0,r1,r2,r3,nul]
 ·exact (((Be.setCell (p:=⟨w.heap.size+1+1,0,none⟩) (by simp;omega) _).setCell (p:=⟨w.heap.size+1+1,1,none⟩) (by simp;omega) _).setCell (p:=⟨w.heap.size+1+1,2,none⟩) (by simp;omega) _).setCell (p:=⟨w.heap.size+1+1,3,none⟩) (by simp;omega) _
theorem qbin_o5 (op:Int) (bk:Int) (an am bn bm:Int) (ab bb:List UInt8) (w:World) (o1:¬ op<6) (o2:¬ op > 18) (e17:(op != 17)=true) (e18:(op != 18)=true) (eb:(bk != 0)=true) (eb1:(bk != 5)=true) (Ra:z0n 34 #[va 5 an am ⟨ab.toArray⟩] w (.bool true)) (Rb:z0n 34 #[va bk bn bm ⟨bb.toArray⟩] w (.bool true)) (Na:z0n 102 #[va 5 an am ⟨ab.toArray⟩] w (.bool false)) :
  Calls Tryz.prog 56 #[.int .i64 op,va 5 an am ⟨ab.toArray⟩,va bk bn bm ⟨bb.toArray⟩] w fun e w'=>e=.returned (.tuple #[va 0 0 0 ⟨#[]⟩,.int .i64 31])∧Below w.heap.size w w':=by
 obtain ⟨w0,hw0,bxa,bxb,bxr,Bw⟩:=z0q w ⟨5,an,am,ab⟩ ⟨bk,bn,bm,bb⟩
 dsimp only at hw0
 go_enter Tryz.func56,Tryz.ntmps56
 go_wp2_with fail
 rw [← hw0]
 clear hw0
 refine z0x 9 ?_
 have B0:Below w0.heap.size w0 w0:=Below.refl _ _
 obtain ⟨a0,a1,a2,a3⟩:=(bxa.later B0).at4
 obtain ⟨b0,b1,b2,b3⟩:=(bxb.later B0).at4
 dsimp only at a0 a1 a2 a3 b0 b1 b2 b3
 go_wp2_with fail
 refine (Ra _ (z0a Bw B0)).mono ?_
 rintro e w1 ⟨rfl,c⟩
 have B1:=z0a B0 c
 clear a0 a1 a2 a3 b0 b1 b2 b3 c
 obtain ⟨a0,a1,a2,a3⟩:=(bxa.later B1).at4
 obtain ⟨b0,b1,b2,b3⟩:=(bxb.later B1).at4
 dsimp only at a0 a1 a2 a3 b0 b1 b2 b3
 go_wp2_with fail
 refine (Rb _ (z0a Bw B1)).mono ?_
 rintro e w2 ⟨rfl,c⟩
 have B2:=z0a B1 c
 clear a0 a1 a2 a3 b0 b1 b2 b3 c
 obtain ⟨a0,a1,a2,a3⟩:=(bxa.later B2).at4
 obtain ⟨b0,b1,b2,b3⟩:=(bxb.later B2).at4
 dsimp only at a0 a1 a2 a3 b0 b1 b2 b3
 go_wp2_with fail
 refine z0r (n:=8) rfl ?_
 go_wp2_with fail
 refine z0r (n:=7) rfl ?_
 go_wp2_with fail
 refine z0r (n:=6) rfl ?_
 go_wp2_with fail
 refine (Na _ (z0a Bw B2)).mono ?_
 rintro e w3 ⟨rfl,c⟩
 have B3:=z0a B2 c
 clear a0 a1 a2 a3 b0 b1 b2 b3 c
 obtain ⟨a0,a1,a2,a3⟩:=(bxa.later B3).at4
 obtain ⟨b0,b1,b2,b3⟩:=(bxb.later B3).at4
 dsimp only at a0 a1 a2 a3 b0 b1 b2 b3
 go_wp2_with fail
 refine z0r (n:=5) rfl ?_
 go_wp2_with fail
 refine z0r (n:=4) rfl ?_
 go_wp2_with fail
 refine z0r (n:=3) rfl ?_
 go_wp2_with fail
 refine z0r (n:=2) rfl ?_
 have br:=bxr.later B3
 obtain ⟨r0,r1,r2,r3⟩:=br.at4
 have f0:=br.free 0
 have f1:=br.free 1
 have f2:=br.free 2
 have f3:=br.free 3
 have lt1:=br.lt
 have Be:=z0a Bw B3
 go_wp2
 refine z1a (by intro l h;cases h) ?_
 refine bodyPost_ret_by (v:=.tuple #[va 0 0 0 ⟨#[]⟩,.int .i64 31]) ?_ rfl ⟨rfl,?_⟩
 ·simp [results,Tryz.results56,go_sem,r0,r1,r2,r3,nul]
 ·exact (((Be.setCell (p:=⟨w.heap.size+1+1,0,none⟩) (by simp;omega) _).setCell (p:=⟨w.heap.size+1+1,1,none⟩) (by simp;omega) _).setCell (p:=⟨w.heap.size+1+1,2,none⟩) (by simp;omega) _).setCell (p:=⟨w.heap.size+1+1,3,none⟩) (by simp;omega) _
theorem qbin_badA (op:Int) (ak:Int) (bk:Int) (an am bn bm:Int) (ab bb:List UInt8) (w:World) (o1:¬ op<6) (o2:¬ op > 18) (Ra:z0n 34 #[va ak an am ⟨ab.toArray⟩] w (.bool false)) :
  Calls Tryz.prog 56 #[.int .i64 op,va ak an am ⟨ab.toArray⟩,va bk bn bm ⟨bb.toArray⟩] w fun e w'=>e=.returned (.tuple #[va 0 0 0 ⟨#[]⟩,.int .i64 1])∧Below w.heap.size w w':=by
 obtain ⟨w0,hw0,bxa,bxb,bxr,Bw⟩:=z0q w ⟨ak,an,am,ab⟩ ⟨bk,bn,bm,bb⟩
 dsimp only at hw0
 go_enter Tryz.func56,Tryz.ntmps56
 go_wp2_with fail
 rw [← hw0]
 clear hw0
 refine z0x 9 ?_
 have B0:Below w0.heap.size w0 w0:=Below.refl _ _
 obtain ⟨a0,a1,a2,a3⟩:=(bxa.later B0).at4
 obtain ⟨b0,b1,b2,b3⟩:=(bxb.later B0).at4
 dsimp only at a0 a1 a2 a3 b0 b1 b2 b3
 go_wp2_with fail
 refine (Ra _ (z0a Bw B0)).mono ?_
 rintro e w1 ⟨rfl,c⟩
 have B1:=z0a B0 c
 clear a0 a1 a2 a3 b0 b1 b2 b3 c
 obtain ⟨a0,a1,a2,a3⟩:=(bxa.later B1).at4
 obtain ⟨b0,b1,b2,b3⟩:=(bxb.later B1).at4
 dsimp only at a0 a1 a2 a3 b0 b1 b2 b3
 have br:=bxr.later B1
 obtain ⟨r0,r1,r2,r3⟩:=br.at4
 have f0:=br.free 0
 have f1:=br.free 1
 have f2:=br.free 2
 have f3:=br.free 3
 have lt1:=br.lt
 have Be:=z0a Bw B1
 go_wp2
 refine z1a (by intro l h;cases h) ?_
 refine bodyPost_ret_by (v:=.tuple #[va 0 0 0 ⟨#[]⟩,.int .i64 1]) ?_ rfl ⟨rfl,?_⟩
 ·simp [results,Tryz.results56,go_sem,r0,r1,r2,r3,nul]
 ·exact (((Be.setCell (p:=⟨w.heap.size+1+1,0,none⟩) (by simp;omega) _).setCell (p:=⟨w.heap.size+1+1,1,none⟩) (by simp;omega) _).setCell (p:=⟨w.heap.size+1+1,2,none⟩) (by simp;omega) _).setCell (p:=⟨w.heap.size+1+1,3,none⟩) (by simp;omega) _
theorem qbin_nullA (op:Int) (bk:Int) (an am bn bm:Int) (ab bb:List UInt8) (w:World) (o1:¬ op<6) (o2:¬ op > 18) (e17:(op != 17)=true) (e18:(op != 18)=true) (Ra:z0n 34 #[va 0 an am ⟨ab.toArray⟩] w (.bool true)) (Rb:z0n 34 #[va bk bn bm ⟨bb.toArray⟩] w (.bool true)) :
  Calls Tryz.prog 56 #[.int .i64 op,va 0 an am ⟨ab.toArray⟩,va bk bn bm ⟨bb.toArray⟩] w fun e w'=>e=.returned (.tuple #[va 0 0 0 ⟨#[]⟩,.int .i64 0])∧Below w.heap.size w w':=by
 obtain ⟨w0,hw0,bxa,bxb,bxr,Bw⟩:=z0q w ⟨0,an,am,ab⟩ ⟨bk,bn,bm,bb⟩
 dsimp only at hw0
 go_enter Tryz.func56,Tryz.ntmps56
 go_wp2_with fail
 rw [← hw0]
 clear hw0
 refine z0x 9 ?_
 have B0:Below w0.heap.size w0 w0:=Below.refl _ _
 obtain ⟨a0,a1,a2,a3⟩:=(bxa.later B0).at4
 obtain ⟨b0,b1,b2,b3⟩:=(bxb.later B0).at4
 dsimp only at a0 a1 a2 a3 b0 b1 b2 b3
 go_wp2_with fail
 refine (Ra _ (z0a Bw B0)).mono ?_
 rintro e w1 ⟨rfl,c⟩
 have B1:=z0a B0 c
 clear a0 a1 a2 a3 b0 b1 b2 b3 c
 obtain ⟨a0,a1,a2,a3⟩:=(bxa.later B1).at4
 obtain ⟨b0,b1,b2,b3⟩:=(bxb.later B1).at4
 dsimp only at a0 a1 a2 a3 b0 b1 b2 b3
 go_wp2_with fail
 refine (Rb _ (z0a Bw B1)).mono ?_
 rintro e w2 ⟨rfl,c⟩
 have B2:=z0a B1 c
 clear a0 a1 a2 a3 b0 b1 b2 b3 c
 obtain ⟨a0,a1,a2,a3⟩:=(bxa.later B2).at4
 obtain ⟨b0,b1,b2,b3⟩:=(bxb.later B2).at4
 dsimp only at a0 a1 a2 a3 b0 b1 b2 b3
 go_wp2_with fail
 refine z0r (n:=8) rfl ?_
 have br:=bxr.later B2
 obtain ⟨r0,r1,r2,r3⟩:=br.at4
 have f0:=br.free 0
 have f1:=br.free 1
 have f2:=br.free 2
 have f3:=br.free 3
 have lt1:=br.lt
 have Be:=z0a Bw B2
 go_wp2
 refine z1a (by intro l h;cases h) ?_
 refine bodyPost_ret_by (v:=.tuple #[va 0 0 0 ⟨#[]⟩,.int .i64 0]) ?_ rfl ⟨rfl,?_⟩
 ·simp [results,Tryz.results56,go_sem,r0,r1,r2,r3,nul]
 ·exact (((Be.setCell (p:=⟨w.heap.size+1+1,0,none⟩) (by simp;omega) _).setCell (p:=⟨w.heap.size+1+1,1,none⟩) (by simp;omega) _).setCell (p:=⟨w.heap.size+1+1,2,none⟩) (by simp;omega) _).setCell (p:=⟨w.heap.size+1+1,3,none⟩) (by simp;omega) _
theorem qbin_n21 (op:Int) (an am bn bm:Int) (ab bb:List UInt8) (w:World) (rk rn rm re:Int) (rb:ByteArray) (o1:¬ op<6) (o2:¬ op > 18) (e17:(op != 17)=true) (e18:(op != 18)=true) (Ra:z0n 34 #[va 2 an am ⟨ab.toArray⟩] w (.bool true)) (Rb:z0n 34 #[va 1 bn bm ⟨bb.toArray⟩] w (.bool true)) (Na:z0n 102 #[va 2 an am ⟨ab.toArray⟩] w (.bool true)) (Nb:z0n 102 #[va 1 bn bm ⟨bb.toArray⟩] w (.bool true))  (F:∀ W,Below w.heap.size w W→Calls Tryz.prog 103 #[.int .i64 op,dv an am,dv bn bm] W fun e w'=>e=.returned (.tuple #[va rk rn rm rb,.int .i64 re])∧Grew W w') :
  Calls Tryz.prog 56 #[.int .i64 op,va 2 an am ⟨ab.toArray⟩,va 1 bn bm ⟨bb.toArray⟩] w fun e w'=>e=.returned (.tuple #[va rk rn rm rb,.int .i64 re])∧Below w.heap.size w w':=by
 obtain ⟨w0,hw0,bxa,bxb,bxr,Bw⟩:=z0q w ⟨2,an,am,ab⟩ ⟨1,bn,bm,bb⟩
 dsimp only at hw0
 go_enter Tryz.func56,Tryz.ntmps56
 go_wp2_with fail
 rw [← hw0]
 clear hw0
 refine z0x 9 ?_
 have B0:Below w0.heap.size w0 w0:=Below.refl _ _
 obtain ⟨a0,a1,a2,a3⟩:=(bxa.later B0).at4
 obtain ⟨b0,b1,b2,b3⟩:=(bxb.later B0).at4
 dsimp only at a0 a1 a2 a3 b0 b1 b2 b3
 go_wp2_with fail
 refine (Ra _ (z0a Bw B0)).mono ?_
 rintro e w1 ⟨rfl,c⟩
 have B1:=z0a B0 c
 clear a0 a1 a2 a3 b0 b1 b2 b3 c
 obtain ⟨a0,a1,a2,a3⟩:=(bxa.later B1).at4
 obtain ⟨b0,b1,b2,b3⟩:=(bxb.later B1).at4
 dsimp only at a0 a1 a2 a3 b0 b1 b2 b3
 go_wp2_with fail
 refine (Rb _ (z0a Bw B1)).mono ?_
 rintro e w2 ⟨rfl,c⟩
 have B2:=z0a B1 c
 clear a0 a1 a2 a3 b0 b1 b2 b3 c
 obtain ⟨a0,a1,a2,a3⟩:=(bxa.later B2).at4
 obtain ⟨b0,b1,b2,b3⟩:=(bxb.later B2).at4
 dsimp only at a0 a1 a2 a3 b0 b1 b2 b3
 go_wp2_with fail
 refine z0r (n:=8) rfl ?_
 go_wp2_with fail
 refine z0r (n:=7) rfl ?_
 go_wp2_with fail
 refine z0r (n:=6) rfl ?_
 go_wp2_with fail
 refine (Na _ (z0a Bw B2)).mono ?_
 rintro e w3 ⟨rfl,c⟩
 have B3:=z0a B2 c
 clear a0 a1 a2 a3 b0 b1 b2 b3 c
 obtain ⟨a0,a1,a2,a3⟩:=(bxa.later B3).at4
 obtain ⟨b0,b1,b2,b3⟩:=(bxb.later B3).at4
 dsimp only at a0 a1 a2 a3 b0 b1 b2 b3
 go_wp2_with fail
 refine (Nb _ (z0a Bw B3)).mono ?_
 rintro e w4 ⟨rfl,c⟩
 have B4:=z0a B3 c
 clear a0 a1 a2 a3 b0 b1 b2 b3 c
 obtain ⟨a0,a1,a2,a3⟩:=(bxa.later B4).at4
 obtain ⟨b0,b1,b2,b3⟩:=(bxb.later B4).at4
 dsimp only at a0 a1 a2 a3 b0 b1 b2 b3
 simp only [Nat.zero_add] at a1 a2 a3 b1 b2 b3
 have lta:=(bxa.later B4).lt
 have ltb:=(bxb.later B4).lt
 have U:=fun k n m b W=>z3q k n m b W
 have F4:∀ W,Grew w4 W→Calls Tryz.prog 103 #[.int .i64 op,dv an am,dv bn bm] W fun e w'=>e=.returned (.tuple #[va rk rn rm rb,.int .i64 re])∧Grew W w':=fun W h=>F W (z0a (z0a Bw B4) h.below)
 have br:=bxr.later B4
 obtain ⟨r0,r1,r2,r3⟩:=br.at4
 have f0:=br.free 0
 have f1:=br.free 1
 have f2:=br.free 2
 have f3:=br.free 3
 have lt1:=br.lt
 have Be:=z0a Bw B4
 dsimp only [nul] at r0 r1 r2 r3
 simp only [Nat.zero_add] at r1 r2 r3
 clear Ra Rb Na Nb F bxa bxb bxr br B0 B1 B2 B3 B4 Bw
 go_wp2_with fail
 go_region_held2 (fun W=>W.cell? ⟨w.heap.size,0,none⟩=some (.int .i64 2)∧W.cell? ⟨w.heap.size,1,none⟩=some (.int .i64 an)∧W.cell? ⟨w.heap.size,2,none⟩=some (.int .i64 am)∧W.cell? ⟨w.heap.size,3,none⟩=some (.string ⟨ab.toArray⟩) ∧
   W.cell? ⟨w.heap.size+1,0,none⟩=some (.int .i64 1)∧W.cell? ⟨w.heap.size+1,1,none⟩=some (.int .i64 bn)∧W.cell? ⟨w.heap.size+1,2,none⟩=some (.int .i64 bm)∧W.cell? ⟨w.heap.size+1,3,none⟩=some (.string ⟨bb.toArray⟩)) (simp (maxDischargeDepth:=12) [go_sem,a0,a1,a2,a3,b0,b1,b2,b3,lta,ltb]) (first
  | (go_at_call 104;refine (U _ _ _ _ _).mono ?_;rintro e w1 ⟨rfl,os1,n1,rfl⟩)
  | (go_at_call 103;refine (F4 _ gB).mono ?_;rintro e w2 ⟨rfl,os2,n2,rfl⟩))
 go_wp2
 refine z1a (by intro l h;cases h) ?_
 refine bodyPost_ret_by (v:=.tuple #[va rk rn rm rb,.int .i64 re]) ?_ rfl ⟨rfl,?_⟩
 ·simp [results,Tryz.results56,go_sem,r0,r1,r2,r3,lt1]
 ·refine z0a (Be.setCell (p:=⟨w.heap.size+1+1,0,none⟩) (by simp;omega) (.int .i64 rk) |>.setCell (p:=⟨w.heap.size+1+1,1,none⟩) (by simp;omega) (.int .i64 rn) |>.setCell (p:=⟨w.heap.size+1+1,2,none⟩) (by simp;omega) (.int .i64 rm) |>.setCell (p:=⟨w.heap.size+1+1,3,none⟩) (by simp;omega) (.string rb)) (Grew.below ?_)
  repeat exact gB
theorem qbin_bools (op:Int) (an am bn bm:Int) (ab bb:List UInt8) (w:World) (rk rn rm re:Int) (rb:ByteArray) (c:Int) (o1:¬ op<6) (o2:¬ op > 18) (e17:(op != 17)=true) (e18:(op != 18)=true) (Ra:z0n 34 #[va 4 an am ⟨ab.toArray⟩] w (.bool true)) (Rb:z0n 34 #[va 4 bn bm ⟨bb.toArray⟩] w (.bool true)) (Na:z0n 102 #[va 4 an am ⟨ab.toArray⟩] w (.bool false)) (D:z0n 108 #[va 4 an am ⟨ab.toArray⟩,va 4 bn bm ⟨bb.toArray⟩] w (.int .i64 c)) (F:z0n 107 #[.int .i64 op,.int .i64 c] w (.tuple #[va rk rn rm rb,.int .i64 re])) :
  Calls Tryz.prog 56 #[.int .i64 op,va 4 an am ⟨ab.toArray⟩,va 4 bn bm ⟨bb.toArray⟩] w fun e w'=>e=.returned (.tuple #[va rk rn rm rb,.int .i64 re])∧Below w.heap.size w w':=by
 obtain ⟨w0,hw0,bxa,bxb,bxr,Bw⟩:=z0q w ⟨4,an,am,ab⟩ ⟨4,bn,bm,bb⟩
 dsimp only at hw0
 go_enter Tryz.func56,Tryz.ntmps56
 go_wp2_with fail
 rw [← hw0]
 clear hw0
 refine z0x 9 ?_
 have B0:Below w0.heap.size w0 w0:=Below.refl _ _
 obtain ⟨a0,a1,a2,a3⟩:=(bxa.later B0).at4
 obtain ⟨b0,b1,b2,b3⟩:=(bxb.later B0).at4
 dsimp only at a0 a1 a2 a3 b0 b1 b2 b3
 go_wp2_with fail
 refine (Ra _ (z0a Bw B0)).mono ?_
 rintro e w1 ⟨rfl,c⟩
 have B1:=z0a B0 c
 clear a0 a1 a2 a3 b0 b1 b2 b3 c
 obtain ⟨a0,a1,a2,a3⟩:=(bxa.later B1).at4
 obtain ⟨b0,b1,b2,b3⟩:=(bxb.later B1).at4
 dsimp only at a0 a1 a2 a3 b0 b1 b2 b3
 go_wp2_with fail
 refine (Rb _ (z0a Bw B1)).mono ?_
 rintro e w2 ⟨rfl,c⟩
 have B2:=z0a B1 c
 clear a0 a1 a2 a3 b0 b1 b2 b3 c
 obtain ⟨a0,a1,a2,a3⟩:=(bxa.later B2).at4
 obtain ⟨b0,b1,b2,b3⟩:=(bxb.later B2).at4
 dsimp only at a0 a1 a2 a3 b0 b1 b2 b3
 go_wp2_with fail
 refine z0r (n:=8) rfl ?_
 go_wp2_with fail
 refine z0r (n:=7) rfl ?_
 go_wp2_with fail
 refine z0r (n:=6) rfl ?_
 go_wp2_with fail
 refine (Na _ (z0a Bw B2)).mono ?_
 rintro e w3 ⟨rfl,c⟩
 have B3:=z0a B2 c
 clear a0 a1 a2 a3 b0 b1 b2 b3 c
 obtain ⟨a0,a1,a2,a3⟩:=(bxa.later B3).at4
 obtain ⟨b0,b1,b2,b3⟩:=(bxb.later B3).at4
 dsimp only at a0 a1 a2 a3 b0 b1 b2 b3
 go_wp2_with fail
 refine z0r (n:=5) rfl ?_
 go_wp2_with fail
 refine z0r (n:=4) rfl ?_
 go_wp2_with fail
 refine z0r (n:=3) rfl ?_
 go_wp2_with fail
 refine (D _ (z0a Bw B3)).mono ?_
 rintro e w4 ⟨rfl,c⟩
 have B4:=z0a B3 c
 clear a0 a1 a2 a3 b0 b1 b2 b3 c
 obtain ⟨a0,a1,a2,a3⟩:=(bxa.later B4).at4
 obtain ⟨b0,b1,b2,b3⟩:=(bxb.later B4).at4
 dsimp only at a0 a1 a2 a3 b0 b1 b2 b3
 go_wp2_with fail
 refine (F _ (z0a Bw B4)).mono ?_
 rintro e w5 ⟨rfl,c⟩
 have B5:=z0a B4 c
 clear a0 a1 a2 a3 b0 b1 b2 b3 c
 obtain ⟨a0,a1,a2,a3⟩:=(bxa.later B5).at4
 obtain ⟨b0,b1,b2,b3⟩:=(bxb.later B5).at4
 dsimp only at a0 a1 a2 a3 b0 b1 b2 b3
 have br:=bxr.later B5
 obtain ⟨r0,r1,r2,r3⟩:=br.at4
 have f0:=br.free 0
 have f1:=br.free 1
 have f2:=br.free 2
 have f3:=br.free 3
 have lt1:=br.lt
 have Be:=z0a Bw B5
 go_wp2
 refine z1a (by intro l h;cases h) ?_
 refine bodyPost_ret_by (v:=.tuple #[va rk rn rm rb,.int .i64 re]) ?_ rfl ⟨rfl,?_⟩
 ·simp [results,Tryz.results56,go_sem,r0,r1,r2,r3,nul]
 ·exact (((Be.setCell (p:=⟨w.heap.size+1+1,0,none⟩) (by simp;omega) _).setCell (p:=⟨w.heap.size+1+1,1,none⟩) (by simp;omega) _).setCell (p:=⟨w.heap.size+1+1,2,none⟩) (by simp;omega) _).setCell (p:=⟨w.heap.size+1+1,3,none⟩) (by simp;omega) _
theorem qbin_o3 (op:Int) (bk:Int) (an am bn bm:Int) (ab bb:List UInt8) (w:World) (o1:¬ op<6) (o2:¬ op > 18) (e17:(op != 17)=true) (e18:(op != 18)=true) (eb:(bk != 0)=true) (eb1:(bk != 3)=true) (Ra:z0n 34 #[va 3 an am ⟨ab.toArray⟩] w (.bool true)) (Rb:z0n 34 #[va bk bn bm ⟨bb.toArray⟩] w (.bool true)) (Na:z0n 102 #[va 3 an am ⟨ab.toArray⟩] w (.bool false)) :
  Calls Tryz.prog 56 #[.int .i64 op,va 3 an am ⟨ab.toArray⟩,va bk bn bm ⟨bb.toArray⟩] w fun e w'=>e=.returned (.tuple #[va 0 0 0 ⟨#[]⟩,.int .i64 31])∧Below w.heap.size w w':=by
 obtain ⟨w0,hw0,bxa,bxb,bxr,Bw⟩:=z0q w ⟨3,an,am,ab⟩ ⟨bk,bn,bm,bb⟩
 dsimp only at hw0
 go_enter Tryz.func56,Tryz.ntmps56
 go_wp2_with fail
 rw [← hw0]
 clear hw0
 refine z0x 9 ?_
 have B0:Below w0.heap.size w0 w0:=Below.refl _ _
 obtain ⟨a0,a1,a2,a3⟩:=(bxa.later B0).at4
 obtain ⟨b0,b1,b2,b3⟩:=(bxb.later B0).at4
 dsimp only at a0 a1 a2 a3 b0 b1 b2 b3
 go_wp2_with fail
 refine (Ra _ (z0a Bw B0)).mono ?_
 rintro e w1 ⟨rfl,c⟩
 have B1:=z0a B0 c
 clear a0 a1 a2 a3 b0 b1 b2 b3 c
 obtain ⟨a0,a1,a2,a3⟩:=(bxa.later B1).at4
 obtain ⟨b0,b1,b2,b3⟩:=(bxb.later B1).at4
 dsimp only at a0 a1 a2 a3 b0 b1 b2 b3
 go_wp2_with fail
 refine (Rb _ (z0a Bw B1)).mono ?_
 rintro e w2 ⟨rfl,c⟩
 have B2:=z0a B1 c
 clear a0 a1 a2 a3 b0 b1 b2 b3 c
 obtain ⟨a0,a1,a2,a3⟩:=(bxa.later B2).at4
 obtain ⟨b0,b1,b2,b3⟩:=(bxb.later B2).at4
 dsimp only at a0 a1 a2 a3 b0 b1 b2 b3
 go_wp2_with fail
 refine z0r (n:=8) rfl ?_
 go_wp2_with fail
 refine z0r (n:=7) rfl ?_
 go_wp2_with fail
 refine z0r (n:=6) rfl ?_
 go_wp2_with fail
 refine (Na _ (z0a Bw B2)).mono ?_
 rintro e w3 ⟨rfl,c⟩
 have B3:=z0a B2 c
 clear a0 a1 a2 a3 b0 b1 b2 b3 c
 obtain ⟨a0,a1,a2,a3⟩:=(bxa.later B3).at4
 obtain ⟨b0,b1,b2,b3⟩:=(bxb.later B3).at4
 dsimp only at a0 a1 a2 a3 b0 b1 b2 b3
 go_wp2_with fail
 refine z0r (n:=5) rfl ?_
 go_wp2_with fail
 refine z0r (n:=4) rfl ?_
 go_wp2_with fail
 refine z0r (n:=3) rfl ?_
 go_wp2_with fail
 refine z0r (n:=2) rfl ?_
 have br:=bxr.later B3
 obtain ⟨r0,r1,r2,r3⟩:=br.at4
 have f0:=br.free 0
 have f1:=br.free 1
 have f2:=br.free 2
 have f3:=br.free 3
 have lt1:=br.lt
 have Be:=z0a Bw B3
 go_wp2
 refine z1a (by intro l h;cases h) ?_
 refine bodyPost_ret_by (v:=.tuple #[va 0 0 0 ⟨#[]⟩,.int .i64 31]) ?_ rfl ⟨rfl,?_⟩
 ·simp [results,Tryz.results56,go_sem,r0,r1,r2,r3,nul]
 ·exact (((Be.setCell (p:=⟨w.heap.size+1+1,0,none⟩) (by simp;omega) _).setCell (p:=⟨w.heap.size+1+1,1,none⟩) (by simp;omega) _).setCell (p:=⟨w.heap.size+1+1,2,none⟩) (by simp;omega) _).setCell (p:=⟨w.heap.size+1+1,3,none⟩) (by simp;omega) _
theorem qbin_badB (op:Int) (ak:Int) (bk:Int) (an am bn bm:Int) (ab bb:List UInt8) (w:World) (o1:¬ op<6) (o2:¬ op > 18) (Ra:z0n 34 #[va ak an am ⟨ab.toArray⟩] w (.bool true)) (Rb:z0n 34 #[va bk bn bm ⟨bb.toArray⟩] w (.bool false)) :
  Calls Tryz.prog 56 #[.int .i64 op,va ak an am ⟨ab.toArray⟩,va bk bn bm ⟨bb.toArray⟩] w fun e w'=>e=.returned (.tuple #[va 0 0 0 ⟨#[]⟩,.int .i64 1])∧Below w.heap.size w w':=by
 obtain ⟨w0,hw0,bxa,bxb,bxr,Bw⟩:=z0q w ⟨ak,an,am,ab⟩ ⟨bk,bn,bm,bb⟩
 dsimp only at hw0
 go_enter Tryz.func56,Tryz.ntmps56
 go_wp2_with fail
 rw [← hw0]
 clear hw0
 refine z0x 9 ?_
 have B0:Below w0.heap.size w0 w0:=Below.refl _ _
 obtain ⟨a0,a1,a2,a3⟩:=(bxa.later B0).at4
 obtain ⟨b0,b1,b2,b3⟩:=(bxb.later B0).at4
 dsimp only at a0 a1 a2 a3 b0 b1 b2 b3
 go_wp2_with fail
 refine (Ra _ (z0a Bw B0)).mono ?_
 rintro e w1 ⟨rfl,c⟩
 have B1:=z0a B0 c
 clear a0 a1 a2 a3 b0 b1 b2 b3 c
 obtain ⟨a0,a1,a2,a3⟩:=(bxa.later B1).at4
 obtain ⟨b0,b1,b2,b3⟩:=(bxb.later B1).at4
 dsimp only at a0 a1 a2 a3 b0 b1 b2 b3
 go_wp2_with fail
 refine (Rb _ (z0a Bw B1)).mono ?_
 rintro e w2 ⟨rfl,c⟩
 have B2:=z0a B1 c
 clear a0 a1 a2 a3 b0 b1 b2 b3 c
 obtain ⟨a0,a1,a2,a3⟩:=(bxa.later B2).at4
 obtain ⟨b0,b1,b2,b3⟩:=(bxb.later B2).at4
 dsimp only at a0 a1 a2 a3 b0 b1 b2 b3
 have br:=bxr.later B2
 obtain ⟨r0,r1,r2,r3⟩:=br.at4
 have f0:=br.free 0
 have f1:=br.free 1
 have f2:=br.free 2
 have f3:=br.free 3
 have lt1:=br.lt
 have Be:=z0a Bw B2
 go_wp2
 refine z1a (by intro l h;cases h) ?_
 refine bodyPost_ret_by (v:=.tuple #[va 0 0 0 ⟨#[]⟩,.int .i64 1]) ?_ rfl ⟨rfl,?_⟩
 ·simp [results,Tryz.results56,go_sem,r0,r1,r2,r3,nul]
 ·exact (((Be.setCell (p:=⟨w.heap.size+1+1,0,none⟩) (by simp;omega) _).setCell (p:=⟨w.heap.size+1+1,1,none⟩) (by simp;omega) _).setCell (p:=⟨w.heap.size+1+1,2,none⟩) (by simp;omega) _).setCell (p:=⟨w.heap.size+1+1,3,none⟩) (by simp;omega) _
theorem qbin_nullB (op:Int) (ak:Int) (an am bn bm:Int) (ab bb:List UInt8) (w:World) (o1:¬ op<6) (o2:¬ op > 18) (e17:(op != 17)=true) (e18:(op != 18)=true) (ea:(ak != 0)=true) (Ra:z0n 34 #[va ak an am ⟨ab.toArray⟩] w (.bool true)) (Rb:z0n 34 #[va 0 bn bm ⟨bb.toArray⟩] w (.bool true)) :
  Calls Tryz.prog 56 #[.int .i64 op,va ak an am ⟨ab.toArray⟩,va 0 bn bm ⟨bb.toArray⟩] w fun e w'=>e=.returned (.tuple #[va 0 0 0 ⟨#[]⟩,.int .i64 0])∧Below w.heap.size w w':=by
 obtain ⟨w0,hw0,bxa,bxb,bxr,Bw⟩:=z0q w ⟨ak,an,am,ab⟩ ⟨0,bn,bm,bb⟩
 dsimp only at hw0
 go_enter Tryz.func56,Tryz.ntmps56
 go_wp2_with fail
 rw [← hw0]
 clear hw0
 refine z0x 9 ?_
 have B0:Below w0.heap.size w0 w0:=Below.refl _ _
 obtain ⟨a0,a1,a2,a3⟩:=(bxa.later B0).at4
 obtain ⟨b0,b1,b2,b3⟩:=(bxb.later B0).at4
 dsimp only at a0 a1 a2 a3 b0 b1 b2 b3
 go_wp2_with fail
 refine (Ra _ (z0a Bw B0)).mono ?_
 rintro e w1 ⟨rfl,c⟩
 have B1:=z0a B0 c
 clear a0 a1 a2 a3 b0 b1 b2 b3 c
 obtain ⟨a0,a1,a2,a3⟩:=(bxa.later B1).at4
 obtain ⟨b0,b1,b2,b3⟩:=(bxb.later B1).at4
 dsimp only at a0 a1 a2 a3 b0 b1 b2 b3
 go_wp2_with fail
 refine (Rb _ (z0a Bw B1)).mono ?_
 rintro e w2 ⟨rfl,c⟩
 have B2:=z0a B1 c
 clear a0 a1 a2 a3 b0 b1 b2 b3 c
 obtain ⟨a0,a1,a2,a3⟩:=(bxa.later B2).at4
 obtain ⟨b0,b1,b2,b3⟩:=(bxb.later B2).at4
 dsimp only at a0 a1 a2 a3 b0 b1 b2 b3
 go_wp2_with fail
 refine z0r (n:=8) rfl ?_
 have br:=bxr.later B2
 obtain ⟨r0,r1,r2,r3⟩:=br.at4
 have f0:=br.free 0
 have f1:=br.free 1
 have f2:=br.free 2
 have f3:=br.free 3
 have lt1:=br.lt
 have Be:=z0a Bw B2
 go_wp2
 refine z1a (by intro l h;cases h) ?_
 refine bodyPost_ret_by (v:=.tuple #[va 0 0 0 ⟨#[]⟩,.int .i64 0]) ?_ rfl ⟨rfl,?_⟩
 ·simp [results,Tryz.results56,go_sem,r0,r1,r2,r3,nul]
 ·exact (((Be.setCell (p:=⟨w.heap.size+1+1,0,none⟩) (by simp;omega) _).setCell (p:=⟨w.heap.size+1+1,1,none⟩) (by simp;omega) _).setCell (p:=⟨w.heap.size+1+1,2,none⟩) (by simp;omega) _).setCell (p:=⟨w.heap.size+1+1,3,none⟩) (by simp;omega) _
theorem qbin_n22 (op:Int) (an am bn bm:Int) (ab bb:List UInt8) (w:World) (rk rn rm re:Int) (rb:ByteArray) (o1:¬ op<6) (o2:¬ op > 18) (e17:(op != 17)=true) (e18:(op != 18)=true) (Ra:z0n 34 #[va 2 an am ⟨ab.toArray⟩] w (.bool true)) (Rb:z0n 34 #[va 2 bn bm ⟨bb.toArray⟩] w (.bool true)) (Na:z0n 102 #[va 2 an am ⟨ab.toArray⟩] w (.bool true)) (Nb:z0n 102 #[va 2 bn bm ⟨bb.toArray⟩] w (.bool true))  (F:∀ W,Below w.heap.size w W→Calls Tryz.prog 103 #[.int .i64 op,dv an am,dv bn bm] W fun e w'=>e=.returned (.tuple #[va rk rn rm rb,.int .i64 re])∧Grew W w') :
  Calls Tryz.prog 56 #[.int .i64 op,va 2 an am ⟨ab.toArray⟩,va 2 bn bm ⟨bb.toArray⟩] w fun e w'=>e=.returned (.tuple #[va rk rn rm rb,.int .i64 re])∧Below w.heap.size w w':=by
 obtain ⟨w0,hw0,bxa,bxb,bxr,Bw⟩:=z0q w ⟨2,an,am,ab⟩ ⟨2,bn,bm,bb⟩
 dsimp only at hw0
 go_enter Tryz.func56,Tryz.ntmps56
 go_wp2_with fail
 rw [← hw0]
 clear hw0
 refine z0x 9 ?_
 have B0:Below w0.heap.size w0 w0:=Below.refl _ _
 obtain ⟨a0,a1,a2,a3⟩:=(bxa.later B0).at4
 obtain ⟨b0,b1,b2,b3⟩:=(bxb.later B0).at4
 dsimp only at a0 a1 a2 a3 b0 b1 b2 b3
 go_wp2_with fail
 refine (Ra _ (z0a Bw B0)).mono ?_
 rintro e w1 ⟨rfl,c⟩
 have B1:=z0a B0 c
 clear a0 a1 a2 a3 b0 b1 b2 b3 c
 obtain ⟨a0,a1,a2,a3⟩:=(bxa.later B1).at4
 obtain ⟨b0,b1,b2,b3⟩:=(bxb.later B1).at4
 dsimp only at a0 a1 a2 a3 b0 b1 b2 b3
 go_wp2_with fail
 refine (Rb _ (z0a Bw B1)).mono ?_
 rintro e w2 ⟨rfl,c⟩
 have B2:=z0a B1 c
 clear a0 a1 a2 a3 b0 b1 b2 b3 c
 obtain ⟨a0,a1,a2,a3⟩:=(bxa.later B2).at4
 obtain ⟨b0,b1,b2,b3⟩:=(bxb.later B2).at4
 dsimp only at a0 a1 a2 a3 b0 b1 b2 b3
 go_wp2_with fail
 refine z0r (n:=8) rfl ?_
 go_wp2_with fail
 refine z0r (n:=7) rfl ?_
 go_wp2_with fail
 refine z0r (n:=6) rfl ?_
 go_wp2_with fail
 refine (Na _ (z0a Bw B2)).mono ?_
 rintro e w3 ⟨rfl,c⟩
 have B3:=z0a B2 c
 clear a0 a1 a2 a3 b0 b1 b2 b3 c
 obtain ⟨a0,a1,a2,a3⟩:=(bxa.later B3).at4
 obtain ⟨b0,b1,b2,b3⟩:=(bxb.later B3).at4
 dsimp only at a0 a1 a2 a3 b0 b1 b2 b3
 go_wp2_with fail
 refine (Nb _ (z0a Bw B3)).mono ?_
 rintro e w4 ⟨rfl,c⟩
 have B4:=z0a B3 c
 clear a0 a1 a2 a3 b0 b1 b2 b3 c
 obtain ⟨a0,a1,a2,a3⟩:=(bxa.later B4).at4
 obtain ⟨b0,b1,b2,b3⟩:=(bxb.later B4).at4
 dsimp only at a0 a1 a2 a3 b0 b1 b2 b3
 simp only [Nat.zero_add] at a1 a2 a3 b1 b2 b3
 have lta:=(bxa.later B4).lt
 have ltb:=(bxb.later B4).lt
 have U:=fun k n m b W=>z3q k n m b W
 have F4:∀ W,Grew w4 W→Calls Tryz.prog 103 #[.int .i64 op,dv an am,dv bn bm] W fun e w'=>e=.returned (.tuple #[va rk rn rm rb,.int .i64 re])∧Grew W w':=fun W h=>F W (z0a (z0a Bw B4) h.below)
 have br:=bxr.later B4
 obtain ⟨r0,r1,r2,r3⟩:=br.at4
 have f0:=br.free 0
 have f1:=br.free 1
 have f2:=br.free 2
 have f3:=br.free 3
 have lt1:=br.lt
 have Be:=z0a Bw B4
 dsimp only [nul] at r0 r1 r2 r3
 simp only [Nat.zero_add] at r1 r2 r3
 clear Ra Rb Na Nb F bxa bxb bxr br B0 B1 B2 B3 B4 Bw
 go_wp2_with fail
 go_region_held2 (fun W=>W.cell? ⟨w.heap.size,0,none⟩=some (.int .i64 2)∧W.cell? ⟨w.heap.size,1,none⟩=some (.int .i64 an)∧W.cell? ⟨w.heap.size,2,none⟩=some (.int .i64 am)∧W.cell? ⟨w.heap.size,3,none⟩=some (.string ⟨ab.toArray⟩) ∧
   W.cell? ⟨w.heap.size+1,0,none⟩=some (.int .i64 2)∧W.cell? ⟨w.heap.size+1,1,none⟩=some (.int .i64 bn)∧W.cell? ⟨w.heap.size+1,2,none⟩=some (.int .i64 bm)∧W.cell? ⟨w.heap.size+1,3,none⟩=some (.string ⟨bb.toArray⟩)) (simp (maxDischargeDepth:=12) [go_sem,a0,a1,a2,a3,b0,b1,b2,b3,lta,ltb]) (first
  | (go_at_call 104;refine (U _ _ _ _ _).mono ?_;rintro e w1 ⟨rfl,os1,n1,rfl⟩)
  | (go_at_call 103;refine (F4 _ gB).mono ?_;rintro e w2 ⟨rfl,os2,n2,rfl⟩))
 go_wp2
 refine z1a (by intro l h;cases h) ?_
 refine bodyPost_ret_by (v:=.tuple #[va rk rn rm rb,.int .i64 re]) ?_ rfl ⟨rfl,?_⟩
 ·simp [results,Tryz.results56,go_sem,r0,r1,r2,r3,lt1]
 ·refine z0a (Be.setCell (p:=⟨w.heap.size+1+1,0,none⟩) (by simp;omega) (.int .i64 rk) |>.setCell (p:=⟨w.heap.size+1+1,1,none⟩) (by simp;omega) (.int .i64 rn) |>.setCell (p:=⟨w.heap.size+1+1,2,none⟩) (by simp;omega) (.int .i64 rm) |>.setCell (p:=⟨w.heap.size+1+1,3,none⟩) (by simp;omega) (.string rb)) (Grew.below ?_)
  repeat exact gB
theorem qbin_o1 (op:Int) (bk:Int) (an am bn bm:Int) (ab bb:List UInt8) (w:World) (o1:¬ op<6) (o2:¬ op > 18) (e17:(op != 17)=true) (e18:(op != 18)=true) (eb:(bk != 0)=true) (eb1:(bk != 1)=true) (Ra:z0n 34 #[va 1 an am ⟨ab.toArray⟩] w (.bool true)) (Rb:z0n 34 #[va bk bn bm ⟨bb.toArray⟩] w (.bool true)) (Na:z0n 102 #[va 1 an am ⟨ab.toArray⟩] w (.bool true)) (Nb:z0n 102 #[va bk bn bm ⟨bb.toArray⟩] w (.bool false)) :
  Calls Tryz.prog 56 #[.int .i64 op,va 1 an am ⟨ab.toArray⟩,va bk bn bm ⟨bb.toArray⟩] w fun e w'=>e=.returned (.tuple #[va 0 0 0 ⟨#[]⟩,.int .i64 31])∧Below w.heap.size w w':=by
 obtain ⟨w0,hw0,bxa,bxb,bxr,Bw⟩:=z0q w ⟨1,an,am,ab⟩ ⟨bk,bn,bm,bb⟩
 dsimp only at hw0
 go_enter Tryz.func56,Tryz.ntmps56
 go_wp2_with fail
 rw [← hw0]
 clear hw0
 refine z0x 9 ?_
 have B0:Below w0.heap.size w0 w0:=Below.refl _ _
 obtain ⟨a0,a1,a2,a3⟩:=(bxa.later B0).at4
 obtain ⟨b0,b1,b2,b3⟩:=(bxb.later B0).at4
 dsimp only at a0 a1 a2 a3 b0 b1 b2 b3
 go_wp2_with fail
 refine (Ra _ (z0a Bw B0)).mono ?_
 rintro e w1 ⟨rfl,c⟩
 have B1:=z0a B0 c
 clear a0 a1 a2 a3 b0 b1 b2 b3 c
 obtain ⟨a0,a1,a2,a3⟩:=(bxa.later B1).at4
 obtain ⟨b0,b1,b2,b3⟩:=(bxb.later B1).at4
 dsimp only at a0 a1 a2 a3 b0 b1 b2 b3
 go_wp2_with fail
 refine (Rb _ (z0a Bw B1)).mono ?_
 rintro e w2 ⟨rfl,c⟩
 have B2:=z0a B1 c
 clear a0 a1 a2 a3 b0 b1 b2 b3 c
 obtain ⟨a0,a1,a2,a3⟩:=(bxa.later B2).at4
 obtain ⟨b0,b1,b2,b3⟩:=(bxb.later B2).at4
 dsimp only at a0 a1 a2 a3 b0 b1 b2 b3
 go_wp2_with fail
 refine z0r (n:=8) rfl ?_
 go_wp2_with fail
 refine z0r (n:=7) rfl ?_
 go_wp2_with fail
 refine z0r (n:=6) rfl ?_
 go_wp2_with fail
 refine (Na _ (z0a Bw B2)).mono ?_
 rintro e w3 ⟨rfl,c⟩
 have B3:=z0a B2 c
 clear a0 a1 a2 a3 b0 b1 b2 b3 c
 obtain ⟨a0,a1,a2,a3⟩:=(bxa.later B3).at4
 obtain ⟨b0,b1,b2,b3⟩:=(bxb.later B3).at4
 dsimp only at a0 a1 a2 a3 b0 b1 b2 b3
 go_wp2_with fail
 refine (Nb _ (z0a Bw B3)).mono ?_
 rintro e w4 ⟨rfl,c⟩
 have B4:=z0a B3 c
 clear a0 a1 a2 a3 b0 b1 b2 b3 c
 obtain ⟨a0,a1,a2,a3⟩:=(bxa.later B4).at4
 obtain ⟨b0,b1,b2,b3⟩:=(bxb.later B4).at4
 dsimp only at a0 a1 a2 a3 b0 b1 b2 b3
 go_wp2_with fail
 refine z0r (n:=5) rfl ?_
 go_wp2_with fail
 refine z0r (n:=4) rfl ?_
 go_wp2_with fail
 refine z0r (n:=3) rfl ?_
 go_wp2_with fail
 refine z0r (n:=2) rfl ?_
 have br:=bxr.later B4
 obtain ⟨r0,r1,r2,r3⟩:=br.at4
 have f0:=br.free 0
 have f1:=br.free 1
 have f2:=br.free 2
 have f3:=br.free 3
 have lt1:=br.lt
 have Be:=z0a Bw B4
 go_wp2
 refine z1a (by intro l h;cases h) ?_
 refine bodyPost_ret_by (v:=.tuple #[va 0 0 0 ⟨#[]⟩,.int .i64 31]) ?_ rfl ⟨rfl,?_⟩
 ·simp [results,Tryz.results56,go_sem,r0,r1,r2,r3,nul]
 ·exact (((Be.setCell (p:=⟨w.heap.size+1+1,0,none⟩) (by simp;omega) _).setCell (p:=⟨w.heap.size+1+1,1,none⟩) (by simp;omega) _).setCell (p:=⟨w.heap.size+1+1,2,none⟩) (by simp;omega) _).setCell (p:=⟨w.heap.size+1+1,3,none⟩) (by simp;omega) _
theorem qbin_o4 (op:Int) (bk:Int) (an am bn bm:Int) (ab bb:List UInt8) (w:World) (o1:¬ op<6) (o2:¬ op > 18) (e17:(op != 17)=true) (e18:(op != 18)=true) (eb:(bk != 0)=true) (eb1:(bk != 4)=true) (Ra:z0n 34 #[va 4 an am ⟨ab.toArray⟩] w (.bool true)) (Rb:z0n 34 #[va bk bn bm ⟨bb.toArray⟩] w (.bool true)) (Na:z0n 102 #[va 4 an am ⟨ab.toArray⟩] w (.bool false)) :
  Calls Tryz.prog 56 #[.int .i64 op,va 4 an am ⟨ab.toArray⟩,va bk bn bm ⟨bb.toArray⟩] w fun e w'=>e=.returned (.tuple #[va 0 0 0 ⟨#[]⟩,.int .i64 31])∧Below w.heap.size w w':=by
 obtain ⟨w0,hw0,bxa,bxb,bxr,Bw⟩:=z0q w ⟨4,an,am,ab⟩ ⟨bk,bn,bm,bb⟩
 dsimp only at hw0
 go_enter Tryz.func56,Tryz.ntmps56
 go_wp2_with fail
 rw [← hw0]
 clear hw0
 refine z0x 9 ?_
 have B0:Below w0.heap.size w0 w0:=Below.refl _ _
 obtain ⟨a0,a1,a2,a3⟩:=(bxa.later B0).at4
 obtain ⟨b0,b1,b2,b3⟩:=(bxb.later B0).at4
 dsimp only at a0 a1 a2 a3 b0 b1 b2 b3
 go_wp2_with fail
 refine (Ra _ (z0a Bw B0)).mono ?_
 rintro e w1 ⟨rfl,c⟩
 have B1:=z0a B0 c
 clear a0 a1 a2 a3 b0 b1 b2 b3 c
 obtain ⟨a0,a1,a2,a3⟩:=(bxa.later B1).at4
 obtain ⟨b0,b1,b2,b3⟩:=(bxb.later B1).at4
 dsimp only at a0 a1 a2 a3 b0 b1 b2 b3
 go_wp2_with fail
 refine (Rb _ (z0a Bw B1)).mono ?_
 rintro e w2 ⟨rfl,c⟩
 have B2:=z0a B1 c
 clear a0 a1 a2 a3 b0 b1 b2 b3 c
 obtain ⟨a0,a1,a2,a3⟩:=(bxa.later B2).at4
 obtain ⟨b0,b1,b2,b3⟩:=(bxb.later B2).at4
 dsimp only at a0 a1 a2 a3 b0 b1 b2 b3
 go_wp2_with fail
 refine z0r (n:=8) rfl ?_
 go_wp2_with fail
 refine z0r (n:=7) rfl ?_
 go_wp2_with fail
 refine z0r (n:=6) rfl ?_
 go_wp2_with fail
 refine (Na _ (z0a Bw B2)).mono ?_
 rintro e w3 ⟨rfl,c⟩
 have B3:=z0a B2 c
 clear a0 a1 a2 a3 b0 b1 b2 b3 c
 obtain ⟨a0,a1,a2,a3⟩:=(bxa.later B3).at4
 obtain ⟨b0,b1,b2,b3⟩:=(bxb.later B3).at4
 dsimp only at a0 a1 a2 a3 b0 b1 b2 b3
 go_wp2_with fail
 refine z0r (n:=5) rfl ?_
 go_wp2_with fail
 refine z0r (n:=4) rfl ?_
 go_wp2_with fail
 refine z0r (n:=3) rfl ?_
 go_wp2_with fail
 refine z0r (n:=2) rfl ?_
 have br:=bxr.later B3
 obtain ⟨r0,r1,r2,r3⟩:=br.at4
 have f0:=br.free 0
 have f1:=br.free 1
 have f2:=br.free 2
 have f3:=br.free 3
 have lt1:=br.lt
 have Be:=z0a Bw B3
 go_wp2
 refine z1a (by intro l h;cases h) ?_
 refine bodyPost_ret_by (v:=.tuple #[va 0 0 0 ⟨#[]⟩,.int .i64 31]) ?_ rfl ⟨rfl,?_⟩
 ·simp [results,Tryz.results56,go_sem,r0,r1,r2,r3,nul]
 ·exact (((Be.setCell (p:=⟨w.heap.size+1+1,0,none⟩) (by simp;omega) _).setCell (p:=⟨w.heap.size+1+1,1,none⟩) (by simp;omega) _).setCell (p:=⟨w.heap.size+1+1,2,none⟩) (by simp;omega) _).setCell (p:=⟨w.heap.size+1+1,3,none⟩) (by simp;omega) _
theorem z8c (u:Int):at10 u 0 0=u:=by simp [at10]
theorem qdiff_any (a b:Int) (w:World) (hP:Pw w) (a0:-9223372036854775808≤a) (a1:a≤9223372036854775807) (b0:-9223372036854775808≤b) (b1:b≤9223372036854775807) :
  Calls Tryz.prog 157 #[.int .i64 a,.int .i64 b] w fun e w'=>e=.returned (ires (a - b))∧Grew w w':=by
 have S:∀ W,Grew w W→Calls Tryz.prog 164 #[dv a 0,dv b 0] W fun e w'=>e=.returned (dres (a - b) 0)∧Grew W w':=by
  intro W h
  have:=sub_good a 0 b 0 0 W (hP.later h) rfl rfl (.inl ⟨rfl,Int.le_refl _⟩) a0 a1 b0 b1
  rwa [z8c,z8c] at this
 clear hP a0 a1 b0 b1
 generalize a - b=z at *
 go_enter Tryz.func157,Tryz.ntmps157
 go_wp2_with (go_at_call 164;refine (S _ gB).mono ?_;rintro e w1 ⟨rfl,os1,n1,rfl⟩)
 refine bodyPost_ret_by (v:=ires z) ?_ rfl ⟨rfl,?_⟩
 ·simp [results,Tryz.results157,go_sem]
 ·exact gB
theorem tdiv_in (a b:Int) (b2:b≠-1) (a0:-9223372036854775808≤a) (a1:a≤9223372036854775807) (b0:-9223372036854775808≤b) (b1:b≤9223372036854775807):-9223372036854775808≤a.tdiv b∧a.tdiv b≤9223372036854775807:=by
 have h:(a.tdiv b).natAbs=a.natAbs / b.natAbs:=Int.natAbs_tdiv a b
 rcases Nat.lt_or_ge b.natAbs 2 with h2|h2
 ·have:b=0∨b=1:=by omega
  rcases this with rfl|rfl
  ·simp
  ·simp;omega
 ·have:a.natAbs / b.natAbs≤a.natAbs / 2:=Nat.div_le_div_left h2 (by decide)
  omega
theorem tmod_in (a b:Int) (a0:-9223372036854775808≤a) (a1:a≤9223372036854775807):-9223372036854775808≤a.tmod b∧a.tmod b≤9223372036854775807:=by
 have h:(a.tmod b).natAbs=a.natAbs%b.natAbs:=Int.natAbs_tmod a b
 have:=Nat.mod_le a.natAbs b.natAbs
 have h1:=Int.tmod_nonneg (a:=a) b
 have h2:a≤0→a.tmod b≤0:=fun h=>by have:=Int.tmod_nonneg (a:=-a) b (by omega);rw [Int.neg_tmod] at this;omega
 omega
theorem qquo_any (a b:Int) (w:World) (a0:-9223372036854775808≤a) (a1:a≤9223372036854775807) (b0:-9223372036854775808≤b) (b1:b≤9223372036854775807) :
  Calls Tryz.prog 159 #[.int .i64 a,.int .i64 b] w fun e w'=>e=.returned (.tuple #[.int .i64 (quoR a b).1,.int .i64 (quoR a b).2])∧Grew w w':=by
 unfold quoR
 by_cases h0:b=0
 ·subst h0
  rw [if_pos rfl]
  go_enter Tryz.func159,Tryz.ntmps159
  go_wp2
  go_ret2
  exact ⟨rfl,gB⟩
 rw [if_neg h0]
 have c0:(b==0)=false:=by simpa using h0
 by_cases h1:b=-1
 ·subst h1
  rw [if_pos rfl]
  have M:=fun W=>mulInt_any a (-1) W a0 a1 b0 b1
  rw [Int.mul_neg,Int.mul_one] at M
  clear a0 a1 b0 b1
  go_enter Tryz.func159,Tryz.ntmps159
  go_wp2_with (go_at_call 158;refine (M _).mono ?_;rintro e w1 ⟨rfl,os1,n1,rfl⟩)
  go_ret2
  exact ⟨rfl,gB⟩
 rw [if_neg h1]
 have c1:(b==-1)=false:=by simpa using h1
 obtain ⟨l0,l1⟩:=tdiv_in a b h1 a0 a1 b0 b1
 go_enter Tryz.func159,Tryz.ntmps159
 go_wp2
 go_ret2
 exact ⟨rfl,gB⟩
theorem qrem_any (a b:Int) (w:World) (a0:-9223372036854775808≤a) (a1:a≤9223372036854775807) (b0:-9223372036854775808≤b) (b1:b≤9223372036854775807) :
  Calls Tryz.prog 160 #[.int .i64 a,.int .i64 b] w fun e w'=>e=.returned (.tuple #[.int .i64 (remR a b).1,.int .i64 (remR a b).2])∧Grew w w':=by
 unfold remR
 by_cases h0:b=0
 ·subst h0
  rw [if_pos rfl]
  go_enter Tryz.func160,Tryz.ntmps160
  go_wp2
  go_ret2
  exact ⟨rfl,gB⟩
 rw [if_neg h0]
 have c0:(b==0)=false:=by simpa using h0
 obtain ⟨l0,l1⟩:=tmod_in a b a0 a1
 go_enter Tryz.func160,Tryz.ntmps160
 go_wp2
 go_ret2
 exact ⟨rfl,gB⟩
theorem qints_any (op a b:Int) (w:World) (hP:Pw w) (a0:-9223372036854775808≤a) (a1:a≤9223372036854775807) (b0:-9223372036854775808≤b) (b1:b≤9223372036854775807) :
  Calls Tryz.prog 101 #[.int .i64 op,.int .i64 a,.int .i64 b] w fun e w'=>e=.returned (rs (intsR op a b))∧Grew w w':=by
 unfold intsR
 by_cases h9:op=9
 ·subst h9
  rw [if_pos rfl]
  have C:∀ W,Grew w W→Calls Tryz.prog 156 #[.int .i64 a,.int .i64 b] W fun e w'=>e=.returned (.tuple #[.int .i64 _,.int .i64 _])∧Grew W w':=fun W h=>addInt_any a b W a0 a1 b0 b1
  have H:=fun n x W=>z2e n x W
  clear hP a0 a1 b0 b1
  go_enter Tryz.func101,Tryz.ntmps101
  go_wp2_with (first
   | (go_at_call 156;refine (C _ gB).mono ?_;rintro e w1 ⟨rfl,os1,n1,rfl⟩)
   | (go_at_call 155;refine (H _ _ _).mono ?_;rintro e w1 ⟨rfl,os2,n2,rfl⟩))
  refine bodyPost_ret_by (v:=rs _) ?_ rfl ⟨rfl,?_⟩
  ·simp [results,Tryz.results101,go_sem]
  ·exact gB
 have c9:(op==9)=false:=by simpa using h9
 by_cases h10:op=10
 ·subst h10
  rw [if_neg (by decide),if_pos rfl]
  have C:∀ W,Grew w W→Calls Tryz.prog 157 #[.int .i64 a,.int .i64 b] W fun e w'=>e=.returned (.tuple #[.int .i64 _,.int .i64 _])∧Grew W w':=fun W h=>qdiff_any a b W (hP.later h) a0 a1 b0 b1
  have H:=fun n x W=>z2e n x W
  clear hP a0 a1 b0 b1
  go_enter Tryz.func101,Tryz.ntmps101
  go_wp2_with (first
   | (go_at_call 157;refine (C _ gB).mono ?_;rintro e w1 ⟨rfl,os1,n1,rfl⟩)
   | (go_at_call 155;refine (H _ _ _).mono ?_;rintro e w1 ⟨rfl,os2,n2,rfl⟩))
  refine bodyPost_ret_by (v:=rs _) ?_ rfl ⟨rfl,?_⟩
  ·simp [results,Tryz.results101,go_sem]
  ·exact gB
 have c10:(op==10)=false:=by simpa using h10
 by_cases h6:op=6
 ·subst h6
  rw [if_neg (by decide),if_neg (by decide),if_pos rfl]
  have C:∀ W,Grew w W→Calls Tryz.prog 158 #[.int .i64 a,.int .i64 b] W fun e w'=>e=.returned (.tuple #[.int .i64 _,.int .i64 _])∧Grew W w':=fun W h=>mulInt_any a b W a0 a1 b0 b1
  have H:=fun n x W=>z2e n x W
  clear hP a0 a1 b0 b1
  go_enter Tryz.func101,Tryz.ntmps101
  go_wp2_with (first
   | (go_at_call 158;refine (C _ gB).mono ?_;rintro e w1 ⟨rfl,os1,n1,rfl⟩)
   | (go_at_call 155;refine (H _ _ _).mono ?_;rintro e w1 ⟨rfl,os2,n2,rfl⟩))
  refine bodyPost_ret_by (v:=rs _) ?_ rfl ⟨rfl,?_⟩
  ·simp [results,Tryz.results101,go_sem]
  ·exact gB
 have c6:(op==6)=false:=by simpa using h6
 by_cases h7:op=7
 ·subst h7
  rw [if_neg (by decide),if_neg (by decide),if_neg (by decide),if_pos rfl]
  have C:∀ W,Grew w W→Calls Tryz.prog 159 #[.int .i64 a,.int .i64 b] W fun e w'=>e=.returned (.tuple #[.int .i64 _,.int .i64 _])∧Grew W w':=fun W h=>qquo_any a b W a0 a1 b0 b1
  have H:=fun n x W=>z2e n x W
  clear hP a0 a1 b0 b1
  go_enter Tryz.func101,Tryz.ntmps101
  go_wp2_with (first
   | (go_at_call 159;refine (C _ gB).mono ?_;rintro e w1 ⟨rfl,os1,n1,rfl⟩)
   | (go_at_call 155;refine (H _ _ _).mono ?_;rintro e w1 ⟨rfl,os2,n2,rfl⟩))
  refine bodyPost_ret_by (v:=rs _) ?_ rfl ⟨rfl,?_⟩
  ·simp [results,Tryz.results101,go_sem]
  ·exact gB
 have c7:(op==7)=false:=by simpa using h7
 by_cases h8:op=8
 ·subst h8
  rw [if_neg (by decide),if_neg (by decide),if_neg (by decide),if_neg (by decide),if_pos rfl]
  have C:∀ W,Grew w W→Calls Tryz.prog 160 #[.int .i64 a,.int .i64 b] W fun e w'=>e=.returned (.tuple #[.int .i64 _,.int .i64 _])∧Grew W w':=fun W h=>qrem_any a b W a0 a1 b0 b1
  have H:=fun n x W=>z2e n x W
  clear hP a0 a1 b0 b1
  go_enter Tryz.func101,Tryz.ntmps101
  go_wp2_with (first
   | (go_at_call 160;refine (C _ gB).mono ?_;rintro e w1 ⟨rfl,os1,n1,rfl⟩)
   | (go_at_call 155;refine (H _ _ _).mono ?_;rintro e w1 ⟨rfl,os2,n2,rfl⟩))
  refine bodyPost_ret_by (v:=rs _) ?_ rfl ⟨rfl,?_⟩
  ·simp [results,Tryz.results101,go_sem]
  ·exact gB
 have c8:(op==8)=false:=by simpa using h8
 rw [if_neg h9,if_neg h10,if_neg h6,if_neg h7,if_neg h8]
 have C:=fun W=>cmpI_any a b W
 have H:=fun c W=>z3f op c W
 clear hP a0 a1 b0 b1
 go_enter Tryz.func101,Tryz.ntmps101
 go_wp2_with (first
  | (go_at_call 161;refine (C _).mono ?_;rintro e w1 ⟨rfl,rfl⟩)
  | (go_at_call 107;refine (H _ _).mono ?_;rintro e w1 ⟨rfl,os2,n2,rfl⟩))
 refine bodyPost_ret_by (v:=rs _) ?_ rfl ⟨rfl,?_⟩
 ·simp [results,Tryz.results101,go_sem]
 ·exact gB
theorem gsc_or (s t:Int):(gsc s t=s∧t≤s)∨(gsc s t=t∧s<t):=by unfold gsc;split <;> omega
theorem psc_or (s t:Int):(psc s t=s+t∧s+t≤6)∨(psc s t=6∧6<s+t):=by unfold psc;split <;> omega
theorem qnums_any (op:Int) (a b:Va) (w:World) (hP:Pw w) (ha:0≤a.m∧a.m≤6) (hb:0≤b.m∧b.m≤6) (va:vin a) (vb:vin b) :
  Calls Tryz.prog 103 #[.int .i64 op,dv a.n a.m,dv b.n b.m] w fun e w'=>e=.returned (rs (z9s op a b))∧Grew w w':=by
 have ra:=(z0w a.m).2 ha
 have rb:=(z0w b.m).2 hb
 unfold z9s decR
 by_cases h9:op=9
 ·subst h9
  rw [if_pos rfl]
  have C:∀ W,Grew w W→Calls Tryz.prog 163 #[dv a.n a.m,dv b.n b.m] W fun e w'=>e=.returned (.tuple #[dv _ _,.int .i64 _])∧Grew W w':=fun W h=>add_good a.n a.m b.n b.m _ W (hP.later h) ra rb (gsc_or a.m b.m) va.1.1 va.1.2 vb.1.1 vb.1.2
  have H:=fun u s x W=>z3t u s x W
  clear hP ha hb ra rb va vb
  go_enter Tryz.func103,Tryz.ntmps103
  go_wp2_with (first
   | (go_at_call 163;refine (C _ gB).mono ?_;rintro e w1 ⟨rfl,os1,n1,rfl⟩)
   | (go_at_call 162;refine (H _ _ _ _).mono ?_;rintro e w1 ⟨rfl,os2,n2,rfl⟩))
  refine bodyPost_ret_by (v:=rs _) ?_ rfl ⟨rfl,?_⟩
  ·simp [results,Tryz.results103,go_sem]
  ·exact gB
 have c9:(op==9)=false:=by simpa using h9
 by_cases h10:op=10
 ·subst h10
  rw [if_neg (by decide),if_pos rfl]
  have C:∀ W,Grew w W→Calls Tryz.prog 164 #[dv a.n a.m,dv b.n b.m] W fun e w'=>e=.returned (.tuple #[dv _ _,.int .i64 _])∧Grew W w':=fun W h=>sub_good a.n a.m b.n b.m _ W (hP.later h) ra rb (gsc_or a.m b.m) va.1.1 va.1.2 vb.1.1 vb.1.2
  have H:=fun u s x W=>z3t u s x W
  clear hP ha hb ra rb va vb
  go_enter Tryz.func103,Tryz.ntmps103
  go_wp2_with (first
   | (go_at_call 164;refine (C _ gB).mono ?_;rintro e w1 ⟨rfl,os1,n1,rfl⟩)
   | (go_at_call 162;refine (H _ _ _ _).mono ?_;rintro e w1 ⟨rfl,os2,n2,rfl⟩))
  refine bodyPost_ret_by (v:=rs _) ?_ rfl ⟨rfl,?_⟩
  ·simp [results,Tryz.results103,go_sem]
  ·exact gB
 have c10:(op==10)=false:=by simpa using h10
 by_cases h6:op=6
 ·subst h6
  rw [if_neg (by decide),if_neg (by decide),if_pos rfl]
  have C:∀ W,Grew w W→Calls Tryz.prog 165 #[dv a.n a.m,dv b.n b.m] W fun e w'=>e=.returned (.tuple #[dv _ _,.int .i64 _])∧Grew W w':=fun W h=>mul_good a.n a.m b.n b.m _ (a.m+b.m - psc a.m b.m).toNat W (hP.later h) ra rb (psc_or a.m b.m) (by have:=psc_or a.m b.m;omega) va.1.1 va.1.2 vb.1.1 vb.1.2
  have H:=fun u s x W=>z3t u s x W
  clear hP ha hb ra rb va vb
  go_enter Tryz.func103,Tryz.ntmps103
  go_wp2_with (first
   | (go_at_call 165;refine (C _ gB).mono ?_;rintro e w1 ⟨rfl,os1,n1,rfl⟩)
   | (go_at_call 162;refine (H _ _ _ _).mono ?_;rintro e w1 ⟨rfl,os2,n2,rfl⟩))
  refine bodyPost_ret_by (v:=rs _) ?_ rfl ⟨rfl,?_⟩
  ·simp [results,Tryz.results103,go_sem]
  ·exact gB
 have c6:(op==6)=false:=by simpa using h6
 by_cases h7:op=7
 ·subst h7
  rw [if_neg (by decide),if_neg (by decide),if_neg (by decide),if_pos rfl]
  by_cases hz:b.n=0
  ·rw [if_pos hz,hz]
   show Calls _ _ _ _ fun e w'=>e=.returned (rs (z2a 0 0 33))∧_
   have C:∀ W,Grew w W→Calls Tryz.prog 166 #[dv a.n a.m,dv 0 b.m,.int .i64 6] W fun e w'=>e=.returned (.tuple #[dv _ _,.int .i64 _])∧Grew W w':=fun W h=>div_zero a.n a.m b.m 6 W ra rb rfl
   have H:=fun u s x W=>z3t u s x W
   clear hP ha hb ra rb va vb
   go_enter Tryz.func103,Tryz.ntmps103
   go_wp2_with (first
    | (go_at_call 166;refine (C _ gB).mono ?_;rintro e w1 ⟨rfl,os1,n1,rfl⟩)
    | (go_at_call 162;refine (H _ _ _ _).mono ?_;rintro e w1 ⟨rfl,os2,n2,rfl⟩))
   refine bodyPost_ret_by (v:=rs _) ?_ rfl ⟨rfl,?_⟩
   ·simp [results,Tryz.results103,go_sem]
   ·exact gB
  ·rw [if_neg hz]
   have C:∀ W,Grew w W→Calls Tryz.prog 166 #[dv a.n a.m,dv b.n b.m,.int .i64 6] W fun e w'=>e=.returned (.tuple #[dv _ _,.int .i64 _])∧Grew W w':=fun W h=>div_good a.n a.m b.n b.m 6 W (hP.later h) ra rb rfl va.1.1 va.1.2 vb.1.1 vb.1.2 hz
   have H:=fun u s x W=>z3t u s x W
   clear hP ha hb ra rb va vb
   go_enter Tryz.func103,Tryz.ntmps103
   go_wp2_with (first
    | (go_at_call 166;refine (C _ gB).mono ?_;rintro e w1 ⟨rfl,os1,n1,rfl⟩)
    | (go_at_call 162;refine (H _ _ _ _).mono ?_;rintro e w1 ⟨rfl,os2,n2,rfl⟩))
   refine bodyPost_ret_by (v:=rs _) ?_ rfl ⟨rfl,?_⟩
   ·simp [results,Tryz.results103,go_sem]
   ·exact gB
 have c7:(op==7)=false:=by simpa using h7
 rw [if_neg h9,if_neg h10,if_neg h6,if_neg h7]
 have C:∀ W,Grew w W→Calls Tryz.prog 167 #[dv a.n a.m,dv b.n b.m] W fun e w'=>e=.returned (.int .i64 _)∧Grew W w':=fun W h=>dcmp_six a b W (hP.later h) ha hb va vb
 have H:=fun c W=>z3f op c W
 clear hP ha hb ra rb va vb
 go_enter Tryz.func103,Tryz.ntmps103
 go_wp2_with (first
  | (go_at_call 167;refine (C _ gB).mono ?_;rintro e w1 ⟨rfl,os1,n1,rfl⟩)
  | (go_at_call 107;refine (H _ _).mono ?_;rintro e w1 ⟨rfl,os2,n2,rfl⟩))
 refine bodyPost_ret_by (v:=rs _) ?_ rfl ⟨rfl,?_⟩
 ·simp [results,Tryz.results103,go_sem]
 ·exact gB
end Go.Proofs.YtibbenhplmmmiaaGreatDoor
