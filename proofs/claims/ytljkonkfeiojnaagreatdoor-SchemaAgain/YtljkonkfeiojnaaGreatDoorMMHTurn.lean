/-
  What the walks of package gauss lean on: a point as a value, complex numbers whose parts are whole, and the contracts of the smallest functions.
  Contracts of package gauss: told, Add, Sub, Mul, mirrored, square, Conj, Norm: for every point.
  Contracts of package gauss: Add, Sub, Mul: for every two points.
  Contracts of package gauss: Norm, Conj, Turn: for every point.
  The quotient of two points and the rest: contracts of math.Floor, nearest, parted and Div of package gauss: for every two points.
  The contract of gauss.Div: for every two points.
  The contract of gauss.Turn: for every point and every count.
-/
import Derived.Test.YtljkonkfeiojnaaGreatDoorChecked
import Derived.Test.YtljkonkfeiojnaaGreatDoorMeDWide3
import Derived.Test.YtljkonkfeiojnaaGreatDoorMLHFloat
import Derived.Laws.ComplexArith
import Derived.WalkLawsBesides
import Derived.WalkKit
import Derived.WalkSpells
import Derived.Deep.RegionWith
import Derived.Deep.RegionHeld
import Derived.Deep.RegionHeld2
import Derived.Deep.Cut
import Derived.Laws.Externs
set_option maxHeartbeats 2000000
set_option maxRecDepth 4000
namespace Go.Proofs.YtljkonkfeiojnaaGreatDoor.Ga
open Go.RowKit
attribute [local go_sem] z0f z0b z0c z0e z0m z0k z0h z0d z0g
def Two (w:World) (p:Nat) (u s:Int):Prop:=w.cell? ⟨p,0,none⟩=some (.int .i64 u)∧w.cell? ⟨p,1,none⟩=some (.int .i64 s)
theorem Two.lt {w:World} {p:Nat} {u s:Int} (h:Two w p u s):p<w.heap.size:=World.block_lt_of_cell? w _ h.1
theorem Two.later {w w':World} {p:Nat} {u s:Int} (h:Two w p u s) (hb:Grew w w'):Two w' p u s :=
 ⟨by rw [hb.below.cell (p:=⟨p,0,none⟩) h.lt];exact h.1,by rw [hb.below.cell (p:=⟨p,1,none⟩) h.lt];exact h.2⟩
abbrev pv (x y:Int):Value:=.agg #[.int .i64 x,.int .i64 y]
abbrev cv (a b:Nat):Value:=.complex .f64 a b
def ok2 (x y:Int):Bool:=decide (-1048576≤x∧x≤1048576∧-1048576≤y∧y≤1048576)
theorem ok2_iff (x y:Int):ok2 x y=true↔(-1048576≤x∧x≤1048576∧-1048576≤y∧y≤1048576):=by simp [ok2]
theorem z7q (n:Int) (w:World):Calls Tryz.prog 73 #[.int .i64 n] w fun e w'=>e=.returned (.bool (decide (-1048576≤n∧n≤1048576)))∧w=w':=by
 by_cases h1:-1048576≤n
 ·by_cases h2:n≤1048576
  ·have h3:decide (-1048576≤n∧n≤1048576)=true:=by simp [h1,h2]
   rw [h3]
   go_enter Tryz.func73,Tryz.ntmps73
   go_wp2
   all_goals go_ret
   all_goals exact ⟨rfl,rfl⟩
  ·have h3:decide (-1048576≤n∧n≤1048576)=false:=by simp [h2]
   rw [h3]
   go_enter Tryz.func73,Tryz.ntmps73
   go_wp2
   all_goals go_ret
   all_goals exact ⟨rfl,rfl⟩
 ·have h3:decide (-1048576≤n∧n≤1048576)=false:=by simp [h1]
  rw [h3]
  go_enter Tryz.func73,Tryz.ntmps73
  go_wp2
  all_goals go_ret
  all_goals exact ⟨rfl,rfl⟩
theorem right_any (x y:Int) (w:World):Calls Tryz.prog 48 #[pv x y] w fun e w'=>e=.returned (.bool (ok2 x y))∧Grew w w':=by
 by_cases h1:-1048576≤x∧x≤1048576
 ·have X:∀ W,Calls Tryz.prog 73 #[.int .i64 x] W fun e w'=>e=.returned (.bool true)∧W=w':=fun W=>by have:=z7q x W;rwa [decide_eq_true h1] at this
  have Y:=fun W=>z7q y W
  have h3:ok2 x y=decide (-1048576≤y∧y≤1048576):=by unfold ok2;simp [h1.1,h1.2]
  rw [h3]
  generalize decide (-1048576≤y∧y≤1048576)=b at *
  clear h1 h3
  go_enter Tryz.func48,Tryz.ntmps48
  go_wp2_with (first
   | (go_at_call_of 73 (Value.int IntKind.i64 x);refine (X _).mono ?_;rintro e w' ⟨rfl,rfl⟩)
   | (go_at_call 73;refine (Y _).mono ?_;rintro e w' ⟨rfl,rfl⟩))
  all_goals go_ret
  all_goals exact ⟨rfl,gA⟩
 ·have X:∀ W,Calls Tryz.prog 73 #[.int .i64 x] W fun e w'=>e=.returned (.bool false)∧W=w':=fun W=>by have:=z7q x W;rwa [decide_eq_false h1] at this
  have h3:ok2 x y=false:=by
   unfold ok2
   simp
   intro a b
   exact absurd ⟨a,b⟩ h1
  rw [h3]
  clear h1 h3
  go_enter Tryz.func48,Tryz.ntmps48
  go_wp2_with (go_at_call 73;refine (X _).mono ?_;rintro e w' ⟨rfl,rfl⟩)
  all_goals go_ret
  all_goals exact ⟨rfl,gA⟩
theorem z1q (x y:Int) (w:World):Calls Tryz.prog 188 #[pv x y] w fun e w'=>e=.returned (cv (floatOfInt .f64 x) (floatOfInt .f64 y))∧Grew w w':=by
 go_enter Tryz.func188,Tryz.ntmps188
 go_wp2
 all_goals go_ret
 all_goals exact ⟨rfl,gA⟩
theorem z3r (a b:Nat) (x y:Int) (w:World) (ha:FI a x) (hb:FI b y) (hx:-9007199254740992<x∧x<9007199254740992) (hy:-9007199254740992<y∧y<9007199254740992) :
  Calls Tryz.prog 189 #[cv a b] w fun e w'=>e=.returned (pv x y)∧Grew w w':=by
 have c1:∀ w,(convert 220 3 (.float .f64 a)).run Tryz.prog w=.ok (.int .i64 x) w:=fun w=>run_convert_float_int w _ _ .f64 .i64 a x (by rw [Tryz.underlying220];rfl) Tryz.underlying3 (ha.toInt hx)
 have c2:∀ w,(convert 220 3 (.float .f64 b)).run Tryz.prog w=.ok (.int .i64 y) w:=fun w=>run_convert_float_int w _ _ .f64 .i64 b y (by rw [Tryz.underlying220];rfl) Tryz.underlying3 (hb.toInt hy)
 clear ha hb hx hy
 go_enter Tryz.func189,Tryz.ntmps189
 go_wp2
 refine bodyPost_ret_by (v:=pv x y) ?_ rfl ⟨rfl,?_⟩
 ·simp [results,Tryz.results189,go_sem]
 ·exact gA
end Go.Proofs.YtljkonkfeiojnaaGreatDoor.Ga

namespace Go.Proofs.YtljkonkfeiojnaaGreatDoor.Ga
open Go.RowKit
attribute [local go_sem] z0f z0b z0c z0e z0m z0k z0h z0d z0g
attribute [local go_sem high] cellMA frozenMA setMA cellMAM frozenMAM setMAM cellMAA frozenMAA setMAA cellMAAM frozenMAAM setMAAM cellMAMA frozenMAMA setMAMA cellMAMAM frozenMAMAM setMAMAM cellMAMAMA frozenMAMAMA setMAMAMA cellMAMAMAM frozenMAMAMAM setMAMAMAM
theorem z2k {x u A B:Int} (hA:0≤A) (x1:-A≤x) (x2:x≤A) (u1:-B≤u) (u2:u≤B):-(A*B)≤x*u∧x*u≤A*B:=by
 have hB:0≤B:=by omega
 have h1:(x*u).natAbs≤A.natAbs*B.natAbs:=by rw [Int.natAbs_mul];exact Nat.mul_le_mul (by omega) (by omega)
 have h2:((A.natAbs*B.natAbs:Nat):Int)=A*B:=by rw [Int.natCast_mul,Int.natAbs_of_nonneg hA,Int.natAbs_of_nonneg hB]
 omega
theorem z5e {a b c d:Nat} {x y u v:Int} (A B:Int) (hA:0≤A) (hAB:2*(A*B)<9007199254740992) (ha:FI a x) (hb:FI b y) (hc:FI c u) (hd:FI d v)
  (x1:-A≤x) (x2:x≤A) (y1:-A≤y) (y2:y≤A) (u1:-B≤u) (u2:u≤B) (v1:-B≤v) (v2:v≤B) :
  ∃ re im,cMulBits a b c d=some (re,im)∧FI re (x*u - y*v)∧FI im (x*v+y*u):=by
 have m1:=z2k hA x1 x2 u1 u2
 have m2:=z2k hA y1 y2 v1 v2
 have m3:=z2k hA x1 x2 v1 v2
 have m4:=z2k hA y1 y2 u1 u2
 obtain ⟨r1,e1,f1⟩:=ha.mul hc (by omega)
 obtain ⟨r2,e2,f2⟩:=hb.mul hd (by omega)
 obtain ⟨r3,e3,f3⟩:=ha.mul hd (by omega)
 obtain ⟨r4,e4,f4⟩:=hb.mul hc (by omega)
 obtain ⟨r5,e5,f5⟩:=f1.sub f2 (by omega)
 obtain ⟨r6,e6,f6⟩:=f3.add f4 (by omega)
 refine ⟨r5,r6,?_,f5,f6⟩
 unfold cMulBits
 rw [e1,e2,e3,e4]
 simp [e5,e6]
theorem cadd_names {a b c d:Nat} {x y u v:Int} (ha:FI a x) (hb:FI b y) (hc:FI c u) (hd:FI d v)
  (h1:-9007199254740992<x+u∧x+u<9007199254740992) (h2:-9007199254740992<y+v∧y+v<9007199254740992) :
  ∃ re im,cSumBits .add .f64 a b c d=some (re,im)∧FI re (x+u)∧FI im (y+v):=by
 obtain ⟨r1,e1,f1⟩:=ha.add hc h1
 obtain ⟨r2,e2,f2⟩:=hb.add hd h2
 exact ⟨r1,r2,by unfold cSumBits;rw [e1,e2];rfl,f1,f2⟩
theorem csub_names {a b c d:Nat} {x y u v:Int} (ha:FI a x) (hb:FI b y) (hc:FI c u) (hd:FI d v)
  (h1:-9007199254740992<x - u∧x - u<9007199254740992) (h2:-9007199254740992<y - v∧y - v<9007199254740992) :
  ∃ re im,cSumBits .sub .f64 a b c d=some (re,im)∧FI re (x - u)∧FI im (y - v):=by
 obtain ⟨r1,e1,f1⟩:=ha.sub hc h1
 obtain ⟨r2,e2,f2⟩:=hb.sub hd h2
 exact ⟨r1,r2,by unfold cSumBits;rw [e1,e2];rfl,f1,f2⟩
def tX (x y:Int):Int:=if ok2 x y then x else 0
def tY (x y:Int):Int:=if ok2 x y then y else 0
def tE (x y:Int):Int:=if ok2 x y then 0 else 32
abbrev tv (x y:Int):Value:=.tuple #[pv (tX x y) (tY x y),.int .i64 (tE x y)]
theorem z7b (a b:Nat) (x y:Int) (w:World) (ha:FI a x) (hb:FI b y) (hx:-9007199254740992<x∧x<9007199254740992) (hy:-9007199254740992<y∧y<9007199254740992) :
  Calls Tryz.prog 195 #[cv a b] w fun e w'=>e=.returned (tv x y)∧Grew w w':=by
 have P:=fun W=>z3r a b x y W ha hb hx hy
 have R:=fun W=>right_any x y W
 clear ha hb hx hy
 by_cases h:ok2 x y=true
 ·have e1:tX x y=x:=by simp [tX,h]
  have e2:tY x y=y:=by simp [tY,h]
  have e3:tE x y=0:=by simp [tE,h]
  unfold tv
  rw [e1,e2,e3]
  rw [h] at R
  clear e1 e2 e3 h
  go_enter Tryz.func195,Tryz.ntmps195
  go_wp2_with (first
   | (go_at_call 189;refine (P _).mono ?_;rintro e w' ⟨rfl,os,n,rfl⟩)
   | (go_at_call 48;refine (R _).mono ?_;rintro e w' ⟨rfl,os2,n2,rfl⟩))
  refine bodyPost_ret_by (v:=.tuple #[pv x y,.int .i64 0]) ?_ rfl ⟨rfl,?_⟩
  ·simp [results,Tryz.results195,go_sem]
  ·exact gA
 ·have h':ok2 x y=false:=by simpa using h
  have e1:tX x y=0:=by simp [tX,h']
  have e2:tY x y=0:=by simp [tY,h']
  have e3:tE x y=32:=by simp [tE,h']
  unfold tv
  rw [e1,e2,e3]
  rw [h'] at R
  clear e1 e2 e3 h h'
  go_enter Tryz.func195,Tryz.ntmps195
  go_wp2_with (first
   | (go_at_call 189;refine (P _).mono ?_;rintro e w' ⟨rfl,os,n,rfl⟩)
   | (go_at_call 48;refine (R _).mono ?_;rintro e w' ⟨rfl,os2,n2,rfl⟩))
  refine bodyPost_ret_by (v:=.tuple #[pv 0 0,.int .i64 32]) ?_ rfl ⟨rfl,?_⟩
  ·simp [results,Tryz.results195,go_sem]
  ·exact gA
theorem z9b (a b:Nat) (w:World):Calls Tryz.prog 209 #[cv a b] w fun e w'=>e=.returned (cv a (Op.negFloat .f64 b))∧Grew w w':=by
 have hn:∀ (w:World),(Op.unary .neg (.float .f64 b)).run Tryz.prog w=.ok (.float .f64 (Op.negFloat .f64 b)) w:=fun w=>rfl
 go_enter Tryz.func209,Tryz.ntmps209
 go_wp2
 all_goals go_ret
 all_goals exact ⟨rfl,gA⟩
theorem z9d {a b:Nat} {x y:Int} (ha:FI a x) (hb:FI b y) (x1:-2097152≤x) (x2:x≤2097152) (y1:-2097152≤y) (y2:y≤2097152) :
  ∃ r,FI r (x*x+y*y)∧∀ w,Calls Tryz.prog 187 #[cv a b] w fun e w'=>e=.returned (.float .f64 r)∧Grew w w':=by
 obtain ⟨re,im,hm,fr,_⟩:=z5e 2097152 2097152 (by decide) (by decide) ha hb ha hb.neg x1 x2 y1 y2 x1 x2 (by omega) (by omega)
 refine ⟨re,?_,?_⟩
 ·have:x*x+y*y=x*x - y*-y:=by rw [Int.mul_neg];omega
  rw [this];exact fr
 ·intro w
  have hop:=fun t w=>run_complex_mul (P:=Tryz.prog) w t a b a (Op.negFloat .f64 b) re im hm
  have M:=fun W=>z9b a b W
  clear hm fr ha hb x1 x2 y1 y2
  generalize Op.negFloat .f64 b=c at *
  go_enter Tryz.func187,Tryz.ntmps187
  go_wp2_with (go_at_call 209;refine (M _).mono ?_;rintro e w' ⟨rfl,os,n,rfl⟩)
  all_goals go_ret
  all_goals exact ⟨rfl,gA⟩
end Go.Proofs.YtljkonkfeiojnaaGreatDoor.Ga

namespace Go.Proofs.YtljkonkfeiojnaaGreatDoor.Ga
open Go.RowKit
attribute [local go_sem] z0f z0b z0c z0e z0m z0k z0h z0d z0g
attribute [local go_sem high] cellMA frozenMA setMA cellMAM frozenMAM setMAM cellMAA frozenMAA setMAA cellMAAM frozenMAAM setMAAM cellMAMA frozenMAMA setMAMA cellMAMAM frozenMAMAM setMAMAM cellMAMAMA frozenMAMAMA setMAMAMA cellMAMAMAM frozenMAMAMAM setMAMAMAM
theorem add_good (x y u v:Int) (w:World) (ha:ok2 x y=true) (hb:ok2 u v=true) :
  Calls Tryz.prog 167 #[pv x y,pv u v] w fun e w'=>e=.returned (tv (x+u) (y+v))∧Grew w w':=by
 have Ra:=fun W=>right_any x y W
 have Rb:=fun W=>right_any u v W
 rw [ha] at Ra
 rw [hb] at Rb
 rw [ok2_iff] at ha hb
 have Na:=fun W=>z1q x y W
 have Nb:=fun W=>z1q u v W
 have m1:=z2k (A:=1048576) (B:=1048576) (by decide) ha.1 ha.2.1 hb.1 hb.2.1
 have m2:=z2k (A:=1048576) (B:=1048576) (by decide) ha.2.2.1 ha.2.2.2 hb.2.2.1 hb.2.2.2
 have m3:=z2k (A:=1048576) (B:=1048576) (by decide) ha.1 ha.2.1 hb.2.2.1 hb.2.2.2
 have m4:=z2k (A:=1048576) (B:=1048576) (by decide) ha.2.2.1 ha.2.2.2 hb.1 hb.2.1
 obtain ⟨re,im,hm,f1,f2⟩:=cadd_names (z0v x (by omega)) (z0v y (by omega)) (z0v u (by omega)) (z0v v (by omega)) (by omega) (by omega)
 have T:=fun W=>z7b re im (x+u) (y+v) W f1 f2 (by omega) (by omega)
 have hop:=fun t w=>run_complex_sum (P:=Tryz.prog) w .add (Or.inl rfl) t .f64 _ _ _ _ re im hm
 unfold tv at T ⊢
 generalize tX (x+u) (y+v)=X at *
 generalize tY (x+u) (y+v)=Y at *
 generalize tE (x+u) (y+v)=E at *
 generalize floatOfInt .f64 x=a at *
 generalize floatOfInt .f64 y=b at *
 generalize floatOfInt .f64 u=c at *
 generalize floatOfInt .f64 v=d at *
 clear f1 f2 hm m1 m2 m3 m4 ha hb
 go_enter Tryz.func167,Tryz.ntmps167
 go_wp2_with fail
 refine (Ra _).mono ?_
 rintro e w' ⟨rfl,os,n,rfl⟩
 go_wp2_with fail
 refine (Rb _).mono ?_
 rintro e w' ⟨rfl,os',n',rfl⟩
 go_wp2_with fail
 go_region_held2 (fun W=>W.cell? ⟨w.heap.size,0,none⟩=some (.int .i64 x)∧W.cell? ⟨w.heap.size,1,none⟩=some (.int .i64 y)∧W.cell? ⟨w.heap.size+1,0,none⟩=some (.int .i64 u)∧W.cell? ⟨w.heap.size+1,1,none⟩=some (.int .i64 v)) (simp (maxDischargeDepth:=12) [go_sem])
  ((first
   | (go_at_call_of 188 (Value.int IntKind.i64 x);refine (Na _).mono ?_;rintro e w' ⟨rfl,os1,n1,rfl⟩)
   | (go_at_call_of 188 (Value.int IntKind.i64 u);refine (Nb _).mono ?_;rintro e w' ⟨rfl,os2,n2,rfl⟩)
   | (go_at_call 195;refine (T _).mono ?_;rintro e w' ⟨rfl,os3,n3,rfl⟩)))
 all_goals go_wp2_with fail
 all_goals refine bodyPost_ret_by (v:=.tuple #[pv X Y,.int .i64 E]) ?_ rfl ⟨rfl,?_⟩
 all_goals first
  | (simp [results,Tryz.results167,go_sem];done)
  | (repeat exact gA)
theorem sub_bad (x y u v:Int) (w:World) (hr:(ok2 x y&&ok2 u v)=false) :
  Calls Tryz.prog 168 #[pv x y,pv u v] w fun e w'=>e=.returned (.tuple #[pv 0 0,.int .i64 1])∧Grew w w':=by
 have Ra:=fun W=>right_any x y W
 have Rb:=fun W=>right_any u v W
 cases ha:ok2 x y
 ·rw [ha] at Ra
  clear Rb hr ha
  go_enter Tryz.func168,Tryz.ntmps168
  go_wp2_with (go_at_call 48;refine (Ra _).mono ?_;rintro e w' ⟨rfl,os,n,rfl⟩)
  refine bodyPost_ret_by (v:=.tuple #[pv 0 0,.int .i64 1]) ?_ rfl ⟨rfl,?_⟩
  ·simp [results,Tryz.results168,go_sem]
  ·exact gA
 ·rw [ha] at Ra hr
  have hb:ok2 u v=false:=by simpa using hr
  rw [hb] at Rb
  clear hb hr ha
  go_enter Tryz.func168,Tryz.ntmps168
  go_wp2_with fail
  refine (Ra _).mono ?_
  rintro e w' ⟨rfl,os,n,rfl⟩
  go_wp2_with fail
  refine (Rb _).mono ?_
  rintro e w' ⟨rfl,os',n',rfl⟩
  go_wp2
  refine bodyPost_ret_by (v:=.tuple #[pv 0 0,.int .i64 1]) ?_ rfl ⟨rfl,?_⟩
  ·simp [results,Tryz.results168,go_sem]
  ·exact gA
theorem sub_good (x y u v:Int) (w:World) (ha:ok2 x y=true) (hb:ok2 u v=true) :
  Calls Tryz.prog 168 #[pv x y,pv u v] w fun e w'=>e=.returned (tv (x - u) (y - v))∧Grew w w':=by
 have Ra:=fun W=>right_any x y W
 have Rb:=fun W=>right_any u v W
 rw [ha] at Ra
 rw [hb] at Rb
 rw [ok2_iff] at ha hb
 have Na:=fun W=>z1q x y W
 have Nb:=fun W=>z1q u v W
 have m1:=z2k (A:=1048576) (B:=1048576) (by decide) ha.1 ha.2.1 hb.1 hb.2.1
 have m2:=z2k (A:=1048576) (B:=1048576) (by decide) ha.2.2.1 ha.2.2.2 hb.2.2.1 hb.2.2.2
 have m3:=z2k (A:=1048576) (B:=1048576) (by decide) ha.1 ha.2.1 hb.2.2.1 hb.2.2.2
 have m4:=z2k (A:=1048576) (B:=1048576) (by decide) ha.2.2.1 ha.2.2.2 hb.1 hb.2.1
 obtain ⟨re,im,hm,f1,f2⟩:=csub_names (z0v x (by omega)) (z0v y (by omega)) (z0v u (by omega)) (z0v v (by omega)) (by omega) (by omega)
 have T:=fun W=>z7b re im (x - u) (y - v) W f1 f2 (by omega) (by omega)
 have hop:=fun t w=>run_complex_sum (P:=Tryz.prog) w .sub (Or.inr rfl) t .f64 _ _ _ _ re im hm
 unfold tv at T ⊢
 generalize tX (x - u) (y - v)=X at *
 generalize tY (x - u) (y - v)=Y at *
 generalize tE (x - u) (y - v)=E at *
 generalize floatOfInt .f64 x=a at *
 generalize floatOfInt .f64 y=b at *
 generalize floatOfInt .f64 u=c at *
 generalize floatOfInt .f64 v=d at *
 clear f1 f2 hm m1 m2 m3 m4 ha hb
 go_enter Tryz.func168,Tryz.ntmps168
 go_wp2_with fail
 refine (Ra _).mono ?_
 rintro e w' ⟨rfl,os,n,rfl⟩
 go_wp2_with fail
 refine (Rb _).mono ?_
 rintro e w' ⟨rfl,os',n',rfl⟩
 go_wp2_with fail
 go_region_held2 (fun W=>W.cell? ⟨w.heap.size,0,none⟩=some (.int .i64 x)∧W.cell? ⟨w.heap.size,1,none⟩=some (.int .i64 y)∧W.cell? ⟨w.heap.size+1,0,none⟩=some (.int .i64 u)∧W.cell? ⟨w.heap.size+1,1,none⟩=some (.int .i64 v)) (simp (maxDischargeDepth:=12) [go_sem])
  ((first
   | (go_at_call_of 188 (Value.int IntKind.i64 x);refine (Na _).mono ?_;rintro e w' ⟨rfl,os1,n1,rfl⟩)
   | (go_at_call_of 188 (Value.int IntKind.i64 u);refine (Nb _).mono ?_;rintro e w' ⟨rfl,os2,n2,rfl⟩)
   | (go_at_call 195;refine (T _).mono ?_;rintro e w' ⟨rfl,os3,n3,rfl⟩)))
 all_goals go_wp2_with fail
 all_goals refine bodyPost_ret_by (v:=.tuple #[pv X Y,.int .i64 E]) ?_ rfl ⟨rfl,?_⟩
 all_goals first
  | (simp [results,Tryz.results168,go_sem];done)
  | (repeat exact gA)
theorem mul_good (x y u v:Int) (w:World) (ha:ok2 x y=true) (hb:ok2 u v=true) :
  Calls Tryz.prog 169 #[pv x y,pv u v] w fun e w'=>e=.returned (tv (x*u - y*v) (x*v+y*u))∧Grew w w':=by
 have Ra:=fun W=>right_any x y W
 have Rb:=fun W=>right_any u v W
 rw [ha] at Ra
 rw [hb] at Rb
 rw [ok2_iff] at ha hb
 have Na:=fun W=>z1q x y W
 have Nb:=fun W=>z1q u v W
 have m1:=z2k (A:=1048576) (B:=1048576) (by decide) ha.1 ha.2.1 hb.1 hb.2.1
 have m2:=z2k (A:=1048576) (B:=1048576) (by decide) ha.2.2.1 ha.2.2.2 hb.2.2.1 hb.2.2.2
 have m3:=z2k (A:=1048576) (B:=1048576) (by decide) ha.1 ha.2.1 hb.2.2.1 hb.2.2.2
 have m4:=z2k (A:=1048576) (B:=1048576) (by decide) ha.2.2.1 ha.2.2.2 hb.1 hb.2.1
 obtain ⟨re,im,hm,f1,f2⟩:=z5e 1048576 1048576 (by decide) (by decide) (z0v x (by omega)) (z0v y (by omega)) (z0v u (by omega)) (z0v v (by omega)) (by omega) (by omega) (by omega) (by omega) (by omega) (by omega) (by omega) (by omega)
 have T:=fun W=>z7b re im (x*u - y*v) (x*v+y*u) W f1 f2 (by omega) (by omega)
 have hop:=fun t w=>run_complex_mul (P:=Tryz.prog) w t _ _ _ _ re im hm
 unfold tv at T ⊢
 generalize tX (x*u - y*v) (x*v+y*u)=X at *
 generalize tY (x*u - y*v) (x*v+y*u)=Y at *
 generalize tE (x*u - y*v) (x*v+y*u)=E at *
 generalize floatOfInt .f64 x=a at *
 generalize floatOfInt .f64 y=b at *
 generalize floatOfInt .f64 u=c at *
 generalize floatOfInt .f64 v=d at *
 clear f1 f2 hm m1 m2 m3 m4 ha hb
 go_enter Tryz.func169,Tryz.ntmps169
 go_wp2_with fail
 refine (Ra _).mono ?_
 rintro e w' ⟨rfl,os,n,rfl⟩
 go_wp2_with fail
 refine (Rb _).mono ?_
 rintro e w' ⟨rfl,os',n',rfl⟩
 go_wp2_with fail
 go_region_held2 (fun W=>W.cell? ⟨w.heap.size,0,none⟩=some (.int .i64 x)∧W.cell? ⟨w.heap.size,1,none⟩=some (.int .i64 y)∧W.cell? ⟨w.heap.size+1,0,none⟩=some (.int .i64 u)∧W.cell? ⟨w.heap.size+1,1,none⟩=some (.int .i64 v)) (simp (maxDischargeDepth:=12) [go_sem])
  ((first
   | (go_at_call_of 188 (Value.int IntKind.i64 x);refine (Na _).mono ?_;rintro e w' ⟨rfl,os1,n1,rfl⟩)
   | (go_at_call_of 188 (Value.int IntKind.i64 u);refine (Nb _).mono ?_;rintro e w' ⟨rfl,os2,n2,rfl⟩)
   | (go_at_call 195;refine (T _).mono ?_;rintro e w' ⟨rfl,os3,n3,rfl⟩)))
 all_goals go_wp2_with fail
 all_goals refine bodyPost_ret_by (v:=.tuple #[pv X Y,.int .i64 E]) ?_ rfl ⟨rfl,?_⟩
 all_goals first
  | (simp [results,Tryz.results169,go_sem];done)
  | (repeat exact gA)
end Go.Proofs.YtljkonkfeiojnaaGreatDoor.Ga

namespace Go.Proofs.YtljkonkfeiojnaaGreatDoor.Ga
open Go.RowKit
attribute [local go_sem] z0f z0b z0c z0e z0m z0k z0h z0d z0g
attribute [local go_sem high] cellMA frozenMA setMA cellMAM frozenMAM setMAM cellMAA frozenMAA setMAA cellMAAM frozenMAAM setMAAM cellMAMA frozenMAMA setMAMA cellMAMAM frozenMAMAM setMAMAM cellMAMAMA frozenMAMAMA setMAMAMA cellMAMAMAM frozenMAMAMAM setMAMAMAM
def nrm (x y:Int):Int:=if ok2 x y then x*x+y*y else 0
theorem norm_any (x y:Int) (w:World):Calls Tryz.prog 146 #[pv x y] w fun e w'=>e=.returned (.int .i64 (nrm x y))∧Grew w w':=by
 have R:=fun W=>right_any x y W
 by_cases h:ok2 x y=true
 ·rw [h] at R
  have e1:nrm x y=x*x+y*y:=by simp [nrm,h]
  rw [e1]
  rw [ok2_iff] at h
  have N:=fun W=>z1q x y W
  obtain ⟨r,fr,S⟩:=z9d (z0v x (by omega)) (z0v y (by omega)) (by omega) (by omega) (by omega) (by omega)
  have m1:=z2k (A:=1048576) (B:=1048576) (by decide) h.1 h.2.1 h.1 h.2.1
  have m2:=z2k (A:=1048576) (B:=1048576) (by decide) h.2.2.1 h.2.2.2 h.2.2.1 h.2.2.2
  have c1:∀ w,(convert 220 3 (.float .f64 r)).run Tryz.prog w=.ok (.int .i64 (x*x+y*y)) w:=fun w=>run_convert_float_int w _ _ .f64 .i64 r _ (by rw [Tryz.underlying220];rfl) Tryz.underlying3 (fr.toInt (by omega))
  generalize x*x+y*y=nn at *
  generalize floatOfInt .f64 x=a at *
  generalize floatOfInt .f64 y=b at *
  clear fr m1 m2 h e1
  go_enter Tryz.func146,Tryz.ntmps146
  go_wp2_with (first
   | (go_at_call 48;refine (R _).mono ?_;rintro e w' ⟨rfl,os,n,rfl⟩)
   | (go_at_call 188;refine (N _).mono ?_;rintro e w' ⟨rfl,os2,n2,rfl⟩)
   | (go_at_call 187;refine (S _).mono ?_;rintro e w' ⟨rfl,os3,n3,rfl⟩))
  all_goals go_ret
  all_goals exact ⟨rfl,gA⟩
 ·have h':ok2 x y=false:=by simpa using h
  have e1:nrm x y=0:=by simp [nrm,h']
  rw [e1]
  rw [h'] at R
  clear h h' e1
  go_enter Tryz.func146,Tryz.ntmps146
  go_wp2_with (go_at_call 48;refine (R _).mono ?_;rintro e w' ⟨rfl,os,n,rfl⟩)
  all_goals go_ret
  all_goals exact ⟨rfl,gA⟩
theorem FI_zero:FI 0 0:=⟨by decide,false,0,-1074,by decide,by unfold z2v;exact Rat.zero_mul _⟩
theorem FI_one:FI 4607182418800017408 1:=by
 have h:floatOfInt .f64 1=4607182418800017408:=by decide +kernel
 rw [← h];exact z0v 1 (by decide)
theorem z4y {a b:Nat} {x y:Int} (ha:FI a x) (hb:FI b y) (x1:-2097152≤x) (x2:x≤2097152) (y1:-2097152≤y) (y2:y≤2097152) :
  ∃ re im,cMulBits a b 0 4607182418800017408=some (re,im)∧FI re (-y)∧FI im x:=by
 obtain ⟨re,im,h1,h2,h3⟩:=z5e 2097152 1 (by decide) (by decide) ha hb FI_zero FI_one x1 x2 y1 y2 (by decide) (by decide) (by decide) (by decide)
 refine ⟨re,im,h1,?_,?_⟩
 ·have:-y=x*0 - y*1:=by omega
  rw [this];exact h2
 ·have:x=x*1+y*0:=by omega
  rw [this];exact h3
end Go.Proofs.YtljkonkfeiojnaaGreatDoor.Ga

namespace Go.Proofs.YtljkonkfeiojnaaGreatDoor.Ga
open Go.RowKit
attribute [local go_sem] z0f z0b z0c z0e z0m z0k z0h z0d z0g
attribute [local go_sem high] cellMA frozenMA setMA cellMAM frozenMAM setMAM cellMAA frozenMAA setMAA cellMAAM frozenMAAM setMAAM cellMAMA frozenMAMA setMAMA cellMAMAM frozenMAMAM setMAMAM cellMAMAMA frozenMAMAMA setMAMAMA cellMAMAMAM frozenMAMAMAM setMAMAMAM
theorem FI_two:FI 4611686018427387904 2:=by
 have h:floatOfInt .f64 2=4611686018427387904:=by decide +kernel
 rw [← h];exact z0v 2 (by decide)
theorem floor_num (r:Nat) (s:Bool) (m:Nat) (i:Int) (h:FloatKind.f64.decode r=.number s m i) :
  Extern.MathFloor.toIntegral "math.archFloor" .down #[.float .f64 r]=pure (.float .f64 (FloatKind.f64.encode ((FloatKind.f64.decode r).integral .down))):=by
 delta Extern.MathFloor.toIntegral
 conv=>lhs;whnf
 generalize FloatKind.f64.decode r=d at *
 subst h
 rfl
theorem arch_floor (r:Nat) (s:Bool) (m:Nat) (i:Int) (h:Ieee.double.read r=.number s m i) (w:World) :
  (callFunc 241 #[.float .f64 r]).run Tryz.prog w=.ok (.value (.float .f64 (Ieee.double.write ((Ieee.double.read r).integral .down)))) w:=by
 rw [run_callFunc_extern Tryz.func241 gK gK gK (e:=Extern.MathFloor.toIntegral "math.archFloor" .down) gK]
 rw [floor_num r s m i h]
 rfl
theorem floor_any (r:Nat) (s:Bool) (m:Nat) (i:Int) (h:Ieee.double.read r=.number s m i) (w:World) :
  Calls Tryz.prog 230 #[.float .f64 r] w fun e w'=>e=.returned (.float .f64 (Ieee.double.write ((Ieee.double.read r).integral .down)))∧Grew w w':=by
 have F:=fun w=>arch_floor r s m i h w
 clear h
 generalize Ieee.double.write ((Ieee.double.read r).integral .down)=q at *
 go_enter Tryz.func230,Tryz.ntmps230
 go_wp2
 all_goals go_ret
 all_goals exact ⟨rfl,gA⟩
theorem z7t {a b:Nat} {o u:Int} (ha:FI a o) (hb:FI b u) (hu:0<u) (hu2:u<281474976710656) (ho:-281474976710656<o∧o<281474976710656) :
  ∃ q,FI q (nst o u)∧∀ w,Calls Tryz.prog 212 #[.float .f64 a,.float .f64 b] w fun e w'=>e=.returned (.float .f64 q)∧Grew w w':=by
 obtain ⟨r1,e1,f1⟩:=FI_two.mul ha (by omega)
 obtain ⟨r2,e2,f2⟩:=f1.add hb (by omega)
 obtain ⟨r3,e3,f3⟩:=FI_two.mul hb (by omega)
 obtain ⟨r4,e4,f4,s,m,i,hr⟩:=f2.part f3 (by omega) (by omega) (by omega)
 refine ⟨_,f4,fun w=>?_⟩
 have F:=fun W=>floor_any r4 s m i hr W
 have h1:∀ t w,(binOp .mul t (.float .f64 4611686018427387904) (.float .f64 a)).run Tryz.prog w=.ok (.float .f64 r1) w:=fun t w=>run_float_arith w .mul t .f64 _ _ _ e1
 have h2:∀ t w,(binOp .add t (.float .f64 r1) (.float .f64 b)).run Tryz.prog w=.ok (.float .f64 r2) w:=fun t w=>run_float_arith w .add t .f64 _ _ _ e2
 have h3:∀ t w,(binOp .mul t (.float .f64 4611686018427387904) (.float .f64 b)).run Tryz.prog w=.ok (.float .f64 r3) w:=fun t w=>run_float_arith w .mul t .f64 _ _ _ e3
 have h4:∀ t w,(binOp .quo t (.float .f64 r2) (.float .f64 r3)).run Tryz.prog w=.ok (.float .f64 r4) w:=fun t w=>run_float_arith w .quo t .f64 _ _ _ e4
 generalize Ieee.double.write ((Ieee.double.read r4).integral .down)=q at *
 clear ha hb hu hu2 ho e1 e2 e3 e4 f1 f2 f3 f4 hr
 go_enter Tryz.func212,Tryz.ntmps212
 go_wp2_with (go_at_call 230;refine (F _).mono ?_;rintro e w' ⟨rfl,os,n,rfl⟩)
 all_goals go_ret
 all_goals exact ⟨rfl,gA⟩
theorem parted_names {a b c d:Nat} {x y u v:Int} (ha:FI a x) (hb:FI b y) (hc:FI c u) (hd:FI d v) (hx:-1048576≤x∧x≤1048576) (hy:-1048576≤y∧y≤1048576)
  (hu:-1048576≤u∧u≤1048576) (hv:-1048576≤v∧v≤1048576) (hn:0<u*u+v*v) :
  ∃ qa qb ra rb,FI qa (qX x y u v)∧FI qb (qY x y u v)∧FI ra (rX x y u v)∧FI rb (rY x y u v) ∧
   ∀ w,Calls Tryz.prog 196 #[cv a b,cv c d] w fun e w'=>e=.returned (.tuple #[cv qa qb,cv ra rb])∧Grew w w':=by
 obtain ⟨o1,o2,em,f1,f2⟩:=z5e 1048576 1048576 (by decide) (by decide) ha hb hc hd.neg hx.1 hx.2 hy.1 hy.2 hu.1 hu.2 (by omega) (by omega)
 have g1:x*u - y*-v=x*u+y*v:=by rw [Int.mul_neg];omega
 have g2:x*-v+y*u=y*u - x*v:=by rw [Int.mul_neg];omega
 rw [g1] at f1
 rw [g2] at f2
 obtain ⟨nn,fn,Sq⟩:=z9d hc hd (by omega) (by omega) (by omega) (by omega)
 have mu:=z2k (A:=1048576) (B:=1048576) (by decide) hu.1 hu.2 hu.1 hu.2
 have mv:=z2k (A:=1048576) (B:=1048576) (by decide) hv.1 hv.2 hv.1 hv.2
 have m1:=z2k (A:=1048576) (B:=1048576) (by decide) hx.1 hx.2 hu.1 hu.2
 have m2:=z2k (A:=1048576) (B:=1048576) (by decide) hy.1 hy.2 hv.1 hv.2
 have m3:=z2k (A:=1048576) (B:=1048576) (by decide) hy.1 hy.2 hu.1 hu.2
 have m4:=z2k (A:=1048576) (B:=1048576) (by decide) hx.1 hx.2 hv.1 hv.2
 obtain ⟨qa,k1,N1⟩:=z7t f1 fn hn (by omega) (by omega)
 obtain ⟨qb,k2,N2⟩:=z7t f2 fn hn (by omega) (by omega)
 have k1':FI qa (qX x y u v):=k1
 have k2':FI qb (qY x y u v):=k2
 have hq:=quo_ok x y u v hx hy hn
 obtain ⟨p1,p2,ep,l1,l2⟩:=z5e 1048576 1048576 (by decide) (by decide) hc hd k1' k2' hu.1 hu.2 hv.1 hv.2 hq.1.1 hq.1.2 hq.2.1 hq.2.2
 have hr:=rest_ok x y u v hu hv hn
 have hr1:x - (u*qX x y u v - v*qY x y u v)=rX x y u v:=rfl
 have hr2:y - (u*qY x y u v+v*qX x y u v)=rY x y u v:=rfl
 obtain ⟨ra,rb,er,z1,z2⟩:=csub_names ha hb l1 l2 (by rw [hr1];omega) (by rw [hr2];omega)
 refine ⟨qa,qb,ra,rb,k1',k2',z1,z2,fun w=>?_⟩
 have M:=fun W=>z9b c d W
 have h1:=fun t w=>run_complex_mul (P:=Tryz.prog) w t _ _ _ _ o1 o2 em
 have h2:=fun t w=>run_complex_mul (P:=Tryz.prog) w t _ _ _ _ p1 p2 ep
 have h3:=fun t w=>run_complex_sum (P:=Tryz.prog) w .sub (Or.inr rfl) t .f64 _ _ _ _ ra rb er
 generalize Op.negFloat .f64 d=e at *
 clear ha hb hc hd hx hy hu hv hn em f1 f2 g1 g2 fn mu mv m1 m2 m3 m4 k1 k2 k1' k2' hq ep l1 l2 hr hr1 hr2 er z1 z2
 go_enter Tryz.func196,Tryz.ntmps196
 go_wp2_with (first
  | (go_at_call 209;refine (M _).mono ?_;rintro e w' ⟨rfl,os,n,rfl⟩)
  | (go_at_call 187;refine (Sq _).mono ?_;rintro e w' ⟨rfl,os,n,rfl⟩)
  | (go_at_call_of 212 (Value.float FloatKind.f64 o1);refine (N1 _).mono ?_;rintro e w' ⟨rfl,os,n,rfl⟩)
  | (go_at_call_of 212 (Value.float FloatKind.f64 o2);refine (N2 _).mono ?_;rintro e w' ⟨rfl,os,n,rfl⟩))
 refine bodyPost_ret_by (v:=.tuple #[cv qa qb,cv ra rb]) ?_ rfl ⟨rfl,?_⟩
 ·simp [results,Tryz.results196,go_sem]
 ·exact gA
end Go.Proofs.YtljkonkfeiojnaaGreatDoor.Ga

namespace Go.Proofs.YtljkonkfeiojnaaGreatDoor.Ga
open Go.RowKit
attribute [local go_sem] z0f z0b z0c z0e z0m z0k z0h z0d z0g
attribute [local go_sem high] cellMA frozenMA setMA cellMAM frozenMAM setMAM cellMAA frozenMAA setMAA cellMAAM frozenMAAM setMAAM cellMAMA frozenMAMA setMAMA cellMAMAM frozenMAMAM setMAMAM cellMAMAMA frozenMAMAMA setMAMAMA cellMAMAMAM frozenMAMAMAM setMAMAMAM
theorem eqPt (a b c d:Int) (w:World):(Op.equalIn 10000 68 (.agg #[.int .i64 a,.int .i64 b]) (.agg #[.int .i64 c,.int .i64 d])).run Tryz.prog w=.ok (a==c&&b==d) w:=by
 have u3:=Tryz.underlying3
 have a3:=Tryz.isAgg3
 have z3:=Tryz.sizeOf3
 have hS:Tryz.prog.underlying 68=some (.struct (Tryz.prog.fieldsOf 68)):=by kernel_rfl
 have hp:Tryz.prog.stoodInHeld 68=false:=by kernel_rfl
 rw [show (10000:Nat)=9999+1 from rfl,run_equalIn_agg w 9999 68 _ _ hS hp]
 simp only [Program.fieldsOf,Tryz.underlying68]
 go_simp
 by_cases h1:a=c <;> by_cases h2:b=d <;> simp [h1,h2]
attribute [local go_sem high] eqPt
theorem div_bad (x y u v:Int) (w:World) (hr:(ok2 x y&&ok2 u v)=false) :
  Calls Tryz.prog 170 #[pv x y,pv u v] w fun e w'=>e=.returned (.tuple #[pv 0 0,pv 0 0,.int .i64 1])∧Grew w w':=by
 have Ra:=fun W=>right_any x y W
 have Rb:=fun W=>right_any u v W
 cases ha:ok2 x y
 ·rw [ha] at Ra
  clear Rb hr ha
  go_enter Tryz.func170,Tryz.ntmps170
  go_wp2_with (go_at_call 48;refine (Ra _).mono ?_;rintro e w' ⟨rfl,os,n,rfl⟩)
  refine bodyPost_ret_by (v:=.tuple #[pv 0 0,pv 0 0,.int .i64 1]) ?_ rfl ⟨rfl,?_⟩
  ·simp [results,Tryz.results170,go_sem]
  ·exact gA
 ·rw [ha] at Ra hr
  have hb:ok2 u v=false:=by simpa using hr
  rw [hb] at Rb
  clear hb hr ha
  go_enter Tryz.func170,Tryz.ntmps170
  go_wp2_with fail
  refine (Ra _).mono ?_
  rintro e w' ⟨rfl,os,n,rfl⟩
  go_wp2_with fail
  refine (Rb _).mono ?_
  rintro e w' ⟨rfl,os',n',rfl⟩
  go_wp2
  refine bodyPost_ret_by (v:=.tuple #[pv 0 0,pv 0 0,.int .i64 1]) ?_ rfl ⟨rfl,?_⟩
  ·simp [results,Tryz.results170,go_sem]
  ·exact gA
theorem div_zero (x y:Int) (w:World) (hr:ok2 x y=true) :
  Calls Tryz.prog 170 #[pv x y,pv 0 0] w fun e w'=>e=.returned (.tuple #[pv 0 0,pv 0 0,.int .i64 33])∧Grew w w':=by
 have Ra:=fun W=>right_any x y W
 have Rb:=fun W=>right_any 0 0 W
 rw [hr] at Ra
 rw [show ok2 0 0=true from rfl] at Rb
 clear hr
 go_enter Tryz.func170,Tryz.ntmps170
 go_wp2_with fail
 refine (Ra _).mono ?_
 rintro e w' ⟨rfl,os,n,rfl⟩
 go_wp2_with fail
 refine (Rb _).mono ?_
 rintro e w' ⟨rfl,os',n',rfl⟩
 go_wp2
 refine bodyPost_ret_by (v:=.tuple #[pv 0 0,pv 0 0,.int .i64 33]) ?_ rfl ⟨rfl,?_⟩
 ·simp [results,Tryz.results170,go_sem]
 ·exact gA
theorem div_good (x y u v:Int) (w:World) (ha:ok2 x y=true) (hb:ok2 u v=true) (hn:0<u*u+v*v) :
  Calls Tryz.prog 170 #[pv x y,pv u v] w fun e w'=>e=.returned (.tuple #[pv (qX x y u v) (qY x y u v),pv (rX x y u v) (rY x y u v),.int .i64 0])∧Grew w w':=by
 have Ra:=fun W=>right_any x y W
 have Rb:=fun W=>right_any u v W
 rw [ha] at Ra
 rw [hb] at Rb
 rw [ok2_iff] at ha hb
 have hx:-1048576≤x∧x≤1048576:=⟨ha.1,ha.2.1⟩
 have hy:-1048576≤y∧y≤1048576:=⟨ha.2.2.1,ha.2.2.2⟩
 have hu:-1048576≤u∧u≤1048576:=⟨hb.1,hb.2.1⟩
 have hv:-1048576≤v∧v≤1048576:=⟨hb.2.2.1,hb.2.2.2⟩
 have Na:=fun W=>z1q x y W
 have Nb:=fun W=>z1q u v W
 obtain ⟨qa,qb,ra,rb,f1,f2,f3,f4,P⟩:=parted_names (z0v x (by omega)) (z0v y (by omega)) (z0v u (by omega)) (z0v v (by omega)) hx hy hu hv hn
 have hq:=quo_ok x y u v hx hy hn
 have hr:=rest_ok x y u v hu hv hn
 have P1:=fun W=>z3r qa qb _ _ W f1 f2 (by omega) (by omega)
 have P2:=fun W=>z3r ra rb _ _ W f3 f4 (by omega) (by omega)
 have hne:¬ (u=0∧v=0):=by
  rintro ⟨rfl,rfl⟩
  exact absurd hn (by decide)
 generalize qX x y u v=c1 at *
 generalize qY x y u v=c2 at *
 generalize rX x y u v=r1 at *
 generalize rY x y u v=r2 at *
 generalize floatOfInt .f64 x=a at *
 generalize floatOfInt .f64 y=b at *
 generalize floatOfInt .f64 u=c at *
 generalize floatOfInt .f64 v=d at *
 clear hx hy hu hv ha hb hn f1 f2 f3 f4 hq hr
 have hd:(u==0&&v==0)=false:=by simpa using hne
 go_enter Tryz.func170,Tryz.ntmps170
 go_wp2_with fail
 refine (Ra _).mono ?_
 rintro e w' ⟨rfl,os,n,rfl⟩
 go_wp2_with fail
 refine (Rb _).mono ?_
 rintro e w' ⟨rfl,os',n',rfl⟩
 go_wp2_with fail
 clear hd hne
 go_region_held2 (fun W=>W.cell? ⟨w.heap.size,0,none⟩=some (.int .i64 x)∧W.cell? ⟨w.heap.size,1,none⟩=some (.int .i64 y)∧W.cell? ⟨w.heap.size+1,0,none⟩=some (.int .i64 u)∧W.cell? ⟨w.heap.size+1,1,none⟩=some (.int .i64 v)) (simp (maxDischargeDepth:=12) [go_sem])
  ((first
   | (go_at_call_of 188 (Value.int IntKind.i64 x);refine (Na _).mono ?_;rintro e w' ⟨rfl,os1,n1,rfl⟩)
   | (go_at_call_of 188 (Value.int IntKind.i64 u);refine (Nb _).mono ?_;rintro e w' ⟨rfl,os2,n2,rfl⟩)
   | (go_at_call 196;refine (P _).mono ?_;rintro e w' ⟨rfl,os3,n3,rfl⟩)))
 all_goals go_wp2_with (first
  | (go_at_call_of 189 (cv qa qb);refine (P1 _).mono ?_;rintro e w' ⟨rfl,os4,n4,rfl⟩)
  | (go_at_call_of 189 (cv ra rb);refine (P2 _).mono ?_;rintro e w' ⟨rfl,os5,n5,rfl⟩))
 all_goals refine bodyPost_ret_by (v:=.tuple #[pv c1 c2,pv r1 r2,.int .i64 0]) ?_ rfl ⟨rfl,?_⟩
 all_goals first
  | (simp [results,Tryz.results170,go_sem];done)
  | (repeat exact gA)
end Go.Proofs.YtljkonkfeiojnaaGreatDoor.Ga

namespace Go.Proofs.YtljkonkfeiojnaaGreatDoor.Ga
open Go.RowKit
attribute [local go_sem] z0f z0b z0c z0e z0m z0k z0h z0d z0g
attribute [local go_sem high] cellMA frozenMA setMA cellMAM frozenMAM setMAM cellMAA frozenMAA setMAA cellMAAM frozenMAAM setMAAM cellMAMA frozenMAMA setMAMA cellMAMAM frozenMAMAM setMAMAM cellMAMAMA frozenMAMAMA setMAMAMA cellMAMAMAM frozenMAMAMAM setMAMAMAM
theorem z7m (n:Int):bits .and .i64 n 3=n%4:=by
 have h:IntKind.i64.wrap (((BitVec.ofInt 64 n &&& BitVec.ofInt 64 3).toNat:Nat):Int)=n%4:=by
  rw [IntKind.wrap_i64,BitVec.toNat_and,BitVec.toNat_ofInt,BitVec.toNat_ofInt]
  have h3:((3:Int)%((2^64:Nat):Int)).toNat=2^2 - 1:=by decide
  rw [h3,Nat.and_two_pow_sub_one_eq_mod]
  omega
 exact h
theorem turn_good0 (x y n:Int) (w:World) (h:ok2 x y=true) (hk:n%4=0):Calls Tryz.prog 155 #[pv x y,.int .i64 n] w fun e w'=>e=.returned (pv (x) (y))∧Grew w w':=by
 have R:=fun W=>right_any x y W
 rw [h] at R
 rw [ok2_iff] at h
 have Nn:=fun W=>z1q x y W
 have A3:=z7m n
 rw [hk] at A3
 have P:=fun W=>z3r (floatOfInt .f64 x) (floatOfInt .f64 y) (x) (y) W (z0v x (by omega)) (z0v y (by omega)) (by omega) (by omega)
 generalize floatOfInt .f64 x=a at *
 generalize floatOfInt .f64 y=b at *
 generalize hX:(x:Int)=X at *
 generalize hY:(y:Int)=Y at *
 clear h hk
 go_enter Tryz.func155,Tryz.ntmps155
 go_wp2_with (first
  | (go_at_call 48;refine (R _).mono ?_;rintro e w' ⟨rfl,os,n,rfl⟩)
  | (go_at_call 188;refine (Nn _).mono ?_;rintro e w' ⟨rfl,os2,n2,rfl⟩))
 refine wp_loop_rounds 1 ?_
 rw [rounds_succ]
 go_wp2_with (go_at_call 189;refine (P _).mono ?_;rintro e w' ⟨rfl,os3,n3,rfl⟩)
 refine bodyPost_ret_by (v:=pv X Y) ?_ rfl ⟨rfl,?_⟩
 ·simp [results,Tryz.results155,go_sem]
 ·exact gA
theorem turn_good1 (x y n:Int) (w:World) (h:ok2 x y=true) (hk:n%4=1):Calls Tryz.prog 155 #[pv x y,.int .i64 n] w fun e w'=>e=.returned (pv (-y) (x))∧Grew w w':=by
 have R:=fun W=>right_any x y W
 rw [h] at R
 rw [ok2_iff] at h
 have Nn:=fun W=>z1q x y W
 have A3:=z7m n
 rw [hk] at A3
 obtain ⟨r0,i0,m0,f0,g0⟩:=z4y (z0v x (by omega)) (z0v y (by omega)) (by omega) (by omega) (by omega) (by omega)
 have h0:=fun t w=>run_complex_mul (P:=Tryz.prog) w t _ _ _ _ r0 i0 m0
 have P:=fun W=>z3r (r0) (i0) (-y) (x) W f0 g0 (by omega) (by omega)
 generalize floatOfInt .f64 x=a at *
 generalize floatOfInt .f64 y=b at *
 generalize hX:(-y:Int)=X at *
 generalize hY:(x:Int)=Y at *
 clear h hk m0 f0 g0 hX hY
 go_enter Tryz.func155,Tryz.ntmps155
 go_wp2_with (first
  | (go_at_call 48;refine (R _).mono ?_;rintro e w' ⟨rfl,os,n,rfl⟩)
  | (go_at_call 188;refine (Nn _).mono ?_;rintro e w' ⟨rfl,os2,n2,rfl⟩))
 refine wp_loop_rounds 2 ?_
 rw [rounds_succ]
 go_wp2_with fail
 rw [rounds_succ]
 go_wp2_with (go_at_call 189;refine (P _).mono ?_;rintro e w' ⟨rfl,os3,n3,rfl⟩)
 refine bodyPost_ret_by (v:=pv X Y) ?_ rfl ⟨rfl,?_⟩
 ·simp [results,Tryz.results155,go_sem]
 ·exact gA
theorem turn_good2 (x y n:Int) (w:World) (h:ok2 x y=true) (hk:n%4=2):Calls Tryz.prog 155 #[pv x y,.int .i64 n] w fun e w'=>e=.returned (pv (-x) (-y))∧Grew w w':=by
 have R:=fun W=>right_any x y W
 rw [h] at R
 rw [ok2_iff] at h
 have Nn:=fun W=>z1q x y W
 have A3:=z7m n
 rw [hk] at A3
 obtain ⟨r0,i0,m0,f0,g0⟩:=z4y (z0v x (by omega)) (z0v y (by omega)) (by omega) (by omega) (by omega) (by omega)
 obtain ⟨r1,i1,m1,f1,g1⟩:=z4y f0 g0 (by omega) (by omega) (by omega) (by omega)
 have h0:=fun t w=>run_complex_mul (P:=Tryz.prog) w t _ _ _ _ r0 i0 m0
 have h1:=fun t w=>run_complex_mul (P:=Tryz.prog) w t _ _ _ _ r1 i1 m1
 have P:=fun W=>z3r (r1) (i1) (-x) (-y) W f1 g1 (by omega) (by omega)
 generalize floatOfInt .f64 x=a at *
 generalize floatOfInt .f64 y=b at *
 generalize hX:(-x:Int)=X at *
 generalize hY:(-y:Int)=Y at *
 clear h hk m0 f0 g0 m1 f1 g1 hX hY
 go_enter Tryz.func155,Tryz.ntmps155
 go_wp2_with (first
  | (go_at_call 48;refine (R _).mono ?_;rintro e w' ⟨rfl,os,n,rfl⟩)
  | (go_at_call 188;refine (Nn _).mono ?_;rintro e w' ⟨rfl,os2,n2,rfl⟩))
 refine wp_loop_rounds 3 ?_
 rw [rounds_succ]
 go_wp2_with fail
 rw [rounds_succ]
 go_wp2_with fail
 rw [rounds_succ]
 go_wp2_with (go_at_call 189;refine (P _).mono ?_;rintro e w' ⟨rfl,os3,n3,rfl⟩)
 refine bodyPost_ret_by (v:=pv X Y) ?_ rfl ⟨rfl,?_⟩
 ·simp [results,Tryz.results155,go_sem]
 ·exact gA
theorem turn_good3 (x y n:Int) (w:World) (h:ok2 x y=true) (hk:n%4=3):Calls Tryz.prog 155 #[pv x y,.int .i64 n] w fun e w'=>e=.returned (pv (-(-y)) (-x))∧Grew w w':=by
 have R:=fun W=>right_any x y W
 rw [h] at R
 rw [ok2_iff] at h
 have Nn:=fun W=>z1q x y W
 have A3:=z7m n
 rw [hk] at A3
 obtain ⟨r0,i0,m0,f0,g0⟩:=z4y (z0v x (by omega)) (z0v y (by omega)) (by omega) (by omega) (by omega) (by omega)
 obtain ⟨r1,i1,m1,f1,g1⟩:=z4y f0 g0 (by omega) (by omega) (by omega) (by omega)
 obtain ⟨r2,i2,m2,f2,g2⟩:=z4y f1 g1 (by omega) (by omega) (by omega) (by omega)
 have h0:=fun t w=>run_complex_mul (P:=Tryz.prog) w t _ _ _ _ r0 i0 m0
 have h1:=fun t w=>run_complex_mul (P:=Tryz.prog) w t _ _ _ _ r1 i1 m1
 have h2:=fun t w=>run_complex_mul (P:=Tryz.prog) w t _ _ _ _ r2 i2 m2
 have P:=fun W=>z3r (r2) (i2) (-(-y)) (-x) W f2 g2 (by omega) (by omega)
 generalize floatOfInt .f64 x=a at *
 generalize floatOfInt .f64 y=b at *
 generalize hX:(-(-y):Int)=X at *
 generalize hY:(-x:Int)=Y at *
 clear h hk m0 f0 g0 m1 f1 g1 m2 f2 g2 hX hY
 go_enter Tryz.func155,Tryz.ntmps155
 go_wp2_with (first
  | (go_at_call 48;refine (R _).mono ?_;rintro e w' ⟨rfl,os,n,rfl⟩)
  | (go_at_call 188;refine (Nn _).mono ?_;rintro e w' ⟨rfl,os2,n2,rfl⟩))
 refine wp_loop_rounds 4 ?_
 rw [rounds_succ]
 go_wp2_with fail
 rw [rounds_succ]
 go_wp2_with fail
 rw [rounds_succ]
 go_wp2_with fail
 rw [rounds_succ]
 go_wp2_with (go_at_call 189;refine (P _).mono ?_;rintro e w' ⟨rfl,os3,n3,rfl⟩)
 refine bodyPost_ret_by (v:=pv X Y) ?_ rfl ⟨rfl,?_⟩
 ·simp [results,Tryz.results155,go_sem]
 ·exact gA
def turnX (x y n:Int):Int:=if n%4=0 then x else if n%4=1 then -y else if n%4=2 then -x else y
def turnY (x y n:Int):Int:=if n%4=0 then y else if n%4=1 then x else if n%4=2 then -y else -x
theorem turn_good (x y n:Int) (w:World) (h:ok2 x y=true):Calls Tryz.prog 155 #[pv x y,.int .i64 n] w fun e w'=>e=.returned (pv (turnX x y n) (turnY x y n))∧Grew w w':=by
 have hc:n%4=0∨n%4=1∨n%4=2∨n%4=3:=by omega
 rcases hc with hk|hk|hk|hk
 ·simpa [turnX,turnY,hk] using turn_good0 x y n w h hk
 ·simpa [turnX,turnY,hk] using turn_good1 x y n w h hk
 ·simpa [turnX,turnY,hk] using turn_good2 x y n w h hk
 ·simpa [turnX,turnY,hk] using turn_good3 x y n w h hk
end Go.Proofs.YtljkonkfeiojnaaGreatDoor.Ga
