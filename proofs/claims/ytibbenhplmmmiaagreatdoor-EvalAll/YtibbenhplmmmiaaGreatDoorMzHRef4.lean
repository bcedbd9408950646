/-
  What the walks of package gauss lean on: a point as a value, complex numbers whose parts are whole, and the contracts of the smallest functions.
  Contracts of package gauss: told, Add, Sub, Mul, mirrored, square, Conj, Norm: for every point.
  Contracts of package gauss: Add, Sub, Mul: for every two points.
  Contracts of package gauss: Norm, Conj, Turn: for every point.
  The quotient of two points and the rest: contracts of math.Floor, nearest, parted and Div of package gauss: for every two points.
  The contract of gauss.Div: for every two points.
  The contract of gauss.Turn: for every point and every count.
  The document's answers for points: Right, answer, Add, Sub, Mul, Norm, Conj: for every point.
  The document's answers for points: nearest and parts: for every two points of which the second is not nought.
  The document's answers for points: Div and Turn: for every point.
  The document's Turn: for every point and every count.
-/
import Derived.Test.YtibbenhplmmmiaaGreatDoorChecked
import Derived.Test.YtibbenhplmmmiaaGreatDoorMcDWide3
import Derived.Test.YtibbenhplmmmiaaGreatDoorMyHFloat
import Derived.Laws.ComplexArith
import Derived.WalkLawsBesides
import Derived.WalkKit
import Derived.WalkSpells
import Derived.Deep.RegionWith
import Derived.Deep.RegionHeld
import Derived.Deep.RegionHeld2
import Derived.Deep.Cut
import Derived.Laws.Externs
set_option maxHeartbeats 4000000
set_option maxRecDepth 4000
namespace Go.Proofs.YtibbenhplmmmiaaGreatDoor.Ga
open Go.RowKit
attribute [local go_sem] z0e z0b z0c z0f z0m z0k z0h z0d z0g
def Two (w:World) (p:Nat) (u s:Int):Prop:=w.cell? ⟨p,0,none⟩=some (.int .i64 u)∧w.cell? ⟨p,1,none⟩=some (.int .i64 s)
theorem Two.lt {w:World} {p:Nat} {u s:Int} (h:Two w p u s):p<w.heap.size:=World.block_lt_of_cell? w _ h.1
theorem Two.later {w w':World} {p:Nat} {u s:Int} (h:Two w p u s) (hb:Grew w w'):Two w' p u s :=
 ⟨by rw [hb.below.cell (p:=⟨p,0,none⟩) h.lt];exact h.1,by rw [hb.below.cell (p:=⟨p,1,none⟩) h.lt];exact h.2⟩
abbrev pv (x y:Int):Value:=.agg #[.int .i64 x,.int .i64 y]
abbrev cv (a b:Nat):Value:=.complex .f64 a b
def ok2 (x y:Int):Bool:=decide (-1048576≤x∧x≤1048576∧-1048576≤y∧y≤1048576)
theorem ok2_iff (x y:Int):ok2 x y=true↔(-1048576≤x∧x≤1048576∧-1048576≤y∧y≤1048576):=by simp [ok2]
theorem z7n (n:Int) (w:World):Calls Tryz.prog 150 #[.int .i64 n] w fun e w'=>e=.returned (.bool (decide (-1048576≤n∧n≤1048576)))∧w=w':=by
 by_cases h1:-1048576≤n
 ·by_cases h2:n≤1048576
  ·have h3:decide (-1048576≤n∧n≤1048576)=true:=by simp [h1,h2]
   rw [h3]
   go_enter Tryz.func150,Tryz.ntmps150
   go_wp2
   all_goals go_ret
   all_goals exact ⟨rfl,rfl⟩
  ·have h3:decide (-1048576≤n∧n≤1048576)=false:=by simp [h2]
   rw [h3]
   go_enter Tryz.func150,Tryz.ntmps150
   go_wp2
   all_goals go_ret
   all_goals exact ⟨rfl,rfl⟩
 ·have h3:decide (-1048576≤n∧n≤1048576)=false:=by simp [h1]
  rw [h3]
  go_enter Tryz.func150,Tryz.ntmps150
  go_wp2
  all_goals go_ret
  all_goals exact ⟨rfl,rfl⟩
theorem right_any (x y:Int) (w:World):Calls Tryz.prog 88 #[pv x y] w fun e w'=>e=.returned (.bool (ok2 x y))∧Grew w w':=by
 by_cases h1:-1048576≤x∧x≤1048576
 ·have X:∀ W,Calls Tryz.prog 150 #[.int .i64 x] W fun e w'=>e=.returned (.bool true)∧W=w':=fun W=>by have:=z7n x W;rwa [decide_eq_true h1] at this
  have Y:=fun W=>z7n y W
  have h3:ok2 x y=decide (-1048576≤y∧y≤1048576):=by unfold ok2;simp [h1.1,h1.2]
  rw [h3]
  generalize decide (-1048576≤y∧y≤1048576)=b at *
  clear h1 h3
  go_enter Tryz.func88,Tryz.ntmps88
  go_wp2_with (first
   | (go_at_call_of 150 (Value.int IntKind.i64 x);refine (X _).mono ?_;rintro e w' ⟨rfl,rfl⟩)
   | (go_at_call 150;refine (Y _).mono ?_;rintro e w' ⟨rfl,rfl⟩))
  all_goals go_ret
  all_goals exact ⟨rfl,gA⟩
 ·have X:∀ W,Calls Tryz.prog 150 #[.int .i64 x] W fun e w'=>e=.returned (.bool false)∧W=w':=fun W=>by have:=z7n x W;rwa [decide_eq_false h1] at this
  have h3:ok2 x y=false:=by
   unfold ok2
   simp
   intro a b
   exact absurd ⟨a,b⟩ h1
  rw [h3]
  clear h1 h3
  go_enter Tryz.func88,Tryz.ntmps88
  go_wp2_with (go_at_call 150;refine (X _).mono ?_;rintro e w' ⟨rfl,rfl⟩)
  all_goals go_ret
  all_goals exact ⟨rfl,gA⟩
theorem z2b (x y:Int) (w:World):Calls Tryz.prog 232 #[pv x y] w fun e w'=>e=.returned (cv (floatOfInt .f64 x) (floatOfInt .f64 y))∧Grew w w':=by
 go_enter Tryz.func232,Tryz.ntmps232
 go_wp2
 all_goals go_ret
 all_goals exact ⟨rfl,gA⟩
theorem z3h (a b:Nat) (x y:Int) (w:World) (ha:FI a x) (hb:FI b y) (hx:-9007199254740992<x∧x<9007199254740992) (hy:-9007199254740992<y∧y<9007199254740992) :
  Calls Tryz.prog 234 #[cv a b] w fun e w'=>e=.returned (pv x y)∧Grew w w':=by
 have c1:∀ w,(convert 247 3 (.float .f64 a)).run Tryz.prog w=.ok (.int .i64 x) w:=fun w=>run_convert_float_int w _ _ .f64 .i64 a x (by rw [Tryz.underlying247];rfl) Tryz.underlying3 (ha.toInt hx)
 have c2:∀ w,(convert 247 3 (.float .f64 b)).run Tryz.prog w=.ok (.int .i64 y) w:=fun w=>run_convert_float_int w _ _ .f64 .i64 b y (by rw [Tryz.underlying247];rfl) Tryz.underlying3 (hb.toInt hy)
 clear ha hb hx hy
 go_enter Tryz.func234,Tryz.ntmps234
 go_wp2
 refine bodyPost_ret_by (v:=pv x y) ?_ rfl ⟨rfl,?_⟩
 ·simp [results,Tryz.results234,go_sem]
 ·exact gA
end Go.Proofs.YtibbenhplmmmiaaGreatDoor.Ga

namespace Go.Proofs.YtibbenhplmmmiaaGreatDoor.Ga
open Go.RowKit
attribute [local go_sem] z0e z0b z0c z0f z0m z0k z0h z0d z0g
attribute [local go_sem high] cellMA frozenMA setMA cellMAM frozenMAM setMAM cellMAA frozenMAA setMAA cellMAAM frozenMAAM setMAAM cellMAMA frozenMAMA setMAMA cellMAMAM frozenMAMAM setMAMAM cellMAMAMA frozenMAMAMA setMAMAMA cellMAMAMAM frozenMAMAMAM setMAMAMAM
theorem z1f {x u A B:Int} (hA:0≤A) (x1:-A≤x) (x2:x≤A) (u1:-B≤u) (u2:u≤B):-(A*B)≤x*u∧x*u≤A*B:=by
 have hB:0≤B:=by omega
 have h1:(x*u).natAbs≤A.natAbs*B.natAbs:=by rw [Int.natAbs_mul];exact Nat.mul_le_mul (by omega) (by omega)
 have h2:((A.natAbs*B.natAbs:Nat):Int)=A*B:=by rw [Int.natCast_mul,Int.natAbs_of_nonneg hA,Int.natAbs_of_nonneg hB]
 omega
theorem z5d {a b c d:Nat} {x y u v:Int} (A B:Int) (hA:0≤A) (hAB:2*(A*B)<9007199254740992) (ha:FI a x) (hb:FI b y) (hc:FI c u) (hd:FI d v)
  (x1:-A≤x) (x2:x≤A) (y1:-A≤y) (y2:y≤A) (u1:-B≤u) (u2:u≤B) (v1:-B≤v) (v2:v≤B) :
  ∃ re im,cMulBits a b c d=some (re,im)∧FI re (x*u - y*v)∧FI im (x*v+y*u):=by
 have m1:=z1f hA x1 x2 u1 u2
 have m2:=z1f hA y1 y2 v1 v2
 have m3:=z1f hA x1 x2 v1 v2
 have m4:=z1f hA y1 y2 u1 u2
 obtain ⟨r1,e1,f1⟩:=ha.mul hc (by omega)
 obtain ⟨r2,e2,f2⟩:=hb.mul hd (by omega)
 obtain ⟨r3,e3,f3⟩:=ha.mul hd (by omega)
 obtain ⟨r4,e4,f4⟩:=hb.mul hc (by omega)
 obtain ⟨r5,e5,f5⟩:=f1.sub f2 (by omega)
 obtain ⟨r6,e6,f6⟩:=f3.add f4 (by omega)
 refine ⟨r5,r6,?_,f5,f6⟩
 unfold cMulBits
 rw [e1,e2,e3,e4]
 simp [e5,e6]
theorem cadd_names {a b c d:Nat} {x y u v:Int} (ha:FI a x) (hb:FI b y) (hc:FI c u) (hd:FI d v)
  (h1:-9007199254740992<x+u∧x+u<9007199254740992) (h2:-9007199254740992<y+v∧y+v<9007199254740992) :
  ∃ re im,cSumBits .add .f64 a b c d=some (re,im)∧FI re (x+u)∧FI im (y+v):=by
 obtain ⟨r1,e1,f1⟩:=ha.add hc h1
 obtain ⟨r2,e2,f2⟩:=hb.add hd h2
 exact ⟨r1,r2,by unfold cSumBits;rw [e1,e2];rfl,f1,f2⟩
theorem csub_names {a b c d:Nat} {x y u v:Int} (ha:FI a x) (hb:FI b y) (hc:FI c u) (hd:FI d v)
  (h1:-9007199254740992<x - u∧x - u<9007199254740992) (h2:-9007199254740992<y - v∧y - v<9007199254740992) :
  ∃ re im,cSumBits .sub .f64 a b c d=some (re,im)∧FI re (x - u)∧FI im (y - v):=by
 obtain ⟨r1,e1,f1⟩:=ha.sub hc h1
 obtain ⟨r2,e2,f2⟩:=hb.sub hd h2
 exact ⟨r1,r2,by unfold cSumBits;rw [e1,e2];rfl,f1,f2⟩
def tX (x y:Int):Int:=if ok2 x y then x else 0
def tY (x y:Int):Int:=if ok2 x y then y else 0
def tE (x y:Int):Int:=if ok2 x y then 0 else 32
abbrev tv (x y:Int):Value:=.tuple #[pv (tX x y) (tY x y),.int .i64 (tE x y)]
theorem z7q (a b:Nat) (x y:Int) (w:World) (ha:FI a x) (hb:FI b y) (hx:-9007199254740992<x∧x<9007199254740992) (hy:-9007199254740992<y∧y<9007199254740992) :
  Calls Tryz.prog 231 #[cv a b] w fun e w'=>e=.returned (tv x y)∧Grew w w':=by
 have P:=fun W=>z3h a b x y W ha hb hx hy
 have R:=fun W=>right_any x y W
 clear ha hb hx hy
 by_cases h:ok2 x y=true
 ·have e1:tX x y=x:=by simp [tX,h]
  have e2:tY x y=y:=by simp [tY,h]
  have e3:tE x y=0:=by simp [tE,h]
  unfold tv
  rw [e1,e2,e3]
  rw [h] at R
  clear e1 e2 e3 h
  go_enter Tryz.func231,Tryz.ntmps231
  go_wp2_with (first
   | (go_at_call 234;refine (P _).mono ?_;rintro e w' ⟨rfl,os,n,rfl⟩)
   | (go_at_call 88;refine (R _).mono ?_;rintro e w' ⟨rfl,os2,n2,rfl⟩))
  refine bodyPost_ret_by (v:=.tuple #[pv x y,.int .i64 0]) ?_ rfl ⟨rfl,?_⟩
  ·simp [results,Tryz.results231,go_sem]
  ·exact gA
 ·have h':ok2 x y=false:=by simpa using h
  have e1:tX x y=0:=by simp [tX,h']
  have e2:tY x y=0:=by simp [tY,h']
  have e3:tE x y=32:=by simp [tE,h']
  unfold tv
  rw [e1,e2,e3]
  rw [h'] at R
  clear e1 e2 e3 h h'
  go_enter Tryz.func231,Tryz.ntmps231
  go_wp2_with (first
   | (go_at_call 234;refine (P _).mono ?_;rintro e w' ⟨rfl,os,n,rfl⟩)
   | (go_at_call 88;refine (R _).mono ?_;rintro e w' ⟨rfl,os2,n2,rfl⟩))
  refine bodyPost_ret_by (v:=.tuple #[pv 0 0,.int .i64 32]) ?_ rfl ⟨rfl,?_⟩
  ·simp [results,Tryz.results231,go_sem]
  ·exact gA
theorem z9k (a b:Nat) (w:World):Calls Tryz.prog 276 #[cv a b] w fun e w'=>e=.returned (cv a (Op.negFloat .f64 b))∧Grew w w':=by
 have hn:∀ (w:World),(Op.unary .neg (.float .f64 b)).run Tryz.prog w=.ok (.float .f64 (Op.negFloat .f64 b)) w:=fun w=>rfl
 go_enter Tryz.func276,Tryz.ntmps276
 go_wp2
 all_goals go_ret
 all_goals exact ⟨rfl,gA⟩
theorem z9n {a b:Nat} {x y:Int} (ha:FI a x) (hb:FI b y) (x1:-2097152≤x) (x2:x≤2097152) (y1:-2097152≤y) (y2:y≤2097152) :
  ∃ r,FI r (x*x+y*y)∧∀ w,Calls Tryz.prog 237 #[cv a b] w fun e w'=>e=.returned (.float .f64 r)∧Grew w w':=by
 obtain ⟨re,im,hm,fr,_⟩:=z5d 2097152 2097152 (by decide) (by decide) ha hb ha hb.neg x1 x2 y1 y2 x1 x2 (by omega) (by omega)
 refine ⟨re,?_,?_⟩
 ·have:x*x+y*y=x*x - y*-y:=by rw [Int.mul_neg];omega
  rw [this];exact fr
 ·intro w
  have hop:=fun t w=>run_complex_mul (P:=Tryz.prog) w t a b a (Op.negFloat .f64 b) re im hm
  have M:=fun W=>z9k a b W
  clear hm fr ha hb x1 x2 y1 y2
  generalize Op.negFloat .f64 b=c at *
  go_enter Tryz.func237,Tryz.ntmps237
  go_wp2_with (go_at_call 276;refine (M _).mono ?_;rintro e w' ⟨rfl,os,n,rfl⟩)
  all_goals go_ret
  all_goals exact ⟨rfl,gA⟩
end Go.Proofs.YtibbenhplmmmiaaGreatDoor.Ga

namespace Go.Proofs.YtibbenhplmmmiaaGreatDoor.Ga
open Go.RowKit
attribute [local go_sem] z0e z0b z0c z0f z0m z0k z0h z0d z0g
attribute [local go_sem high] cellMA frozenMA setMA cellMAM frozenMAM setMAM cellMAA frozenMAA setMAA cellMAAM frozenMAAM setMAAM cellMAMA frozenMAMA setMAMA cellMAMAM frozenMAMAM setMAMAM cellMAMAMA frozenMAMAMA setMAMAMA cellMAMAMAM frozenMAMAMAM setMAMAMAM
theorem add_good (x y u v:Int) (w:World) (ha:ok2 x y=true) (hb:ok2 u v=true) :
  Calls Tryz.prog 170 #[pv x y,pv u v] w fun e w'=>e=.returned (tv (x+u) (y+v))∧Grew w w':=by
 have Ra:=fun W=>right_any x y W
 have Rb:=fun W=>right_any u v W
 rw [ha] at Ra
 rw [hb] at Rb
 rw [ok2_iff] at ha hb
 have Na:=fun W=>z2b x y W
 have Nb:=fun W=>z2b u v W
 have m1:=z1f (A:=1048576) (B:=1048576) (by decide) ha.1 ha.2.1 hb.1 hb.2.1
 have m2:=z1f (A:=1048576) (B:=1048576) (by decide) ha.2.2.1 ha.2.2.2 hb.2.2.1 hb.2.2.2
 have m3:=z1f (A:=1048576) (B:=1048576) (by decide) ha.1 ha.2.1 hb.2.2.1 hb.2.2.2
 have m4:=z1f (A:=1048576) (B:=1048576) (by decide) ha.2.2.1 ha.2.2.2 hb.1 hb.2.1
 obtain ⟨re,im,hm,f1,f2⟩:=cadd_names (z0y x (by omega)) (z0y y (by omega)) (z0y u (by omega)) (z0y v (by omega)) (by omega) (by omega)
 have T:=fun W=>z7q re im (x+u) (y+v) W f1 f2 (by omega) (by omega)
 have hop:=fun t w=>run_complex_sum (P:=Tryz.prog) w .add (Or.inl rfl) t .f64 _ _ _ _ re im hm
 unfold tv at T ⊢
 generalize tX (x+u) (y+v)=X at *
 generalize tY (x+u) (y+v)=Y at *
 generalize tE (x+u) (y+v)=E at *
 generalize floatOfInt .f64 x=a at *
 generalize floatOfInt .f64 y=b at *
 generalize floatOfInt .f64 u=c at *
 generalize floatOfInt .f64 v=d at *
 clear f1 f2 hm m1 m2 m3 m4 ha hb
 go_enter Tryz.func170,Tryz.ntmps170
 go_wp2_with fail
 refine (Ra _).mono ?_
 rintro e w' ⟨rfl,os,n,rfl⟩
 go_wp2_with fail
 refine (Rb _).mono ?_
 rintro e w' ⟨rfl,os',n',rfl⟩
 go_wp2_with fail
 go_region_held2 (fun W=>W.cell? ⟨w.heap.size,0,none⟩=some (.int .i64 x)∧W.cell? ⟨w.heap.size,1,none⟩=some (.int .i64 y)∧W.cell? ⟨w.heap.size+1,0,none⟩=some (.int .i64 u)∧W.cell? ⟨w.heap.size+1,1,none⟩=some (.int .i64 v)) (simp (maxDischargeDepth:=12) [go_sem])
  ((first
   | (go_at_call_of 232 (Value.int IntKind.i64 x);refine (Na _).mono ?_;rintro e w' ⟨rfl,os1,n1,rfl⟩)
   | (go_at_call_of 232 (Value.int IntKind.i64 u);refine (Nb _).mono ?_;rintro e w' ⟨rfl,os2,n2,rfl⟩)
   | (go_at_call 231;refine (T _).mono ?_;rintro e w' ⟨rfl,os3,n3,rfl⟩)))
 all_goals go_wp2_with fail
 all_goals refine bodyPost_ret_by (v:=.tuple #[pv X Y,.int .i64 E]) ?_ rfl ⟨rfl,?_⟩
 all_goals first
  | (simp [results,Tryz.results170,go_sem];done)
  | (repeat exact gA)
theorem sub_bad (x y u v:Int) (w:World) (hr:(ok2 x y&&ok2 u v)=false) :
  Calls Tryz.prog 171 #[pv x y,pv u v] w fun e w'=>e=.returned (.tuple #[pv 0 0,.int .i64 1])∧Grew w w':=by
 have Ra:=fun W=>right_any x y W
 have Rb:=fun W=>right_any u v W
 cases ha:ok2 x y
 ·rw [ha] at Ra
  clear Rb hr ha
  go_enter Tryz.func171,Tryz.ntmps171
  go_wp2_with (go_at_call 88;refine (Ra _).mono ?_;rintro e w' ⟨rfl,os,n,rfl⟩)
  refine bodyPost_ret_by (v:=.tuple #[pv 0 0,.int .i64 1]) ?_ rfl ⟨rfl,?_⟩
  ·simp [results,Tryz.results171,go_sem]
  ·exact gA
 ·rw [ha] at Ra hr
  have hb:ok2 u v=false:=by simpa using hr
  rw [hb] at Rb
  clear hb hr ha
  go_enter Tryz.func171,Tryz.ntmps171
  go_wp2_with fail
  refine (Ra _).mono ?_
  rintro e w' ⟨rfl,os,n,rfl⟩
  go_wp2_with fail
  refine (Rb _).mono ?_
  rintro e w' ⟨rfl,os',n',rfl⟩
  go_wp2
  refine bodyPost_ret_by (v:=.tuple #[pv 0 0,.int .i64 1]) ?_ rfl ⟨rfl,?_⟩
  ·simp [results,Tryz.results171,go_sem]
  ·exact gA
theorem sub_good (x y u v:Int) (w:World) (ha:ok2 x y=true) (hb:ok2 u v=true) :
  Calls Tryz.prog 171 #[pv x y,pv u v] w fun e w'=>e=.returned (tv (x - u) (y - v))∧Grew w w':=by
 have Ra:=fun W=>right_any x y W
 have Rb:=fun W=>right_any u v W
 rw [ha] at Ra
 rw [hb] at Rb
 rw [ok2_iff] at ha hb
 have Na:=fun W=>z2b x y W
 have Nb:=fun W=>z2b u v W
 have m1:=z1f (A:=1048576) (B:=1048576) (by decide) ha.1 ha.2.1 hb.1 hb.2.1
 have m2:=z1f (A:=1048576) (B:=1048576) (by decide) ha.2.2.1 ha.2.2.2 hb.2.2.1 hb.2.2.2
 have m3:=z1f (A:=1048576) (B:=1048576) (by decide) ha.1 ha.2.1 hb.2.2.1 hb.2.2.2
 have m4:=z1f (A:=1048576) (B:=1048576) (by decide) ha.2.2.1 ha.2.2.2 hb.1 hb.2.1
 obtain ⟨re,im,hm,f1,f2⟩:=csub_names (z0y x (by omega)) (z0y y (by omega)) (z0y u (by omega)) (z0y v (by omega)) (by omega) (by omega)
 have T:=fun W=>z7q re im (x - u) (y - v) W f1 f2 (by omega) (by omega)
 have hop:=fun t w=>run_complex_sum (P:=Tryz.prog) w .sub (Or.inr rfl) t .f64 _ _ _ _ re im hm
 unfold tv at T ⊢
 generalize tX (x - u) (y - v)=X at *
 generalize tY (x - u) (y - v)=Y at *
 generalize tE (x - u) (y - v)=E at *
 generalize floatOfInt .f64 x=a at *
 generalize floatOfInt .f64 y=b at *
 generalize floatOfInt .f64 u=c at *
 generalize floatOfInt .f64 v=d at *
 clear f1 f2 hm m1 m2 m3 m4 ha hb
 go_enter Tryz.func171,Tryz.ntmps171
 go_wp2_with fail
 refine (Ra _).mono ?_
 rintro e w' ⟨rfl,os,n,rfl⟩
 go_wp2_with fail
 refine (Rb _).mono ?_
 rintro e w' ⟨rfl,os',n',rfl⟩
 go_wp2_with fail
 go_region_held2 (fun W=>W.cell? ⟨w.heap.size,0,none⟩=some (.int .i64 x)∧W.cell? ⟨w.heap.size,1,none⟩=some (.int .i64 y)∧W.cell? ⟨w.heap.size+1,0,none⟩=some (.int .i64 u)∧W.cell? ⟨w.heap.size+1,1,none⟩=some (.int .i64 v)) (simp (maxDischargeDepth:=12) [go_sem])
  ((first
   | (go_at_call_of 232 (Value.int IntKind.i64 x);refine (Na _).mono ?_;rintro e w' ⟨rfl,os1,n1,rfl⟩)
   | (go_at_call_of 232 (Value.int IntKind.i64 u);refine (Nb _).mono ?_;rintro e w' ⟨rfl,os2,n2,rfl⟩)
   | (go_at_call 231;refine (T _).mono ?_;rintro e w' ⟨rfl,os3,n3,rfl⟩)))
 all_goals go_wp2_with fail
 all_goals refine bodyPost_ret_by (v:=.tuple #[pv X Y,.int .i64 E]) ?_ rfl ⟨rfl,?_⟩
 all_goals first
  | (simp [results,Tryz.results171,go_sem];done)
  | (repeat exact gA)
theorem mul_good (x y u v:Int) (w:World) (ha:ok2 x y=true) (hb:ok2 u v=true) :
  Calls Tryz.prog 172 #[pv x y,pv u v] w fun e w'=>e=.returned (tv (x*u - y*v) (x*v+y*u))∧Grew w w':=by
 have Ra:=fun W=>right_any x y W
 have Rb:=fun W=>right_any u v W
 rw [ha] at Ra
 rw [hb] at Rb
 rw [ok2_iff] at ha hb
 have Na:=fun W=>z2b x y W
 have Nb:=fun W=>z2b u v W
 have m1:=z1f (A:=1048576) (B:=1048576) (by decide) ha.1 ha.2.1 hb.1 hb.2.1
 have m2:=z1f (A:=1048576) (B:=1048576) (by decide) ha.2.2.1 ha.2.2.2 hb.2.2.1 hb.2.2.2
 have m3:=z1f (A:=1048576) (B:=1048576) (by decide) ha.1 ha.2.1 hb.2.2.1 hb.2.2.2
 have m4:=z1f (A:=1048576) (B:=1048576) (by decide) ha.2.2.1 ha.2.2.2 hb.1 hb.2.1
 obtain ⟨re,im,hm,f1,f2⟩:=z5d 1048576 1048576 (by decide) (by decide) (z0y x (by omega)) (z0y y (by omega)) (z0y u (by omega)) (z0y v (by omega)) (by omega) (by omega) (by omega) (by omega) (by omega) (by omega) (by omega) (by omega)
 have T:=fun W=>z7q re im (x*u - y*v) (x*v+y*u) W f1 f2 (by omega) (by omega)
 have hop:=fun t w=>run_complex_mul (P:=Tryz.prog) w t _ _ _ _ re im hm
 unfold tv at T ⊢
 generalize tX (x*u - y*v) (x*v+y*u)=X at *
 generalize tY (x*u - y*v) (x*v+y*u)=Y at *
 generalize tE (x*u - y*v) (x*v+y*u)=E at *
 generalize floatOfInt .f64 x=a at *
 generalize floatOfInt .f64 y=b at *
 generalize floatOfInt .f64 u=c at *
 generalize floatOfInt .f64 v=d at *
 clear f1 f2 hm m1 m2 m3 m4 ha hb
 go_enter Tryz.func172,Tryz.ntmps172
 go_wp2_with fail
 refine (Ra _).mono ?_
 rintro e w' ⟨rfl,os,n,rfl⟩
 go_wp2_with fail
 refine (Rb _).mono ?_
 rintro e w' ⟨rfl,os',n',rfl⟩
 go_wp2_with fail
 go_region_held2 (fun W=>W.cell? ⟨w.heap.size,0,none⟩=some (.int .i64 x)∧W.cell? ⟨w.heap.size,1,none⟩=some (.int .i64 y)∧W.cell? ⟨w.heap.size+1,0,none⟩=some (.int .i64 u)∧W.cell? ⟨w.heap.size+1,1,none⟩=some (.int .i64 v)) (simp (maxDischargeDepth:=12) [go_sem])
  ((first
   | (go_at_call_of 232 (Value.int IntKind.i64 x);refine (Na _).mono ?_;rintro e w' ⟨rfl,os1,n1,rfl⟩)
   | (go_at_call_of 232 (Value.int IntKind.i64 u);refine (Nb _).mono ?_;rintro e w' ⟨rfl,os2,n2,rfl⟩)
   | (go_at_call 231;refine (T _).mono ?_;rintro e w' ⟨rfl,os3,n3,rfl⟩)))
 all_goals go_wp2_with fail
 all_goals refine bodyPost_ret_by (v:=.tuple #[pv X Y,.int .i64 E]) ?_ rfl ⟨rfl,?_⟩
 all_goals first
  | (simp [results,Tryz.results172,go_sem];done)
  | (repeat exact gA)
end Go.Proofs.YtibbenhplmmmiaaGreatDoor.Ga

namespace Go.Proofs.YtibbenhplmmmiaaGreatDoor.Ga
open Go.RowKit
attribute [local go_sem] z0e z0b z0c z0f z0m z0k z0h z0d z0g
attribute [local go_sem high] cellMA frozenMA setMA cellMAM frozenMAM setMAM cellMAA frozenMAA setMAA cellMAAM frozenMAAM setMAAM cellMAMA frozenMAMA setMAMA cellMAMAM frozenMAMAM setMAMAM cellMAMAMA frozenMAMAMA setMAMAMA cellMAMAMAM frozenMAMAMAM setMAMAMAM
def nrm (x y:Int):Int:=if ok2 x y then x*x+y*y else 0
theorem norm_any (x y:Int) (w:World):Calls Tryz.prog 179 #[pv x y] w fun e w'=>e=.returned (.int .i64 (nrm x y))∧Grew w w':=by
 have R:=fun W=>right_any x y W
 by_cases h:ok2 x y=true
 ·rw [h] at R
  have e1:nrm x y=x*x+y*y:=by simp [nrm,h]
  rw [e1]
  rw [ok2_iff] at h
  have N:=fun W=>z2b x y W
  obtain ⟨r,fr,S⟩:=z9n (z0y x (by omega)) (z0y y (by omega)) (by omega) (by omega) (by omega) (by omega)
  have m1:=z1f (A:=1048576) (B:=1048576) (by decide) h.1 h.2.1 h.1 h.2.1
  have m2:=z1f (A:=1048576) (B:=1048576) (by decide) h.2.2.1 h.2.2.2 h.2.2.1 h.2.2.2
  have c1:∀ w,(convert 247 3 (.float .f64 r)).run Tryz.prog w=.ok (.int .i64 (x*x+y*y)) w:=fun w=>run_convert_float_int w _ _ .f64 .i64 r _ (by rw [Tryz.underlying247];rfl) Tryz.underlying3 (fr.toInt (by omega))
  generalize x*x+y*y=nn at *
  generalize floatOfInt .f64 x=a at *
  generalize floatOfInt .f64 y=b at *
  clear fr m1 m2 h e1
  go_enter Tryz.func179,Tryz.ntmps179
  go_wp2_with (first
   | (go_at_call 88;refine (R _).mono ?_;rintro e w' ⟨rfl,os,n,rfl⟩)
   | (go_at_call 232;refine (N _).mono ?_;rintro e w' ⟨rfl,os2,n2,rfl⟩)
   | (go_at_call 237;refine (S _).mono ?_;rintro e w' ⟨rfl,os3,n3,rfl⟩))
  all_goals go_ret
  all_goals exact ⟨rfl,gA⟩
 ·have h':ok2 x y=false:=by simpa using h
  have e1:nrm x y=0:=by simp [nrm,h']
  rw [e1]
  rw [h'] at R
  clear h h' e1
  go_enter Tryz.func179,Tryz.ntmps179
  go_wp2_with (go_at_call 88;refine (R _).mono ?_;rintro e w' ⟨rfl,os,n,rfl⟩)
  all_goals go_ret
  all_goals exact ⟨rfl,gA⟩
theorem FI_zero:FI 0 0:=⟨by decide,false,0,-1074,by decide,by unfold z2t;exact Rat.zero_mul _⟩
theorem FI_one:FI 4607182418800017408 1:=by
 have h:floatOfInt .f64 1=4607182418800017408:=by decide +kernel
 rw [← h];exact z0y 1 (by decide)
theorem z4m {a b:Nat} {x y:Int} (ha:FI a x) (hb:FI b y) (x1:-2097152≤x) (x2:x≤2097152) (y1:-2097152≤y) (y2:y≤2097152) :
  ∃ re im,cMulBits a b 0 4607182418800017408=some (re,im)∧FI re (-y)∧FI im x:=by
 obtain ⟨re,im,h1,h2,h3⟩:=z5d 2097152 1 (by decide) (by decide) ha hb FI_zero FI_one x1 x2 y1 y2 (by decide) (by decide) (by decide) (by decide)
 refine ⟨re,im,h1,?_,?_⟩
 ·have:-y=x*0 - y*1:=by omega
  rw [this];exact h2
 ·have:x=x*1+y*0:=by omega
  rw [this];exact h3
end Go.Proofs.YtibbenhplmmmiaaGreatDoor.Ga

namespace Go.Proofs.YtibbenhplmmmiaaGreatDoor.Ga
open Go.RowKit
attribute [local go_sem] z0e z0b z0c z0f z0m z0k z0h z0d z0g
attribute [local go_sem high] cellMA frozenMA setMA cellMAM frozenMAM setMAM cellMAA frozenMAA setMAA cellMAAM frozenMAAM setMAAM cellMAMA frozenMAMA setMAMA cellMAMAM frozenMAMAM setMAMAM cellMAMAMA frozenMAMAMA setMAMAMA cellMAMAMAM frozenMAMAMAM setMAMAMAM
theorem FI_two:FI 4611686018427387904 2:=by
 have h:floatOfInt .f64 2=4611686018427387904:=by decide +kernel
 rw [← h];exact z0y 2 (by decide)
theorem floor_num (r:Nat) (s:Bool) (m:Nat) (i:Int) (h:FloatKind.f64.decode r=.number s m i) :
  Extern.MathFloor.toIntegral "math.archFloor" .down #[.float .f64 r]=pure (.float .f64 (FloatKind.f64.encode ((FloatKind.f64.decode r).integral .down))):=by
 delta Extern.MathFloor.toIntegral
 conv=>lhs;whnf
 generalize FloatKind.f64.decode r=d at *
 subst h
 rfl
theorem arch_floor (r:Nat) (s:Bool) (m:Nat) (i:Int) (h:Ieee.double.read r=.number s m i) (w:World) :
  (callFunc 312 #[.float .f64 r]).run Tryz.prog w=.ok (.value (.float .f64 (Ieee.double.write ((Ieee.double.read r).integral .down)))) w:=by
 rw [run_callFunc_extern Tryz.func312 gK gK gK (e:=Extern.MathFloor.toIntegral "math.archFloor" .down) gK]
 rw [floor_num r s m i h]
 rfl
theorem floor_any (r:Nat) (s:Bool) (m:Nat) (i:Int) (h:Ieee.double.read r=.number s m i) (w:World) :
  Calls Tryz.prog 300 #[.float .f64 r] w fun e w'=>e=.returned (.float .f64 (Ieee.double.write ((Ieee.double.read r).integral .down)))∧Grew w w':=by
 have F:=fun w=>arch_floor r s m i h w
 clear h
 generalize Ieee.double.write ((Ieee.double.read r).integral .down)=q at *
 go_enter Tryz.func300,Tryz.ntmps300
 go_wp2
 all_goals go_ret
 all_goals exact ⟨rfl,gA⟩
theorem z7t {a b:Nat} {o u:Int} (ha:FI a o) (hb:FI b u) (hu:0<u) (hu2:u<281474976710656) (ho:-281474976710656<o∧o<281474976710656) :
  ∃ q,FI q (nst o u)∧∀ w,Calls Tryz.prog 277 #[.float .f64 a,.float .f64 b] w fun e w'=>e=.returned (.float .f64 q)∧Grew w w':=by
 obtain ⟨r1,e1,f1⟩:=FI_two.mul ha (by omega)
 obtain ⟨r2,e2,f2⟩:=f1.add hb (by omega)
 obtain ⟨r3,e3,f3⟩:=FI_two.mul hb (by omega)
 obtain ⟨r4,e4,f4,s,m,i,hr⟩:=f2.part f3 (by omega) (by omega) (by omega)
 refine ⟨_,f4,fun w=>?_⟩
 have F:=fun W=>floor_any r4 s m i hr W
 have h1:∀ t w,(binOp .mul t (.float .f64 4611686018427387904) (.float .f64 a)).run Tryz.prog w=.ok (.float .f64 r1) w:=fun t w=>run_float_arith w .mul t .f64 _ _ _ e1
 have h2:∀ t w,(binOp .add t (.float .f64 r1) (.float .f64 b)).run Tryz.prog w=.ok (.float .f64 r2) w:=fun t w=>run_float_arith w .add t .f64 _ _ _ e2
 have h3:∀ t w,(binOp .mul t (.float .f64 4611686018427387904) (.float .f64 b)).run Tryz.prog w=.ok (.float .f64 r3) w:=fun t w=>run_float_arith w .mul t .f64 _ _ _ e3
 have h4:∀ t w,(binOp .quo t (.float .f64 r2) (.float .f64 r3)).run Tryz.prog w=.ok (.float .f64 r4) w:=fun t w=>run_float_arith w .quo t .f64 _ _ _ e4
 generalize Ieee.double.write ((Ieee.double.read r4).integral .down)=q at *
 clear ha hb hu hu2 ho e1 e2 e3 e4 f1 f2 f3 f4 hr
 go_enter Tryz.func277,Tryz.ntmps277
 go_wp2_with (go_at_call 300;refine (F _).mono ?_;rintro e w' ⟨rfl,os,n,rfl⟩)
 all_goals go_ret
 all_goals exact ⟨rfl,gA⟩
theorem parted_names {a b c d:Nat} {x y u v:Int} (ha:FI a x) (hb:FI b y) (hc:FI c u) (hd:FI d v) (hx:-1048576≤x∧x≤1048576) (hy:-1048576≤y∧y≤1048576)
  (hu:-1048576≤u∧u≤1048576) (hv:-1048576≤v∧v≤1048576) (hn:0<u*u+v*v) :
  ∃ qa qb ra rb,FI qa (qX x y u v)∧FI qb (qY x y u v)∧FI ra (rX x y u v)∧FI rb (rY x y u v) ∧
   ∀ w,Calls Tryz.prog 233 #[cv a b,cv c d] w fun e w'=>e=.returned (.tuple #[cv qa qb,cv ra rb])∧Grew w w':=by
 obtain ⟨o1,o2,em,f1,f2⟩:=z5d 1048576 1048576 (by decide) (by decide) ha hb hc hd.neg hx.1 hx.2 hy.1 hy.2 hu.1 hu.2 (by omega) (by omega)
 have g1:x*u - y*-v=x*u+y*v:=by rw [Int.mul_neg];omega
 have g2:x*-v+y*u=y*u - x*v:=by rw [Int.mul_neg];omega
 rw [g1] at f1
 rw [g2] at f2
 obtain ⟨nn,fn,Sq⟩:=z9n hc hd (by omega) (by omega) (by omega) (by omega)
 have mu:=z1f (A:=1048576) (B:=1048576) (by decide) hu.1 hu.2 hu.1 hu.2
 have mv:=z1f (A:=1048576) (B:=1048576) (by decide) hv.1 hv.2 hv.1 hv.2
 have m1:=z1f (A:=1048576) (B:=1048576) (by decide) hx.1 hx.2 hu.1 hu.2
 have m2:=z1f (A:=1048576) (B:=1048576) (by decide) hy.1 hy.2 hv.1 hv.2
 have m3:=z1f (A:=1048576) (B:=1048576) (by decide) hy.1 hy.2 hu.1 hu.2
 have m4:=z1f (A:=1048576) (B:=1048576) (by decide) hx.1 hx.2 hv.1 hv.2
 obtain ⟨qa,k1,N1⟩:=z7t f1 fn hn (by omega) (by omega)
 obtain ⟨qb,k2,N2⟩:=z7t f2 fn hn (by omega) (by omega)
 have k1':FI qa (qX x y u v):=k1
 have k2':FI qb (qY x y u v):=k2
 have hq:=quo_ok x y u v hx hy hn
 obtain ⟨p1,p2,ep,l1,l2⟩:=z5d 1048576 1048576 (by decide) (by decide) hc hd k1' k2' hu.1 hu.2 hv.1 hv.2 hq.1.1 hq.1.2 hq.2.1 hq.2.2
 have hr:=rest_ok x y u v hu hv hn
 have hr1:x - (u*qX x y u v - v*qY x y u v)=rX x y u v:=rfl
 have hr2:y - (u*qY x y u v+v*qX x y u v)=rY x y u v:=rfl
 obtain ⟨ra,rb,er,z1,z2⟩:=csub_names ha hb l1 l2 (by rw [hr1];omega) (by rw [hr2];omega)
 refine ⟨qa,qb,ra,rb,k1',k2',z1,z2,fun w=>?_⟩
 have M:=fun W=>z9k c d W
 have h1:=fun t w=>run_complex_mul (P:=Tryz.prog) w t _ _ _ _ o1 o2 em
 have h2:=fun t w=>run_complex_mul (P:=Tryz.prog) w t _ _ _ _ p1 p2 ep
 have h3:=fun t w=>run_complex_sum (P:=Tryz.prog) w .sub (Or.inr rfl) t .f64 _ _ _ _ ra rb er
 generalize Op.negFloat .f64 d=e at *
 clear ha hb hc hd hx hy hu hv hn em f1 f2 g1 g2 fn mu mv m1 m2 m3 m4 k1 k2 k1' k2' hq ep l1 l2 hr hr1 hr2 er z1 z2
 go_enter Tryz.func233,Tryz.ntmps233
 go_wp2_with (first
  | (go_at_call 276;refine (M _).mono ?_;rintro e w' ⟨rfl,os,n,rfl⟩)
  | (go_at_call 237;refine (Sq _).mono ?_;rintro e w' ⟨rfl,os,n,rfl⟩)
  | (go_at_call_of 277 (Value.float FloatKind.f64 o1);refine (N1 _).mono ?_;rintro e w' ⟨rfl,os,n,rfl⟩)
  | (go_at_call_of 277 (Value.float FloatKind.f64 o2);refine (N2 _).mono ?_;rintro e w' ⟨rfl,os,n,rfl⟩))
 refine bodyPost_ret_by (v:=.tuple #[cv qa qb,cv ra rb]) ?_ rfl ⟨rfl,?_⟩
 ·simp [results,Tryz.results233,go_sem]
 ·exact gA
end Go.Proofs.YtibbenhplmmmiaaGreatDoor.Ga

namespace Go.Proofs.YtibbenhplmmmiaaGreatDoor.Ga
open Go.RowKit
attribute [local go_sem] z0e z0b z0c z0f z0m z0k z0h z0d z0g
attribute [local go_sem high] cellMA frozenMA setMA cellMAM frozenMAM setMAM cellMAA frozenMAA setMAA cellMAAM frozenMAAM setMAAM cellMAMA frozenMAMA setMAMA cellMAMAM frozenMAMAM setMAMAM cellMAMAMA frozenMAMAMA setMAMAMA cellMAMAMAM frozenMAMAMAM setMAMAMAM
theorem eqPt (a b c d:Int) (w:World):(Op.equalIn 10000 77 (.agg #[.int .i64 a,.int .i64 b]) (.agg #[.int .i64 c,.int .i64 d])).run Tryz.prog w=.ok (a==c&&b==d) w:=by
 have u3:=Tryz.underlying3
 have a3:=Tryz.isAgg3
 have z3:=Tryz.sizeOf3
 have hS:Tryz.prog.underlying 77=some (.struct (Tryz.prog.fieldsOf 77)):=by kernel_rfl
 have hp:Tryz.prog.stoodInHeld 77=false:=by kernel_rfl
 rw [show (10000:Nat)=9999+1 from rfl,run_equalIn_agg w 9999 77 _ _ hS hp]
 simp only [Program.fieldsOf,Tryz.underlying77]
 go_simp
 by_cases h1:a=c <;> by_cases h2:b=d <;> simp [h1,h2]
attribute [local go_sem high] eqPt
theorem div_bad (x y u v:Int) (w:World) (hr:(ok2 x y&&ok2 u v)=false) :
  Calls Tryz.prog 173 #[pv x y,pv u v] w fun e w'=>e=.returned (.tuple #[pv 0 0,pv 0 0,.int .i64 1])∧Grew w w':=by
 have Ra:=fun W=>right_any x y W
 have Rb:=fun W=>right_any u v W
 cases ha:ok2 x y
 ·rw [ha] at Ra
  clear Rb hr ha
  go_enter Tryz.func173,Tryz.ntmps173
  go_wp2_with (go_at_call 88;refine (Ra _).mono ?_;rintro e w' ⟨rfl,os,n,rfl⟩)
  refine bodyPost_ret_by (v:=.tuple #[pv 0 0,pv 0 0,.int .i64 1]) ?_ rfl ⟨rfl,?_⟩
  ·simp [results,Tryz.results173,go_sem]
  ·exact gA
 ·rw [ha] at Ra hr
  have hb:ok2 u v=false:=by simpa using hr
  rw [hb] at Rb
  clear hb hr ha
  go_enter Tryz.func173,Tryz.ntmps173
  go_wp2_with fail
  refine (Ra _).mono ?_
  rintro e w' ⟨rfl,os,n,rfl⟩
  go_wp2_with fail
  refine (Rb _).mono ?_
  rintro e w' ⟨rfl,os',n',rfl⟩
  go_wp2
  refine bodyPost_ret_by (v:=.tuple #[pv 0 0,pv 0 0,.int .i64 1]) ?_ rfl ⟨rfl,?_⟩
  ·simp [results,Tryz.results173,go_sem]
  ·exact gA
theorem div_zero (x y:Int) (w:World) (hr:ok2 x y=true) :
  Calls Tryz.prog 173 #[pv x y,pv 0 0] w fun e w'=>e=.returned (.tuple #[pv 0 0,pv 0 0,.int .i64 33])∧Grew w w':=by
 have Ra:=fun W=>right_any x y W
 have Rb:=fun W=>right_any 0 0 W
 rw [hr] at Ra
 rw [show ok2 0 0=true from rfl] at Rb
 clear hr
 go_enter Tryz.func173,Tryz.ntmps173
 go_wp2_with fail
 refine (Ra _).mono ?_
 rintro e w' ⟨rfl,os,n,rfl⟩
 go_wp2_with fail
 refine (Rb _).mono ?_
 rintro e w' ⟨rfl,os',n',rfl⟩
 go_wp2
 refine bodyPost_ret_by (v:=.tuple #[pv 0 0,pv 0 0,.int .i64 33]) ?_ rfl ⟨rfl,?_⟩
 ·simp [results,Tryz.results173,go_sem]
 ·exact gA
theorem div_good (x y u v:Int) (w:World) (ha:ok2 x y=true) (hb:ok2 u v=true) (hn:0<u*u+v*v) :
  Calls Tryz.prog 173 #[pv x y,pv u v] w fun e w'=>e=.returned (.tuple #[pv (qX x y u v) (qY x y u v),pv (rX x y u v) (rY x y u v),.int .i64 0])∧Grew w w':=by
 have Ra:=fun W=>right_any x y W
 have Rb:=fun W=>right_any u v W
 rw [ha] at Ra
 rw [hb] at Rb
 rw [ok2_iff] at ha hb
 have hx:-1048576≤x∧x≤1048576:=⟨ha.1,ha.2.1⟩
 have hy:-1048576≤y∧y≤1048576:=⟨ha.2.2.1,ha.2.2.2⟩
 have hu:-1048576≤u∧u≤1048576:=⟨hb.1,hb.2.1⟩
 have hv:-1048576≤v∧v≤1048576:=⟨hb.2.2.1,hb.2.2.2⟩
 have Na:=fun W=>z2b x y W
 have Nb:=fun W=>z2b u v W
 obtain ⟨qa,qb,ra,rb,f1,f2,f3,f4,P⟩:=parted_names (z0y x (by omega)) (z0y y (by omega)) (z0y u (by omega)) (z0y v (by omega)) hx hy hu hv hn
 have hq:=quo_ok x y u v hx hy hn
 have hr:=rest_ok x y u v hu hv hn
 have P1:=fun W=>z3h qa qb _ _ W f1 f2 (by omega) (by omega)
 have P2:=fun W=>z3h ra rb _ _ W f3 f4 (by omega) (by omega)
 have hne:¬ (u=0∧v=0):=by
  rintro ⟨rfl,rfl⟩
  exact absurd hn (by decide)
 generalize qX x y u v=c1 at *
 generalize qY x y u v=c2 at *
 generalize rX x y u v=r1 at *
 generalize rY x y u v=r2 at *
 generalize floatOfInt .f64 x=a at *
 generalize floatOfInt .f64 y=b at *
 generalize floatOfInt .f64 u=c at *
 generalize floatOfInt .f64 v=d at *
 clear hx hy hu hv ha hb hn f1 f2 f3 f4 hq hr
 have hd:(u==0&&v==0)=false:=by simpa using hne
 go_enter Tryz.func173,Tryz.ntmps173
 go_wp2_with fail
 refine (Ra _).mono ?_
 rintro e w' ⟨rfl,os,n,rfl⟩
 go_wp2_with fail
 refine (Rb _).mono ?_
 rintro e w' ⟨rfl,os',n',rfl⟩
 go_wp2_with fail
 clear hd hne
 go_region_held2 (fun W=>W.cell? ⟨w.heap.size,0,none⟩=some (.int .i64 x)∧W.cell? ⟨w.heap.size,1,none⟩=some (.int .i64 y)∧W.cell? ⟨w.heap.size+1,0,none⟩=some (.int .i64 u)∧W.cell? ⟨w.heap.size+1,1,none⟩=some (.int .i64 v)) (simp (maxDischargeDepth:=12) [go_sem])
  ((first
   | (go_at_call_of 232 (Value.int IntKind.i64 x);refine (Na _).mono ?_;rintro e w' ⟨rfl,os1,n1,rfl⟩)
   | (go_at_call_of 232 (Value.int IntKind.i64 u);refine (Nb _).mono ?_;rintro e w' ⟨rfl,os2,n2,rfl⟩)
   | (go_at_call 233;refine (P _).mono ?_;rintro e w' ⟨rfl,os3,n3,rfl⟩)))
 all_goals go_wp2_with (first
  | (go_at_call_of 234 (cv qa qb);refine (P1 _).mono ?_;rintro e w' ⟨rfl,os4,n4,rfl⟩)
  | (go_at_call_of 234 (cv ra rb);refine (P2 _).mono ?_;rintro e w' ⟨rfl,os5,n5,rfl⟩))
 all_goals refine bodyPost_ret_by (v:=.tuple #[pv c1 c2,pv r1 r2,.int .i64 0]) ?_ rfl ⟨rfl,?_⟩
 all_goals first
  | (simp [results,Tryz.results173,go_sem];done)
  | (repeat exact gA)
end Go.Proofs.YtibbenhplmmmiaaGreatDoor.Ga

namespace Go.Proofs.YtibbenhplmmmiaaGreatDoor.Ga
open Go.RowKit
attribute [local go_sem] z0e z0b z0c z0f z0m z0k z0h z0d z0g
attribute [local go_sem high] cellMA frozenMA setMA cellMAM frozenMAM setMAM cellMAA frozenMAA setMAA cellMAAM frozenMAAM setMAAM cellMAMA frozenMAMA setMAMA cellMAMAM frozenMAMAM setMAMAM cellMAMAMA frozenMAMAMA setMAMAMA cellMAMAMAM frozenMAMAMAM setMAMAMAM
theorem z7u (n:Int):bits .and .i64 n 3=n%4:=by
 have h:IntKind.i64.wrap (((BitVec.ofInt 64 n &&& BitVec.ofInt 64 3).toNat:Nat):Int)=n%4:=by
  rw [IntKind.wrap_i64,BitVec.toNat_and,BitVec.toNat_ofInt,BitVec.toNat_ofInt]
  have h3:((3:Int)%((2^64:Nat):Int)).toNat=2^2 - 1:=by decide
  rw [h3,Nat.and_two_pow_sub_one_eq_mod]
  omega
 exact h
theorem turn_good0 (x y n:Int) (w:World) (h:ok2 x y=true) (hk:n%4=0):Calls Tryz.prog 242 #[pv x y,.int .i64 n] w fun e w'=>e=.returned (pv (x) (y))∧Grew w w':=by
 have R:=fun W=>right_any x y W
 rw [h] at R
 rw [ok2_iff] at h
 have Nn:=fun W=>z2b x y W
 have A3:=z7u n
 rw [hk] at A3
 have P:=fun W=>z3h (floatOfInt .f64 x) (floatOfInt .f64 y) (x) (y) W (z0y x (by omega)) (z0y y (by omega)) (by omega) (by omega)
 generalize floatOfInt .f64 x=a at *
 generalize floatOfInt .f64 y=b at *
 generalize hX:(x:Int)=X at *
 generalize hY:(y:Int)=Y at *
 clear h hk
 go_enter Tryz.func242,Tryz.ntmps242
 go_wp2_with (first
  | (go_at_call 88;refine (R _).mono ?_;rintro e w' ⟨rfl,os,n,rfl⟩)
  | (go_at_call 232;refine (Nn _).mono ?_;rintro e w' ⟨rfl,os2,n2,rfl⟩))
 refine wp_loop_rounds 1 ?_
 rw [rounds_succ]
 go_wp2_with (go_at_call 234;refine (P _).mono ?_;rintro e w' ⟨rfl,os3,n3,rfl⟩)
 refine bodyPost_ret_by (v:=pv X Y) ?_ rfl ⟨rfl,?_⟩
 ·simp [results,Tryz.results242,go_sem]
 ·exact gA
theorem turn_good1 (x y n:Int) (w:World) (h:ok2 x y=true) (hk:n%4=1):Calls Tryz.prog 242 #[pv x y,.int .i64 n] w fun e w'=>e=.returned (pv (-y) (x))∧Grew w w':=by
 have R:=fun W=>right_any x y W
 rw [h] at R
 rw [ok2_iff] at h
 have Nn:=fun W=>z2b x y W
 have A3:=z7u n
 rw [hk] at A3
 obtain ⟨r0,i0,m0,f0,g0⟩:=z4m (z0y x (by omega)) (z0y y (by omega)) (by omega) (by omega) (by omega) (by omega)
 have h0:=fun t w=>run_complex_mul (P:=Tryz.prog) w t _ _ _ _ r0 i0 m0
 have P:=fun W=>z3h (r0) (i0) (-y) (x) W f0 g0 (by omega) (by omega)
 generalize floatOfInt .f64 x=a at *
 generalize floatOfInt .f64 y=b at *
 generalize hX:(-y:Int)=X at *
 generalize hY:(x:Int)=Y at *
 clear h hk m0 f0 g0 hX hY
 go_enter Tryz.func242,Tryz.ntmps242
 go_wp2_with (first
  | (go_at_call 88;refine (R _).mono ?_;rintro e w' ⟨rfl,os,n,rfl⟩)
  | (go_at_call 232;refine (Nn _).mono ?_;rintro e w' ⟨rfl,os2,n2,rfl⟩))
 refine wp_loop_rounds 2 ?_
 rw [rounds_succ]
 go_wp2_with fail
 rw [rounds_succ]
 go_wp2_with (go_at_call 234;refine (P _).mono ?_;rintro e w' ⟨rfl,os3,n3,rfl⟩)
 refine bodyPost_ret_by (v:=pv X Y) ?_ rfl ⟨rfl,?_⟩
 ·simp [results,Tryz.results242,go_sem]
 ·exact gA
theorem turn_good2 (x y n:Int) (w:World) (h:ok2 x y=true) (hk:n%4=2):Calls Tryz.prog 242 #[pv x y,.int .i64 n] w fun e w'=>e=.returned (pv (-x) (-y))∧Grew w w':=by
 have R:=fun W=>right_any x y W
 rw [h] at R
 rw [ok2_iff] at h
 have Nn:=fun W=>z2b x y W
 have A3:=z7u n
 rw [hk] at A3
 obtain ⟨r0,i0,m0,f0,g0⟩:=z4m (z0y x (by omega)) (z0y y (by omega)) (by omega) (by omega) (by omega) (by omega)
 obtain ⟨r1,i1,m1,f1,g1⟩:=z4m f0 g0 (by omega) (by omega) (by omega) (by omega)
 have h0:=fun t w=>run_complex_mul (P:=Tryz.prog) w t _ _ _ _ r0 i0 m0
 have h1:=fun t w=>run_complex_mul (P:=Tryz.prog) w t _ _ _ _ r1 i1 m1
 have P:=fun W=>z3h (r1) (i1) (-x) (-y) W f1 g1 (by omega) (by omega)
 generalize floatOfInt .f64 x=a at *
 generalize floatOfInt .f64 y=b at *
 generalize hX:(-x:Int)=X at *
 generalize hY:(-y:Int)=Y at *
 clear h hk m0 f0 g0 m1 f1 g1 hX hY
 go_enter Tryz.func242,Tryz.ntmps242
 go_wp2_with (first
  | (go_at_call 88;refine (R _).mono ?_;rintro e w' ⟨rfl,os,n,rfl⟩)
  | (go_at_call 232;refine (Nn _).mono ?_;rintro e w' ⟨rfl,os2,n2,rfl⟩))
 refine wp_loop_rounds 3 ?_
 rw [rounds_succ]
 go_wp2_with fail
 rw [rounds_succ]
 go_wp2_with fail
 rw [rounds_succ]
 go_wp2_with (go_at_call 234;refine (P _).mono ?_;rintro e w' ⟨rfl,os3,n3,rfl⟩)
 refine bodyPost_ret_by (v:=pv X Y) ?_ rfl ⟨rfl,?_⟩
 ·simp [results,Tryz.results242,go_sem]
 ·exact gA
theorem turn_good3 (x y n:Int) (w:World) (h:ok2 x y=true) (hk:n%4=3):Calls Tryz.prog 242 #[pv x y,.int .i64 n] w fun e w'=>e=.returned (pv (-(-y)) (-x))∧Grew w w':=by
 have R:=fun W=>right_any x y W
 rw [h] at R
 rw [ok2_iff] at h
 have Nn:=fun W=>z2b x y W
 have A3:=z7u n
 rw [hk] at A3
 obtain ⟨r0,i0,m0,f0,g0⟩:=z4m (z0y x (by omega)) (z0y y (by omega)) (by omega) (by omega) (by omega) (by omega)
 obtain ⟨r1,i1,m1,f1,g1⟩:=z4m f0 g0 (by omega) (by omega) (by omega) (by omega)
 obtain ⟨r2,i2,m2,f2,g2⟩:=z4m f1 g1 (by omega) (by omega) (by omega) (by omega)
 have h0:=fun t w=>run_complex_mul (P:=Tryz.prog) w t _ _ _ _ r0 i0 m0
 have h1:=fun t w=>run_complex_mul (P:=Tryz.prog) w t _ _ _ _ r1 i1 m1
 have h2:=fun t w=>run_complex_mul (P:=Tryz.prog) w t _ _ _ _ r2 i2 m2
 have P:=fun W=>z3h (r2) (i2) (-(-y)) (-x) W f2 g2 (by omega) (by omega)
 generalize floatOfInt .f64 x=a at *
 generalize floatOfInt .f64 y=b at *
 generalize hX:(-(-y):Int)=X at *
 generalize hY:(-x:Int)=Y at *
 clear h hk m0 f0 g0 m1 f1 g1 m2 f2 g2 hX hY
 go_enter Tryz.func242,Tryz.ntmps242
 go_wp2_with (first
  | (go_at_call 88;refine (R _).mono ?_;rintro e w' ⟨rfl,os,n,rfl⟩)
  | (go_at_call 232;refine (Nn _).mono ?_;rintro e w' ⟨rfl,os2,n2,rfl⟩))
 refine wp_loop_rounds 4 ?_
 rw [rounds_succ]
 go_wp2_with fail
 rw [rounds_succ]
 go_wp2_with fail
 rw [rounds_succ]
 go_wp2_with fail
 rw [rounds_succ]
 go_wp2_with (go_at_call 234;refine (P _).mono ?_;rintro e w' ⟨rfl,os3,n3,rfl⟩)
 refine bodyPost_ret_by (v:=pv X Y) ?_ rfl ⟨rfl,?_⟩
 ·simp [results,Tryz.results242,go_sem]
 ·exact gA
def turnX (x y n:Int):Int:=if n%4=0 then x else if n%4=1 then -y else if n%4=2 then -x else y
def turnY (x y n:Int):Int:=if n%4=0 then y else if n%4=1 then x else if n%4=2 then -y else -x
theorem turn_good (x y n:Int) (w:World) (h:ok2 x y=true):Calls Tryz.prog 242 #[pv x y,.int .i64 n] w fun e w'=>e=.returned (pv (turnX x y n) (turnY x y n))∧Grew w w':=by
 have hc:n%4=0∨n%4=1∨n%4=2∨n%4=3:=by omega
 rcases hc with hk|hk|hk|hk
 ·simpa [turnX,turnY,hk] using turn_good0 x y n w h hk
 ·simpa [turnX,turnY,hk] using turn_good1 x y n w h hk
 ·simpa [turnX,turnY,hk] using turn_good2 x y n w h hk
 ·simpa [turnX,turnY,hk] using turn_good3 x y n w h hk
end Go.Proofs.YtibbenhplmmmiaaGreatDoor.Ga

namespace Go.Proofs.YtibbenhplmmmiaaGreatDoor.Ga
open Go.RowKit
attribute [local go_sem] z0e z0b z0c z0f z0m z0k z0h z0d z0g
attribute [local go_sem high] cellMA frozenMA setMA cellMAM frozenMAM setMAM cellMAA frozenMAA setMAA cellMAAM frozenMAAM setMAAM cellMAMA frozenMAMA setMAMA cellMAMAM frozenMAMAM setMAMAM cellMAMAMA frozenMAMAMA setMAMAMA cellMAMAMAM frozenMAMAMAM setMAMAMAM
theorem rright_any (x y:Int) (w:World):Calls Tryz.prog 47 #[pv x y] w fun e w'=>e=.returned (.bool (ok2 x y))∧Grew w w':=by
 by_cases h1:-1048576≤x
 ·by_cases h2:x≤1048576
  ·by_cases h3:-1048576≤y
   ·by_cases h4:y≤1048576
    ·have hr:ok2 x y=true:=by simp [ok2,h1,h2,h3,h4]
     rw [hr]
     go_enter Tryz.func47,Tryz.ntmps47
     go_wp2
     all_goals go_ret
     all_goals exact ⟨rfl,gA⟩
    ·have hr:ok2 x y=false:=by simp [ok2,h4]
     rw [hr]
     go_enter Tryz.func47,Tryz.ntmps47
     go_wp2
     all_goals go_ret
     all_goals exact ⟨rfl,gA⟩
   ·have hr:ok2 x y=false:=by simp [ok2,h3]
    rw [hr]
    go_enter Tryz.func47,Tryz.ntmps47
    go_wp2
    all_goals go_ret
    all_goals exact ⟨rfl,gA⟩
  ·have hr:ok2 x y=false:=by simp [ok2,h2]
   rw [hr]
   go_enter Tryz.func47,Tryz.ntmps47
   go_wp2
   all_goals go_ret
   all_goals exact ⟨rfl,gA⟩
 ·have hr:ok2 x y=false:=by simp [ok2,h1]
  rw [hr]
  go_enter Tryz.func47,Tryz.ntmps47
  go_wp2
  all_goals go_ret
  all_goals exact ⟨rfl,gA⟩
theorem z9e (x y:Int) (w:World):Calls Tryz.prog 283 #[pv x y] w fun e w'=>e=.returned (tv x y)∧Grew w w':=by
 have R:=fun W=>rright_any x y W
 by_cases h:ok2 x y=true
 ·have e1:tX x y=x:=by simp [tX,h]
  have e2:tY x y=y:=by simp [tY,h]
  have e3:tE x y=0:=by simp [tE,h]
  unfold tv
  rw [e1,e2,e3]
  rw [h] at R
  clear e1 e2 e3 h
  go_enter Tryz.func283,Tryz.ntmps283
  go_wp2_with (go_at_call 47;refine (R _).mono ?_;rintro e w' ⟨rfl,os2,n2,rfl⟩)
  refine bodyPost_ret_by (v:=.tuple #[pv x y,.int .i64 0]) ?_ rfl ⟨rfl,?_⟩
  ·simp [results,Tryz.results283,go_sem]
  ·exact gA
 ·have h':ok2 x y=false:=by simpa using h
  have e1:tX x y=0:=by simp [tX,h']
  have e2:tY x y=0:=by simp [tY,h']
  have e3:tE x y=32:=by simp [tE,h']
  unfold tv
  rw [e1,e2,e3]
  rw [h'] at R
  clear e1 e2 e3 h h'
  go_enter Tryz.func283,Tryz.ntmps283
  go_wp2_with (go_at_call 47;refine (R _).mono ?_;rintro e w' ⟨rfl,os2,n2,rfl⟩)
  refine bodyPost_ret_by (v:=.tuple #[pv 0 0,.int .i64 32]) ?_ rfl ⟨rfl,?_⟩
  ·simp [results,Tryz.results283,go_sem]
  ·exact gA
theorem radd_good (x y u v:Int) (w:World) (ha:ok2 x y=true) (hb:ok2 u v=true) :
  Calls Tryz.prog 253 #[pv x y,pv u v] w fun e w'=>e=.returned (tv (x+u) (y+v))∧Grew w w':=by
 have Ra:=fun W=>rright_any x y W
 have Rb:=fun W=>rright_any u v W
 rw [ha] at Ra
 rw [hb] at Rb
 rw [ok2_iff] at ha hb
 have m1:=z1f (A:=1048576) (B:=1048576) (by decide) ha.1 ha.2.1 hb.1 hb.2.1
 have m2:=z1f (A:=1048576) (B:=1048576) (by decide) ha.2.2.1 ha.2.2.2 hb.2.2.1 hb.2.2.2
 have m3:=z1f (A:=1048576) (B:=1048576) (by decide) ha.1 ha.2.1 hb.2.2.1 hb.2.2.2
 have m4:=z1f (A:=1048576) (B:=1048576) (by decide) ha.2.2.1 ha.2.2.2 hb.1 hb.2.1
 have T:=fun W=>z9e (x+u) (y+v) W
 have e0:IntKind.i64.wrap (x+u)=x+u:=by rw [IntKind.wrap_i64];omega
 have e1:IntKind.i64.wrap (y+v)=y+v:=by rw [IntKind.wrap_i64];omega
 unfold tv at T ⊢
 generalize tX (x+u) (y+v)=X at *
 generalize tY (x+u) (y+v)=Y at *
 generalize tE (x+u) (y+v)=E at *
 clear m1 m2 m3 m4 ha hb
 go_enter Tryz.func253,Tryz.ntmps253
 go_wp2_with fail
 refine (Ra _).mono ?_
 rintro e w' ⟨rfl,os,n,rfl⟩
 go_wp2_with fail
 refine (Rb _).mono ?_
 rintro e w' ⟨rfl,os',n',rfl⟩
 go_wp2_with (go_at_call 283;refine (T _).mono ?_;rintro e w' ⟨rfl,os3,n3,rfl⟩)
 refine bodyPost_ret_by (v:=.tuple #[pv X Y,.int .i64 E]) ?_ rfl ⟨rfl,?_⟩
 ·simp [results,Tryz.results253,go_sem]
 ·exact gA
theorem rsub_bad (x y u v:Int) (w:World) (hr:(ok2 x y&&ok2 u v)=false) :
  Calls Tryz.prog 254 #[pv x y,pv u v] w fun e w'=>e=.returned (.tuple #[pv 0 0,.int .i64 1])∧Grew w w':=by
 have Ra:=fun W=>rright_any x y W
 have Rb:=fun W=>rright_any u v W
 cases ha:ok2 x y
 ·rw [ha] at Ra
  clear Rb hr ha
  go_enter Tryz.func254,Tryz.ntmps254
  go_wp2_with (go_at_call 47;refine (Ra _).mono ?_;rintro e w' ⟨rfl,os,n,rfl⟩)
  refine bodyPost_ret_by (v:=.tuple #[pv 0 0,.int .i64 1]) ?_ rfl ⟨rfl,?_⟩
  ·simp [results,Tryz.results254,go_sem]
  ·exact gA
 ·rw [ha] at Ra hr
  have hb:ok2 u v=false:=by simpa using hr
  rw [hb] at Rb
  clear hb hr ha
  go_enter Tryz.func254,Tryz.ntmps254
  go_wp2_with fail
  refine (Ra _).mono ?_
  rintro e w' ⟨rfl,os,n,rfl⟩
  go_wp2_with fail
  refine (Rb _).mono ?_
  rintro e w' ⟨rfl,os',n',rfl⟩
  go_wp2
  refine bodyPost_ret_by (v:=.tuple #[pv 0 0,.int .i64 1]) ?_ rfl ⟨rfl,?_⟩
  ·simp [results,Tryz.results254,go_sem]
  ·exact gA
theorem rsub_good (x y u v:Int) (w:World) (ha:ok2 x y=true) (hb:ok2 u v=true) :
  Calls Tryz.prog 254 #[pv x y,pv u v] w fun e w'=>e=.returned (tv (x - u) (y - v))∧Grew w w':=by
 have Ra:=fun W=>rright_any x y W
 have Rb:=fun W=>rright_any u v W
 rw [ha] at Ra
 rw [hb] at Rb
 rw [ok2_iff] at ha hb
 have m1:=z1f (A:=1048576) (B:=1048576) (by decide) ha.1 ha.2.1 hb.1 hb.2.1
 have m2:=z1f (A:=1048576) (B:=1048576) (by decide) ha.2.2.1 ha.2.2.2 hb.2.2.1 hb.2.2.2
 have m3:=z1f (A:=1048576) (B:=1048576) (by decide) ha.1 ha.2.1 hb.2.2.1 hb.2.2.2
 have m4:=z1f (A:=1048576) (B:=1048576) (by decide) ha.2.2.1 ha.2.2.2 hb.1 hb.2.1
 have T:=fun W=>z9e (x - u) (y - v) W
 have e0:IntKind.i64.wrap (x - u)=x - u:=by rw [IntKind.wrap_i64];omega
 have e1:IntKind.i64.wrap (y - v)=y - v:=by rw [IntKind.wrap_i64];omega
 unfold tv at T ⊢
 generalize tX (x - u) (y - v)=X at *
 generalize tY (x - u) (y - v)=Y at *
 generalize tE (x - u) (y - v)=E at *
 clear m1 m2 m3 m4 ha hb
 go_enter Tryz.func254,Tryz.ntmps254
 go_wp2_with fail
 refine (Ra _).mono ?_
 rintro e w' ⟨rfl,os,n,rfl⟩
 go_wp2_with fail
 refine (Rb _).mono ?_
 rintro e w' ⟨rfl,os',n',rfl⟩
 go_wp2_with (go_at_call 283;refine (T _).mono ?_;rintro e w' ⟨rfl,os3,n3,rfl⟩)
 refine bodyPost_ret_by (v:=.tuple #[pv X Y,.int .i64 E]) ?_ rfl ⟨rfl,?_⟩
 ·simp [results,Tryz.results254,go_sem]
 ·exact gA
theorem rmul_good (x y u v:Int) (w:World) (ha:ok2 x y=true) (hb:ok2 u v=true) :
  Calls Tryz.prog 252 #[pv x y,pv u v] w fun e w'=>e=.returned (tv (x*u - y*v) (x*v+y*u))∧Grew w w':=by
 have Ra:=fun W=>rright_any x y W
 have Rb:=fun W=>rright_any u v W
 rw [ha] at Ra
 rw [hb] at Rb
 rw [ok2_iff] at ha hb
 have m1:=z1f (A:=1048576) (B:=1048576) (by decide) ha.1 ha.2.1 hb.1 hb.2.1
 have m2:=z1f (A:=1048576) (B:=1048576) (by decide) ha.2.2.1 ha.2.2.2 hb.2.2.1 hb.2.2.2
 have m3:=z1f (A:=1048576) (B:=1048576) (by decide) ha.1 ha.2.1 hb.2.2.1 hb.2.2.2
 have m4:=z1f (A:=1048576) (B:=1048576) (by decide) ha.2.2.1 ha.2.2.2 hb.1 hb.2.1
 have T:=fun W=>z9e (x*u - y*v) (x*v+y*u) W
 have e0:IntKind.i64.wrap (x*u)=x*u:=by rw [IntKind.wrap_i64];omega
 have e1:IntKind.i64.wrap (y*v)=y*v:=by rw [IntKind.wrap_i64];omega
 have e2:IntKind.i64.wrap (x*v)=x*v:=by rw [IntKind.wrap_i64];omega
 have e3:IntKind.i64.wrap (y*u)=y*u:=by rw [IntKind.wrap_i64];omega
 have e4:IntKind.i64.wrap (x*u - y*v)=x*u - y*v:=by rw [IntKind.wrap_i64];omega
 have e5:IntKind.i64.wrap (x*v+y*u)=x*v+y*u:=by rw [IntKind.wrap_i64];omega
 unfold tv at T ⊢
 generalize tX (x*u - y*v) (x*v+y*u)=X at *
 generalize tY (x*u - y*v) (x*v+y*u)=Y at *
 generalize tE (x*u - y*v) (x*v+y*u)=E at *
 clear m1 m2 m3 m4 ha hb
 go_enter Tryz.func252,Tryz.ntmps252
 go_wp2_with fail
 refine (Ra _).mono ?_
 rintro e w' ⟨rfl,os,n,rfl⟩
 go_wp2_with fail
 refine (Rb _).mono ?_
 rintro e w' ⟨rfl,os',n',rfl⟩
 go_wp2_with (go_at_call 283;refine (T _).mono ?_;rintro e w' ⟨rfl,os3,n3,rfl⟩)
 refine bodyPost_ret_by (v:=.tuple #[pv X Y,.int .i64 E]) ?_ rfl ⟨rfl,?_⟩
 ·simp [results,Tryz.results252,go_sem]
 ·exact gA
theorem rnorm_any (x y:Int) (w:World):Calls Tryz.prog 122 #[pv x y] w fun e w'=>e=.returned (.int .i64 (nrm x y))∧Grew w w':=by
 have R:=fun W=>rright_any x y W
 by_cases h:ok2 x y=true
 ·rw [h] at R
  have e1:nrm x y=x*x+y*y:=by simp [nrm,h]
  rw [e1]
  rw [ok2_iff] at h
  have m1:=z1f (A:=1048576) (B:=1048576) (by decide) h.1 h.2.1 h.1 h.2.1
  have m2:=z1f (A:=1048576) (B:=1048576) (by decide) h.2.2.1 h.2.2.2 h.2.2.1 h.2.2.2
  have e2:IntKind.i64.wrap (x*x)=x*x:=by rw [IntKind.wrap_i64];omega
  have e3:IntKind.i64.wrap (y*y)=y*y:=by rw [IntKind.wrap_i64];omega
  have e4:IntKind.i64.wrap (x*x+y*y)=x*x+y*y:=by rw [IntKind.wrap_i64];omega
  clear m1 m2 h e1
  go_enter Tryz.func122,Tryz.ntmps122
  go_wp2_with (go_at_call 47;refine (R _).mono ?_;rintro e w' ⟨rfl,os,n,rfl⟩)
  all_goals go_ret
  all_goals exact ⟨rfl,gA⟩
 ·have h':ok2 x y=false:=by simpa using h
  have e1:nrm x y=0:=by simp [nrm,h']
  rw [e1]
  rw [h'] at R
  clear h h' e1
  go_enter Tryz.func122,Tryz.ntmps122
  go_wp2_with (go_at_call 47;refine (R _).mono ?_;rintro e w' ⟨rfl,os,n,rfl⟩)
  all_goals go_ret
  all_goals exact ⟨rfl,gA⟩
end Go.Proofs.YtibbenhplmmmiaaGreatDoor.Ga

namespace Go.Proofs.YtibbenhplmmmiaaGreatDoor.Ga
open Go.RowKit
attribute [local go_sem] z0e z0b z0c z0f z0m z0k z0h z0d z0g
attribute [local go_sem high] cellMA frozenMA setMA cellMAM frozenMAM setMAM cellMAA frozenMAA setMAA cellMAAM frozenMAAM setMAAM cellMAMA frozenMAMA setMAMA cellMAMAM frozenMAMAM setMAMAM cellMAMAMA frozenMAMAMA setMAMAMA cellMAMAMAM frozenMAMAMAM setMAMAMAM
theorem tdiv_floor (n d:Int) (hd:0<d):(n.tmod d<0∧n.tdiv d - 1=n / d)∨(¬ n.tmod d<0∧n.tdiv d=n / d):=by
 have h1:=Int.mul_tdiv_add_tmod n d
 have h2:=Int.mul_ediv_add_emod n d
 have h3:=Int.emod_nonneg n (show d≠0 by omega)
 have h4:=Int.emod_lt_of_pos n hd
 have h5:=Int.tmod_lt_of_pos n hd
 have h6:=Int.lt_tmod_of_pos n hd
 by_cases h:n.tmod d<0
 ·refine Or.inl ⟨h,?_⟩
  have e:d*(n.tdiv d - 1 - n / d)=d*n.tdiv d - d - d*(n / d):=by grind
  rcases Int.lt_trichotomy (n.tdiv d - 1 - n / d) 0 with k|k|k
  ·have:d*(n.tdiv d - 1 - n / d)≤d*(-1):=Int.mul_le_mul_of_nonneg_left (by omega) (by omega)
   omega
  ·omega
  ·have:d*1≤d*(n.tdiv d - 1 - n / d):=Int.mul_le_mul_of_nonneg_left (by omega) (by omega)
   omega
 ·refine Or.inr ⟨h,?_⟩
  have e:d*(n.tdiv d - n / d)=d*n.tdiv d - d*(n / d):=by grind
  rcases Int.lt_trichotomy (n.tdiv d - n / d) 0 with k|k|k
  ·have:d*(n.tdiv d - n / d)≤d*(-1):=Int.mul_le_mul_of_nonneg_left (by omega) (by omega)
   omega
  ·omega
  ·have:d*1≤d*(n.tdiv d - n / d):=Int.mul_le_mul_of_nonneg_left (by omega) (by omega)
   omega
theorem z9g (a b:Int) (w:World) (hb:0<b) (hb2:b<281474976710656) (ha:-281474976710656<a∧a<281474976710656) :
  Calls Tryz.prog 305 #[.int .i64 a,.int .i64 b] w fun e w'=>e=.returned (.int .i64 (nst a b))∧Grew w w':=by
 have e1:IntKind.i64.wrap (2*a)=2*a:=by rw [IntKind.wrap_i64];omega
 have e2:IntKind.i64.wrap (2*a+b)=2*a+b:=by rw [IntKind.wrap_i64];omega
 have e3:IntKind.i64.wrap (2*b)=2*b:=by rw [IntKind.wrap_i64];omega
 have hq:nst a b=(2*a+b) / (2*b):=rfl
 have bq:-1125899906842624<(2*a+b) / (2*b)∧(2*a+b) / (2*b)<1125899906842624:=by
  obtain ⟨h1,h2⟩:=nst_bd a b hb
  rw [hq] at h1 h2
  generalize (2*a+b) / (2*b)=q at *
  constructor
  ·rcases Int.lt_or_le (-1125899906842624) q with k|k
   ·exact k
   ·have:b*q≤b*(-1125899906842624):=Int.mul_le_mul_of_nonneg_left k (by omega)
    omega
  ·rcases Int.lt_or_le q 1125899906842624 with k|k
   ·exact k
   ·have:b*1125899906842624≤b*q:=Int.mul_le_mul_of_nonneg_left k (by omega)
    omega
 rw [hq]
 have hz:¬ 2*b=0:=by omega
 have hf:=tdiv_floor (2*a+b) (2*b) (by omega)
 generalize hqq:(2*a+b) / (2*b)=q at *
 generalize hn:2*a+b=n at *
 generalize hd:2*b=d at *
 generalize ht:n.tdiv d=t at *
 generalize hm:n.tmod d=m at *
 clear hq hqq hb hb2 ha
 rcases hf with ⟨h1,h2⟩|⟨h1,h2⟩
 ·have e4:IntKind.i64.wrap t=t:=by rw [IntKind.wrap_i64];omega
  have e5:IntKind.i64.wrap (t - 1)=q:=by rw [IntKind.wrap_i64];omega
  clear h2 bq
  go_enter Tryz.func305,Tryz.ntmps305
  go_wp2
  all_goals go_ret
  all_goals exact ⟨rfl,gA⟩
 ·have e4:IntKind.i64.wrap t=q:=by rw [IntKind.wrap_i64];omega
  clear h2 bq
  go_enter Tryz.func305,Tryz.ntmps305
  go_wp2
  all_goals go_ret
  all_goals exact ⟨rfl,gA⟩
theorem size_blank4 (a b c d:Array Value) (t1 t2 t3 t4:TypeId) (l:List Obj) (w:World):(more ((((w.alloc (Obj.cells a t1)).alloc (Obj.cells b t2)).alloc (Obj.cells c t3)).alloc (Obj.cells d t4)) l).heap.size=(more ((((w.alloc z2s).alloc z2s).alloc z2s).alloc z2s) l).heap.size:=by
 rw [z3s,z3s];simp
attribute [local go_sem high] size_blank4
theorem rparts_core (x y u v nn A1 A2 A3 A4 o1 o2 c1 c2 B1 B2 B3 B4 B5 B6 r1 r2:Int) (w:World)
  (Rn:∀ W,Calls Tryz.prog 122 #[pv u v] W fun e w'=>e=.returned (.int .i64 nn)∧Grew W w')
  (N1:∀ W,Calls Tryz.prog 305 #[.int .i64 o1,.int .i64 nn] W fun e w'=>e=.returned (.int .i64 c1)∧Grew W w')
  (N2:∀ W,Calls Tryz.prog 305 #[.int .i64 o2,.int .i64 nn] W fun e w'=>e=.returned (.int .i64 c2)∧Grew W w')
  (e1:IntKind.i64.wrap (x*u)=A1) (e2:IntKind.i64.wrap (y*v)=A2) (e3:IntKind.i64.wrap (A1+A2)=o1) (e4:IntKind.i64.wrap (y*u)=A3) (e5:IntKind.i64.wrap (x*v)=A4) (e6:IntKind.i64.wrap (A3 - A4)=o2)
  (e7:IntKind.i64.wrap (u*c1)=B1) (e8:IntKind.i64.wrap (v*c2)=B2) (e9:IntKind.i64.wrap (B1 - B2)=B3) (e10:IntKind.i64.wrap (x - B3)=r1)
  (e11:IntKind.i64.wrap (u*c2)=B4) (e12:IntKind.i64.wrap (v*c1)=B5) (e13:IntKind.i64.wrap (B4+B5)=B6) (e14:IntKind.i64.wrap (y - B6)=r2) :
  Calls Tryz.prog 284 #[pv x y,pv u v] w fun e w'=>e=.returned (.tuple #[pv c1 c2,pv r1 r2])∧Grew w w':=by
 go_enter Tryz.func284,Tryz.ntmps284
 go_upto_region 2 with (go_at_call 122;refine (Rn _).mono ?_;rintro e w' ⟨rfl,os,n,rfl⟩)
 go_cut [7] from 8 (fun s wx=>∃ (l1 l2:List Obj) (n:Nat),s=.pointer (some ⟨(more ((((w.alloc z2s).alloc z2s).alloc z2s).alloc z2s) l1).heap.size,0,none⟩) ∧
  wx=(more ((more ((((w.alloc (Obj.cells #[Value.int IntKind.i64 x,Value.int IntKind.i64 y] 68)).alloc (Obj.cells #[Value.int IntKind.i64 u,Value.int IntKind.i64 v] 68)).alloc (Obj.cells #[Value.int IntKind.i64 0,Value.int IntKind.i64 0] 68)).alloc (Obj.cells #[Value.int IntKind.i64 0,Value.int IntKind.i64 0] 68)) l1).alloc (Obj.cells #[Value.int IntKind.i64 c1,Value.int IntKind.i64 c2] 68)) l2).drewN n)
 case first =>
  clear e7 e8 e9 e10 e11 e12 e13 e14
  go_region_held2 (fun W=>W.cell? ⟨w.heap.size,0,none⟩=some (.int .i64 x)∧W.cell? ⟨w.heap.size,1,none⟩=some (.int .i64 y)∧W.cell? ⟨w.heap.size+1,0,none⟩=some (.int .i64 u)∧W.cell? ⟨w.heap.size+1,1,none⟩=some (.int .i64 v)) (simp (maxDischargeDepth:=12) [go_sem])
   ((first
    | (go_at_call_of 305 (Value.int IntKind.i64 o1);refine (N1 _).mono ?_;rintro e w' ⟨rfl,os1,n1,rfl⟩)
    | (go_at_call_of 305 (Value.int IntKind.i64 o2);refine (N2 _).mono ?_;rintro e w' ⟨rfl,os2,n2,rfl⟩)))
  all_goals go_wp2_with fail
  all_goals go_meet
  all_goals first|exact ⟨_,[],_,rfl,rfl⟩|exact ⟨_,_,_,rfl,rfl⟩
 obtain ⟨l1,l2,n,rfl,rfl⟩:=hcut
 clear N1 N2 e1 e2 e3 e4 e5 e6
 go_upto_region 3 with fail
 go_region_held2 (fun W=>W.cell? ⟨w.heap.size,0,none⟩=some (.int .i64 x)∧W.cell? ⟨w.heap.size,1,none⟩=some (.int .i64 y)∧W.cell? ⟨w.heap.size+1,0,none⟩=some (.int .i64 u)∧W.cell? ⟨w.heap.size+1,1,none⟩=some (.int .i64 v) ∧
  W.cell? ⟨(more ((((w.alloc z2s).alloc z2s).alloc z2s).alloc z2s) l1).heap.size,0,none⟩=some (.int .i64 c1)∧W.cell? ⟨(more ((((w.alloc z2s).alloc z2s).alloc z2s).alloc z2s) l1).heap.size,1,none⟩=some (.int .i64 c2)) (simp (maxDischargeDepth:=12) [go_sem]) (fail)
 all_goals go_wp2_with fail
 all_goals refine bodyPost_ret_by (v:=.tuple #[pv c1 c2,pv r1 r2]) ?_ rfl ⟨rfl,?_⟩
 all_goals first
  | (simp [results,Tryz.results284,go_sem];done)
  | (repeat exact gA)
theorem rparts_any (x y u v:Int) (w:World) (ha:ok2 x y=true) (hb:ok2 u v=true) (hn:0<u*u+v*v) :
  Calls Tryz.prog 284 #[pv x y,pv u v] w fun e w'=>e=.returned (.tuple #[pv (qX x y u v) (qY x y u v),pv (rX x y u v) (rY x y u v)])∧Grew w w':=by
 have Rn:=fun W=>rnorm_any u v W
 rw [show nrm u v=u*u+v*v by simp [nrm,hb]] at Rn
 rw [ok2_iff] at ha hb
 have hx:-1048576≤x∧x≤1048576:=⟨ha.1,ha.2.1⟩
 have hy:-1048576≤y∧y≤1048576:=⟨ha.2.2.1,ha.2.2.2⟩
 have hu:-1048576≤u∧u≤1048576:=⟨hb.1,hb.2.1⟩
 have hv:-1048576≤v∧v≤1048576:=⟨hb.2.2.1,hb.2.2.2⟩
 have hq:=quo_ok x y u v hx hy hn
 have hr:=rest_ok x y u v hu hv hn
 have m1:=z1f (A:=1048576) (B:=1048576) (by decide) hx.1 hx.2 hu.1 hu.2
 have m2:=z1f (A:=1048576) (B:=1048576) (by decide) hy.1 hy.2 hv.1 hv.2
 have m3:=z1f (A:=1048576) (B:=1048576) (by decide) hy.1 hy.2 hu.1 hu.2
 have m4:=z1f (A:=1048576) (B:=1048576) (by decide) hx.1 hx.2 hv.1 hv.2
 have m5:=z1f (A:=1048576) (B:=1048576) (by decide) hu.1 hu.2 hu.1 hu.2
 have m6:=z1f (A:=1048576) (B:=1048576) (by decide) hv.1 hv.2 hv.1 hv.2
 have m7:=z1f (A:=1048576) (B:=1048576) (by decide) hu.1 hu.2 hq.1.1 hq.1.2
 have m8:=z1f (A:=1048576) (B:=1048576) (by decide) hv.1 hv.2 hq.2.1 hq.2.2
 have m9:=z1f (A:=1048576) (B:=1048576) (by decide) hu.1 hu.2 hq.2.1 hq.2.2
 have m10:=z1f (A:=1048576) (B:=1048576) (by decide) hv.1 hv.2 hq.1.1 hq.1.2
 have N1:=fun W=>z9g (x*u+y*v) (u*u+v*v) W hn (by omega) (by omega)
 have N2:=fun W=>z9g (y*u - x*v) (u*u+v*v) W hn (by omega) (by omega)
 have d1:rX x y u v=x - (u*qX x y u v - v*qY x y u v):=rfl
 have d2:rY x y u v=y - (u*qY x y u v+v*qX x y u v):=rfl
 rw [d1,d2]
 rw [d1,d2] at hr
 rw [show nst (x*u+y*v) (u*u+v*v)=qX x y u v from rfl] at N1
 rw [show nst (y*u - x*v) (u*u+v*v)=qY x y u v from rfl] at N2
 clear d1 d2 hn
 generalize qX x y u v=c1 at *
 generalize qY x y u v=c2 at *
 refine rparts_core x y u v _ (x*u) (y*v) (y*u) (x*v) _ _ c1 c2 (u*c1) (v*c2) (u*c1 - v*c2) (u*c2) (v*c1) (u*c2+v*c1) _ _ w Rn N1 N2 ?_ ?_ ?_ ?_ ?_ ?_ ?_ ?_ ?_ ?_ ?_ ?_ ?_ ?_
 all_goals (clear Rn N1 N2;rw [IntKind.wrap_i64];omega)
end Go.Proofs.YtibbenhplmmmiaaGreatDoor.Ga

namespace Go.Proofs.YtibbenhplmmmiaaGreatDoor.Ga
open Go.RowKit
attribute [local go_sem] z0e z0b z0c z0f z0m z0k z0h z0d z0g
attribute [local go_sem high] cellMA frozenMA setMA cellMAM frozenMAM setMAM cellMAA frozenMAA setMAA cellMAAM frozenMAAM setMAAM cellMAMA frozenMAMA setMAMA cellMAMAM frozenMAMAM setMAMAM cellMAMAMA frozenMAMAMA setMAMAMA cellMAMAMAM frozenMAMAMAM setMAMAMAM size_blank4
theorem rdiv_zero (x y:Int) (w:World) (hr:ok2 x y=true) :
  Calls Tryz.prog 255 #[pv x y,pv 0 0] w fun e w'=>e=.returned (.tuple #[pv 0 0,pv 0 0,.int .i64 33])∧Grew w w':=by
 have Ra:=fun W=>rright_any x y W
 have Rb:=fun W=>rright_any 0 0 W
 have Nn:∀ W,Calls Tryz.prog 122 #[pv 0 0] W fun e w'=>e=.returned (.int .i64 0)∧Grew W w':=fun W=>rnorm_any 0 0 W
 rw [hr] at Ra
 rw [show ok2 0 0=true from rfl] at Rb
 clear hr
 go_enter Tryz.func255,Tryz.ntmps255
 go_wp2_with fail
 refine (Ra _).mono ?_
 rintro e w' ⟨rfl,os,n,rfl⟩
 go_wp2_with fail
 refine (Rb _).mono ?_
 rintro e w' ⟨rfl,os',n',rfl⟩
 go_wp2_with (go_at_call 122;refine (Nn _).mono ?_;rintro e w' ⟨rfl,os2,n2,rfl⟩)
 refine bodyPost_ret_by (v:=.tuple #[pv 0 0,pv 0 0,.int .i64 33]) ?_ rfl ⟨rfl,?_⟩
 ·simp [results,Tryz.results255,go_sem]
 ·exact gA
theorem rdiv_good (x y u v:Int) (w:World) (ha:ok2 x y=true) (hb:ok2 u v=true) (hn:0<u*u+v*v) :
  Calls Tryz.prog 255 #[pv x y,pv u v] w fun e w'=>e=.returned (.tuple #[pv (qX x y u v) (qY x y u v),pv (rX x y u v) (rY x y u v),.int .i64 0])∧Grew w w':=by
 have P:=fun W=>rparts_any x y u v W ha hb hn
 have Ra:=fun W=>rright_any x y W
 have Rb:=fun W=>rright_any u v W
 rw [ha] at Ra
 rw [hb] at Rb
 have Nn:=fun W=>rnorm_any u v W
 have hnn:¬ nrm u v=0:=by rw [show nrm u v=u*u+v*v by simp [nrm,hb]];omega
 rw [ok2_iff] at ha hb
 have hq:=quo_ok x y u v ⟨ha.1,ha.2.1⟩ ⟨ha.2.2.1,ha.2.2.2⟩ hn
 have hr:=rest_ok x y u v ⟨hb.1,hb.2.1⟩ ⟨hb.2.2.1,hb.2.2.2⟩ hn
 have Rc:=fun W=>rright_any (qX x y u v) (qY x y u v) W
 have Rd:=fun W=>rright_any (rX x y u v) (rY x y u v) W
 rw [(ok2_iff _ _).2 ⟨hq.1.1,hq.1.2,hq.2.1,hq.2.2⟩] at Rc
 rw [(ok2_iff _ _).2 ⟨hr.1.1,hr.1.2,hr.2.1,hr.2.2⟩] at Rd
 generalize qX x y u v=c1 at *
 generalize qY x y u v=c2 at *
 generalize rX x y u v=r1 at *
 generalize rY x y u v=r2 at *
 generalize nrm u v=nn at *
 clear hq hr ha hb hn
 go_enter Tryz.func255,Tryz.ntmps255
 go_wp2_with fail
 refine (Ra _).mono ?_
 rintro e w' ⟨rfl,os,n,rfl⟩
 go_wp2_with fail
 refine (Rb _).mono ?_
 rintro e w' ⟨rfl,os',n',rfl⟩
 go_wp2_with (first
  | (go_at_call 122;refine (Nn _).mono ?_;rintro e w' ⟨rfl,os2,n2,rfl⟩)
  | (go_at_call 284;refine (P _).mono ?_;rintro e w' ⟨rfl,os3,n3,rfl⟩))
 refine (Rc _).mono ?_
 rintro e w' ⟨rfl,os4,n4,rfl⟩
 go_wp2_with fail
 refine (Rd _).mono ?_
 rintro e w' ⟨rfl,os5,n5,rfl⟩
 go_wp2_with fail
 go_region_held2 (fun W=>W.cell? ⟨(more ((((w.alloc z2s).alloc z2s).alloc z2s).alloc z2s) (os++(os'++(os2++os3)))).heap.size,0,none⟩=some (.int .i64 c1)∧W.cell? ⟨(more ((((w.alloc z2s).alloc z2s).alloc z2s).alloc z2s) (os++(os'++(os2++os3)))).heap.size,1,none⟩=some (.int .i64 c2) ∧
  W.cell? ⟨(more ((((w.alloc z2s).alloc z2s).alloc z2s).alloc z2s) (os++(os'++(os2++os3)))).heap.size+1,0,none⟩=some (.int .i64 r1)∧W.cell? ⟨(more ((((w.alloc z2s).alloc z2s).alloc z2s).alloc z2s) (os++(os'++(os2++os3)))).heap.size+1,1,none⟩=some (.int .i64 r2)) (simp (maxDischargeDepth:=12) [go_sem]) (fail)
 all_goals go_wp2_with fail
 all_goals refine bodyPost_ret_by (v:=.tuple #[pv c1 c2,pv r1 r2,.int .i64 0]) ?_ rfl ⟨rfl,?_⟩
 all_goals first
  | (simp [results,Tryz.results255,go_sem];done)
  | (repeat exact gA)
end Go.Proofs.YtibbenhplmmmiaaGreatDoor.Ga

namespace Go.Proofs.YtibbenhplmmmiaaGreatDoor.Ga
open Go.RowKit
attribute [local go_sem] z0e z0b z0c z0f z0m z0k z0h z0d z0g
attribute [local go_sem high] cellMA frozenMA setMA cellMAM frozenMAM setMAM cellMAA frozenMAA setMAA cellMAAM frozenMAAM setMAAM cellMAMA frozenMAMA setMAMA cellMAMAM frozenMAMAM setMAMAM cellMAMAMA frozenMAMAMA setMAMAMA cellMAMAMAM frozenMAMAMAM setMAMAMAM
theorem y0c (n:Int):∃ t0 t1:Int,n.tmod 4=t0∧IntKind.i64.wrap (t0+4)=t1∧t1.tmod 4=n%4:=by
 refine ⟨_,n.tmod 4+4,rfl,?_,?_⟩
 ·have h1:=Int.tmod_lt_of_pos n (b:=4) (by decide)
  have h2:=Int.lt_tmod_of_pos n (b:=4) (by decide)
  rw [IntKind.wrap_i64];omega
 ·have h1:=Int.tmod_lt_of_pos n (b:=4) (by decide)
  have h2:=Int.lt_tmod_of_pos n (b:=4) (by decide)
  have h3:=Int.mul_tdiv_add_tmod n 4
  rw [Int.tmod_eq_emod_of_nonneg (by omega)]
  omega
theorem rturn_good0 (x y n:Int) (w:World) (h:ok2 x y=true) (hk:n%4=0):Calls Tryz.prog 131 #[pv x y,.int .i64 n] w fun e w'=>e=.returned (pv (x) (y))∧Grew w w':=by
 have R:=fun W=>rright_any x y W
 rw [h] at R
 rw [ok2_iff] at h
 obtain ⟨t0,t1,f0,f1,f2⟩:=y0c n
 rw [hk] at f2
 clear h hk
 go_enter Tryz.func131,Tryz.ntmps131
 go_wp2_with (go_at_call 47;refine (R _).mono ?_;rintro e w' ⟨rfl,os,n,rfl⟩)
 refine wp_loop_rounds 1 ?_
 rw [rounds_succ]
 go_wp2_with fail
 refine bodyPost_ret_by (v:=pv (x) (y)) ?_ rfl ⟨rfl,?_⟩
 ·simp [results,Tryz.results131,go_sem]
 ·exact gA
theorem rturn_good1 (x y n:Int) (w:World) (h:ok2 x y=true) (hk:n%4=1):Calls Tryz.prog 131 #[pv x y,.int .i64 n] w fun e w'=>e=.returned (pv (-y) (x))∧Grew w w':=by
 have R:=fun W=>rright_any x y W
 rw [h] at R
 rw [ok2_iff] at h
 obtain ⟨t0,t1,f0,f1,f2⟩:=y0c n
 rw [hk] at f2
 have e0:IntKind.i64.wrap (-y)=-y:=by rw [IntKind.wrap_i64];omega
 clear h hk
 go_enter Tryz.func131,Tryz.ntmps131
 go_wp2_with (go_at_call 47;refine (R _).mono ?_;rintro e w' ⟨rfl,os,n,rfl⟩)
 refine wp_loop_rounds 2 ?_
 rw [rounds_succ]
 go_wp2_with fail
 rw [rounds_succ]
 go_wp2_with fail
 refine bodyPost_ret_by (v:=pv (-y) (x)) ?_ rfl ⟨rfl,?_⟩
 ·simp [results,Tryz.results131,go_sem]
 ·exact gA
theorem rturn_good2 (x y n:Int) (w:World) (h:ok2 x y=true) (hk:n%4=2):Calls Tryz.prog 131 #[pv x y,.int .i64 n] w fun e w'=>e=.returned (pv (-x) (-y))∧Grew w w':=by
 have R:=fun W=>rright_any x y W
 rw [h] at R
 rw [ok2_iff] at h
 obtain ⟨t0,t1,f0,f1,f2⟩:=y0c n
 rw [hk] at f2
 have e0:IntKind.i64.wrap (-y)=-y:=by rw [IntKind.wrap_i64];omega
 have e1:IntKind.i64.wrap (-x)=-x:=by rw [IntKind.wrap_i64];omega
 clear h hk
 go_enter Tryz.func131,Tryz.ntmps131
 go_wp2_with (go_at_call 47;refine (R _).mono ?_;rintro e w' ⟨rfl,os,n,rfl⟩)
 refine wp_loop_rounds 3 ?_
 rw [rounds_succ]
 go_wp2_with fail
 rw [rounds_succ]
 go_wp2_with fail
 rw [rounds_succ]
 go_wp2_with fail
 refine bodyPost_ret_by (v:=pv (-x) (-y)) ?_ rfl ⟨rfl,?_⟩
 ·simp [results,Tryz.results131,go_sem]
 ·exact gA
theorem rturn_good3 (x y n:Int) (w:World) (h:ok2 x y=true) (hk:n%4=3):Calls Tryz.prog 131 #[pv x y,.int .i64 n] w fun e w'=>e=.returned (pv (y) (-x))∧Grew w w':=by
 have R:=fun W=>rright_any x y W
 rw [h] at R
 rw [ok2_iff] at h
 obtain ⟨t0,t1,f0,f1,f2⟩:=y0c n
 rw [hk] at f2
 have e0:IntKind.i64.wrap (-y)=-y:=by rw [IntKind.wrap_i64];omega
 have e1:IntKind.i64.wrap (-x)=-x:=by rw [IntKind.wrap_i64];omega
 have e2:IntKind.i64.wrap (y)=y:=by rw [IntKind.wrap_i64];omega
 clear h hk
 go_enter Tryz.func131,Tryz.ntmps131
 go_wp2_with (go_at_call 47;refine (R _).mono ?_;rintro e w' ⟨rfl,os,n,rfl⟩)
 refine wp_loop_rounds 4 ?_
 rw [rounds_succ]
 go_wp2_with fail
 rw [rounds_succ]
 go_wp2_with fail
 rw [rounds_succ]
 go_wp2_with fail
 rw [rounds_succ]
 go_wp2_with fail
 refine bodyPost_ret_by (v:=pv (y) (-x)) ?_ rfl ⟨rfl,?_⟩
 ·simp [results,Tryz.results131,go_sem]
 ·exact gA
theorem rturn_good (x y n:Int) (w:World) (h:ok2 x y=true):Calls Tryz.prog 131 #[pv x y,.int .i64 n] w fun e w'=>e=.returned (pv (turnX x y n) (turnY x y n))∧Grew w w':=by
 have hc:n%4=0∨n%4=1∨n%4=2∨n%4=3:=by omega
 rcases hc with hk|hk|hk|hk
 ·simpa [turnX,turnY,hk] using rturn_good0 x y n w h hk
 ·simpa [turnX,turnY,hk] using rturn_good1 x y n w h hk
 ·simpa [turnX,turnY,hk] using rturn_good2 x y n w h hk
 ·simpa [turnX,turnY,hk] using rturn_good3 x y n w h hk
end Go.Proofs.YtibbenhplmmmiaaGreatDoor.Ga
