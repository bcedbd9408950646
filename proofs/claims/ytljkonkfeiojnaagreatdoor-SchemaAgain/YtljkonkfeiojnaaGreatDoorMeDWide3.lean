/-
  A world with some blocks more and some draws behind it: how its cells read and how a store into an older block goes inward. Nothing of the program is in it.
  Plain facts on numbers that the walks of package decimal lean on: signs and magnitudes, rounding to the nearest and to the even one, and the school's division of two words by one. Nothing of the program is in it.
  The contracts of math/bits.Add64, Sub64 and Mul64, as the walks of package decimal meet them: for every word.
  The contracts of package decimal's wide numbers: magnitude, widened, product, nearerZero, sum, difference, sign, narrowed: for every number.
  The contracts of package decimal's wide numbers, gone on: a sum of unlike signs, difference, sign, narrowed.
  The contracts of package decimal's wide numbers, gone on: difference, sign, narrowed.
-/
import Derived.WalkKit
import Derived.WalkSmall
import Derived.Laws.NewBlocks
import Derived.Deep.Draws
import Derived.WalkSpells
import Derived.Test.YtljkonkfeiojnaaGreatDoorProg
import Derived.WalkLawsBesides
import Derived.Lib.Mul64
import Derived.Laws.Bits64b
import Derived.Laws.Externs
import Derived.RowKit3
import Derived.StillTactics
set_option maxHeartbeats 1000000
set_option maxRecDepth 4000
namespace Go.Proofs.YtljkonkfeiojnaaGreatDoor
open Go.RowKit
def more (w:World):List Obj→World
 | []=>w
 | o::os=>more (w.alloc o) os
theorem more_size (os:List Obj):∀ w:World,w.heap.size≤(more w os).heap.size:=by
 induction os with
 | nil=>intro w;exact Nat.le_refl _
 | cons o os ih=>intro w;exact Nat.le_trans (by simp) (ih (w.alloc o))
theorem z0e {n:Nat} {w:World} (h:n<w.heap.size) (os:List Obj):n<(more w os).heap.size:=Nat.lt_of_lt_of_le h (more_size os w)
theorem z0f (os:List Obj) (n i:Nat):∀ (w:World) (_:n<w.heap.size),(more w os).cell? ⟨n,i,none⟩=w.cell? ⟨n,i,none⟩:=by
 induction os with
 | nil=>intro w _;rfl
 | cons o os ih=>intro w h;exact (ih (w.alloc o) (by simp;omega)).trans (World.cell?_alloc_past o n i h)
theorem z0b (os:List Obj) (n i:Nat):∀ (w:World) (_:n<w.heap.size),(more w os).frozen? ⟨n,i,none⟩=w.frozen? ⟨n,i,none⟩:=by
 induction os with
 | nil=>intro w _;rfl
 | cons o os ih=>intro w h;exact (ih (w.alloc o) (by simp;omega)).trans (World.frozen?_alloc_past o n i h)
theorem z0c (os:List Obj) (n i:Nat) (v:Value):∀ (w:World) (_:n<w.heap.size),(more w os).setCell ⟨n,i,none⟩ v=more (w.setCell ⟨n,i,none⟩ v) os:=by
 induction os with
 | nil=>intro w _;rfl
 | cons o os ih =>
  intro w h
  show (more (w.alloc o) os).setCell _ v=more ((w.setCell _ v).alloc o) os
  rw [ih (w.alloc o) (by simp;omega),World.setCell_alloc_past o n i v h]
theorem more_snoc (os:List Obj) (o:Obj):∀ w:World,more w (os++[o])=(more w os).alloc o:=by
 induction os with
 | nil=>intro w;rfl
 | cons p os ih=>intro w;exact ih (w.alloc p)
theorem z0m (a b:List Obj):∀ w:World,more (more w a) b=more w (a++b):=by
 induction a with
 | nil=>intro w;rfl
 | cons p a ih=>intro w;exact ih (w.alloc p)
theorem z0h (os:List Obj) (n:Nat):∀ w:World,more (w.drewN n) os=(more w os).drewN n:=by
 induction os with
 | nil=>intro w;rfl
 | cons p a ih=>intro w;exact ih (w.alloc p)
theorem z0k (os:List Obj) (w:World):more w.drew os=(more w os).drew:=z0h os 1 w
theorem z0d (w:World) (n:Nat) (a:Addr) (v:Value):(w.drewN n).setCell a v=(w.setCell a v).drewN n:=by
 have:∀ n,w.drewN n={ w with drawn:=w.drawn+n }:=fun _=>rfl
 unfold World.setCell World.drewN
 split <;> rfl
theorem z0g (w:World) (n:Nat) (o:Obj):(w.drewN n).alloc o=(w.alloc o).drewN n:=rfl
def Grew (w w':World):Prop:=∃ (os:List Obj) (n:Nat),w'=(more w os).drewN n
theorem Grew.refl (w:World):Grew w w:=⟨[],0,rfl⟩
theorem Grew.alloc {a w:World} (h:Grew a w) (o:Obj):Grew a (w.alloc o):=by
 obtain ⟨os,n,rfl⟩:=h
 exact ⟨os++[o],n,by rw [more_snoc,z0g]⟩
theorem Grew.drewN {a w:World} (h:Grew a w) (m:Nat):Grew a (w.drewN m):=by
 obtain ⟨os,n,rfl⟩:=h
 exact ⟨os,n+m,by rw [World.drewN_drewN]⟩
theorem Grew.drew {a w:World} (h:Grew a w):Grew a w.drew:=h.drewN 1
theorem Grew.trans {a b c:World} (h:Grew a b) (k:Grew b c):Grew a c:=by
 obtain ⟨os,n,rfl⟩:=h
 obtain ⟨ps,m,rfl⟩:=k
 exact ⟨os++ps,n+m,by rw [z0h,z0m,World.drewN_drewN]⟩
theorem Grew.more {a w:World} (h:Grew a w) (os:List Obj):Grew a (more w os):=h.trans ⟨os,0,rfl⟩
theorem more_below (os:List Obj):∀ (w a:World) (B:Nat),Below B a w→B≤w.heap.size→Below B a (more w os):=by
 induction os with
 | nil=>intro w a B h _;exact h
 | cons o os ih=>intro w a B h hB;exact ih (w.alloc o) a B (h.alloc hB o) (by simp;omega)
theorem Grew.below {w w':World} (h:Grew w w'):Below w.heap.size w w':=by
 obtain ⟨os,n,rfl⟩:=h
 exact below_drewN (more_below os w w _ (Below.refl _ _) (Nat.le_refl _)) n
theorem Grew.size {w w':World} (h:Grew w w'):w.heap.size≤w'.heap.size:=h.below.size
theorem gA {p:Prop} (h:p:=by repeat (first|exact Grew.refl _|apply Grew.drew|apply Grew.drewN|apply Grew.alloc|apply Grew.more)):p:=h
theorem gB {p:Prop} (h:p:=by repeat (first|assumption|exact Grew.refl _|apply Grew.drew|apply Grew.drewN|apply Grew.alloc|apply Grew.more)):p:=h
theorem gK {p:Prop} (h:p:=by kernel_rfl):p:=h
theorem gD {p:Prop} (h:p:=by simp (maxDischargeDepth:=12) [go_sem]):p:=h
theorem sA {α:Type} {l:List α} {i:Nat} {a:α}:l.toArray.setIfInBounds i a=(l.set i a).toArray:=List.setIfInBounds_toArray ..
theorem sB {α:Type} {l:List α} {a b:α}:(a::l).set 0 b=b::l:=rfl
theorem sC {α:Type} {l:List α} {a b:α} {n:Nat}:(a::l).set (n+1) b=a::l.set n b:=rfl
def sval (b:Bool) (m:Nat):Int:=if b then -(m:Int) else (m:Int)
theorem z8t (m:Nat):sval false m=(m:Int):=rfl
theorem sval_true (m:Nat):sval true m=-(m:Int):=rfl
theorem z6u (b:Bool):sval b 0=0:=by cases b <;> rfl
theorem z3z (b:Bool) (m:Nat):(sval b m).natAbs=m:=by cases b <;> simp [sval]
theorem z8u (n:Int):sval (decide (n<0)) n.natAbs=n:=by
 unfold sval;by_cases h:n<0 <;> simp [h] <;> omega
theorem sval_mul (a b:Int):sval (decide (a<0) != decide (b<0)) (a.natAbs*b.natAbs)=a*b:=by
 rw [← Int.natAbs_mul]
 by_cases ha:a<0 <;> by_cases hb:b<0
 ·have h:=Int.mul_nonneg_of_nonpos_of_nonpos (Int.le_of_lt ha) (Int.le_of_lt hb)
  simp [sval,ha,hb];omega
 ·have h:=Int.mul_nonpos_of_nonpos_of_nonneg (Int.le_of_lt ha) (Int.not_lt.1 hb)
  simp [sval,ha,hb];omega
 ·have h:=Int.mul_nonpos_of_nonneg_of_nonpos (Int.not_lt.1 ha) (Int.le_of_lt hb)
  simp [sval,ha,hb];omega
 ·have h:=Int.mul_nonneg (Int.not_lt.1 ha) (Int.not_lt.1 hb)
  simp [sval,ha,hb];omega
def fits (z:Int):Bool:=decide (-9223372036854775808≤z∧z≤9223372036854775807)
def nz (z:Int):Int:=if fits z then z else 0
def nErr (z:Int):Int:=if fits z then 0 else 32
theorem z5s (z:Int):fits z=true↔(-9223372036854775808≤z∧z≤9223372036854775807):=by simp [fits]
def rnd (n d:Nat):Nat:=if d<2*(n%d)∨(2*(n%d)=d∧n / d%2=1) then n / d+1 else n / d
theorem rnd_one (n:Nat):rnd n 1=n:=by unfold rnd;simp [Nat.mod_one]
theorem rnd_zero (d:Nat):rnd 0 d=0:=by unfold rnd;simp
theorem rnd_small (n d:Nat) (h:2*n≤d) (hd:0<d):rnd n d=0:=by
 unfold rnd
 have hlt:n<d:=by omega
 rw [Nat.mod_eq_of_lt hlt,Nat.div_eq_of_lt hlt]
 rw [if_neg]
 rintro (h'|h') <;> omega
/-! ### the school's division: one digit -/
def z2w (u d y1 y0 q r:Nat):Prop:=q*y1+r=u∧u*4294967296+d<(q+1)*(y1*4294967296+y0)
theorem div_start (u d y1 y0:Nat) (h:0<y1) (hd:d<4294967296):z2w u d y1 y0 (u / y1) (u%y1):=by
 have e:=Nat.div_add_mod u y1
 have hm:=Nat.mod_lt u h
 refine ⟨by rw [Nat.mul_comm];exact e,?_⟩
 have e2:(u / y1+1)*(y1*4294967296+y0)=y1*(u / y1)*4294967296+y1*4294967296+(u / y1)*y0+y0:=by
  rw [Nat.add_mul,Nat.mul_add,Nat.one_mul,← Nat.mul_assoc,Nat.mul_comm (u / y1) y1];omega
 rw [e2]
 generalize y1*(u / y1)=A at *
 generalize u / y1*y0=C
 omega
theorem z6f (u d y1 y0 q r:Nat) (hI:z2w u d y1 y0 q r) (hu:u<y1*4294967296+y0) (hd:d<4294967296)
  (hc:4294967296≤q∨4294967296*r+d<q*y0):0<q∧z2w u d y1 y0 (q - 1) (r+y1):=by
 obtain ⟨h1,h2⟩:=hI
 have hq:0<q:=by
  rcases hc with h|h
  ·omega
  ·rcases Nat.eq_zero_or_pos q with h0|h0
   ·rw [h0,Nat.zero_mul] at h;omega
   ·exact h0
 obtain ⟨p,rfl⟩:∃ p,q=p+1:=⟨q - 1,by omega⟩
 refine ⟨hq,?_,?_⟩
 ·simp only [Nat.add_sub_cancel];rw [Nat.add_mul,Nat.one_mul] at h1;omega
 ·simp only [Nat.add_sub_cancel]
  have e:(p+1)*(y1*4294967296+y0)=(p+1)*y1*4294967296+(p+1)*y0:=by rw [Nat.mul_add,← Nat.mul_assoc]
  rcases hc with h|h
  ·have h3:4294967296*(y1*4294967296+y0)≤(p+1)*(y1*4294967296+y0):=Nat.mul_le_mul_right _ h
   omega
  ·rw [e]
   generalize (p+1)*y1=A at *
   generalize (p+1)*y0=C at *
   omega
theorem z4h (u d y1 y0 q r:Nat) (hI:z2w u d y1 y0 q r) (hc:q*y0≤4294967296*r+d) :
  q=(u*4294967296+d) / (y1*4294967296+y0)∧q*(y1*4294967296+y0)≤u*4294967296+d:=by
 obtain ⟨h1,h2⟩:=hI
 have e:q*(y1*4294967296+y0)=q*y1*4294967296+q*y0:=by rw [Nat.mul_add,← Nat.mul_assoc]
 have hle:q*(y1*4294967296+y0)≤u*4294967296+d:=by
  rw [e]
  generalize q*y1=A at *
  generalize q*y0=C at *
  omega
 exact ⟨(Nat.div_eq_of_lt_le hle h2).symm,hle⟩
theorem z4b (u d y1 y0 q r:Nat) (hI:z2w u d y1 y0 q r) (hu:u<y1*4294967296+y0) (hy0:y0<4294967296) (hr:4294967296≤r) :
  q*y0≤4294967296*r+d∧q<4294967296:=by
 obtain ⟨h1,h2⟩:=hI
 have hq:q<4294967296:=by
  apply Nat.lt_of_not_le
  intro h
  have:=Nat.mul_le_mul_right y1 h
  generalize q*y1=A at *
  omega
 refine ⟨?_,hq⟩
 have:=Nat.mul_le_mul (Nat.le_of_lt_succ hq) (Nat.le_of_lt_succ hy0)
 generalize q*y0=C at *
 omega
theorem div_two (u d1 d0 y:Nat) (hy:0<y) :
  (u*4294967296+d1) / y*4294967296+((u*4294967296+d1)%y*4294967296+d0) / y=(u*18446744073709551616+(d1*4294967296+d0)) / y ∧
  ((u*4294967296+d1)%y*4294967296+d0)%y=(u*18446744073709551616+(d1*4294967296+d0))%y:=by
 have e:=Nat.div_add_mod (u*4294967296+d1) y
 have hN:u*18446744073709551616+(d1*4294967296+d0)=y*((u*4294967296+d1) / y*4294967296)+((u*4294967296+d1)%y*4294967296+d0):=by
  rw [← Nat.mul_assoc]
  generalize y*((u*4294967296+d1) / y)=A at *
  omega
 rw [hN,Nat.mul_add_div hy,Nat.mul_add_mod]
 exact ⟨rfl,rfl⟩
theorem digit_lt (u d y:Nat) (hu:u<y) (hd:d<4294967296):(u*4294967296+d) / y<4294967296:=by
 rw [Nat.div_lt_iff_lt_mul (by omega)]
 omega
theorem div_shift (n y k:Nat):n*2^k / (y*2^k)=n / y∧n*2^k%(y*2^k) / 2^k=n%y:=by
 have hk:0<2^k:=Nat.pow_pos (by decide)
 refine ⟨Nat.mul_div_mul_right _ _ hk,?_⟩
 rw [Nat.mul_mod_mul_right,Nat.mul_div_cancel _ hk]
end Go.Proofs.YtljkonkfeiojnaaGreatDoor

namespace Go.Proofs.YtljkonkfeiojnaaGreatDoor
open Go.RowKit
theorem add64_at (x y c:Int) (hx:0≤x) (hy:0≤y) (hc0:0≤c) (hc:c≤1) (w:World):(callFunc 142 #[.int .u64 x,.int .u64 y,.int .u64 c]).run Tryz.prog w =
  .ok (.value (.tuple #[.int .u64 ((x+y+c)%18446744073709551616),.int .u64 ((x+y+c) / 18446744073709551616)])) w:=by
 rw [run_callFunc_extern Tryz.func142 (by kernel_rfl) (by kernel_rfl) (by kernel_rfl) (e:=add64Entry) (by kernel_rfl),run_add64 x y c hx hy hc0 hc]
 rfl
theorem add64_0 (x y:Int) (hx:0≤x) (hy:0≤y) (w:World):(callFunc 142 #[.int .u64 x,.int .u64 y,.int .u64 0]).run Tryz.prog w =
  .ok (.value (.tuple #[.int .u64 ((x+y)%18446744073709551616),.int .u64 ((x+y) / 18446744073709551616)])) w:=by
 simpa using add64_at x y 0 hx hy (Int.le_refl 0) (by decide) w
def sub64E:Array Value→Sem Value:=fun args=>do
 let (x,y,b)←Extern.MathBitsCarry.three "Sub64" args
 pure (Extern.MathBitsCarry.pair ((x+Extern.MathBitsCarry.m64 - y - b)%Extern.MathBitsCarry.m64) (if x<y+b then 1 else 0))
theorem run_sub64E {P:Program} (x y b:Nat) (hb:b≤1) (w:World) :
  (sub64E #[.int .u64 x,.int .u64 y,.int .u64 b]).run P w =
   .ok (.tuple #[.int .u64 (((x+18446744073709551616 - y - b)%18446744073709551616:Nat):Int),.int .u64 ((if x<y+b then 1 else 0:Nat):Int)]) w:=by
 have:b=0∨b=1:=by omega
 rcases this with rfl|rfl <;> rfl
def bor (x y:Int):Int:=if x<y then 1 else 0
theorem bor_bd (x y:Int):0≤bor x y∧bor x y≤1:=by unfold bor;split <;> decide
theorem sub64_at (x y b:Int) (hx:0≤x) (hy:0≤y) (hy':y<18446744073709551616) (hb0:0≤b) (hb:b≤1) (w:World):(callFunc 211 #[.int .u64 x,.int .u64 y,.int .u64 b]).run Tryz.prog w =
  .ok (.value (.tuple #[.int .u64 ((x - y - b)%18446744073709551616),.int .u64 (bor x (y+b))])) w:=by
 obtain ⟨x,rfl⟩:=Int.eq_ofNat_of_zero_le hx
 obtain ⟨y,rfl⟩:=Int.eq_ofNat_of_zero_le hy
 obtain ⟨b,rfl⟩:=Int.eq_ofNat_of_zero_le hb0
 have e1:(((x+18446744073709551616 - y - b)%18446744073709551616:Nat):Int)=((x:Int) - y - b)%18446744073709551616:=by omega
 have e2:((if x<y+b then 1 else 0:Nat):Int)=bor (x:Int) ((y:Int)+b):=by unfold bor;split <;> split <;> omega
 rw [← e1,← e2,run_callFunc_extern Tryz.func211 (by kernel_rfl) (by kernel_rfl) (by kernel_rfl) (e:=sub64E) (by kernel_rfl),run_sub64E x y b (by omega)]
 rfl
theorem sub64_0 (x y:Int) (hx:0≤x) (hy:0≤y) (hy':y<18446744073709551616) (w:World):(callFunc 211 #[.int .u64 x,.int .u64 y,.int .u64 0]).run Tryz.prog w =
  .ok (.value (.tuple #[.int .u64 ((x - y)%18446744073709551616),.int .u64 (bor x y)])) w:=by
 simpa using sub64_at x y 0 hx hy hy' (Int.le_refl 0) (by decide) w
namespace M64
theorem maskN (a:Nat) (ha:a<18446744073709551616):bits .and .u64 (a:Int) 4294967295=((a%4294967296:Nat):Int):=by
 have h:=bits_and_u64_nat a 4294967295 ha (by omega)
 have e:a &&& 4294967295=a%4294967296:=Nat.and_two_pow_sub_one_eq_mod a 32
 rw [e] at h
 exact h
theorem divN (a:Nat):(a:Int) / 4294967296=((a / 4294967296:Nat):Int):=by omega
theorem mulN (a b:Nat):(a:Int)*(b:Int)=((a*b:Nat):Int):=(Int.natCast_mul a b).symm
theorem addN (a b:Nat):(a:Int)+(b:Int)=((a+b:Nat):Int):=(Int.natCast_add a b).symm
theorem wrapN (a:Nat) (ha:a<18446744073709551616):IntKind.u64.wrap (a:Int)=(a:Int):=by rw [IntKind.wrap_u64];omega
theorem wrapM (a:Nat):IntKind.u64.wrap (a:Int)=((a%18446744073709551616:Nat):Int):=by rw [IntKind.wrap_u64];omega
end M64
theorem z7s (x y:Nat) (hx:x<18446744073709551616) (hy:y<18446744073709551616) (w:World) :
  Calls Tryz.prog 131 #[.int .u64 (x:Int),.int .u64 (y:Int)] w fun e w'=>e=.returned (.tuple #[.int .u64 ((x*y / 18446744073709551616:Nat):Int),.int .u64 ((x*y%18446744073709551616:Nat):Int)])∧w'=w:=by
 obtain ⟨bd,bt,bw,hhi⟩:=Lib.mul64_hi x y hx hy
 have ba:=Lib.half_mul_le (a:=x / 4294967296) (b:=y / 4294967296) (by omega) (by omega)
 have bb:=Lib.half_mul_le (a:=x / 4294967296) (b:=y%4294967296) (by omega) (by omega)
 have bc:=Lib.half_mul_le (a:=x%4294967296) (b:=y / 4294967296) (by omega) (by omega)
 have ba':x / 4294967296*(y / 4294967296)<18446744073709551616:=by omega
 have bb':x / 4294967296*(y%4294967296)<18446744073709551616:=by omega
 have bc':x%4294967296*(y / 4294967296)<18446744073709551616:=by omega
 have bh1:x / 4294967296*(y / 4294967296)+(x / 4294967296*(y%4294967296)+x%4294967296*(y%4294967296) / 4294967296) / 4294967296<18446744073709551616:=by omega
 have bh:x / 4294967296*(y / 4294967296)+(x / 4294967296*(y%4294967296)+x%4294967296*(y%4294967296) / 4294967296) / 4294967296+((x / 4294967296*(y%4294967296)+x%4294967296*(y%4294967296) / 4294967296)%4294967296+x%4294967296*(y / 4294967296)) / 4294967296<18446744073709551616:=by omega
 go_enter Tryz.func131,Tryz.ntmps131
 go_wp2
 simp only [M64.maskN x hx,M64.maskN y hy,M64.divN,M64.mulN,M64.addN,M64.wrapN _ bd,M64.wrapN _ bb',M64.wrapN _ bt,M64.maskN _ bt,M64.wrapN _ bc',M64.wrapN _ bw,M64.wrapN _ ba',M64.wrapN _ bh1,M64.wrapN _ bh,M64.wrapM (x*y)]
 rw [hhi]
 go_ret2
 exact ⟨rfl,rfl⟩
end Go.Proofs.YtljkonkfeiojnaaGreatDoor

namespace Go.Proofs.YtljkonkfeiojnaaGreatDoor
open Go.RowKit
abbrev wd (b:Bool) (h l:Nat):Value:=.agg #[.bool b,.int .u64 (h:Int),.int .u64 (l:Int)]
theorem mag_neg (n:Int) (h0:-9223372036854775808≤n) (h:n<0):IntKind.u64.wrap (-IntKind.u64.wrap n)=(n.natAbs:Int):=by
 rw [IntKind.wrap_u64,IntKind.wrap_u64];omega
theorem ret_int {k:IntKind} {a b:Int} (h:a=b):Ending.returned (.int k a)=.returned (.int k b):=by rw [h]
theorem z4v (n:Int) (w:World) (h0:-9223372036854775808≤n) (h1:n≤9223372036854775807) :
  Calls Tryz.prog 72 #[.int .i64 n] w fun e w'=>e=.returned (.int .u64 (n.natAbs:Int))∧w=w':=by
 go_enter Tryz.func72,Tryz.ntmps72
 go_wp2
 all_goals go_ret
 ·exact ⟨ret_int (mag_neg n h0 (by assumption)),rfl⟩
 ·exact ⟨ret_int (by omega),rfl⟩
theorem z5b (n:Int) (w:World) (h0:-9223372036854775808≤n) (h1:n≤9223372036854775807) :
  Calls Tryz.prog 108 #[.int .i64 n] w fun e w'=>e=.returned (wd (decide (n<0)) 0 n.natAbs)∧Grew w w':=by
 go_enter Tryz.func108,Tryz.ntmps108
 go_wp2_with (go_at_call 72;refine (z4v _ _ h0 h1).mono ?_;rintro e w' ⟨rfl,rfl⟩)
 simp [bodyPost,results,Tryz.results108,go_sem]
 exact (Grew.refl _).alloc _
theorem product_any (a b:Int) (w:World) (a0:-9223372036854775808≤a) (a1:a≤9223372036854775807) (b0:-9223372036854775808≤b) (b1:b≤9223372036854775807) :
  Calls Tryz.prog 109 #[.int .i64 a,.int .i64 b] w fun e w' =>
   e=.returned (wd (!(decide (a<0)==decide (b<0))) (a.natAbs*b.natAbs / 18446744073709551616) (a.natAbs*b.natAbs%18446744073709551616))∧Grew w w':=by
 go_enter Tryz.func109,Tryz.ntmps109
 go_wp2_with fail
 refine (z4v _ _ a0 a1).mono ?_
 rintro e w' ⟨rfl,rfl⟩
 go_wp2_with fail
 refine (z4v _ _ b0 b1).mono ?_
 rintro e w' ⟨rfl,rfl⟩
 go_wp2_with fail
 refine (z7s a.natAbs b.natAbs (by omega) (by omega) _).mono ?_
 rintro e w' ⟨rfl,rfl⟩
 go_wp2
 simp [bodyPost,results,Tryz.results109,go_sem]
 exact (Grew.refl _).alloc _
theorem ret_bool {a b:Bool} (h:a=b):Ending.returned (.bool a)=.returned (.bool b):=by rw [h]
theorem nearer_any (b1 b2:Bool) (h1 l1 h2 l2:Nat) (w:World) (k1:l1<18446744073709551616) (k2:l2<18446744073709551616) :
  Calls Tryz.prog 210 #[wd b1 h1 l1,wd b2 h2 l2] w fun e w'=>e=.returned (.bool (decide (h1*18446744073709551616+l1<h2*18446744073709551616+l2)))∧∃ c1 c2:Array Value,w'=(w.alloc (.cells c1 164)).alloc (.cells c2 164):=by
 go_enter Tryz.func210,Tryz.ntmps210
 go_wp2
 all_goals go_ret
 all_goals refine ⟨ret_bool ?_,_,_,rfl⟩
 all_goals rw [Bool.eq_iff_iff]
 all_goals simp
 all_goals omega
theorem sum_same (b:Bool) (h1 l1 h2 l2:Nat) (w:World)
  (hs:h1+h2+(l1+l2) / 18446744073709551616<18446744073709551616) (k1:l1<18446744073709551616) (k2:l2<18446744073709551616) :
  Calls Tryz.prog 190 #[wd b h1 l1,wd b h2 l2] w fun e w'=>e=.returned (wd b (h1+h2+(l1+l2) / 18446744073709551616) ((l1+l2)%18446744073709551616))∧Grew w w':=by
 have c0:(0:Int)≤((l1:Int)+l2) / 18446744073709551616:=by omega
 have c1:((l1:Int)+l2) / 18446744073709551616≤1:=by omega
 have c2:((h1:Int)+h2+((l1:Int)+l2) / 18446744073709551616)%18446744073709551616=(h1:Int)+h2+((l1:Int)+l2) / 18446744073709551616:=by omega
 go_enter Tryz.func190,Tryz.ntmps190
 go_wp2_with (first|simp only [add64_0 (l1:Int) (l2:Int) (by omega) (by omega)]|simp only [add64_at (h1:Int) (h2:Int) _ (by omega) (by omega) c0 c1])
 simp [bodyPost,results,Tryz.results190,go_sem]
 exact (((Grew.refl _).alloc _).alloc _).alloc _
theorem sum_far (b1 b2:Bool) (h1 l1 h2 l2:Nat) (w:World) (hb:(b1==b2)=false) (hn:h2*18446744073709551616+l2≤h1*18446744073709551616+l1)
  (k1:l1<18446744073709551616) (k2:l2<18446744073709551616) (k3:h1<18446744073709551616) :
  Calls Tryz.prog 190 #[wd b1 h1 l1,wd b2 h2 l2] w fun e w'=>∃ h l:Nat,e=.returned (wd b1 h l)∧h*18446744073709551616+l=h1*18446744073709551616+l1 - (h2*18446744073709551616+l2)∧l<18446744073709551616∧h<18446744073709551616∧Grew w w':=by
 have c:=bor_bd (l1:Int) (l2:Int)
 have nr:=fun W=>nearer_any b1 b2 h1 l1 h2 l2 W k1 k2
 rw [show decide (h1*18446744073709551616+l1<h2*18446744073709551616+l2)=false by simp;omega] at nr
 have k4:h2<18446744073709551616:=by omega
 obtain ⟨h,l,eh,el,hs,hl,hh⟩:∃ h l:Nat,((h1:Int) - h2 - bor l1 l2)%18446744073709551616=(h:Int)∧((l1:Int) - l2)%18446744073709551616=(l:Int) ∧
   h*18446744073709551616+l=h1*18446744073709551616+l1 - (h2*18446744073709551616+l2)∧l<18446744073709551616∧h<18446744073709551616:=by
  refine ⟨(((h1:Int) - h2 - bor l1 l2)%18446744073709551616).toNat,(((l1:Int) - l2)%18446744073709551616).toNat,by omega,by omega,?_,by omega,by omega⟩
  unfold bor;split <;> omega
 have S0:=fun W=>sub64_0 (l1:Int) (l2:Int) (by omega) (by omega) (by omega) W
 have S1:=fun W=>sub64_at (h1:Int) (h2:Int) _ (by omega) (by omega) (by omega) c.1 c.2 W
 rw [el] at S0
 rw [eh] at S1
 refine Calls.mono (R:=fun e w'=>e=.returned (wd b1 h l)∧Grew w w') ?_ fun e w' hp=>⟨h,l,hp.1,hs,hl,hh,hp.2⟩
 clear hn hs eh el k1 k2 k3 k4
 go_enter Tryz.func190,Tryz.ntmps190
 go_wp2_with (go_at_call 210;refine (nr _).mono ?_;rintro e w' ⟨rfl,c1,c2,rfl⟩)
 simp [bodyPost,results,Tryz.results190,go_sem]
 exact (((((Grew.refl _).alloc _).alloc _).alloc _).alloc _).alloc _
theorem sum_near (b1 b2:Bool) (h1 l1 h2 l2:Nat) (w:World) (hb:(b1==b2)=false) (hn:h1*18446744073709551616+l1<h2*18446744073709551616+l2)
  (k1:l1<18446744073709551616) (k2:l2<18446744073709551616) (k3:h2<18446744073709551616) :
  Calls Tryz.prog 190 #[wd b1 h1 l1,wd b2 h2 l2] w fun e w'=>∃ h l:Nat,e=.returned (wd b2 h l)∧h*18446744073709551616+l=h2*18446744073709551616+l2 - (h1*18446744073709551616+l1)∧l<18446744073709551616∧h<18446744073709551616∧Grew w w':=by
 have c:=bor_bd (l2:Int) (l1:Int)
 have nr:=fun W=>nearer_any b1 b2 h1 l1 h2 l2 W k1 k2
 rw [show decide (h1*18446744073709551616+l1<h2*18446744073709551616+l2)=true by simp;omega] at nr
 have k4:h1<18446744073709551616:=by omega
 obtain ⟨h,l,eh,el,hs,hl,hh⟩:∃ h l:Nat,((h2:Int) - h1 - bor l2 l1)%18446744073709551616=(h:Int)∧((l2:Int) - l1)%18446744073709551616=(l:Int) ∧
   h*18446744073709551616+l=h2*18446744073709551616+l2 - (h1*18446744073709551616+l1)∧l<18446744073709551616∧h<18446744073709551616:=by
  refine ⟨(((h2:Int) - h1 - bor l2 l1)%18446744073709551616).toNat,(((l2:Int) - l1)%18446744073709551616).toNat,by omega,by omega,?_,by omega,by omega⟩
  unfold bor;split <;> omega
 have S0:=fun W=>sub64_0 (l2:Int) (l1:Int) (by omega) (by omega) (by omega) W
 have S1:=fun W=>sub64_at (h2:Int) (h1:Int) _ (by omega) (by omega) (by omega) c.1 c.2 W
 rw [el] at S0
 rw [eh] at S1
 refine Calls.mono (R:=fun e w'=>e=.returned (wd b2 h l)∧Grew w w') ?_ fun e w' hp=>⟨h,l,hp.1,hs,hl,hh,hp.2⟩
 clear hn hs eh el k1 k2 k3 k4
 go_enter Tryz.func190,Tryz.ntmps190
 go_wp2_with (go_at_call 210;refine (nr _).mono ?_;rintro e w' ⟨rfl,c1,c2,rfl⟩)
 simp [bodyPost,results,Tryz.results190,go_sem]
 exact (((((Grew.refl _).alloc _).alloc _).alloc _).alloc _).alloc _
theorem sum_any (b1 b2:Bool) (h1 l1 h2 l2:Nat) (w:World) (k1:l1<18446744073709551616) (k2:l2<18446744073709551616) (k3:h1<9223372036854775808) (k4:h2<9223372036854775808) :
  Calls Tryz.prog 190 #[wd b1 h1 l1,wd b2 h2 l2] w fun e w'=>∃ (b:Bool) (h l:Nat),e=.returned (wd b h l) ∧
   sval b (h*18446744073709551616+l)=sval b1 (h1*18446744073709551616+l1)+sval b2 (h2*18446744073709551616+l2)∧l<18446744073709551616∧h<18446744073709551616∧Grew w w':=by
 by_cases hb:b1=b2
 ·subst hb
  refine (sum_same b1 h1 l1 h2 l2 w (by omega) k1 k2).mono ?_
  rintro e w' ⟨rfl,B⟩
  refine ⟨_,_,_,rfl,?_,by omega,by omega,B⟩
  unfold sval;split <;> omega
 ·have hb':(b1==b2)=false:=by simpa using hb
  by_cases hn:h1*18446744073709551616+l1<h2*18446744073709551616+l2
  ·refine (sum_near b1 b2 h1 l1 h2 l2 w hb' hn k1 k2 (by omega)).mono ?_
   rintro e w' ⟨h,l,rfl,hs,hl,hh,B⟩
   refine ⟨_,_,_,rfl,?_,hl,hh,B⟩
   rw [hs]
   cases b1 <;> cases b2 <;> simp [sval] at hb ⊢ <;> omega
  ·refine (sum_far b1 b2 h1 l1 h2 l2 w hb' (by omega) k1 k2 (by omega)).mono ?_
   rintro e w' ⟨h,l,rfl,hs,hl,hh,B⟩
   refine ⟨_,_,_,rfl,?_,hl,hh,B⟩
   rw [hs]
   cases b1 <;> cases b2 <;> simp [sval] at hb ⊢ <;> omega
end Go.Proofs.YtljkonkfeiojnaaGreatDoor

namespace Go.Proofs.YtljkonkfeiojnaaGreatDoor
open Go.RowKit
attribute [local go_sem] z0f z0b z0c z0e z0k z0h z0d z0g
theorem sign_any (b:Bool) (h l:Nat) (w:World) :
  Calls Tryz.prog 194 #[wd b h l] w fun e w'=>e=.returned (.int .i64 (sval b (h*18446744073709551616+l)).sign)∧Grew w w':=by
 have key:(h=0∧l=0)∨(h=0∧l≠0)∨(h≠0):=by omega
 rcases key with ⟨rfl,rfl⟩|⟨rfl,hl⟩|hh
 ·go_enter Tryz.func194,Tryz.ntmps194
  go_wp2
  go_ret
  refine ⟨ret_int ?_,(Grew.refl _).alloc _⟩
  cases b <;> rfl
 ·have e0:((l:Int)==0)=false:=by simp;omega
  go_enter Tryz.func194,Tryz.ntmps194
  cases b
  all_goals go_wp2
  all_goals go_ret
  all_goals refine ⟨ret_int ?_,(Grew.refl _).alloc _⟩
  ·rw [z8t,Int.sign_eq_one_of_pos (by omega)]
  ·rw [sval_true,Int.sign_eq_neg_one_of_neg (by omega)]
 ·have e0:((h:Int)==0)=false:=by simp;omega
  go_enter Tryz.func194,Tryz.ntmps194
  cases b
  all_goals go_wp2
  all_goals go_ret
  all_goals refine ⟨ret_int ?_,(Grew.refl _).alloc _⟩
  ·rw [z8t,Int.sign_eq_one_of_pos (by omega)]
  ·rw [sval_true,Int.sign_eq_neg_one_of_neg (by omega)]
theorem z7e (b1 b2:Bool) (h1 l1 h2 l2:Nat) (w:World) (k1:l1<18446744073709551616) (k2:l2<18446744073709551616) (k3:h1<9223372036854775808) (k4:h2<9223372036854775808) :
  Calls Tryz.prog 193 #[wd b1 h1 l1,wd b2 h2 l2] w fun e w'=>∃ (b:Bool) (h l:Nat),e=.returned (wd b h l) ∧
   sval b (h*18446744073709551616+l)=sval b1 (h1*18446744073709551616+l1) - sval b2 (h2*18446744073709551616+l2)∧l<18446744073709551616∧h<18446744073709551616∧Grew w w':=by
 have es:sval (!b2) (h2*18446744073709551616+l2)=- sval b2 (h2*18446744073709551616+l2):=by cases b2 <;> simp [sval]
 have S:=fun W=>sum_any b1 (!b2) h1 l1 h2 l2 W k1 k2 k3 k4
 rw [es] at S
 clear es k1 k2 k3 k4
 go_enter Tryz.func193,Tryz.ntmps193
 go_wp2_with (go_at_call 190;refine (S _).mono ?_;rintro e w' ⟨b,h,l,rfl,hs,hl,hh,os,n,rfl⟩)
 refine bodyPost_ret_by (v:=wd b h l) ?_ rfl ⟨b,h,l,rfl,by omega,hl,hh,((((((Grew.refl _).alloc _).alloc _).alloc _).more _).drewN _)⟩
 simp [results,Tryz.results193,go_sem]
theorem z8r {j k:IntKind} {a b c d:Int} (h:a=b) (h':c=d):Ending.returned (.tuple #[.int j a,.int k c])=.returned (.tuple #[.int j b,.int k d]):=by rw [h,h']
theorem nz_in {z:Int} (h0:-9223372036854775808≤z) (h1:z≤9223372036854775807):nz z=z∧nErr z=0:=by
 have:fits z=true:=(z5s z).2 ⟨h0,h1⟩
 simp [nz,nErr,this]
theorem nz_out {z:Int} (h:z < -9223372036854775808∨9223372036854775807<z):nz z=0∧nErr z=32:=by
 have:fits z=false:=by
  cases hf:fits z
  ·rfl
  ·have:=(z5s z).1 hf;omega
 simp [nz,nErr,this]
theorem z6n (b:Bool) (h l:Nat) (w:World) (hl:l<18446744073709551616) :
  Calls Tryz.prog 140 #[wd b h l] w fun e w'=>e=.returned (.tuple #[.int .i64 (nz (sval b (h*18446744073709551616+l))),.int .i64 (nErr (sval b (h*18446744073709551616+l)))])∧Grew w w':=by
 go_enter Tryz.func140,Tryz.ntmps140
 cases b
 ·rw [z8t]
  go_wp2
  all_goals go_ret2
  all_goals refine ⟨?_,(Grew.refl _).alloc _⟩
  ·have:=nz_out (z:=((h*18446744073709551616+l:Nat):Int)) (by omega)
   exact z8r this.1.symm this.2.symm
  ·have:=nz_in (z:=((h*18446744073709551616+l:Nat):Int)) (by omega) (by omega)
   exact z8r (by rw [this.1];omega) this.2.symm
  ·have:=nz_out (z:=((h*18446744073709551616+l:Nat):Int)) (by omega)
   exact z8r this.1.symm this.2.symm
 ·rw [sval_true]
  go_wp2
  all_goals go_ret2
  all_goals refine ⟨?_,(Grew.refl _).alloc _⟩
  ·have:=nz_out (z:=-((h*18446744073709551616+l:Nat):Int)) (by omega)
   exact z8r this.1.symm this.2.symm
  ·have:=nz_in (z:=-((h*18446744073709551616+l:Nat):Int)) (by omega) (by omega)
   refine z8r (by rw [this.1];simp only [wrap64,IntKind.wrap_u64];omega) this.2.symm
  ·have:=nz_out (z:=-((h*18446744073709551616+l:Nat):Int)) (by omega)
   exact z8r this.1.symm this.2.symm
end Go.Proofs.YtljkonkfeiojnaaGreatDoor
