/-
  The program's Print of a decimal that is not right: the empty text.
  math/bits.LeadingZeros64 by the library's contract, laid at this program; what is known of the number of bits.
  Plain facts on a division of two words by a word, moved up: the names that the walk of math/bits.Div64 gives its numbers. Nothing of the program is in it.
-/
import Derived.Test.YtljkonkfeiojnaaGreatDoorDArith
import Derived.Test.YtljkonkfeiojnaaGreatDoorMjDParse
import Derived.Test.YtljkonkfeiojnaaGreatDoorMeDWide3
import Derived.Shelf.Small.Bits
import Derived.Laws.BitsAllLaws
import Derived.Laws.Bits64b
set_option maxRecDepth 4000
namespace Go.Proofs.YtljkonkfeiojnaaGreatDoor
open Go.RowKit
end Go.Proofs.YtljkonkfeiojnaaGreatDoor

namespace Go.Proofs.YtljkonkfeiojnaaGreatDoor
open Go.RowKit Go.Shelf
def ren:Ren:=⟨fun|129=>134|134=>186|n=>n,fun|3=>3|4=>4|5=>5|9=>9|46=>152|53=>124|n=>n,fun n=>n⟩
theorem lays134:Lays.n134 Tryz.prog ren:={
 mixed:=by kernel_rfl
 f129:=by kernel_rfl
 f134:=by kernel_rfl
 t3:=by kernel_rfl
 a3:=fun _=>by kernel_rfl
 z3:=fun _=>by kernel_rfl
 v3:=fun _=>by kernel_rfl
 t4:=by kernel_rfl
 a4:=fun _=>by kernel_rfl
 z4:=fun _=>by kernel_rfl
 v4:=fun _=>by kernel_rfl
 t5:=by kernel_rfl
 a5:=fun _=>by kernel_rfl
 z5:=fun _=>by kernel_rfl
 v5:=fun _=>by kernel_rfl
 t9:=by kernel_rfl
 a9:=fun _=>by kernel_rfl
 z9:=fun _=>by kernel_rfl
 v9:=fun _=>by kernel_rfl
 t46:=by kernel_rfl
 a46:=fun _=>by kernel_rfl
 z46:=fun _=>by kernel_rfl
 v46:=fun _=>by kernel_rfl
 t53:=by kernel_rfl
 a53:=fun _=>by kernel_rfl
 z53:=fun _=>by kernel_rfl
 v53:=fun _=>by kernel_rfl }
theorem bitLen_bounds:∀ (k x:Nat),x≤k→0<x→x<2^64→0<Lib.bitLen x∧2^(Lib.bitLen x - 1)≤x∧x<2^Lib.bitLen x:=by
 intro k
 induction k with
 | zero=>intro x h h0 _;omega
 | succ k ih =>
  intro x h h0 h64
  rw [Lib.bitLen_half x (by omega) h64]
  by_cases h1:x=1
  ·subst h1
   decide
  ·obtain ⟨a,b,c⟩:=ih (x / 2) (by omega) (by omega) (by omega)
   generalize Lib.bitLen (x / 2)=m at *
   obtain ⟨j,rfl⟩:∃ j,m=j+1:=⟨m - 1,by omega⟩
   refine ⟨by omega,?_,?_⟩
   ·rw [show 1+(j+1) - 1=j+1 by omega,Nat.pow_succ]
    rw [show j+1 - 1=j by omega] at b
    omega
   ·rw [show 1+(j+1)=(j+1)+1 by omega,Nat.pow_succ]
    omega
theorem lead_any (y:Nat) (w:World) (h0:0<y) (h1:y<18446744073709551616) :
  Calls Tryz.prog 186 #[.int .u64 (y:Int)] w fun e w'=>∃ s:Nat,e=.returned (.int .i64 (s:Int))∧s<64∧9223372036854775808≤y*2^s∧y*2^s<18446744073709551616∧w=w':=by
 refine (Any.bits_LeadingZeros64 lays134 (y:Int) w (by omega) (by omega)).mono ?_
 rintro e w' ⟨rfl,rfl⟩
 rw [Int.toNat_natCast]
 obtain ⟨a,b,c⟩:=bitLen_bounds y y (Nat.le_refl _) h0 h1
 have l:=Lib.bitLen_le y 64 (by decide) h1
 generalize Lib.bitLen y=m at *
 refine ⟨64 - m,by congr 2;omega,by omega,?_,?_,rfl⟩
 ·have e:2^(m - 1)*2^(64 - m)=9223372036854775808:=by rw [← Nat.pow_add,show m - 1+(64 - m)=63 by omega]
  rw [← e]
  exact Nat.mul_le_mul_right _ b
 ·have e:2^m*2^(64 - m)=18446744073709551616:=by rw [← Nat.pow_add,show m+(64 - m)=64 by omega]
  rw [← e]
  exact Nat.mul_lt_mul_of_pos_right c (Nat.pow_pos (by decide))
end Go.Proofs.YtljkonkfeiojnaaGreatDoor

namespace Go.Proofs.YtljkonkfeiojnaaGreatDoor
open Go.RowKit
theorem z6e (a s:Nat):(a:Int)*2^s=((a*2^s:Nat):Int):=by simp
theorem or_up (a b s:Nat) (h:b<2^s) (h1:a*2^s<18446744073709551616) (hb:b<18446744073709551616):bits .or .u64 ((a*2^s:Nat):Int) (b:Int)=((a*2^s+b:Nat):Int):=by
 rw [u64_or_nat _ _ h1 hb,Nat.mul_comm a,← Nat.two_pow_add_eq_or_of_lt h a]
theorem div_names (hi lo y s:Nat) (hs:s<64) (h1:hi<y) (hl:lo<18446744073709551616) (k1:9223372036854775808≤y*2^s) (k2:y*2^s<18446744073709551616) :
  ∃ Y y1 y0 U V d1 d0:Nat,IntKind.u64.wrap ((y:Int)*2^s)=(Y:Int)∧(Y:Int) / 4294967296=(y1:Int)∧bits .and .u64 (Y:Int) 4294967295=(y0:Int) ∧
   bits .or .u64 (IntKind.u64.wrap ((hi:Int)*2^s)) ((lo:Int) / 2^(64 - s))=(U:Int)∧IntKind.u64.wrap ((lo:Int)*2^s)=(V:Int)∧(V:Int) / 4294967296=(d1:Int)∧bits .and .u64 (V:Int) 4294967295=(d0:Int) ∧
   Y=y1*4294967296+y0∧y0<4294967296∧d1<4294967296∧d0<4294967296∧y1<4294967296∧2147483648≤y1∧U<Y∧Y=y*2^s∧U*18446744073709551616+(d1*4294967296+d0)=(hi*18446744073709551616+lo)*2^s:=by
 have hp:0<2^s:=Nat.pow_pos (by decide)
 have e64:2^(64 - s)*2^s=18446744073709551616:=by rw [← Nat.pow_add,show 64 - s+s=64 by omega]
 have ed:lo*2^s / 18446744073709551616=lo / 2^(64 - s):=by rw [← e64,Nat.mul_div_mul_right _ _ hp]
 have hlt:lo / 2^(64 - s)<2^s:=by
  rw [Nat.div_lt_iff_lt_mul (Nat.pow_pos (by decide)),Nat.mul_comm,e64];exact hl
 have hh:hi*2^s<18446744073709551616:=Nat.lt_trans (Nat.mul_lt_mul_of_pos_right h1 hp) k2
 have hm:=Nat.div_add_mod (lo*2^s) 18446744073709551616
 have hN:(hi*2^s+lo / 2^(64 - s))*18446744073709551616+lo*2^s%18446744073709551616=(hi*18446744073709551616+lo)*2^s:=by
  rw [Nat.add_mul (hi*2^s),Nat.add_mul (hi*18446744073709551616),← ed]
  have:hi*18446744073709551616*2^s=hi*2^s*18446744073709551616:=by rw [Nat.mul_right_comm]
  rw [this]
  generalize hi*2^s=A
  generalize lo*2^s=C at *
  omega
 have hup:(hi*18446744073709551616+lo)*2^s<y*2^s*18446744073709551616:=by
  have:(hi*18446744073709551616+lo)*2^s<y*18446744073709551616*2^s:=Nat.mul_lt_mul_of_pos_right (by omega) hp
  rwa [Nat.mul_right_comm] at this
 refine ⟨y*2^s,y*2^s / 4294967296,y*2^s%4294967296,hi*2^s+lo / 2^(64 - s),lo*2^s%18446744073709551616,lo*2^s%18446744073709551616 / 4294967296,lo*2^s%18446744073709551616%4294967296,?_⟩
 have cd:(lo:Int) / 2^(64 - s)=((lo / 2^(64 - s):Nat):Int):=by simp
 rw [z6e,z6e,z6e,cd]
 rw [show IntKind.u64.wrap ((hi*2^s:Nat):Int)=((hi*2^s:Nat):Int) by rw [IntKind.wrap_u64];omega]
 rw [show IntKind.u64.wrap ((y*2^s:Nat):Int)=((y*2^s:Nat):Int) by rw [IntKind.wrap_u64];omega]
 rw [or_up hi _ s hlt hh (Nat.lt_of_le_of_lt (Nat.div_le_self _ _) hl)]
 have mask:∀ a:Nat,a<18446744073709551616→bits .and .u64 (a:Int) 4294967295=((a%4294967296:Nat):Int):=by
  intro a ha
  have h:=bits_and_u64_nat a 4294967295 ha (by omega)
  have e:a &&& 4294967295=a%4294967296:=Nat.and_two_pow_sub_one_eq_mod a 32
  rw [e] at h
  exact h
 refine ⟨rfl,by omega,mask _ k2,rfl,by rw [IntKind.wrap_u64];omega,by omega,mask _ (by omega),by omega,by omega,by omega,by omega,by omega,by omega,?_,rfl,?_⟩
 ·rw [← hN] at hup
  omega
 ·rw [← hN]
  omega
theorem z9s (q r y1 y0 d:Nat) (hr:r<4294967296) (hd:d<4294967296) (hy1:y1<4294967296) (hy0:y0<4294967296) :
  ∃ b0 b g:Nat,IntKind.u64.wrap (4294967296*(r:Int))=(b0:Int)∧IntKind.u64.wrap ((b0:Int)+(d:Int))=(b:Int)∧IntKind.u64.wrap ((r:Int)+(y1:Int))=(g:Int)∧b=4294967296*r+d∧g=r+y1 ∧
   (0<q→q≤4294967297→∃ p:Nat,IntKind.u64.wrap ((q:Int) - 1)=(p:Int)∧p=q - 1)∧(¬ 4294967296≤q→∃ a:Nat,IntKind.u64.wrap ((q:Int)*(y0:Int))=(a:Int)∧a=q*y0):=by
 refine ⟨4294967296*r,4294967296*r+d,r+y1,by rw [IntKind.wrap_u64];omega,by rw [IntKind.wrap_u64];omega,by rw [IntKind.wrap_u64];omega,rfl,rfl,?_,?_⟩
 ·intro h h'
  exact ⟨q - 1,by rw [IntKind.wrap_u64];omega,rfl⟩
 ·intro h
  refine ⟨q*y0,?_,rfl⟩
  have:q*y0≤4294967295*4294967295:=Nat.mul_le_mul (by omega) (by omega)
  rw [← Int.natCast_mul,IntKind.wrap_u64]
  omega
theorem z7p (U d y1 y0 Y:Nat) (hY:Y=y1*4294967296+y0) (hU:U<Y) (hd:d<4294967296) (hy0:y0<4294967296) (hy1:y1<4294967296) (hy1':2147483648≤y1) :
  ∃ q0 a0 r0:Nat,IntKind.u64.wrap ((U:Int) / (y1:Int))=(q0:Int)∧IntKind.u64.wrap ((q0:Int)*(y1:Int))=(a0:Int)∧IntKind.u64.wrap ((U:Int) - (a0:Int))=(r0:Int)∧q0≤4294967297∧r0<4294967296∧z2w U d y1 y0 q0 r0:=by
 have hdm:=Nat.div_add_mod U y1
 have hq0:U / y1≤4294967297:=by
  rw [Nat.div_le_iff_le_mul_add_pred (by omega)];omega
 have hr0:U%y1<y1:=Nat.mod_lt U (by omega)
 have hI:=div_start U d y1 y0 (by omega) hd
 rw [Nat.mul_comm] at hdm
 refine ⟨U / y1,U / y1*y1,U%y1,?_,?_,?_,hq0,by omega,hI⟩
 ·rw [← Int.natCast_ediv,IntKind.wrap_u64]
  generalize U / y1=m at *
  omega
 ·rw [← Int.natCast_mul,IntKind.wrap_u64]
  generalize U / y1*y1=m at *
  omega
 ·rw [IntKind.wrap_u64]
  generalize U / y1*y1=m at *
  omega
theorem z3d (U d y1 y0 Y q:Nat) (hY:Y=y1*4294967296+y0) (hU:U<Y) (hY2:Y<18446744073709551616) (_hd:d<4294967296) (hq:q=(U*4294967296+d) / (y1*4294967296+y0)) :
  ∃ c1 c2 c3 T:Nat,IntKind.u64.wrap ((U:Int)*4294967296)=(c1:Int)∧IntKind.u64.wrap ((c1:Int)+(d:Int))=(c2:Int)∧IntKind.u64.wrap ((q:Int)*(Y:Int))=(c3:Int)∧IntKind.u64.wrap ((c2:Int) - (c3:Int))=(T:Int) ∧
   T=(U*4294967296+d)%Y∧T<Y:=by
 rw [← hY] at hq
 have hdm:=Nat.div_add_mod (U*4294967296+d) Y
 have hm:=Nat.mod_lt (U*4294967296+d) (show 0<Y by omega)
 rw [← hq,Nat.mul_comm] at hdm
 refine ⟨U*4294967296%18446744073709551616,(U*4294967296+d)%18446744073709551616,q*Y%18446744073709551616,(U*4294967296+d)%Y,?_,?_,?_,?_,rfl,hm⟩
 ·rw [IntKind.wrap_u64];omega
 ·rw [IntKind.wrap_u64];omega
 ·rw [← Int.natCast_mul,IntKind.wrap_u64];omega
 ·rw [IntKind.wrap_u64]
  generalize (U*4294967296+d)%Y=m at *
  generalize q*Y=A at *
  omega
theorem z3n (hi lo y s U d1 d0 y1 y0 Y T Q q c:Nat) (hY:Y=y1*4294967296+y0) (hYs:Y=y*2^s) (hU:U<Y) (hd1:d1<4294967296) (hd0:d0<4294967296) (_hy:0<y) (hY2:Y<18446744073709551616)
  (hN:U*18446744073709551616+(d1*4294967296+d0)=(hi*18446744073709551616+lo)*2^s) (hT:T=(U*4294967296+d1)%Y) (hQ:Q=(U*4294967296+d1) / (y1*4294967296+y0))
  (hq:q=(T*4294967296+d0) / (y1*4294967296+y0)) (hc:c=(T*4294967296+d0)%Y) :
  IntKind.u64.wrap (IntKind.u64.wrap ((Q:Int)*4294967296)+(q:Int))=(((hi*18446744073709551616+lo) / y:Nat):Int)∧(c:Int) / 2^s=(((hi*18446744073709551616+lo)%y:Nat):Int):=by
 rw [← hY] at hQ hq
 have hYp:0<Y:=by omega
 have h2:=div_two U d1 d0 Y hYp
 have hsh:=div_shift (hi*18446744073709551616+lo) y s
 rw [← hT,← hQ,← hq,← hc,hN,hYs,hsh.1] at h2
 have hTY:T<Y:=by rw [hT];exact Nat.mod_lt _ hYp
 have bQ:Q<4294967296:=by rw [hQ];exact digit_lt U d1 Y hU hd1
 have bq:q<4294967296:=by rw [hq];exact digit_lt T d0 Y hTY hd0
 refine ⟨?_,?_⟩
 ·rw [← h2.1,IntKind.wrap_u64,IntKind.wrap_u64];omega
 ·rw [← hsh.2,← h2.2];simp
theorem z2t (Q q:Nat) (X:Int) (hQ:Q<4294967296) (hq:q<4294967296) (h:IntKind.u64.wrap (IntKind.u64.wrap ((Q:Int)*4294967296)+(q:Int))=X) :
  IntKind.u64.wrap ((Q:Int)*4294967296+(q:Int))=X∧(Q:Int)*4294967296+(q:Int)=X:=by
 simp only [IntKind.wrap_u64] at h ⊢
 omega
theorem z1h (U d y1 y0 Y q:Nat) (hY:Y=y1*4294967296+y0) (hU:U<Y) (hd:d<4294967296) (hq:q=(U*4294967296+d) / (y1*4294967296+y0)):q<4294967296:=by
 rw [hq,← hY];exact digit_lt U d Y hU hd
end Go.Proofs.YtljkonkfeiojnaaGreatDoor
