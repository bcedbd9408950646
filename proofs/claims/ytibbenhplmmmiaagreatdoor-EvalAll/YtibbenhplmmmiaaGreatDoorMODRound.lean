/-
  The document's wide numbers: parts.
  The document's wide numbers: rounded.
-/
import Derived.Test.YtibbenhplmmmiaaGreatDoorDRef2
import Derived.Test.YtibbenhplmmmiaaGreatDoorDRef3
import Derived.Test.YtibbenhplmmmiaaGreatDoorMMDRef6
import Derived.Deep.RegionWith
set_option maxHeartbeats 8000000
set_option maxRecDepth 5000
namespace Go.Proofs.YtibbenhplmmmiaaGreatDoor
open Go.RowKit
attribute [local go_sem] z0e z0b z0c z0f z0m z0k z0h z0d z0g
def limb (a b c d e f:Nat) (k:Nat):Nat:=if k=0 then a else if k=1 then b else if k=2 then c else if k=3 then d else if k=4 then e else f
theorem z8r (x H e:Nat) (he:e<32):(x+4294967296*H) / 2^e%2=x / 2^e%2:=by
 have h:4294967296*H=2^e*(2*(2^(31 - e)*H)):=by
  rw [← Nat.mul_assoc 2,← Nat.pow_succ',← Nat.mul_assoc,← Nat.pow_add,show e+(31 - e+1)=32 by omega]
 rw [h,Nat.add_mul_div_left _ _ (Nat.pow_pos (by decide))]
 omega
theorem bit_limb {a0 a1 a2 a3 a4 a5:Nat} (h:Low6 a0 a1 a2 a3 a4 a5) (m:Nat) (hm:m<192):limb a0 a1 a2 a3 a4 a5 (m / 32) / 2^(m%32)%2=val6 a0 a1 a2 a3 a4 a5 / 2^m%2:=by
 obtain ⟨h0,h1,h2,h3,h4,h5⟩:=h
 have hp:2^m=4294967296^(m / 32)*2^(m%32):=by
  rw [show (4294967296:Nat)=2^32 from rfl,← Nat.pow_mul,← Nat.pow_add];congr 1;omega
 have hd:val6 a0 a1 a2 a3 a4 a5 / 2^m=val6 a0 a1 a2 a3 a4 a5 / 4294967296^(m / 32) / 2^(m%32):=by rw [hp,Nat.div_div_eq_div_mul]
 rw [hd]
 have he:m%32<32:=Nat.mod_lt _ (by decide)
 have hk:m / 32=0∨m / 32=1∨m / 32=2∨m / 32=3∨m / 32=4∨m / 32=5:=by omega
 generalize m%32=e at *
 generalize m / 32=k at *
 clear hp hd
 rcases hk with rfl|rfl|rfl|rfl|rfl|rfl
 ·have e1:val6 a0 a1 a2 a3 a4 a5 / 4294967296^0=a0+4294967296*(a1+4294967296*(a2+4294967296*(a3+4294967296*(a4+4294967296*a5)))):=by unfold val6;omega
  rw [e1,z8r _ _ _ he];rfl
 ·have e1:val6 a0 a1 a2 a3 a4 a5 / 4294967296^1=a1+4294967296*(a2+4294967296*(a3+4294967296*(a4+4294967296*a5))):=by unfold val6;omega
  rw [e1,z8r _ _ _ he];rfl
 ·have e1:val6 a0 a1 a2 a3 a4 a5 / 4294967296^2=a2+4294967296*(a3+4294967296*(a4+4294967296*a5)):=by unfold val6;omega
  rw [e1,z8r _ _ _ he];rfl
 ·have e1:val6 a0 a1 a2 a3 a4 a5 / 4294967296^3=a3+4294967296*(a4+4294967296*a5):=by unfold val6;omega
  rw [e1,z8r _ _ _ he];rfl
 ·have e1:val6 a0 a1 a2 a3 a4 a5 / 4294967296^4=a4+4294967296*(a5):=by unfold val6;omega
  rw [e1,z8r _ _ _ he];rfl
 ·have e1:val6 a0 a1 a2 a3 a4 a5 / 4294967296^5=a5+4294967296*(0):=by unfold val6;omega
  rw [e1,z8r _ _ _ he];rfl
theorem step_div (va vb q r m b:Nat) (h:q*vb+r=va / 2^(m+1)) (hb:b=va / 2^m%2):2*q*vb+(2*r+b)=va / 2^m:=by
 have h2:va / 2^(m+1)=va / 2^m / 2:=by rw [Nat.pow_succ,Nat.div_div_eq_div_mul]
 rw [h2] at h
 rw [hb,Nat.mul_assoc]
 omega
theorem parts_any (a0 a1 a2 a3 a4 a5 b0 b1 b2 b3 b4 b5:Nat) (sa sb:Bool) (w:World) (ha:Low6 a0 a1 a2 a3 a4 a5) (hb:Low6 b0 b1 b2 b3 b4 b5) (fa:val6 a0 a1 a2 a3 a4 a5<340282366920938463463374607431768211456) (fb:val6 b0 b1 b2 b3 b4 b5<340282366920938463463374607431768211456) (hb0:0<val6 b0 b1 b2 b3 b4 b5) :
  Calls Tryz.prog 245 #[wv a0 a1 a2 a3 a4 a5 sa,wv b0 b1 b2 b3 b4 b5 sb] w fun e w'=>∃ q0 q1 q2 q3 q4 q5 r0 r1 r2 r3 r4 r5:Nat,e=.returned (.tuple #[wv q0 q1 q2 q3 q4 q5 false,wv r0 r1 r2 r3 r4 r5 false])∧Low6 q0 q1 q2 q3 q4 q5∧Low6 r0 r1 r2 r3 r4 r5∧Hid (val6 q0 q1 q2 q3 q4 q5=val6 a0 a1 a2 a3 a4 a5 / val6 b0 b1 b2 b3 b4 b5)∧Hid (val6 r0 r1 r2 r3 r4 r5=val6 a0 a1 a2 a3 a4 a5%val6 b0 b1 b2 b3 b4 b5)∧Grew w w':=by
 obtain ⟨va,hva⟩:∃ v,v=val6 a0 a1 a2 a3 a4 a5:=⟨_,rfl⟩
 obtain ⟨vb,hvb⟩:∃ v,v=val6 b0 b1 b2 b3 b4 b5:=⟨_,rfl⟩
 rw [← hva,← hvb]
 have HA:Hid (Low6 a0 a1 a2 a3 a4 a5∧va=val6 a0 a1 a2 a3 a4 a5∧va<340282366920938463463374607431768211456):=⟨ha,hva,by rw [hva];exact fa⟩
 have HB:Hid (Low6 b0 b1 b2 b3 b4 b5∧vb=val6 b0 b1 b2 b3 b4 b5∧vb<340282366920938463463374607431768211456∧0<vb):=⟨hb,hvb,by rw [hvb];exact fb,by rw [hvb];exact hb0⟩
 clear ha hb fa fb hb0 hva hvb
 go_enter Tryz.func245,Tryz.ntmps245
 go_wp2_with fail
 go_loopw [8] (fun i wr=>∃ (j:Nat) (q0 q1 q2 q3 q4 q5 r0 r1 r2 r3 r4 r5:Nat) (l:List Obj) (n:Nat),j≤192∧i=.int .i64 ((j:Int) - 1)∧wr=(more ((((((w.alloc (Obj.cells #[Value.int IntKind.u64 (a0:Int),Value.int IntKind.u64 (a1:Int),Value.int IntKind.u64 (a2:Int),Value.int IntKind.u64 (a3:Int),Value.int IntKind.u64 (a4:Int),Value.int IntKind.u64 (a5:Int),Value.bool sa] 120)).alloc (Obj.cells #[Value.int IntKind.u64 (b0:Int),Value.int IntKind.u64 (b1:Int),Value.int IntKind.u64 (b2:Int),Value.int IntKind.u64 (b3:Int),Value.int IntKind.u64 (b4:Int),Value.int IntKind.u64 (b5:Int),Value.bool sb] 120)).alloc (Obj.cells #[Value.int IntKind.u64 0,Value.int IntKind.u64 0,Value.int IntKind.u64 0,Value.int IntKind.u64 0,Value.int IntKind.u64 0,Value.int IntKind.u64 0,Value.bool false] 120)).alloc (Obj.cells #[Value.int IntKind.u64 0,Value.int IntKind.u64 0,Value.int IntKind.u64 0,Value.int IntKind.u64 0,Value.int IntKind.u64 0,Value.int IntKind.u64 0,Value.bool false] 120)).alloc (Obj.cells #[Value.int IntKind.u64 (q0:Int),Value.int IntKind.u64 (q1:Int),Value.int IntKind.u64 (q2:Int),Value.int IntKind.u64 (q3:Int),Value.int IntKind.u64 (q4:Int),Value.int IntKind.u64 (q5:Int),Value.bool false] 120)).alloc (Obj.cells #[Value.int IntKind.u64 (r0:Int),Value.int IntKind.u64 (r1:Int),Value.int IntKind.u64 (r2:Int),Value.int IntKind.u64 (r3:Int),Value.int IntKind.u64 (r4:Int),Value.int IntKind.u64 (r5:Int),Value.bool false] 120)) l).drewN n∧Low6 q0 q1 q2 q3 q4 q5∧Low6 r0 r1 r2 r3 r4 r5∧Hid (val6 q0 q1 q2 q3 q4 q5*vb+val6 r0 r1 r2 r3 r4 r5=va / 2^j∧val6 r0 r1 r2 r3 r4 r5<vb)) (fun i _=>(intOf i+1).toNat)
 case atStart =>
  refine ⟨192,0,0,0,0,0,0,0,0,0,0,0,0,[],0,by decide,rfl,rfl,⟨by decide,by decide,by decide,by decide,by decide,by decide⟩,⟨by decide,by decide,by decide,by decide,by decide,by decide⟩,?_⟩
  have h1:=HA.out.2.2
  have h2:=HB.out.2.2.2
  refine ⟨?_,?_⟩
  ·rw [Nat.div_eq_of_lt (Nat.lt_of_lt_of_le h1 (by decide))];unfold val6;omega
  ·unfold val6;omega
 case round =>
  obtain ⟨j,q0,q1,q2,q3,q4,q5,r0,r1,r2,r3,r4,r5,l,n,hj,rfl,rfl,lq,lr,hinv⟩:=hrel
  rcases Nat.eq_zero_or_pos j with hj0|hj0
  ·subst hj0
   rw [show (((0:Nat):Int) - 1)=-1 from rfl]
   have HQ:Hid (val6 q0 q1 q2 q3 q4 q5=va / vb):=by
    obtain ⟨h1,h2⟩:=hinv.out
    rw [Nat.pow_zero,Nat.div_one] at h1
    show val6 q0 q1 q2 q3 q4 q5=va / vb
    rw [← h1,Nat.mul_comm,Nat.mul_add_div (by omega),Nat.div_eq_of_lt h2,Nat.add_zero]
   have HR:Hid (val6 r0 r1 r2 r3 r4 r5=va%vb):=by
    obtain ⟨h1,h2⟩:=hinv.out
    rw [Nat.pow_zero,Nat.div_one] at h1
    show val6 r0 r1 r2 r3 r4 r5=va%vb
    rw [← h1,Nat.mul_comm,Nat.mul_add_mod,Nat.mod_eq_of_lt h2]
   go_wp2_with fail
   go_region_with (fail)
   all_goals go_wp2_with fail
   all_goals refine bodyPost_ret_by (v:=.tuple #[wv q0 q1 q2 q3 q4 q5 false,wv r0 r1 r2 r3 r4 r5 false]) ?_ rfl ⟨q0,q1,q2,q3,q4,q5,r0,r1,r2,r3,r4,r5,rfl,lq,lr,HQ,HR,gA⟩
   all_goals simp [results,Tryz.results245,go_sem]
  ·obtain ⟨m,rfl⟩:∃ m,j=m+1:=⟨j - 1,by omega⟩
   have e0:(((m+1:Nat):Int) - 1)=(m:Int):=by omega
   rw [e0]
   clear e0 hj0
   have hm0:(0:Int)≤(m:Int):=by omega
   have hbit:=bit_limb HA.out.1 m (by omega)
   obtain ⟨k,hk⟩:∃ k,k=m / 32:=⟨_,rfl⟩
   obtain ⟨e,he⟩:∃ e,e=m%32:=⟨_,rfl⟩
   rw [← hk,← he] at hbit
   have ek:(m:Int) / 32=(k:Int):=by omega
   have ee:(m:Int)%32=(e:Int):=by omega
   have wk:IntKind.i64.wrap (k:Int)=(k:Int):=by rw [IntKind.wrap_i64];omega
   have we:IntKind.u64.wrap (e:Int)=(e:Int):=by rw [IntKind.wrap_u64];omega
   have k6:(k:Int)<6:=by omega
   have k0:(0:Int)≤(k:Int):=by omega
   have hget:(#[Value.int IntKind.u64 (a0:Int),Value.int IntKind.u64 (a1:Int),Value.int IntKind.u64 (a2:Int),Value.int IntKind.u64 (a3:Int),Value.int IntKind.u64 (a4:Int),Value.int IntKind.u64 (a5:Int),Value.bool sa]:Array Value)[k]?=some (Value.int IntKind.u64 (limb a0 a1 a2 a3 a4 a5 k:Int)):=by
    have:k=0∨k=1∨k=2∨k=3∨k=4∨k=5:=by omega
    rcases this with h|h|h|h|h|h <;> rw [h] <;> rfl
   generalize limb a0 a1 a2 a3 a4 a5 k=x at *
   have HBIT:Hid (x / 2^e%2=va / 2^m%2):=by rw [HA.out.2.1];exact hbit
   clear hk he hbit
   have P1:=fun W=>z7r r0 r1 r2 r3 r4 r5 r0 r1 r2 r3 r4 r5 false false W lr lr
   have P2:=fun W=>z7r q0 q1 q2 q3 q4 q5 q0 q1 q2 q3 q4 q5 false false W lq lq
   go_wp2_with fail
   refine (P1 _).mono ?_
   rintro e1 w1 ⟨d0,d1,d2,d3,d4,d5,c1,rfl,ld,hd,os1,n1,rfl⟩
   go_wp2_with fail
   have hr2:val6 d0 d1 d2 d3 d4 d5=2*val6 r0 r1 r2 r3 r4 r5:=by
    have h1:=hinv.out.2
    have h2:=HB.out.2.2.1
    omega
   obtain ⟨D,fy,lD,hD⟩:∃ D:Nat,Hid (IntKind.u64.wrap ((d0:Int)+((x:Int) / 2^min (IntKind.u64.wrap ((m:Int).tmod 32)).toNat 64).tmod 2)=(D:Int))∧Low6 D d1 d2 d3 d4 d5∧Hid (val6 D d1 d2 d3 d4 d5=2*val6 r0 r1 r2 r3 r4 r5+va / 2^m%2):=by
    refine ⟨d0+x / 2^e%2,?_,?_,?_⟩
    ·show IntKind.u64.wrap _=_
     rw [Int.tmod_eq_emod_of_nonneg hm0,ee,we,Int.toNat_natCast,Nat.min_eq_left (by omega)]
     have e2:(x:Int) / 2^e=((x / 2^e:Nat):Int):=by rw [Int.natCast_ediv,Int.natCast_pow];rfl
     rw [e2,Int.tmod_eq_emod_of_nonneg (Int.natCast_nonneg _)]
     generalize x / 2^e=y
     have h0:=ld.1
     unfold val6 at hr2
     rw [IntKind.wrap_u64];omega
    ·obtain ⟨h0,h1,h2,h3,h4,h5⟩:=ld
     refine ⟨?_,h1,h2,h3,h4,h5⟩
     unfold val6 at hr2
     omega
    ·show val6 _ d1 d2 d3 d4 d5=_
     rw [HBIT.out,← hr2]
     unfold val6;omega
   have hst:=step_div va vb (val6 q0 q1 q2 q3 q4 q5) (val6 r0 r1 r2 r3 r4 r5) m _ hinv.out.1 rfl
   rw [← hD.out] at hst
   have HST:Hid (2*val6 q0 q1 q2 q3 q4 q5*vb+val6 D d1 d2 d3 d4 d5=va / 2^m):=hst
   have HRR:Hid (val6 D d1 d2 d3 d4 d5<2*vb):=by
    have h1:=hinv.out.2
    have h2:=hD.out
    show val6 D d1 d2 d3 d4 d5<2*vb
    omega
   have HQB:Hid (val6 q0 q1 q2 q3 q4 q5<340282366920938463463374607431768211456):=by
    have h1:=hinv.out.1
    have h2:=HA.out.2.2
    have h3:=HB.out.2.2.2
    have h4:val6 q0 q1 q2 q3 q4 q5≤val6 q0 q1 q2 q3 q4 q5*vb:=Nat.le_mul_of_pos_right _ h3
    have h5:va / 2^(m+1)≤va:=Nat.div_le_self _ _
    show val6 q0 q1 q2 q3 q4 q5 < _
    omega
   have LS:=fun W=>y0a D d1 d2 d3 d4 d5 b0 b1 b2 b3 b4 b5 false sb W lD HB.out.1
   have MN:=fun h W=>minus_any D d1 d2 d3 d4 d5 b0 b1 b2 b3 b4 b5 false sb W lD HB.out.1 h
   rw [← HB.out.2.1] at LS
   clear hst hD hr2 hd ld HBIT lr hinv ee we P1
   go_region_with (fail)
   all_goals
    rw [fy.out]
    clear hget ek wk k6 k0
    go_wp2_with fail
    refine (P2 _).mono ?_
    rintro e2 w2 ⟨g0,g1,g2,g3,g4,g5,c2,rfl,lg,hg,os2,n2,rfl⟩
    have HG:Hid (val6 g0 g1 g2 g3 g4 g5=2*val6 q0 q1 q2 q3 q4 q5):=by
     have h1:=HQB.out
     show val6 g0 g1 g2 g3 g4 g5=_
     omega
    clear hg
    go_wp2_with fail
    refine (LS _).mono ?_
    by_cases hlt:val6 D d1 d2 d3 d4 d5<vb
    ·rw [show decide (val6 D d1 d2 d3 d4 d5<vb)=true by simp [hlt]]
     have HI:Hid (val6 g0 g1 g2 g3 g4 g5*vb+val6 D d1 d2 d3 d4 d5=va / 2^m∧val6 D d1 d2 d3 d4 d5<vb):=⟨by rw [HG.out];exact HST.out,hlt⟩
     rintro e3 w3 ⟨rfl,os3,n3,rfl⟩
     clear hlt LS MN P2
     go_wp2_with fail
     go_roundw
     case rel=>exact ⟨m,g0,g1,g2,g3,g4,g5,D,d1,d2,d3,d4,d5,_,_,by omega,by go_num,rfl,lg,lD,HI⟩
     case measure=>simp [intOf]
    ·rw [show decide (val6 D d1 d2 d3 d4 d5<vb)=false by simp;omega]
     have M:=MN (by rw [← HB.out.2.1];omega)
     rw [← HB.out.2.1] at M
     obtain ⟨E,fe,lE,hE⟩:∃ E:Nat,IntKind.u64.wrap ((g0:Int)+1)=(E:Int)∧Low6 E g1 g2 g3 g4 g5∧Hid (val6 E g1 g2 g3 g4 g5=2*val6 q0 q1 q2 q3 q4 q5+1):=by
      have h1:=HG.out
      obtain ⟨h0,h2⟩:=lg
      refine ⟨g0+1,?_,⟨?_,h2⟩,?_⟩
      ·unfold val6 at h1
       rw [IntKind.wrap_u64];omega
      ·unfold val6 at h1
       omega
      ·show val6 (g0+1) g1 g2 g3 g4 g5=_
       rw [← h1];unfold val6;omega
     rintro e3 w3 ⟨rfl,os3,n3,rfl⟩
     clear LS MN P2
     go_wp2_with fail
     refine (M _).mono ?_
     rintro e4 w4 ⟨h0,h1,h2,h3,h4,h5,rfl,lh,hh,os4,n4,rfl⟩
     have HI:Hid (val6 E g1 g2 g3 g4 g5*vb+val6 h0 h1 h2 h3 h4 h5=va / 2^m∧val6 h0 h1 h2 h3 h4 h5<vb):=by
      have h1:=HST.out
      have h2:=HRR.out
      refine ⟨?_,by omega⟩
      rw [hE.out,hh,Nat.add_mul,Nat.one_mul]
      omega
     clear hlt M hh
     go_wp2_with fail
     go_roundw
     case rel=>exact ⟨m,E,g1,g2,g3,g4,g5,h0,h1,h2,h3,h4,h5,_,_,by omega,by go_num,rfl,lE,lh,HI⟩
     case measure=>simp [intOf]
end Go.Proofs.YtibbenhplmmmiaaGreatDoor

namespace Go.Proofs.YtibbenhplmmmiaaGreatDoor
open Go.RowKit
attribute [local go_sem] z0e z0b z0c z0f z0m z0k z0h z0d z0g
section
variable (W:World) (l1 l2 l3:List Obj) (o1 o2 o3:Obj) (n i:Nat) (v:Value)
theorem ltX (h:n<W.heap.size):n<(((more W l1).alloc o1).alloc o2).heap.size:=by have:=z0f h l1;simp;omega
theorem ltB:(more W l1).heap.size<(((more W l1).alloc o1).alloc o2).heap.size:=by simp;omega
theorem yc (h:n<W.heap.size):((more (((more W l1).alloc o1).alloc o2) l2).alloc o3).cell? ⟨n,i,none⟩=W.cell? ⟨n,i,none⟩ :=
 (World.cell?_alloc_past o3 n i (z0f (ltX W l1 o1 o2 n h) l2)).trans ((z0e l2 n i _ (ltX W l1 o1 o2 n h)).trans ((World.cell?_alloc_past o2 n i (by have:=z0f h l1;simp;omega)).trans (cellMA l1 o1 n i W h)))
theorem yf (h:n<W.heap.size):((more (((more W l1).alloc o1).alloc o2) l2).alloc o3).frozen? ⟨n,i,none⟩=W.frozen? ⟨n,i,none⟩ :=
 (World.frozen?_alloc_past o3 n i (z0f (ltX W l1 o1 o2 n h) l2)).trans ((z0b l2 n i _ (ltX W l1 o1 o2 n h)).trans ((World.frozen?_alloc_past o2 n i (by have:=z0f h l1;simp;omega)).trans (frozenMA l1 o1 n i W h)))
theorem ys (h:n<W.heap.size):((more (((more W l1).alloc o1).alloc o2) l2).alloc o3).setCell ⟨n,i,none⟩ v=(more (((more (W.setCell ⟨n,i,none⟩ v) l1).alloc o1).alloc o2) l2).alloc o3:=by
 rw [World.setCell_alloc_past o3 n i v (z0f (ltX W l1 o1 o2 n h) l2),z0c l2 n i v _ (ltX W l1 o1 o2 n h),World.setCell_alloc_past o2 n i v (by have:=z0f h l1;simp;omega),setMA l1 o1 n i v W h]
theorem ycB:((more (((more W l1).alloc o1).alloc o2) l2).alloc o3).cell? ⟨(more W l1).heap.size,i,none⟩=((more W l1).alloc o1).cell? ⟨(more W l1).heap.size,i,none⟩ :=
 (World.cell?_alloc_past o3 _ i (z0f (ltB W l1 o1 o2) l2)).trans ((z0e l2 _ i _ (ltB W l1 o1 o2)).trans (World.cell?_alloc_past o2 _ i (by simp)))
theorem yfB:((more (((more W l1).alloc o1).alloc o2) l2).alloc o3).frozen? ⟨(more W l1).heap.size,i,none⟩=((more W l1).alloc o1).frozen? ⟨(more W l1).heap.size,i,none⟩ :=
 (World.frozen?_alloc_past o3 _ i (z0f (ltB W l1 o1 o2) l2)).trans ((z0b l2 _ i _ (ltB W l1 o1 o2)).trans (World.frozen?_alloc_past o2 _ i (by simp)))
theorem ysB:((more (((more W l1).alloc o1).alloc o2) l2).alloc o3).setCell ⟨(more W l1).heap.size,i,none⟩ v=(more ((((more W l1).alloc o1).setCell ⟨(more W l1).heap.size,i,none⟩ v).alloc o2) l2).alloc o3:=by
 rw [World.setCell_alloc_past o3 _ i v (z0f (ltB W l1 o1 o2) l2),z0c l2 _ i v _ (ltB W l1 o1 o2),World.setCell_alloc_past o2 _ i v (by simp)]
theorem ltY (h:n<W.heap.size):n<((more (((more W l1).alloc o1).alloc o2) l2).alloc o3).heap.size:=by have:=z0f (ltX W l1 o1 o2 n h) l2;simp;omega
theorem ltYB:(more W l1).heap.size<((more (((more W l1).alloc o1).alloc o2) l2).alloc o3).heap.size:=by have:=z0f (ltB W l1 o1 o2) l2;simp;omega
theorem yyc (h:n<W.heap.size):(more ((more (((more W l1).alloc o1).alloc o2) l2).alloc o3) l3).cell? ⟨n,i,none⟩=W.cell? ⟨n,i,none⟩:=(z0e l3 n i _ (ltY W l1 l2 o1 o2 o3 n h)).trans (yc W l1 l2 o1 o2 o3 n i h)
theorem yyf (h:n<W.heap.size):(more ((more (((more W l1).alloc o1).alloc o2) l2).alloc o3) l3).frozen? ⟨n,i,none⟩=W.frozen? ⟨n,i,none⟩:=(z0b l3 n i _ (ltY W l1 l2 o1 o2 o3 n h)).trans (yf W l1 l2 o1 o2 o3 n i h)
theorem yys (h:n<W.heap.size):(more ((more (((more W l1).alloc o1).alloc o2) l2).alloc o3) l3).setCell ⟨n,i,none⟩ v=more ((more (((more (W.setCell ⟨n,i,none⟩ v) l1).alloc o1).alloc o2) l2).alloc o3) l3:=by
 rw [z0c l3 n i v _ (ltY W l1 l2 o1 o2 o3 n h),ys W l1 l2 o1 o2 o3 n i v h]
theorem yycB:(more ((more (((more W l1).alloc o1).alloc o2) l2).alloc o3) l3).cell? ⟨(more W l1).heap.size,i,none⟩=((more W l1).alloc o1).cell? ⟨(more W l1).heap.size,i,none⟩:=(z0e l3 _ i _ (ltYB W l1 l2 o1 o2 o3)).trans (ycB W l1 l2 o1 o2 o3 i)
theorem yyfB:(more ((more (((more W l1).alloc o1).alloc o2) l2).alloc o3) l3).frozen? ⟨(more W l1).heap.size,i,none⟩=((more W l1).alloc o1).frozen? ⟨(more W l1).heap.size,i,none⟩:=(z0b l3 _ i _ (ltYB W l1 l2 o1 o2 o3)).trans (yfB W l1 l2 o1 o2 o3 i)
theorem yysB:(more ((more (((more W l1).alloc o1).alloc o2) l2).alloc o3) l3).setCell ⟨(more W l1).heap.size,i,none⟩ v=more ((more ((((more W l1).alloc o1).setCell ⟨(more W l1).heap.size,i,none⟩ v).alloc o2) l2).alloc o3) l3:=by
 rw [z0c l3 _ i v _ (ltYB W l1 l2 o1 o2 o3),ysB W l1 l2 o1 o2 o3 i v]
end
attribute [local go_sem high] cellMA frozenMA setMA yc yf ys ycB yfB ysB yyc yyf yys yycB yyfB yysB
theorem rnd_is (va vb:Nat):rnd va vb=if vb<2*(va%vb)∨(2*(va%vb)=vb∧va / vb%2=1) then va / vb+1 else va / vb:=rfl
theorem z6q (a0 a1 a2 a3 a4 a5 b0 b1 b2 b3 b4 b5:Nat) (sa sb:Bool) (w:World) (ha:Low6 a0 a1 a2 a3 a4 a5) (hb:Low6 b0 b1 b2 b3 b4 b5) (fa:val6 a0 a1 a2 a3 a4 a5<340282366920938463463374607431768211456) (fb:val6 b0 b1 b2 b3 b4 b5<340282366920938463463374607431768211456) (hb0:0<val6 b0 b1 b2 b3 b4 b5) :
    Calls Tryz.prog 189 #[wv a0 a1 a2 a3 a4 a5 sa,wv b0 b1 b2 b3 b4 b5 sb] w fun e w'=>∃ o0 o1 o2 o3 o4 o5:Nat,e=.returned (wv o0 o1 o2 o3 o4 o5 sa)∧Low6 o0 o1 o2 o3 o4 o5∧Hid (val6 o0 o1 o2 o3 o4 o5=rnd (val6 a0 a1 a2 a3 a4 a5) (val6 b0 b1 b2 b3 b4 b5))∧Grew w w':=by
  have PT:=fun W=>parts_any a0 a1 a2 a3 a4 a5 b0 b1 b2 b3 b4 b5 sa sb W ha hb fa fb hb0
  have HB:Hid (Low6 b0 b1 b2 b3 b4 b5):=hb
  have one:Low6 1 0 0 0 0 0:=⟨by decide,by decide,by decide,by decide,by decide,by decide⟩
  have ON1:=fun W=>z2m 1 1 0 1 W (by decide) (by decide) rfl rfl rfl
  obtain ⟨va,hva⟩:∃ v,v=val6 a0 a1 a2 a3 a4 a5:=⟨_,rfl⟩
  obtain ⟨vb,hvb⟩:∃ v,v=val6 b0 b1 b2 b3 b4 b5:=⟨_,rfl⟩
  have HVB:Hid (val6 b0 b1 b2 b3 b4 b5=vb):=hvb.symm
  rw [← hva,← hvb] at PT
  rw [← hva] at fa
  rw [← hvb] at fb hb0
  rw [← hva,← hvb]
  have HM:Hid (va%vb<vb∧va / vb≤va∧va<340282366920938463463374607431768211456∧vb<340282366920938463463374607431768211456):=⟨Nat.mod_lt _ hb0,Nat.div_le_self _ _,fa,fb⟩
  have HRND:Hid (rnd va vb=if vb<2*(va%vb)∨(2*(va%vb)=vb∧va / vb%2=1) then va / vb+1 else va / vb):=rnd_is va vb
  generalize rnd va vb=rv at HRND ⊢
  clear ha hb hva hvb fa fb hb0
  go_enter Tryz.func189,Tryz.ntmps189
  go_wp2_with fail
  refine (PT _).mono ?_
  rintro e w1 ⟨q0,q1,q2,q3,q4,q5,r0,r1,r2,r3,r4,r5,rfl,lq,lr,hq,hr,os1,n1,rfl⟩
  clear PT
  go_wp2_with fail
  refine (z7r r0 r1 r2 r3 r4 r5 r0 r1 r2 r3 r4 r5 false false _ lr lr).mono ?_
  rintro e w2 ⟨t0,t1,t2,t3,t4,t5,c1,rfl,lt,ht,os2,n2,rfl⟩
  have HT:Hid (val6 t0 t1 t2 t3 t4 t5=2*(va%vb)):=by
    have h1:=hr.out
    have h2:=HM.out
    show val6 t0 t1 t2 t3 t4 t5=_
    omega
  have L1:=fun W=>y0a b0 b1 b2 b3 b4 b5 t0 t1 t2 t3 t4 t5 sb false W HB.out lt
  have L2:=fun W=>y0a t0 t1 t2 t3 t4 t5 b0 b1 b2 b3 b4 b5 false sb W lt HB.out
  have AD:=fun W=>z7r q0 q1 q2 q3 q4 q5 1 0 0 0 0 0 false false W lq one
  rw [HVB.out,HT.out] at L1 L2
  have hq0:q0%2=va / vb%2:=by
    have h1:=hq.out
    rw [← h1];unfold val6;omega
  clear ht lt lr hr HT
  generalize va%vb=vr at *
  generalize va / vb=vq at *
  by_cases h1:vb<2*vr
  · rw [show decide (vb<2*vr)=true by simp [h1]] at L1
    have HRV:Hid (rv=vq+1):=by show rv=_;rw [HRND.out,if_pos (.inl h1)]
    clear L2 h1 HRND hq0 HVB HB
    go_wp2_with fail
    refine (L1 _).mono ?_
    rintro e w3 ⟨rfl,os3,n3,rfl⟩
    go_wp2_with fail
    go_region_with (first
      | (go_at_call 80;refine (ON1 _).mono ?_;rintro e w5 ⟨rfl,os5,n5,rfl⟩)
      | (go_at_call 78;refine (AD _).mono ?_;rintro e w6 ⟨o0,o1,o2,o3,o4,o5,c2,rfl,lo,ho,os6,n6,rfl⟩))
    all_goals go_wp2_with fail
    all_goals refine bodyPost_ret_by (v:=wv o0 o1 o2 o3 o4 o5 sa) ?_ rfl ⟨o0,o1,o2,o3,o4,o5,rfl,lo,?_,gA⟩
    all_goals first
      | (simp [results,Tryz.results189,go_sem];done)
      | (show val6 _ _ _ _ _ _=rv
         have h1:=hq.out
         have h2:=HM.out
         have h3:=HRV.out
         unfold val6 at h1 ho ⊢
         omega)
  · rw [show decide (vb<2*vr)=false by simp;omega] at L1
    by_cases h2:2*vr<vb
    · rw [show decide (2*vr<vb)=true by simp [h2]] at L2
      have HRV:Hid (rv=vq):=by show rv=_;rw [HRND.out,if_neg (by omega)]
      clear h1 h2 HRND hq0 HVB HB
      go_wp2_with fail
      refine (L1 _).mono ?_
      rintro e w3 ⟨rfl,os3,n3,rfl⟩
      go_wp2_with fail
      refine (L2 _).mono ?_
      rintro e w4 ⟨rfl,os4,n4,rfl⟩
      go_wp2_with fail
      refine bodyPost_ret_by (v:=wv q0 q1 q2 q3 q4 q5 sa) ?_ rfl ⟨q0,q1,q2,q3,q4,q5,rfl,lq,(show Hid (val6 q0 q1 q2 q3 q4 q5=rv) from by show val6 q0 q1 q2 q3 q4 q5=rv;rw [hq.out,HRV.out]),gA⟩
      simp [results,Tryz.results189,go_sem]
    · rw [show decide (2*vr<vb)=false by simp;omega] at L2
      by_cases h3:vq%2=1
      · have HRV:Hid (rv=vq+1):=by show rv=_;rw [HRND.out,if_pos (.inr ⟨by omega,h3⟩)]
        have hqi:(q0:Int)%2=1:=by omega
        clear h1 h2 h3 HRND hq0 HVB HB
        go_wp2_with fail
        refine (L1 _).mono ?_
        rintro e w3 ⟨rfl,os3,n3,rfl⟩
        go_wp2_with fail
        refine (L2 _).mono ?_
        rintro e w4 ⟨rfl,os4,n4,rfl⟩
        go_wp2_with fail
        go_region_with (first
          | (go_at_call 80;refine (ON1 _).mono ?_;rintro e w5 ⟨rfl,os5,n5,rfl⟩)
          | (go_at_call 78;refine (AD _).mono ?_;rintro e w6 ⟨o0,o1,o2,o3,o4,o5,c2,rfl,lo,ho,os6,n6,rfl⟩))
        all_goals go_wp2_with fail
        all_goals refine bodyPost_ret_by (v:=wv o0 o1 o2 o3 o4 o5 sa) ?_ rfl ⟨o0,o1,o2,o3,o4,o5,rfl,lo,?_,gA⟩
        all_goals first
          | (simp [results,Tryz.results189,go_sem];done)
          | (show val6 _ _ _ _ _ _=rv
             have h1:=hq.out
             have h2:=HM.out
             have h3:=HRV.out
             unfold val6 at h1 ho ⊢
             omega)
      · have HRV:Hid (rv=vq):=by show rv=_;rw [HRND.out,if_neg (by omega)]
        have hqi:(q0:Int)%2=0:=by omega
        clear h1 h2 h3 HRND hq0 HVB HB
        go_wp2_with fail
        refine (L1 _).mono ?_
        rintro e w3 ⟨rfl,os3,n3,rfl⟩
        go_wp2_with fail
        refine (L2 _).mono ?_
        rintro e w4 ⟨rfl,os4,n4,rfl⟩
        go_wp2_with fail
        refine bodyPost_ret_by (v:=wv q0 q1 q2 q3 q4 q5 sa) ?_ rfl ⟨q0,q1,q2,q3,q4,q5,rfl,lq,(show Hid (val6 q0 q1 q2 q3 q4 q5=rv) from by show val6 q0 q1 q2 q3 q4 q5=rv;rw [hq.out,HRV.out]),gA⟩
        simp [results,Tryz.results189,go_sem]
end Go.Proofs.YtibbenhplmmmiaaGreatDoor
