/-
  The contract of math/bits.Div64: for every two words by a word above the first of them.
-/
import Derived.Test.YtljkonkfeiojnaaGreatDoorMlDDivP
import Derived.Test.YtljkonkfeiojnaaGreatDoorMeDWide3
import Derived.Deep.RegionWith
set_option maxHeartbeats 4000000
set_option maxRecDepth 50000
namespace Go.Proofs.YtljkonkfeiojnaaGreatDoor
open Go.RowKit
theorem z1a {j k:IntKind} {a b c d:Int} (h:a=b) (h':c=d):Ending.returned (.tuple #[.int j a,.int k c])=.returned (.tuple #[.int j b,.int k d]):=by rw [h,h']
theorem div64_low (lo y:Nat) (w:World) (h0:0<y) (hl:lo<18446744073709551616) :
  Calls Tryz.prog 141 #[.int .u64 0,.int .u64 (lo:Int),.int .u64 (y:Int)] w fun e w'=>e=.returned (.tuple #[.int .u64 ((lo / y:Nat):Int),.int .u64 ((lo%y:Nat):Int)])∧Grew w w':=by
 have e1:¬ (y:Int)=0:=by omega
 have e2:¬ (y:Int)≤0:=by omega
 go_enter Tryz.func141,Tryz.ntmps141
 go_wp2
 go_region
 all_goals go_wp2
 all_goals go_ret2
 refine ⟨?_,(Grew.refl _).drew⟩
 have k:lo / y≤lo:=Nat.div_le_self _ _
 have e:IntKind.u64.wrap ((lo:Int) / (y:Int))=((lo / y:Nat):Int):=by
  rw [← Int.natCast_ediv,IntKind.wrap_u64]
  generalize lo / y=m at k ⊢
  omega
 exact z1a e (by simp)
theorem div64_high (hi lo y:Nat) (w:World) (h0:0<hi) (h1:hi<y) (hl:lo<18446744073709551616) (hy:y<18446744073709551616) :
  Calls Tryz.prog 141 #[.int .u64 (hi:Int),.int .u64 (lo:Int),.int .u64 (y:Int)] w fun e w'=>e=.returned (.tuple #[.int .u64 (((hi*18446744073709551616+lo) / y:Nat):Int),.int .u64 (((hi*18446744073709551616+lo)%y:Nat):Int)])∧Grew w w':=by
 have e1:¬ (y:Int)=0:=by omega
 have e2:¬ (y:Int)≤(hi:Int):=by omega
 have e3:¬ (hi:Int)=0:=by omega
 go_enter Tryz.func141,Tryz.ntmps141
 go_wp2_with fail
 refine (lead_any y _ (by omega) hy).mono ?_
 rintro e w' ⟨s,rfl,hs,k1,k2,rfl⟩
 obtain ⟨Y,y1,y0,U,V,d1,d0,n1,n2,n3,n4,n5,n6,n7,hY,hy0,hd1,hd0,hy1,hy1',hU,hYs,hN⟩:=div_names hi lo y s hs h1 hl k1 k2
 obtain ⟨q0,a0,r0,n9,n10,n11,hq0,hr0,hI0⟩:=z7p U d1 y1 y0 Y hY hU hd1 hy0 hy1 hy1'
 have HI0:Hid (z2w U d1 y1 y0 q0 r0):=hI0
 have HN:Hid (U*18446744073709551616+(d1*4294967296+d0)=(hi*18446744073709551616+lo)*2^s):=hN
 have HYs:Hid (Y=y*2^s):=hYs
 have HY:Hid (Y=y1*4294967296+y0):=hY
 have HU:Hid (U<Y):=hU
 have hY2:Y<18446744073709551616:=by omega
 have n8:¬ (y1:Int)=0:=by omega
 have Hq0:Hid (q0≤4294967297):=hq0
 have Hr0:Hid (r0<4294967296):=hr0
 clear hN hYs hY hU k1 k2 h1 hl hy hI0 hq0 hr0
 go_wp2
 clear n1 n2 n3 n4 n5 n6 n7 n9 n10 n11
 go_loop [15,16] (fun qv rv=>∃ q r:Nat,qv=.int .u64 (q:Int)∧rv=.int .u64 (r:Int)∧q≤4294967297∧r<4294967296∧Hid (z2w U d1 y1 y0 q r)) (fun qv _=>(intOf qv).toNat)
 case atStart=>exact ⟨q0,r0,rfl,rfl,Hq0.out,Hr0.out,HI0⟩
 case round =>
  obtain ⟨q,r,rfl,rfl,hq,hr,hI⟩:=hrel
  have Hq:Hid (q≤4294967297):=hq
  obtain ⟨b0,b,g,m1,m2,m3,hb,hg,mp,ma⟩:=z9s q r y1 y0 d1 hr hd1 hy1 hy0
  clear hq hr
  by_cases cA:4294967296≤q
  ·have cA':(4294967296:Int)≤(q:Int):=by omega
   clear m1 m2
   obtain ⟨hpos,hI'⟩:=z6f U d1 y1 y0 q r hI.out (by have:=HU.out;have:=HY.out;omega) hd1 (.inl cA)
   obtain ⟨p,m5,hp⟩:=mp hpos Hq.out
   rw [← hp,← hg] at hI'
   have HI:Hid (z2w U d1 y1 y0 p g):=hI'
   have hlt:Hid (p<q):=(by omega:p<q)
   have hple:Hid (p≤4294967297):=(by have:=Hq.out;omega:p≤4294967297)
   clear hI' mp ma hp hg hb hI cA
   by_cases cR:4294967296≤g
   ·have cR':(4294967296:Int)≤(g:Int):=by omega
    have HO:Hid (p=(U*4294967296+d1) / (y1*4294967296+y0)):=(z4h U d1 y1 y0 p g HI.out (z4b U d1 y1 y0 p g HI.out (by have:=HU.out;have:=HY.out;omega) hy0 cR).1).1
    clear cR
    obtain ⟨Q,hQe⟩:∃ Q,Q=p:=⟨p,rfl⟩
    have HQ:Hid (Q=(U*4294967296+d1) / (y1*4294967296+y0)):=by rw [hQe];exact HO.out
    obtain ⟨c1,c2,c3,T,s1,s2,s3,s4,hT,hTY⟩:=z3d U d1 y1 y0 Y Q HY.out HU.out hY2 hd1 HQ.out
    have HTe:Hid (T=(U*4294967296+d1)%Y):=hT
    have HT:Hid (T<Y):=hTY
    obtain ⟨q2,a2,r2,t1,t2,t3,hq2,hr2,hI2⟩:=z7p T d0 y1 y0 Y HY.out HT.out hd0 hy0 hy1 hy1'
    have HI2:Hid (z2w T d0 y1 y0 q2 r2):=hI2
    have Hq2:Hid (q2≤4294967297):=hq2
    have Hr2:Hid (r2<4294967296):=hr2
    clear hT hTY hI2 hq2 hr2
    rw [hQe] at s3
    go_wp2
    clear m3 s1 s2 s3 s4 t1 t2 t3
    subst hQe
    go_loop [18,16] (fun qv rv=>∃ q r:Nat,qv=.int .u64 (q:Int)∧rv=.int .u64 (r:Int)∧q≤4294967297∧r<4294967296∧Hid (z2w T d0 y1 y0 q r)) (fun qv _=>(intOf qv).toNat)
    case atStart=>exact ⟨q2,r2,rfl,rfl,Hq2.out,Hr2.out,HI2⟩
    case round =>
     obtain ⟨q,r,rfl,rfl,hq,hr,hI⟩:=hrel
     have Hq:Hid (q≤4294967297):=hq
     obtain ⟨b0,b,g,m1,m2,m3,hb,hg,mp,ma⟩:=z9s q r y1 y0 d0 hr hd0 hy1 hy0
     clear hq hr
     by_cases cA:4294967296≤q
     ·have cA':(4294967296:Int)≤(q:Int):=by omega
      clear m1 m2
      obtain ⟨hpos,hI'⟩:=z6f T d0 y1 y0 q r hI.out (by have:=HT.out;have:=HY.out;omega) hd0 (.inl cA)
      obtain ⟨p,m5,hp⟩:=mp hpos Hq.out
      rw [← hp,← hg] at hI'
      have HI:Hid (z2w T d0 y1 y0 p g):=hI'
      have hlt:Hid (p<q):=(by omega:p<q)
      have hple:Hid (p≤4294967297):=(by have:=Hq.out;omega:p≤4294967297)
      clear hI' mp ma hp hg hb hI cA
      by_cases cR:4294967296≤g
      ·have cR':(4294967296:Int)≤(g:Int):=by omega
       have HO:Hid (p=(T*4294967296+d0) / (y1*4294967296+y0)):=(z4h T d0 y1 y0 p g HI.out (z4b T d0 y1 y0 p g HI.out (by have:=HT.out;have:=HY.out;omega) hy0 cR).1).1
       clear cR
       obtain ⟨z1,z2,z3,c,u1,u2,u3,u4,hc,hcY⟩:=z3d T d0 y1 y0 Y p HY.out HT.out hY2 hd0 HO.out
       obtain ⟨v1,v2⟩:=z3n hi lo y s U d1 d0 y1 y0 Y T Q p c HY.out HYs.out HU.out hd1 hd0 (by omega) hY2 HN.out HTe.out HQ.out HO.out hc
       have V1:Hid (IntKind.u64.wrap (IntKind.u64.wrap ((Q:Int)*4294967296)+(p:Int))=(((hi*18446744073709551616+lo) / y:Nat):Int)):=v1
       have V2:Hid ((c:Int) / 2^s=(((hi*18446744073709551616+lo)%y:Nat):Int)):=v2
       clear v1 v2 hc hcY
       go_wp2
       go_ret2
       have V3:=z2t Q p _ (z1h U d1 y1 y0 Y Q HY.out HU.out hd1 HQ.out) (z1h T d0 y1 y0 Y p HY.out HT.out hd0 HO.out) V1.out
       first
        | exact ⟨z1a V1.out V2.out,Grew.refl _⟩
        | exact ⟨z1a V3.1 V2.out,Grew.refl _⟩
        | exact ⟨z1a V3.2 V2.out,Grew.refl _⟩
      ·have cR':¬ (4294967296:Int)≤(g:Int):=by omega
       have HR:Hid (g<4294967296):=(by omega:g<4294967296)
       clear cR
       go_wp2
       go_round
       case rel=>exact ⟨p,g,rfl,rfl,hple.out,HR.out,HI⟩
       case measure=>have:=hlt.out;simp [intOf];omega
     ·have cA':¬ (4294967296:Int)≤(q:Int):=by omega
      obtain ⟨a,m4,ha⟩:=ma cA
      by_cases cB:b<a
      ·have cB':4294967296*r+d0<q*y0:=by rw [← hb,← ha];exact cB
       clear ha
       have cB'':Hid (4294967296*r+d0<q*y0):=cB'
       clear cB'
       obtain ⟨hpos,hI'⟩:=z6f T d0 y1 y0 q r hI.out (by have:=HT.out;have:=HY.out;omega) hd0 (.inr cB''.out)
       obtain ⟨p,m5,hp⟩:=mp hpos Hq.out
       rw [← hp,← hg] at hI'
       have HI:Hid (z2w T d0 y1 y0 p g):=hI'
       have hlt:Hid (p<q):=(by omega:p<q)
       have hple:Hid (p≤4294967297):=(by have:=Hq.out;omega:p≤4294967297)
       clear hI' mp ma hp hg hb hI cA
       by_cases cR:4294967296≤g
       ·have cR':(4294967296:Int)≤(g:Int):=by omega
        have HO:Hid (p=(T*4294967296+d0) / (y1*4294967296+y0)):=(z4h T d0 y1 y0 p g HI.out (z4b T d0 y1 y0 p g HI.out (by have:=HT.out;have:=HY.out;omega) hy0 cR).1).1
        clear cR
        obtain ⟨z1,z2,z3,c,u1,u2,u3,u4,hc,hcY⟩:=z3d T d0 y1 y0 Y p HY.out HT.out hY2 hd0 HO.out
        obtain ⟨v1,v2⟩:=z3n hi lo y s U d1 d0 y1 y0 Y T Q p c HY.out HYs.out HU.out hd1 hd0 (by omega) hY2 HN.out HTe.out HQ.out HO.out hc
        have V1:Hid (IntKind.u64.wrap (IntKind.u64.wrap ((Q:Int)*4294967296)+(p:Int))=(((hi*18446744073709551616+lo) / y:Nat):Int)):=v1
        have V2:Hid ((c:Int) / 2^s=(((hi*18446744073709551616+lo)%y:Nat):Int)):=v2
        clear v1 v2 hc hcY
        go_wp2
        go_ret2
        have V3:=z2t Q p _ (z1h U d1 y1 y0 Y Q HY.out HU.out hd1 HQ.out) (z1h T d0 y1 y0 Y p HY.out HT.out hd0 HO.out) V1.out
        first
         | exact ⟨z1a V1.out V2.out,Grew.refl _⟩
         | exact ⟨z1a V3.1 V2.out,Grew.refl _⟩
         | exact ⟨z1a V3.2 V2.out,Grew.refl _⟩
       ·have cR':¬ (4294967296:Int)≤(g:Int):=by omega
        have HR:Hid (g<4294967296):=(by omega:g<4294967296)
        clear cR
        go_wp2
        go_round
        case rel=>exact ⟨p,g,rfl,rfl,hple.out,HR.out,HI⟩
        case measure=>have:=hlt.out;simp [intOf];omega
      ·have HO:Hid (q=(T*4294967296+d0) / (y1*4294967296+y0)):=(z4h T d0 y1 y0 q r hI.out (by rw [← hb,← ha];omega)).1
       clear mp ma hg hb ha hI cA
       obtain ⟨z1,z2,z3,c,u1,u2,u3,u4,hc,hcY⟩:=z3d T d0 y1 y0 Y q HY.out HT.out hY2 hd0 HO.out
       obtain ⟨v1,v2⟩:=z3n hi lo y s U d1 d0 y1 y0 Y T Q q c HY.out HYs.out HU.out hd1 hd0 (by omega) hY2 HN.out HTe.out HQ.out HO.out hc
       have V1:Hid (IntKind.u64.wrap (IntKind.u64.wrap ((Q:Int)*4294967296)+(q:Int))=(((hi*18446744073709551616+lo) / y:Nat):Int)):=v1
       have V2:Hid ((c:Int) / 2^s=(((hi*18446744073709551616+lo)%y:Nat):Int)):=v2
       clear v1 v2 hc hcY
       go_wp2
       go_ret2
       have V3:=z2t Q q _ (z1h U d1 y1 y0 Y Q HY.out HU.out hd1 HQ.out) (z1h T d0 y1 y0 Y q HY.out HT.out hd0 HO.out) V1.out
       first
        | exact ⟨z1a V1.out V2.out,Grew.refl _⟩
        | exact ⟨z1a V3.1 V2.out,Grew.refl _⟩
        | exact ⟨z1a V3.2 V2.out,Grew.refl _⟩
   ·have cR':¬ (4294967296:Int)≤(g:Int):=by omega
    have HR:Hid (g<4294967296):=(by omega:g<4294967296)
    clear cR
    go_wp2
    go_round
    case rel=>exact ⟨p,g,rfl,rfl,hple.out,HR.out,HI⟩
    case measure=>have:=hlt.out;simp [intOf];omega
  ·have cA':¬ (4294967296:Int)≤(q:Int):=by omega
   obtain ⟨a,m4,ha⟩:=ma cA
   by_cases cB:b<a
   ·have cB':4294967296*r+d1<q*y0:=by rw [← hb,← ha];exact cB
    clear ha
    have cB'':Hid (4294967296*r+d1<q*y0):=cB'
    clear cB'
    obtain ⟨hpos,hI'⟩:=z6f U d1 y1 y0 q r hI.out (by have:=HU.out;have:=HY.out;omega) hd1 (.inr cB''.out)
    obtain ⟨p,m5,hp⟩:=mp hpos Hq.out
    rw [← hp,← hg] at hI'
    have HI:Hid (z2w U d1 y1 y0 p g):=hI'
    have hlt:Hid (p<q):=(by omega:p<q)
    have hple:Hid (p≤4294967297):=(by have:=Hq.out;omega:p≤4294967297)
    clear hI' mp ma hp hg hb hI cA
    by_cases cR:4294967296≤g
    ·have cR':(4294967296:Int)≤(g:Int):=by omega
     have HO:Hid (p=(U*4294967296+d1) / (y1*4294967296+y0)):=(z4h U d1 y1 y0 p g HI.out (z4b U d1 y1 y0 p g HI.out (by have:=HU.out;have:=HY.out;omega) hy0 cR).1).1
     clear cR
     obtain ⟨Q,hQe⟩:∃ Q,Q=p:=⟨p,rfl⟩
     have HQ:Hid (Q=(U*4294967296+d1) / (y1*4294967296+y0)):=by rw [hQe];exact HO.out
     obtain ⟨c1,c2,c3,T,s1,s2,s3,s4,hT,hTY⟩:=z3d U d1 y1 y0 Y Q HY.out HU.out hY2 hd1 HQ.out
     have HTe:Hid (T=(U*4294967296+d1)%Y):=hT
     have HT:Hid (T<Y):=hTY
     obtain ⟨q2,a2,r2,t1,t2,t3,hq2,hr2,hI2⟩:=z7p T d0 y1 y0 Y HY.out HT.out hd0 hy0 hy1 hy1'
     have HI2:Hid (z2w T d0 y1 y0 q2 r2):=hI2
     have Hq2:Hid (q2≤4294967297):=hq2
     have Hr2:Hid (r2<4294967296):=hr2
     clear hT hTY hI2 hq2 hr2
     rw [hQe] at s3
     go_wp2
     clear m3 s1 s2 s3 s4 t1 t2 t3
     subst hQe
     go_loop [18,16] (fun qv rv=>∃ q r:Nat,qv=.int .u64 (q:Int)∧rv=.int .u64 (r:Int)∧q≤4294967297∧r<4294967296∧Hid (z2w T d0 y1 y0 q r)) (fun qv _=>(intOf qv).toNat)
     case atStart=>exact ⟨q2,r2,rfl,rfl,Hq2.out,Hr2.out,HI2⟩
     case round =>
      obtain ⟨q,r,rfl,rfl,hq,hr,hI⟩:=hrel
      have Hq:Hid (q≤4294967297):=hq
      obtain ⟨b0,b,g,m1,m2,m3,hb,hg,mp,ma⟩:=z9s q r y1 y0 d0 hr hd0 hy1 hy0
      clear hq hr
      by_cases cA:4294967296≤q
      ·have cA':(4294967296:Int)≤(q:Int):=by omega
       clear m1 m2
       obtain ⟨hpos,hI'⟩:=z6f T d0 y1 y0 q r hI.out (by have:=HT.out;have:=HY.out;omega) hd0 (.inl cA)
       obtain ⟨p,m5,hp⟩:=mp hpos Hq.out
       rw [← hp,← hg] at hI'
       have HI:Hid (z2w T d0 y1 y0 p g):=hI'
       have hlt:Hid (p<q):=(by omega:p<q)
       have hple:Hid (p≤4294967297):=(by have:=Hq.out;omega:p≤4294967297)
       clear hI' mp ma hp hg hb hI cA
       by_cases cR:4294967296≤g
       ·have cR':(4294967296:Int)≤(g:Int):=by omega
        have HO:Hid (p=(T*4294967296+d0) / (y1*4294967296+y0)):=(z4h T d0 y1 y0 p g HI.out (z4b T d0 y1 y0 p g HI.out (by have:=HT.out;have:=HY.out;omega) hy0 cR).1).1
        clear cR
        obtain ⟨z1,z2,z3,c,u1,u2,u3,u4,hc,hcY⟩:=z3d T d0 y1 y0 Y p HY.out HT.out hY2 hd0 HO.out
        obtain ⟨v1,v2⟩:=z3n hi lo y s U d1 d0 y1 y0 Y T Q p c HY.out HYs.out HU.out hd1 hd0 (by omega) hY2 HN.out HTe.out HQ.out HO.out hc
        have V1:Hid (IntKind.u64.wrap (IntKind.u64.wrap ((Q:Int)*4294967296)+(p:Int))=(((hi*18446744073709551616+lo) / y:Nat):Int)):=v1
        have V2:Hid ((c:Int) / 2^s=(((hi*18446744073709551616+lo)%y:Nat):Int)):=v2
        clear v1 v2 hc hcY
        go_wp2
        go_ret2
        have V3:=z2t Q p _ (z1h U d1 y1 y0 Y Q HY.out HU.out hd1 HQ.out) (z1h T d0 y1 y0 Y p HY.out HT.out hd0 HO.out) V1.out
        first
         | exact ⟨z1a V1.out V2.out,Grew.refl _⟩
         | exact ⟨z1a V3.1 V2.out,Grew.refl _⟩
         | exact ⟨z1a V3.2 V2.out,Grew.refl _⟩
       ·have cR':¬ (4294967296:Int)≤(g:Int):=by omega
        have HR:Hid (g<4294967296):=(by omega:g<4294967296)
        clear cR
        go_wp2
        go_round
        case rel=>exact ⟨p,g,rfl,rfl,hple.out,HR.out,HI⟩
        case measure=>have:=hlt.out;simp [intOf];omega
      ·have cA':¬ (4294967296:Int)≤(q:Int):=by omega
       obtain ⟨a,m4,ha⟩:=ma cA
       by_cases cB:b<a
       ·have cB':4294967296*r+d0<q*y0:=by rw [← hb,← ha];exact cB
        clear ha
        have cB'':Hid (4294967296*r+d0<q*y0):=cB'
        clear cB'
        obtain ⟨hpos,hI'⟩:=z6f T d0 y1 y0 q r hI.out (by have:=HT.out;have:=HY.out;omega) hd0 (.inr cB''.out)
        obtain ⟨p,m5,hp⟩:=mp hpos Hq.out
        rw [← hp,← hg] at hI'
        have HI:Hid (z2w T d0 y1 y0 p g):=hI'
        have hlt:Hid (p<q):=(by omega:p<q)
        have hple:Hid (p≤4294967297):=(by have:=Hq.out;omega:p≤4294967297)
        clear hI' mp ma hp hg hb hI cA
        by_cases cR:4294967296≤g
        ·have cR':(4294967296:Int)≤(g:Int):=by omega
         have HO:Hid (p=(T*4294967296+d0) / (y1*4294967296+y0)):=(z4h T d0 y1 y0 p g HI.out (z4b T d0 y1 y0 p g HI.out (by have:=HT.out;have:=HY.out;omega) hy0 cR).1).1
         clear cR
         obtain ⟨z1,z2,z3,c,u1,u2,u3,u4,hc,hcY⟩:=z3d T d0 y1 y0 Y p HY.out HT.out hY2 hd0 HO.out
         obtain ⟨v1,v2⟩:=z3n hi lo y s U d1 d0 y1 y0 Y T Q p c HY.out HYs.out HU.out hd1 hd0 (by omega) hY2 HN.out HTe.out HQ.out HO.out hc
         have V1:Hid (IntKind.u64.wrap (IntKind.u64.wrap ((Q:Int)*4294967296)+(p:Int))=(((hi*18446744073709551616+lo) / y:Nat):Int)):=v1
         have V2:Hid ((c:Int) / 2^s=(((hi*18446744073709551616+lo)%y:Nat):Int)):=v2
         clear v1 v2 hc hcY
         go_wp2
         go_ret2
         have V3:=z2t Q p _ (z1h U d1 y1 y0 Y Q HY.out HU.out hd1 HQ.out) (z1h T d0 y1 y0 Y p HY.out HT.out hd0 HO.out) V1.out
         first
          | exact ⟨z1a V1.out V2.out,Grew.refl _⟩
          | exact ⟨z1a V3.1 V2.out,Grew.refl _⟩
          | exact ⟨z1a V3.2 V2.out,Grew.refl _⟩
        ·have cR':¬ (4294967296:Int)≤(g:Int):=by omega
         have HR:Hid (g<4294967296):=(by omega:g<4294967296)
         clear cR
         go_wp2
         go_round
         case rel=>exact ⟨p,g,rfl,rfl,hple.out,HR.out,HI⟩
         case measure=>have:=hlt.out;simp [intOf];omega
       ·have HO:Hid (q=(T*4294967296+d0) / (y1*4294967296+y0)):=(z4h T d0 y1 y0 q r hI.out (by rw [← hb,← ha];omega)).1
        clear mp ma hg hb ha hI cA
        obtain ⟨z1,z2,z3,c,u1,u2,u3,u4,hc,hcY⟩:=z3d T d0 y1 y0 Y q HY.out HT.out hY2 hd0 HO.out
        obtain ⟨v1,v2⟩:=z3n hi lo y s U d1 d0 y1 y0 Y T Q q c HY.out HYs.out HU.out hd1 hd0 (by omega) hY2 HN.out HTe.out HQ.out HO.out hc
        have V1:Hid (IntKind.u64.wrap (IntKind.u64.wrap ((Q:Int)*4294967296)+(q:Int))=(((hi*18446744073709551616+lo) / y:Nat):Int)):=v1
        have V2:Hid ((c:Int) / 2^s=(((hi*18446744073709551616+lo)%y:Nat):Int)):=v2
        clear v1 v2 hc hcY
        go_wp2
        go_ret2
        have V3:=z2t Q q _ (z1h U d1 y1 y0 Y Q HY.out HU.out hd1 HQ.out) (z1h T d0 y1 y0 Y q HY.out HT.out hd0 HO.out) V1.out
        first
         | exact ⟨z1a V1.out V2.out,Grew.refl _⟩
         | exact ⟨z1a V3.1 V2.out,Grew.refl _⟩
         | exact ⟨z1a V3.2 V2.out,Grew.refl _⟩
    ·have cR':¬ (4294967296:Int)≤(g:Int):=by omega
     have HR:Hid (g<4294967296):=(by omega:g<4294967296)
     clear cR
     go_wp2
     go_round
     case rel=>exact ⟨p,g,rfl,rfl,hple.out,HR.out,HI⟩
     case measure=>have:=hlt.out;simp [intOf];omega
   ·have HO:Hid (q=(U*4294967296+d1) / (y1*4294967296+y0)):=(z4h U d1 y1 y0 q r hI.out (by rw [← hb,← ha];omega)).1
    clear mp ma hg hb ha hI cA
    obtain ⟨Q,hQe⟩:∃ Q,Q=q:=⟨q,rfl⟩
    have HQ:Hid (Q=(U*4294967296+d1) / (y1*4294967296+y0)):=by rw [hQe];exact HO.out
    obtain ⟨c1,c2,c3,T,s1,s2,s3,s4,hT,hTY⟩:=z3d U d1 y1 y0 Y Q HY.out HU.out hY2 hd1 HQ.out
    have HTe:Hid (T=(U*4294967296+d1)%Y):=hT
    have HT:Hid (T<Y):=hTY
    obtain ⟨q2,a2,r2,t1,t2,t3,hq2,hr2,hI2⟩:=z7p T d0 y1 y0 Y HY.out HT.out hd0 hy0 hy1 hy1'
    have HI2:Hid (z2w T d0 y1 y0 q2 r2):=hI2
    have Hq2:Hid (q2≤4294967297):=hq2
    have Hr2:Hid (r2<4294967296):=hr2
    clear hT hTY hI2 hq2 hr2
    rw [hQe] at s3
    go_wp2
    clear m3 s1 s2 s3 s4 t1 t2 t3
    subst hQe
    go_loop [18,16] (fun qv rv=>∃ q r:Nat,qv=.int .u64 (q:Int)∧rv=.int .u64 (r:Int)∧q≤4294967297∧r<4294967296∧Hid (z2w T d0 y1 y0 q r)) (fun qv _=>(intOf qv).toNat)
    case atStart=>exact ⟨q2,r2,rfl,rfl,Hq2.out,Hr2.out,HI2⟩
    case round =>
     obtain ⟨q,r,rfl,rfl,hq,hr,hI⟩:=hrel
     have Hq:Hid (q≤4294967297):=hq
     obtain ⟨b0,b,g,m1,m2,m3,hb,hg,mp,ma⟩:=z9s q r y1 y0 d0 hr hd0 hy1 hy0
     clear hq hr
     by_cases cA:4294967296≤q
     ·have cA':(4294967296:Int)≤(q:Int):=by omega
      clear m1 m2
      obtain ⟨hpos,hI'⟩:=z6f T d0 y1 y0 q r hI.out (by have:=HT.out;have:=HY.out;omega) hd0 (.inl cA)
      obtain ⟨p,m5,hp⟩:=mp hpos Hq.out
      rw [← hp,← hg] at hI'
      have HI:Hid (z2w T d0 y1 y0 p g):=hI'
      have hlt:Hid (p<q):=(by omega:p<q)
      have hple:Hid (p≤4294967297):=(by have:=Hq.out;omega:p≤4294967297)
      clear hI' mp ma hp hg hb hI cA
      by_cases cR:4294967296≤g
      ·have cR':(4294967296:Int)≤(g:Int):=by omega
       have HO:Hid (p=(T*4294967296+d0) / (y1*4294967296+y0)):=(z4h T d0 y1 y0 p g HI.out (z4b T d0 y1 y0 p g HI.out (by have:=HT.out;have:=HY.out;omega) hy0 cR).1).1
       clear cR
       obtain ⟨z1,z2,z3,c,u1,u2,u3,u4,hc,hcY⟩:=z3d T d0 y1 y0 Y p HY.out HT.out hY2 hd0 HO.out
       obtain ⟨v1,v2⟩:=z3n hi lo y s U d1 d0 y1 y0 Y T Q p c HY.out HYs.out HU.out hd1 hd0 (by omega) hY2 HN.out HTe.out HQ.out HO.out hc
       have V1:Hid (IntKind.u64.wrap (IntKind.u64.wrap ((Q:Int)*4294967296)+(p:Int))=(((hi*18446744073709551616+lo) / y:Nat):Int)):=v1
       have V2:Hid ((c:Int) / 2^s=(((hi*18446744073709551616+lo)%y:Nat):Int)):=v2
       clear v1 v2 hc hcY
       go_wp2
       go_ret2
       have V3:=z2t Q p _ (z1h U d1 y1 y0 Y Q HY.out HU.out hd1 HQ.out) (z1h T d0 y1 y0 Y p HY.out HT.out hd0 HO.out) V1.out
       first
        | exact ⟨z1a V1.out V2.out,Grew.refl _⟩
        | exact ⟨z1a V3.1 V2.out,Grew.refl _⟩
        | exact ⟨z1a V3.2 V2.out,Grew.refl _⟩
      ·have cR':¬ (4294967296:Int)≤(g:Int):=by omega
       have HR:Hid (g<4294967296):=(by omega:g<4294967296)
       clear cR
       go_wp2
       go_round
       case rel=>exact ⟨p,g,rfl,rfl,hple.out,HR.out,HI⟩
       case measure=>have:=hlt.out;simp [intOf];omega
     ·have cA':¬ (4294967296:Int)≤(q:Int):=by omega
      obtain ⟨a,m4,ha⟩:=ma cA
      by_cases cB:b<a
      ·have cB':4294967296*r+d0<q*y0:=by rw [← hb,← ha];exact cB
       clear ha
       have cB'':Hid (4294967296*r+d0<q*y0):=cB'
       clear cB'
       obtain ⟨hpos,hI'⟩:=z6f T d0 y1 y0 q r hI.out (by have:=HT.out;have:=HY.out;omega) hd0 (.inr cB''.out)
       obtain ⟨p,m5,hp⟩:=mp hpos Hq.out
       rw [← hp,← hg] at hI'
       have HI:Hid (z2w T d0 y1 y0 p g):=hI'
       have hlt:Hid (p<q):=(by omega:p<q)
       have hple:Hid (p≤4294967297):=(by have:=Hq.out;omega:p≤4294967297)
       clear hI' mp ma hp hg hb hI cA
       by_cases cR:4294967296≤g
       ·have cR':(4294967296:Int)≤(g:Int):=by omega
        have HO:Hid (p=(T*4294967296+d0) / (y1*4294967296+y0)):=(z4h T d0 y1 y0 p g HI.out (z4b T d0 y1 y0 p g HI.out (by have:=HT.out;have:=HY.out;omega) hy0 cR).1).1
        clear cR
        obtain ⟨z1,z2,z3,c,u1,u2,u3,u4,hc,hcY⟩:=z3d T d0 y1 y0 Y p HY.out HT.out hY2 hd0 HO.out
        obtain ⟨v1,v2⟩:=z3n hi lo y s U d1 d0 y1 y0 Y T Q p c HY.out HYs.out HU.out hd1 hd0 (by omega) hY2 HN.out HTe.out HQ.out HO.out hc
        have V1:Hid (IntKind.u64.wrap (IntKind.u64.wrap ((Q:Int)*4294967296)+(p:Int))=(((hi*18446744073709551616+lo) / y:Nat):Int)):=v1
        have V2:Hid ((c:Int) / 2^s=(((hi*18446744073709551616+lo)%y:Nat):Int)):=v2
        clear v1 v2 hc hcY
        go_wp2
        go_ret2
        have V3:=z2t Q p _ (z1h U d1 y1 y0 Y Q HY.out HU.out hd1 HQ.out) (z1h T d0 y1 y0 Y p HY.out HT.out hd0 HO.out) V1.out
        first
         | exact ⟨z1a V1.out V2.out,Grew.refl _⟩
         | exact ⟨z1a V3.1 V2.out,Grew.refl _⟩
         | exact ⟨z1a V3.2 V2.out,Grew.refl _⟩
       ·have cR':¬ (4294967296:Int)≤(g:Int):=by omega
        have HR:Hid (g<4294967296):=(by omega:g<4294967296)
        clear cR
        go_wp2
        go_round
        case rel=>exact ⟨p,g,rfl,rfl,hple.out,HR.out,HI⟩
        case measure=>have:=hlt.out;simp [intOf];omega
      ·have HO:Hid (q=(T*4294967296+d0) / (y1*4294967296+y0)):=(z4h T d0 y1 y0 q r hI.out (by rw [← hb,← ha];omega)).1
       clear mp ma hg hb ha hI cA
       obtain ⟨z1,z2,z3,c,u1,u2,u3,u4,hc,hcY⟩:=z3d T d0 y1 y0 Y q HY.out HT.out hY2 hd0 HO.out
       obtain ⟨v1,v2⟩:=z3n hi lo y s U d1 d0 y1 y0 Y T Q q c HY.out HYs.out HU.out hd1 hd0 (by omega) hY2 HN.out HTe.out HQ.out HO.out hc
       have V1:Hid (IntKind.u64.wrap (IntKind.u64.wrap ((Q:Int)*4294967296)+(q:Int))=(((hi*18446744073709551616+lo) / y:Nat):Int)):=v1
       have V2:Hid ((c:Int) / 2^s=(((hi*18446744073709551616+lo)%y:Nat):Int)):=v2
       clear v1 v2 hc hcY
       go_wp2
       go_ret2
       have V3:=z2t Q q _ (z1h U d1 y1 y0 Y Q HY.out HU.out hd1 HQ.out) (z1h T d0 y1 y0 Y q HY.out HT.out hd0 HO.out) V1.out
       first
        | exact ⟨z1a V1.out V2.out,Grew.refl _⟩
        | exact ⟨z1a V3.1 V2.out,Grew.refl _⟩
        | exact ⟨z1a V3.2 V2.out,Grew.refl _⟩
theorem div64_any (hi lo y:Nat) (w:World) (h1:hi<y) (hl:lo<18446744073709551616) (hy:y<18446744073709551616) :
  Calls Tryz.prog 141 #[.int .u64 (hi:Int),.int .u64 (lo:Int),.int .u64 (y:Int)] w fun e w'=>e=.returned (.tuple #[.int .u64 (((hi*18446744073709551616+lo) / y:Nat):Int),.int .u64 (((hi*18446744073709551616+lo)%y:Nat):Int)])∧Grew w w':=by
 rcases Nat.eq_zero_or_pos hi with h|h
 ·subst h
  simpa using div64_low lo y w (by omega) hl
 ·exact div64_high hi lo y w h h1 hl hy
end Go.Proofs.YtljkonkfeiojnaaGreatDoor
