/-
  The program's Print: the text of any decimal.
-/
import Derived.Test.YtljkonkfeiojnaaGreatDoorMjDParse
set_option maxHeartbeats 4000000
set_option maxRecDepth 20000
namespace Go.Proofs.YtljkonkfeiojnaaGreatDoor
open Go.RowKit
attribute [local go_sem] z0f z0b z0c z0e z0m z0k z0h z0d z0g
theorem print_good (u:Int) (s:Nat) (w:World) (hs:s≤6) (u0:-9223372036854775808≤u) (u1:u≤9223372036854775807) :
  Calls Tryz.prog 46 #[dv u (s:Int)] w fun e w'=>e=.returned (.string ⟨(z2z u s).toArray⟩)∧Grew w w':=by
 have R:=fun W=>right_any u (s:Int) W
 rw [(z1f _).2 (show 0≤(s:Int)∧(s:Int)≤6 by omega)] at R
 obtain ⟨U,hU⟩:∃ U,U=u.natAbs:=⟨_,rfl⟩
 have M:=fun W=>z4v u W u0 u1
 rw [← hU] at M
 have hlen:(digs U).length≤20:=z9r 19 U (by have h10:(10:Nat)^(19+1)=100000000000000000000:=(by decide);omega)
 obtain ⟨F0,hF0⟩:∃ F0,F0=40:=⟨_,rfl⟩
 obtain ⟨txt,htxt⟩:∃ txt,txt=z1m s 40 0 U []:=⟨_,rfl⟩
 have HT:Hid (z2z u s=(if u<0 then [45] else [])++txt):=by
  show z2z u s=_
  rw [htxt,z9g s U 40 (by omega),hU];rfl
 have HU:Hid (U<18446744073709551616):=(by show U < _;omega)
 have HL:Hid (txt.length≤20):=by
  have h19:(digs U).length≤19:=z9r 18 U (by have h10:(10:Nat)^(18+1)=10000000000000000000:=(by decide);omega)
  show txt.length≤20
  rw [htxt,z9g s U 40 (by omega)]
  have h1:=pad_len s (digs U)
  have h0:=pad_len 0 (digs U)
  split
  ·omega
  ·rw [List.length_append,List.length_take,List.length_cons,List.length_drop];omega
 clear hU hlen u0 u1
 go_enter Tryz.func46,Tryz.ntmps46
 go_wp2
 refine z2b 0 39 rfl ?_
 go_wp2_with (first
  | (go_at_call 69;refine (R _).mono ?_;rintro e w' ⟨rfl,os,n,rfl⟩)
  | (go_at_call 72;refine (M _).mono ?_;rintro e w' ⟨rfl,rfl⟩))
 apply wp_label
 clear R M
 show _
 rename_i aK
 refine aK _ _ ?_
 refine z6x (fun f a W=>∃ (k x j:Nat) (t:List UInt8) (C:Array Value) (n:Nat) (z7 z8 z9 z10 z11 z12 z13 z14 z15 z16 z17 z18 z19 z20 z21 z22 z23 z24 z25 z26 z27 z28 z29 z30 z31 z32 z33 z34 z35 z36 z37 z38 z39 z40 z41 z42 z43 z44 z45 z46 z47 z48 z49 z50 z51 z52 z53 z54:Value),a={ tmps:=#[dv u (s:Int),Value.pointer (some { block:=w.heap.size,off:=0 }),Value.string { data:=#[] },Value.pointer (some { block:=(more (w.alloc (Obj.cells #[Value.int IntKind.i64 u,Value.int IntKind.i64 (s:Int)] 94)) os).heap.size,off:=0 }),Value.int IntKind.i64 (j:Int),Value.int IntKind.i64 (k:Int),Value.int IntKind.u64 (x:Int),z7,z8,z9,z10,z11,z12,z13,z14,z15,z16,z17,z18,z19,z20,z21,z22,z23,z24,z25,z26,z27,z28,z29,z30,z31,z32,z33,z34,z35,z36,z37,z38,z39,z40,z41,z42,z43,z44,z45,z46,z47,z48,z49,z50,z51,z52,z53,z54],defers:=[] }∧W=((more (w.alloc (Obj.cells #[Value.int IntKind.i64 u,Value.int IntKind.i64 (s:Int)] 94)) os).alloc (.cells C 123)).drewN n∧Room C t j∧Hid (z1m s f k x t=txt∧x<18446744073709551616∧k+f=F0∧k≤t.length)) ?none0 ?step 39 ?start
 case none0 =>
  rintro a W ⟨k,x,j,t,C,n,z7,z8,z9,z10,z11,z12,z13,z14,z15,z16,z17,z18,z19,z20,z21,z22,z23,z24,z25,z26,z27,z28,z29,z30,z31,z32,z33,z34,z35,z36,z37,z38,z39,z40,z41,z42,z43,z44,z45,z46,z47,z48,z49,z50,z51,z52,z53,z54,rfl,rfl,hR,hI⟩
  have h1:=hI.out.2.2.1
  have h2:=hI.out.2.2.2
  have h3:=hR.2.1
  omega
 case start =>
  exact ⟨0,U,21,[],Array.replicate 21 (.int .u8 0),n,_,_,_,_,_,_,_,_,_,_,_,_,_,_,_,_,_,_,_,_,_,_,_,_,_,_,_,_,_,_,_,_,_,_,_,_,_,_,_,_,_,_,_,_,_,_,_,_,rfl,rfl,⟨rfl,rfl,fun i hi=>⟨0,by simp [hi]⟩,fun i h=>absurd h (by simp)⟩,⟨htxt.symm,HU.out,hF0.symm,Nat.le_refl _⟩⟩
 case step =>
  rintro f K hK a W ⟨k,x,j,t,C,n1,z7,z8,z9,z10,z11,z12,z13,z14,z15,z16,z17,z18,z19,z20,z21,z22,z23,z24,z25,z26,z27,z28,z29,z30,z31,z32,z33,z34,z35,z36,z37,z38,z39,z40,z41,z42,z43,z44,z45,z46,z47,z48,z49,z50,z51,z52,z53,z54,rfl,rfl,hR,hI⟩
  have hR0:=hR
  obtain ⟨r1,r2,r3,r4⟩:=hR
  have hw:=hI.out.1
  have hx:=hI.out.2.1
  have hkf:=hI.out.2.2.1
  have hkt:=hI.out.2.2.2
  have htl:=written_told s f k x t
  rw [hw] at htl
  have hl:=HL.out
  obtain ⟨y,hy⟩:∃ y:UInt8,y=UInt8.ofNat (48+x%10):=⟨_,rfl⟩
  obtain ⟨r,hr⟩:∃ r,r=x%10:=⟨_,rfl⟩
  obtain ⟨q,hq⟩:∃ q,q=x / 10:=⟨_,rfl⟩
  obtain ⟨k1,hk1⟩:∃ k1,k1=k+1:=⟨_,rfl⟩
  have e0:(x:Int)%10=(r:Int):=by omega
  have e1:IntKind.u8.wrap (r:Int)=(r:Int):=by rw [IntKind.wrap_u8];omega
  have e2:IntKind.u8.wrap (48+(r:Int))=(y.toNat:Int):=by rw [IntKind.wrap_u8,hy,UInt8.toNat_ofNat'];omega
  have e3:(x:Int) / 10=(q:Int):=by omega
  have e4:IntKind.u64.wrap (q:Int)=(q:Int):=by rw [IntKind.wrap_u64];omega
  have e5:IntKind.i64.wrap ((k:Int)+1)=(k1:Int):=by rw [IntKind.wrap_i64];omega
  by_cases hp:0<k∧k=s
  ·have ht:told s k x t=y::46::t:=by unfold told;rw [if_pos hp,hy]
   have hk0:=hp.1
   have hks:s=k:=hp.2.symm
   subst hks
   rw [ht,List.length_cons,List.length_cons] at htl
   obtain ⟨j1,hj1⟩:∃ j1,j=j1+1:=⟨j - 1,by omega⟩
   obtain ⟨j2,hj2⟩:∃ j2,j1=j2+1:=⟨j1 - 1,by omega⟩
   have w1:IntKind.i64.wrap ((j:Int) - 1)=(j1:Int):=by rw [IntKind.wrap_i64];omega
   have w2:IntKind.i64.wrap ((j1:Int) - 1)=(j2:Int):=by rw [IntKind.wrap_i64];omega
   have b0:(0:Int)≤(j1:Int):=by omega
   have b1:(j1:Int)<21:=by omega
   have b2:(0:Int)≤(j2:Int):=by omega
   have b3:(j2:Int)<21:=by omega
   obtain ⟨y1,hy1⟩:=r3 j1 (by omega)
   obtain ⟨y2,hy2⟩:=r3 j2 (by omega)
   have hy3:(C.setIfInBounds j1 (.int .u8 46))[j2]?=some (.int .u8 (y2.toNat:Int)):=by rw [Array.getElem?_setIfInBounds_ne (by omega)];exact hy2
   rw [hj1] at hR0
   have hRm:=hR0.cons 46
   rw [show (((46:UInt8).toNat:Nat):Int)=46 from rfl,hj2] at hRm
   have hRn:=hRm.cons y
   rw [← hj2] at hRn
   clear hRm
   have dk:(0:Int)<(s:Int):=by omega
   by_cases hq0:q=0
   ·subst hq0
    have dks:¬ (k1:Int)≤(s:Int):=by omega
    have HX:Hid (y::46::t=txt):=by
     show y::46::t=txt
     rw [← hw]
     show _=if _ then _ else _
     rw [if_neg (by omega),ht]
    have hjl:j2+(y::46::t).length=21:=hRn.2.1
    have hj20:1≤j2:=by have h1:=HX.out;rw [h1] at hjl;omega
    by_cases hn:u<0
    ·obtain ⟨j0,hj0⟩:∃ j0,j2=j0+1:=⟨j2 - 1,by omega⟩
     have w9:IntKind.i64.wrap ((j2:Int) - 1)=(j0:Int):=by rw [IntKind.wrap_i64];omega
     have b9:(0:Int)≤(j0:Int):=by omega
     have b8:(j0:Int)<21:=by omega
     have b7:(j0:Int)≤21:=by omega
     obtain ⟨y9,hy9⟩:=hRn.2.2.1 j0 (by omega)
     rw [hj0] at hRn
     have hRs:=hRn.cons 45
     rw [show (((45:UInt8).toNat:Nat):Int)=45 from rfl] at hRs
     have CV:=fun n=>z6z (more (w.alloc (Obj.cells #[Value.int IntKind.i64 u,Value.int IntKind.i64 (s:Int)] 94)) os) n _ _ j0 (21 - j0) hRs (by rw [List.length_cons];omega)
     have HY:Hid (z2z u s=45::y::46::t):=by show z2z u s=_;rw [HT.out,if_pos hn,HX.out];rfl
     rw [← hj0] at CV
     clear hRs hj0 hjl hj20
     clear hw hx hkf hkt htl hl hy hr hq hk1 r1 r2 r3 r4 ht hR0 hI hp hF0 htxt hRn hs hj1 hj2
     go_wp2
     simp only [Exit.jump]
     go_ret
     refine ⟨?_,gA⟩
     rw [HY.out];rfl
    ·have b7:(j2:Int)≤21:=by omega
     have CV:=fun n=>z6z (more (w.alloc (Obj.cells #[Value.int IntKind.i64 u,Value.int IntKind.i64 (s:Int)] 94)) os) n _ _ j2 (21 - j2) hRn (by omega)
     have HY:Hid (z2z u s=y::46::t):=by show z2z u s=_;rw [HT.out,if_neg hn,HX.out];rfl
     clear hjl hj20
     clear hw hx hkf hkt htl hl hy hr hq hk1 r1 r2 r3 r4 ht hR0 hI hp hF0 htxt hRn hs hj1 hj2
     go_wp2
     simp only [Exit.jump]
     go_ret
     refine ⟨?_,gA⟩
     rw [HY.out];rfl
   ·have dq:(0:Int)<(q:Int):=by omega
    have HN:Hid (z1m s f k1 q (y::46::t)=txt∧q<18446744073709551616∧k1+f=F0∧k1≤(y::46::t).length):=by
     refine ⟨?_,by omega,by omega,by simp only [List.length_cons];omega⟩
     rw [← hw]
     show _=if _ then _ else _
     rw [if_pos (.inl (by omega)),ht,← hq,← hk1]
    have HRN:Hid (Room ((C.setIfInBounds j1 (.int .u8 46)).setIfInBounds j2 (.int .u8 (y.toNat:Int))) (y::46::t) j2):=hRn
    clear hw hx hkf hkt htl hl hy hr hq hk1 r1 r2 r3 r4 ht hR0 hI hp hF0 htxt hRn hs hj1 hj2 hq0
    go_wp2
    apply wp_goto
    refine ⟨rfl,?_⟩
    exact hK _ _ ⟨k1,q,j2,y::46::t,_,n1,_,_,_,_,_,_,_,_,_,_,_,_,_,_,_,_,_,_,_,_,_,_,_,_,_,_,_,_,_,_,_,_,_,_,_,_,_,_,_,_,_,_,_,_,_,_,_,_,rfl,rfl,HRN.out,HN⟩
  ·have ht:told s k x t=y::t:=by unfold told;rw [if_neg hp,hy]
   rw [ht,List.length_cons] at htl
   obtain ⟨j1,hj1⟩:∃ j1,j=j1+1:=⟨j - 1,by omega⟩
   have w1:IntKind.i64.wrap ((j:Int) - 1)=(j1:Int):=by rw [IntKind.wrap_i64];omega
   have b0:(0:Int)≤(j1:Int):=by omega
   have b1:(j1:Int)<21:=by omega
   obtain ⟨y1,hy1⟩:=r3 j1 (by omega)
   rw [hj1] at hR0
   have hRn:=hR0.cons y
   by_cases hk0:k=0
   ·subst hk0
    obtain rfl:k1=1:=by omega
    by_cases hq0:q=0
    ·subst hq0
     by_cases hks:1≤s
     ·have dks:((1:Nat):Int)≤(s:Int):=by omega
      have HN:Hid (z1m s f 1 0 (y::t)=txt∧0<18446744073709551616∧1+f=F0∧1≤(y::t).length):=by
       refine ⟨?_,by omega,by omega,by simp only [List.length_cons];omega⟩
       rw [← hw]
       show _=if _ then _ else _
       rw [if_pos (.inr (by omega)),ht,← hq]
      have HRN:Hid (Room (C.setIfInBounds j1 (.int .u8 (y.toNat:Int))) (y::t) j1):=hRn
      clear hw hx hkf hkt htl hl hy hr hq hk1 r1 r2 r3 r4 ht hR0 hI hp hF0 htxt hRn hs hj1 hks
      go_wp2
      apply wp_goto
      refine ⟨rfl,?_⟩
      exact hK _ _ ⟨1,0,j1,y::t,_,n1,_,_,_,_,_,_,_,_,_,_,_,_,_,_,_,_,_,_,_,_,_,_,_,_,_,_,_,_,_,_,_,_,_,_,_,_,_,_,_,_,_,_,_,_,_,_,_,_,rfl,rfl,HRN.out,HN⟩
     ·have dks:¬ ((1:Nat):Int)≤(s:Int):=by omega
      have HX:Hid (y::t=txt):=by
       show y::t=txt
       rw [← hw]
       show _=if _ then _ else _
       rw [if_neg (by omega),ht]
      have hjl:j1+(y::t).length=21:=hRn.2.1
      have hj20:1≤j1:=by have h1:=HX.out;rw [h1] at hjl;omega
      by_cases hn:u<0
      ·obtain ⟨j0,hj0⟩:∃ j0,j1=j0+1:=⟨j1 - 1,by omega⟩
       have w9:IntKind.i64.wrap ((j1:Int) - 1)=(j0:Int):=by rw [IntKind.wrap_i64];omega
       have b9:(0:Int)≤(j0:Int):=by omega
       have b8:(j0:Int)<21:=by omega
       have b7:(j0:Int)≤21:=by omega
       obtain ⟨y9,hy9⟩:=hRn.2.2.1 j0 (by omega)
       rw [hj0] at hRn
       have hRs:=hRn.cons 45
       rw [show (((45:UInt8).toNat:Nat):Int)=45 from rfl] at hRs
       have CV:=fun n=>z6z (more (w.alloc (Obj.cells #[Value.int IntKind.i64 u,Value.int IntKind.i64 (s:Int)] 94)) os) n _ _ j0 (21 - j0) hRs (by rw [List.length_cons];omega)
       have HY:Hid (z2z u s=45::y::t):=by show z2z u s=_;rw [HT.out,if_pos hn,HX.out];rfl
       rw [← hj0] at CV
       clear hRs hj0 hjl hj20
       clear hw hx hkf hkt htl hl hy hr hq hk1 r1 r2 r3 r4 ht hR0 hI hp hF0 htxt hRn hs hj1 hks
       go_wp2
       simp only [Exit.jump]
       go_ret
       refine ⟨?_,gA⟩
       rw [HY.out];rfl
      ·have b7:(j1:Int)≤21:=by omega
       have CV:=fun n=>z6z (more (w.alloc (Obj.cells #[Value.int IntKind.i64 u,Value.int IntKind.i64 (s:Int)] 94)) os) n _ _ j1 (21 - j1) hRn (by omega)
       have HY:Hid (z2z u s=y::t):=by show z2z u s=_;rw [HT.out,if_neg hn,HX.out];rfl
       clear hjl hj20
       clear hw hx hkf hkt htl hl hy hr hq hk1 r1 r2 r3 r4 ht hR0 hI hp hF0 htxt hRn hs hj1 hks
       go_wp2
       simp only [Exit.jump]
       go_ret
       refine ⟨?_,gA⟩
       rw [HY.out];rfl
    ·have dq:(0:Int)<(q:Int):=by omega
     have HN:Hid (z1m s f 1 q (y::t)=txt∧q<18446744073709551616∧1+f=F0∧1≤(y::t).length):=by
      refine ⟨?_,by omega,by omega,by simp only [List.length_cons];omega⟩
      rw [← hw]
      show _=if _ then _ else _
      rw [if_pos (.inl (by omega)),ht,← hq]
     have HRN:Hid (Room (C.setIfInBounds j1 (.int .u8 (y.toNat:Int))) (y::t) j1):=hRn
     clear hw hx hkf hkt htl hl hy hr hq hk1 r1 r2 r3 r4 ht hR0 hI hp hF0 htxt hRn hs hj1 hq0
     go_wp2
     apply wp_goto
     refine ⟨rfl,?_⟩
     exact hK _ _ ⟨1,q,j1,y::t,_,n1,_,_,_,_,_,_,_,_,_,_,_,_,_,_,_,_,_,_,_,_,_,_,_,_,_,_,_,_,_,_,_,_,_,_,_,_,_,_,_,_,_,_,_,_,_,_,_,_,rfl,rfl,HRN.out,HN⟩
   ·have dk:(0:Int)<(k:Int):=by omega
    have dkk:¬ (k:Int)=(s:Int):=by omega
    by_cases hq0:q=0
    ·subst hq0
     by_cases hks:k1≤s
     ·have dks:(k1:Int)≤(s:Int):=by omega
      have HN:Hid (z1m s f k1 0 (y::t)=txt∧0<18446744073709551616∧k1+f=F0∧k1≤(y::t).length):=by
       refine ⟨?_,by omega,by omega,by simp only [List.length_cons];omega⟩
       rw [← hw]
       show _=if _ then _ else _
       rw [if_pos (.inr (by omega)),ht,← hq,← hk1]
      have HRN:Hid (Room (C.setIfInBounds j1 (.int .u8 (y.toNat:Int))) (y::t) j1):=hRn
      clear hw hx hkf hkt htl hl hy hr hq hk1 r1 r2 r3 r4 ht hR0 hI hp hF0 htxt hRn hs hk0 hj1 hks
      go_wp2
      apply wp_goto
      refine ⟨rfl,?_⟩
      exact hK _ _ ⟨k1,0,j1,y::t,_,n1,_,_,_,_,_,_,_,_,_,_,_,_,_,_,_,_,_,_,_,_,_,_,_,_,_,_,_,_,_,_,_,_,_,_,_,_,_,_,_,_,_,_,_,_,_,_,_,_,rfl,rfl,HRN.out,HN⟩
     ·have dks:¬ (k1:Int)≤(s:Int):=by omega
      have HX:Hid (y::t=txt):=by
       show y::t=txt
       rw [← hw]
       show _=if _ then _ else _
       rw [if_neg (by omega),ht]
      have hjl:j1+(y::t).length=21:=hRn.2.1
      have hj20:1≤j1:=by have h1:=HX.out;rw [h1] at hjl;omega
      by_cases hn:u<0
      ·obtain ⟨j0,hj0⟩:∃ j0,j1=j0+1:=⟨j1 - 1,by omega⟩
       have w9:IntKind.i64.wrap ((j1:Int) - 1)=(j0:Int):=by rw [IntKind.wrap_i64];omega
       have b9:(0:Int)≤(j0:Int):=by omega
       have b8:(j0:Int)<21:=by omega
       have b7:(j0:Int)≤21:=by omega
       obtain ⟨y9,hy9⟩:=hRn.2.2.1 j0 (by omega)
       rw [hj0] at hRn
       have hRs:=hRn.cons 45
       rw [show (((45:UInt8).toNat:Nat):Int)=45 from rfl] at hRs
       have CV:=fun n=>z6z (more (w.alloc (Obj.cells #[Value.int IntKind.i64 u,Value.int IntKind.i64 (s:Int)] 94)) os) n _ _ j0 (21 - j0) hRs (by rw [List.length_cons];omega)
       have HY:Hid (z2z u s=45::y::t):=by show z2z u s=_;rw [HT.out,if_pos hn,HX.out];rfl
       rw [← hj0] at CV
       clear hRs hj0 hjl hj20
       clear hw hx hkf hkt htl hl hy hr hq hk1 r1 r2 r3 r4 ht hR0 hI hp hF0 htxt hRn hs hk0 hj1 hks
       go_wp2
       simp only [Exit.jump]
       go_ret
       refine ⟨?_,gA⟩
       rw [HY.out];rfl
      ·have b7:(j1:Int)≤21:=by omega
       have CV:=fun n=>z6z (more (w.alloc (Obj.cells #[Value.int IntKind.i64 u,Value.int IntKind.i64 (s:Int)] 94)) os) n _ _ j1 (21 - j1) hRn (by omega)
       have HY:Hid (z2z u s=y::t):=by show z2z u s=_;rw [HT.out,if_neg hn,HX.out];rfl
       clear hjl hj20
       clear hw hx hkf hkt htl hl hy hr hq hk1 r1 r2 r3 r4 ht hR0 hI hp hF0 htxt hRn hs hk0 hj1 hks
       go_wp2
       simp only [Exit.jump]
       go_ret
       refine ⟨?_,gA⟩
       rw [HY.out];rfl
    ·have dq:(0:Int)<(q:Int):=by omega
     have HN:Hid (z1m s f k1 q (y::t)=txt∧q<18446744073709551616∧k1+f=F0∧k1≤(y::t).length):=by
      refine ⟨?_,by omega,by omega,by simp only [List.length_cons];omega⟩
      rw [← hw]
      show _=if _ then _ else _
      rw [if_pos (.inl (by omega)),ht,← hq,← hk1]
     have HRN:Hid (Room (C.setIfInBounds j1 (.int .u8 (y.toNat:Int))) (y::t) j1):=hRn
     clear hw hx hkf hkt htl hl hy hr hq hk1 r1 r2 r3 r4 ht hR0 hI hp hF0 htxt hRn hs hk0 hj1 hq0
     go_wp2
     apply wp_goto
     refine ⟨rfl,?_⟩
     exact hK _ _ ⟨k1,q,j1,y::t,_,n1,_,_,_,_,_,_,_,_,_,_,_,_,_,_,_,_,_,_,_,_,_,_,_,_,_,_,_,_,_,_,_,_,_,_,_,_,_,_,_,_,_,_,_,_,_,_,_,_,rfl,rfl,HRN.out,HN⟩
end Go.Proofs.YtljkonkfeiojnaaGreatDoor
