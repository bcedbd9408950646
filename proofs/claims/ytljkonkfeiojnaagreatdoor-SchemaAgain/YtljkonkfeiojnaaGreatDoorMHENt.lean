/-
  The reader of expressions: steps, parts that are parted by the signs of ops.
  The reader of expressions: within, a part that stands within one more of what can be open.
  The reader of expressions: expression, andPart, sum, term, notPart, comparison, nullBehindIs, enclosed, ended, each over what it calls.
-/
import Derived.Test.YtljkonkfeiojnaaGreatDoorMGESpec
import Derived.Test.YtljkonkfeiojnaaGreatDoorMjDParse
set_option maxHeartbeats 4000000
set_option maxRecDepth 20000
namespace Go.Proofs.YtljkonkfeiojnaaGreatDoor
open Go.RowKit Go.Shelf
attribute [local go_sem] z0f z0b z0c z0e z0m z0k z0h z0d z0g
theorem opAt_lt (t:List UInt8):∀ (f c:Nat),f+c≤19→opAt t f c<19:=by
 intro f c
 induction c generalizing f with
 | zero=>intro _;unfold opAt;omega
 | succ c ih =>
  intro h
  unfold opAt
  split
  ·omega
  ·exact ih (f+1) (by omega)
theorem steps_an (w0:World) (ao:Option Addr) (ts:List Ti) (cap p o:Nat) (E:Env w0 ao ts) (f c:Nat) (L:Int) (hf:6≤f) (hc:f+c≤19) (hL:L=(f:Int)+(c:Int) - 1)
    (part:Nat→List Nd→Rz) (k0:Nat) (H:∀ k acc nv w,Stt w0 ao ts cap p w k nv acc o→k0≤k→Does w0 ao ts cap p 90 o k acc nv w (part k acc))
    (k:Nat) (acc:List Nd) (nv:Value) (w:World) (S:Stt w0 ao ts cap p w k nv acc o) (hk:k0≤k) (M:Nat) (hM:ts.length+1≤M+k) :
    Calls Tryz.prog 89 #[.pointer (some ⟨p,0,none⟩),.int .i64 (f:Int),.int .i64 L,.func (.func 90) #[.pointer (some ⟨p,0,none⟩)] #[]] w fun e w' =>
      e=.returned (.int .i64 ((z0y (nxt ts) f c part M 0 k acc).1:Int))∧(∃ nv',Stt w0 ao ts cap p w' (z0y (nxt ts) f c part M 0 k acc).2.1 nv' (z0y (nxt ts) f c part M 0 k acc).2.2 o∧Goes p w w' nv nv')∧k≤(z0y (nxt ts) f c part M 0 k acc).2.1:=by
  obtain ⟨R,hR⟩:∃ R,R=z0y (nxt ts) f c part M 0 k acc:=⟨_,rfl⟩
  rw [← hR]
  have HR:Hid (R=z0y (nxt ts) f c part M 0 k acc):=hR
  clear hR
  have HS:Hid (Stt w0 ao ts cap p w k nv acc o):=S
  have HH:Hid (∀ k acc nv w,Stt w0 ao ts cap p w k nv acc o→k0≤k→Does w0 ao ts cap p 90 o k acc nv w (part k acc)):=H
  have HE:Hid (Env w0 ao ts):=E
  have HL:Hid (L=(f:Int)+(c:Int) - 1):=hL
  clear S H E hL
  obtain ⟨M',rfl⟩:∃ M',M=M'+1:=⟨M - 1,by have:=HS.out.kl;omega⟩
  go_enter Tryz.func89,Tryz.ntmps89
  go_wp2
  refine z2b 0 M' rfl ?_
  go_wp2
  apply wp_label
  show _
  rename_i aK
  refine aK _ _ ?_
  clear aK
  refine z6x (fun m a W=>∃ (k' op:Nat) (acc':List Nd) (nv':Value) (z8 z10 z11 z12 z13 z14 z15 z16 z17 z18 z19 z20 z21 z22 z23 z24 z25 z26 z27 z28 z29:Value),a={ tmps:=#[Value.pointer (some ⟨p,0,none⟩),Value.int IntKind.i64 (f:Int),Value.int IntKind.i64 L,Value.func (Fn.func 90) #[Value.pointer (some ⟨p,0,none⟩)] #[],undef,undef,undef,undef,z8,Value.int IntKind.i64 (op:Int),z10,z11,z12,z13,z14,z15,z16,z17,z18,z19,z20,z21,z22,z23,z24,z25,z26,z27,z28,z29],defers:=[] }∧Hid (Stt w0 ao ts cap p W k' nv' acc' o∧Goes p w W nv nv'∧k0≤k'∧k≤k'∧z0y (nxt ts) f c part m op k' acc'=R∧ts.length+1≤m+k'∧op<19)) ?none0 ?step M' ?start
  case none0 =>
    rintro a W ⟨k',op,acc',nv',z8,z10,z11,z12,z13,z14,z15,z16,z17,z18,z19,z20,z21,z22,z23,z24,z25,z26,z27,z28,z29,_,hI⟩
    have h1:=hI.out.1.kl
    have h2:=hI.out.2.2.2.2.2.1
    omega
  case start=>exact ⟨k,0,acc,nv,_,_,_,_,_,_,_,_,_,_,_,_,_,_,_,_,_,_,_,_,_,rfl,HS.out,Goes.refl _ _ _,hk,Nat.le_refl _,HR.out.symm,hM,by omega⟩
  case step =>
    rintro m K hK a W ⟨k',op,acc',nv',z8,z10,z11,z12,z13,z14,z15,z16,z17,z18,z19,z20,z21,z22,z23,z24,z25,z26,z27,z28,z29,rfl,hI⟩
    have HK:Hid (∀ a w_1,(∃ (k' op:Nat) (acc':List Nd) (nv':Value) (z8 z10 z11 z12 z13 z14 z15 z16 z17 z18 z19 z20 z21 z22 z23 z24 z25 z26 z27 z28 z29:Value),a={ tmps:=#[Value.pointer (some ⟨p,0,none⟩),Value.int IntKind.i64 (f:Int),Value.int IntKind.i64 L,Value.func (Fn.func 90) #[Value.pointer (some ⟨p,0,none⟩)] #[],undef,undef,undef,undef,z8,Value.int IntKind.i64 (op:Int),z10,z11,z12,z13,z14,z15,z16,z17,z18,z19,z20,z21,z22,z23,z24,z25,z26,z27,z28,z29],defers:=[] }∧Hid (Stt w0 ao ts cap p w_1 k' nv' acc' o∧Goes p w w_1 nv nv'∧k0≤k'∧k≤k'∧z0y (nxt ts) f c part m op k' acc'=R∧ts.length+1≤m+k'∧op<19))→K a w_1):=hK
    clear hK HR HS
    obtain ⟨S1,G1,hk1,hk2,hst,hm,hop⟩:=hI.out
    have D:=HH.out k' acc' nv' W S1 hk1
    unfold Does at D
    have hst':(if (part k' acc').1=0 then
      (if opAt (nxt ts (part k' acc').2.1).t f c=0 then (0,(part k' acc').2.1,if op=0 then (part k' acc').2.2 else putN (part k' acc').2.2 (opX op))
       else z0y (nxt ts) f c part m (opAt (nxt ts (part k' acc').2.1).t f c) ((part k' acc').2.1+1) (if op=0 then (part k' acc').2.2 else putN (part k' acc').2.2 (opX op)))
      else part k' acc')=R:=hst
    generalize part k' acc'=r at D hst'
    obtain ⟨re,rk,rc⟩:=r
    simp only at D hst'
    have HST:Hid _:=hst'
    clear hst hst' hI HH S1
    go_wp2_with fail
    refine D.mono ?_
    rintro e w1 ⟨rfl,⟨n1,S1,g1⟩,hrk⟩
    clear D
    have G2:=G1.trans g1
    by_cases hre:re=0
    case neg =>
      have hre':¬ (re:Int)=0:=by omega
      have HF:Hid (R=(re,rk,rc)):=by show R=_;rw [← HST.out,if_neg hre]
      clear HST
      go_wp2
      simp only [Exit.jump]
      go_ret
      have hR:=HF.out
      subst hR
      exact ⟨rfl,⟨n1,S1,G2⟩,by simp only;omega⟩
    · subst hre
      have hst2:=HST.out
      rw [if_pos rfl] at hst2
      clear HST
      have HS1:Hid (Stt w0 ao ts cap p w1 rk n1 rc o):=S1
      have PU:Calls Tryz.prog 128 #[.pointer (some ⟨p,0,none⟩),.agg #[.int .i64 (op:Int),.string ⟨#[]⟩,.string ⟨#[]⟩,.int .i64 0,.int .i64 0,.int .i64 0,.string ⟨#[]⟩,.int .i64 0]] w1 fun e w'=>e=.returned (.tuple #[])∧∃ nv',Stt w0 ao ts cap p w' rk nv' (putN rc (opX op)) o∧Goes p w1 w' n1 nv':=z3s w0 p ao ts cap rk o n1 rc (opX op) w1 S1
      have TO:Hid (∀ n2 A W2,Stt w0 ao ts cap p W2 rk n2 A o→Calls Tryz.prog 129 #[.pointer (some ⟨p,0,none⟩),.int .i64 (f:Int),.int .i64 L] W2 fun e w'=>e=.returned (.int .i64 (opAt (nxt ts rk).t f c:Int))∧Stt w0 ao ts cap p w' (if opAt (nxt ts rk).t f c=0 then rk else rk+1) n2 A o∧Fr W2 w' p none):=fun n2 A W2 h=>z5m w0 p ao ts cap rk o n2 A f c L W2 HE.out hf hc HL.out h
      have hq19:opAt (nxt ts rk).t f c<19:=opAt_lt _ _ _ hc
      generalize opAt (nxt ts rk).t f c=q at TO hst2 hq19
      have HST2:Hid _:=hst2
      clear hst2 S1
      by_cases hop0:op=0
      · subst hop0
        clear PU
        simp only [↓reduceIte] at HST2
        by_cases hq:q=0
        · subst hq
          simp only [↓reduceIte] at HST2 TO
          have T1:=TO.out n1 rc w1 HS1.out
          clear TO
          go_wp2_with (go_at_call 129;refine T1.mono ?_;rintro e w2 ⟨rfl,S2,g2⟩)
          simp only [Exit.jump]
          go_ret
          have hR:=HST2.out
          subst hR
          exact ⟨rfl,⟨n1,S2,G2.trans (Goes.of_fr g2 n1)⟩,by simp only;omega⟩
        · have hq':¬ (q:Int)=0:=by omega
          rw [if_neg hq] at TO
          have HN:Hid (z0y (nxt ts) f c part m q (rk+1) rc=R):=by
            have:=HST2.out
            rw [if_neg hq] at this
            exact this
          have T1:=TO.out n1 rc w1 HS1.out
          clear TO HST2
          go_wp2_with (go_at_call 129;refine T1.mono ?_;rintro e w2 ⟨rfl,S2,g2⟩)
          apply wp_goto
          refine ⟨rfl,?_⟩
          exact HK.out _ _ ⟨rk+1,q,rc,n1,_,_,_,_,_,_,_,_,_,_,_,_,_,_,_,_,_,_,_,_,_,rfl,S2,G2.trans (Goes.of_fr g2 n1),by omega,by omega,HN.out,by omega,hq19⟩
      · have hop':¬ (op:Int)=0:=by omega
        simp only [if_neg hop0] at HST2
        by_cases hq:q=0
        · subst hq
          simp only [↓reduceIte] at HST2 TO
          go_wp2_with (first
            | (go_at_call 128;refine PU.mono ?_;rintro e w2 ⟨rfl,n2,S2,g2⟩;have T1:=TO.out n2 _ w2 S2)
            | (go_at_call 129;refine T1.mono ?_;rintro e w3 ⟨rfl,S3,g3⟩))
          simp only [Exit.jump]
          go_ret
          have hR:=HST2.out
          subst hR
          exact ⟨rfl,⟨n2,S3,(G2.trans g2).trans (Goes.of_fr g3 n2)⟩,by simp only;omega⟩
        · have hq':¬ (q:Int)=0:=by omega
          rw [if_neg hq] at TO
          have HN:Hid (z0y (nxt ts) f c part m q (rk+1) (putN rc (opX op))=R):=by
            have:=HST2.out
            rw [if_neg hq] at this
            exact this
          clear HST2
          go_wp2_with (first
            | (go_at_call 128;refine PU.mono ?_;rintro e w2 ⟨rfl,n2,S2,g2⟩;have T1:=TO.out n2 _ w2 S2)
            | (go_at_call 129;refine T1.mono ?_;rintro e w3 ⟨rfl,S3,g3⟩))
          apply wp_goto
          refine ⟨rfl,?_⟩
          exact HK.out _ _ ⟨rk+1,q,_,n2,_,_,_,_,_,_,_,_,_,_,_,_,_,_,_,_,_,_,_,_,_,rfl,S3,(G2.trans g2).trans (Goes.of_fr g3 n2),by omega,by omega,HN.out,by omega,hq19⟩
theorem steps_no (w0:World) (ao:Option Addr) (ts:List Ti) (cap p o:Nat) (E:Env w0 ao ts) (f c:Nat) (L:Int) (hf:6≤f) (hc:f+c≤19) (hL:L=(f:Int)+(c:Int) - 1)
    (part:Nat→List Nd→Rz) (k0:Nat) (H:∀ k acc nv w,Stt w0 ao ts cap p w k nv acc o→k0≤k→Does w0 ao ts cap p 130 o k acc nv w (part k acc))
    (k:Nat) (acc:List Nd) (nv:Value) (w:World) (S:Stt w0 ao ts cap p w k nv acc o) (hk:k0≤k) (M:Nat) (hM:ts.length+1≤M+k) :
    Calls Tryz.prog 89 #[.pointer (some ⟨p,0,none⟩),.int .i64 (f:Int),.int .i64 L,.func (.func 130) #[.pointer (some ⟨p,0,none⟩)] #[]] w fun e w' =>
      e=.returned (.int .i64 ((z0y (nxt ts) f c part M 0 k acc).1:Int))∧(∃ nv',Stt w0 ao ts cap p w' (z0y (nxt ts) f c part M 0 k acc).2.1 nv' (z0y (nxt ts) f c part M 0 k acc).2.2 o∧Goes p w w' nv nv')∧k≤(z0y (nxt ts) f c part M 0 k acc).2.1:=by
  obtain ⟨R,hR⟩:∃ R,R=z0y (nxt ts) f c part M 0 k acc:=⟨_,rfl⟩
  rw [← hR]
  have HR:Hid (R=z0y (nxt ts) f c part M 0 k acc):=hR
  clear hR
  have HS:Hid (Stt w0 ao ts cap p w k nv acc o):=S
  have HH:Hid (∀ k acc nv w,Stt w0 ao ts cap p w k nv acc o→k0≤k→Does w0 ao ts cap p 130 o k acc nv w (part k acc)):=H
  have HE:Hid (Env w0 ao ts):=E
  have HL:Hid (L=(f:Int)+(c:Int) - 1):=hL
  clear S H E hL
  obtain ⟨M',rfl⟩:∃ M',M=M'+1:=⟨M - 1,by have:=HS.out.kl;omega⟩
  go_enter Tryz.func89,Tryz.ntmps89
  go_wp2
  refine z2b 0 M' rfl ?_
  go_wp2
  apply wp_label
  show _
  rename_i aK
  refine aK _ _ ?_
  clear aK
  refine z6x (fun m a W=>∃ (k' op:Nat) (acc':List Nd) (nv':Value) (z8 z10 z11 z12 z13 z14 z15 z16 z17 z18 z19 z20 z21 z22 z23 z24 z25 z26 z27 z28 z29:Value),a={ tmps:=#[Value.pointer (some ⟨p,0,none⟩),Value.int IntKind.i64 (f:Int),Value.int IntKind.i64 L,Value.func (Fn.func 130) #[Value.pointer (some ⟨p,0,none⟩)] #[],undef,undef,undef,undef,z8,Value.int IntKind.i64 (op:Int),z10,z11,z12,z13,z14,z15,z16,z17,z18,z19,z20,z21,z22,z23,z24,z25,z26,z27,z28,z29],defers:=[] }∧Hid (Stt w0 ao ts cap p W k' nv' acc' o∧Goes p w W nv nv'∧k0≤k'∧k≤k'∧z0y (nxt ts) f c part m op k' acc'=R∧ts.length+1≤m+k'∧op<19)) ?none0 ?step M' ?start
  case none0 =>
    rintro a W ⟨k',op,acc',nv',z8,z10,z11,z12,z13,z14,z15,z16,z17,z18,z19,z20,z21,z22,z23,z24,z25,z26,z27,z28,z29,_,hI⟩
    have h1:=hI.out.1.kl
    have h2:=hI.out.2.2.2.2.2.1
    omega
  case start=>exact ⟨k,0,acc,nv,_,_,_,_,_,_,_,_,_,_,_,_,_,_,_,_,_,_,_,_,_,rfl,HS.out,Goes.refl _ _ _,hk,Nat.le_refl _,HR.out.symm,hM,by omega⟩
  case step =>
    rintro m K hK a W ⟨k',op,acc',nv',z8,z10,z11,z12,z13,z14,z15,z16,z17,z18,z19,z20,z21,z22,z23,z24,z25,z26,z27,z28,z29,rfl,hI⟩
    have HK:Hid (∀ a w_1,(∃ (k' op:Nat) (acc':List Nd) (nv':Value) (z8 z10 z11 z12 z13 z14 z15 z16 z17 z18 z19 z20 z21 z22 z23 z24 z25 z26 z27 z28 z29:Value),a={ tmps:=#[Value.pointer (some ⟨p,0,none⟩),Value.int IntKind.i64 (f:Int),Value.int IntKind.i64 L,Value.func (Fn.func 130) #[Value.pointer (some ⟨p,0,none⟩)] #[],undef,undef,undef,undef,z8,Value.int IntKind.i64 (op:Int),z10,z11,z12,z13,z14,z15,z16,z17,z18,z19,z20,z21,z22,z23,z24,z25,z26,z27,z28,z29],defers:=[] }∧Hid (Stt w0 ao ts cap p w_1 k' nv' acc' o∧Goes p w w_1 nv nv'∧k0≤k'∧k≤k'∧z0y (nxt ts) f c part m op k' acc'=R∧ts.length+1≤m+k'∧op<19))→K a w_1):=hK
    clear hK HR HS
    obtain ⟨S1,G1,hk1,hk2,hst,hm,hop⟩:=hI.out
    have D:=HH.out k' acc' nv' W S1 hk1
    unfold Does at D
    have hst':(if (part k' acc').1=0 then
      (if opAt (nxt ts (part k' acc').2.1).t f c=0 then (0,(part k' acc').2.1,if op=0 then (part k' acc').2.2 else putN (part k' acc').2.2 (opX op))
       else z0y (nxt ts) f c part m (opAt (nxt ts (part k' acc').2.1).t f c) ((part k' acc').2.1+1) (if op=0 then (part k' acc').2.2 else putN (part k' acc').2.2 (opX op)))
      else part k' acc')=R:=hst
    generalize part k' acc'=r at D hst'
    obtain ⟨re,rk,rc⟩:=r
    simp only at D hst'
    have HST:Hid _:=hst'
    clear hst hst' hI HH S1
    go_wp2_with fail
    refine D.mono ?_
    rintro e w1 ⟨rfl,⟨n1,S1,g1⟩,hrk⟩
    clear D
    have G2:=G1.trans g1
    by_cases hre:re=0
    case neg =>
      have hre':¬ (re:Int)=0:=by omega
      have HF:Hid (R=(re,rk,rc)):=by show R=_;rw [← HST.out,if_neg hre]
      clear HST
      go_wp2
      simp only [Exit.jump]
      go_ret
      have hR:=HF.out
      subst hR
      exact ⟨rfl,⟨n1,S1,G2⟩,by simp only;omega⟩
    · subst hre
      have hst2:=HST.out
      rw [if_pos rfl] at hst2
      clear HST
      have HS1:Hid (Stt w0 ao ts cap p w1 rk n1 rc o):=S1
      have PU:Calls Tryz.prog 128 #[.pointer (some ⟨p,0,none⟩),.agg #[.int .i64 (op:Int),.string ⟨#[]⟩,.string ⟨#[]⟩,.int .i64 0,.int .i64 0,.int .i64 0,.string ⟨#[]⟩,.int .i64 0]] w1 fun e w'=>e=.returned (.tuple #[])∧∃ nv',Stt w0 ao ts cap p w' rk nv' (putN rc (opX op)) o∧Goes p w1 w' n1 nv':=z3s w0 p ao ts cap rk o n1 rc (opX op) w1 S1
      have TO:Hid (∀ n2 A W2,Stt w0 ao ts cap p W2 rk n2 A o→Calls Tryz.prog 129 #[.pointer (some ⟨p,0,none⟩),.int .i64 (f:Int),.int .i64 L] W2 fun e w'=>e=.returned (.int .i64 (opAt (nxt ts rk).t f c:Int))∧Stt w0 ao ts cap p w' (if opAt (nxt ts rk).t f c=0 then rk else rk+1) n2 A o∧Fr W2 w' p none):=fun n2 A W2 h=>z5m w0 p ao ts cap rk o n2 A f c L W2 HE.out hf hc HL.out h
      have hq19:opAt (nxt ts rk).t f c<19:=opAt_lt _ _ _ hc
      generalize opAt (nxt ts rk).t f c=q at TO hst2 hq19
      have HST2:Hid _:=hst2
      clear hst2 S1
      by_cases hop0:op=0
      · subst hop0
        clear PU
        simp only [↓reduceIte] at HST2
        by_cases hq:q=0
        · subst hq
          simp only [↓reduceIte] at HST2 TO
          have T1:=TO.out n1 rc w1 HS1.out
          clear TO
          go_wp2_with (go_at_call 129;refine T1.mono ?_;rintro e w2 ⟨rfl,S2,g2⟩)
          simp only [Exit.jump]
          go_ret
          have hR:=HST2.out
          subst hR
          exact ⟨rfl,⟨n1,S2,G2.trans (Goes.of_fr g2 n1)⟩,by simp only;omega⟩
        · have hq':¬ (q:Int)=0:=by omega
          rw [if_neg hq] at TO
          have HN:Hid (z0y (nxt ts) f c part m q (rk+1) rc=R):=by
            have:=HST2.out
            rw [if_neg hq] at this
            exact this
          have T1:=TO.out n1 rc w1 HS1.out
          clear TO HST2
          go_wp2_with (go_at_call 129;refine T1.mono ?_;rintro e w2 ⟨rfl,S2,g2⟩)
          apply wp_goto
          refine ⟨rfl,?_⟩
          exact HK.out _ _ ⟨rk+1,q,rc,n1,_,_,_,_,_,_,_,_,_,_,_,_,_,_,_,_,_,_,_,_,_,rfl,S2,G2.trans (Goes.of_fr g2 n1),by omega,by omega,HN.out,by omega,hq19⟩
      · have hop':¬ (op:Int)=0:=by omega
        simp only [if_neg hop0] at HST2
        by_cases hq:q=0
        · subst hq
          simp only [↓reduceIte] at HST2 TO
          go_wp2_with (first
            | (go_at_call 128;refine PU.mono ?_;rintro e w2 ⟨rfl,n2,S2,g2⟩;have T1:=TO.out n2 _ w2 S2)
            | (go_at_call 129;refine T1.mono ?_;rintro e w3 ⟨rfl,S3,g3⟩))
          simp only [Exit.jump]
          go_ret
          have hR:=HST2.out
          subst hR
          exact ⟨rfl,⟨n2,S3,(G2.trans g2).trans (Goes.of_fr g3 n2)⟩,by simp only;omega⟩
        · have hq':¬ (q:Int)=0:=by omega
          rw [if_neg hq] at TO
          have HN:Hid (z0y (nxt ts) f c part m q (rk+1) (putN rc (opX op))=R):=by
            have:=HST2.out
            rw [if_neg hq] at this
            exact this
          clear HST2
          go_wp2_with (first
            | (go_at_call 128;refine PU.mono ?_;rintro e w2 ⟨rfl,n2,S2,g2⟩;have T1:=TO.out n2 _ w2 S2)
            | (go_at_call 129;refine T1.mono ?_;rintro e w3 ⟨rfl,S3,g3⟩))
          apply wp_goto
          refine ⟨rfl,?_⟩
          exact HK.out _ _ ⟨rk+1,q,_,n2,_,_,_,_,_,_,_,_,_,_,_,_,_,_,_,_,_,_,_,_,_,rfl,S3,(G2.trans g2).trans (Goes.of_fr g3 n2),by omega,by omega,HN.out,by omega,hq19⟩
theorem steps_te (w0:World) (ao:Option Addr) (ts:List Ti) (cap p o:Nat) (E:Env w0 ao ts) (f c:Nat) (L:Int) (hf:6≤f) (hc:f+c≤19) (hL:L=(f:Int)+(c:Int) - 1)
    (part:Nat→List Nd→Rz) (k0:Nat) (H:∀ k acc nv w,Stt w0 ao ts cap p w k nv acc o→k0≤k→Does w0 ao ts cap p 229 o k acc nv w (part k acc))
    (k:Nat) (acc:List Nd) (nv:Value) (w:World) (S:Stt w0 ao ts cap p w k nv acc o) (hk:k0≤k) (M:Nat) (hM:ts.length+1≤M+k) :
    Calls Tryz.prog 89 #[.pointer (some ⟨p,0,none⟩),.int .i64 (f:Int),.int .i64 L,.func (.func 229) #[.pointer (some ⟨p,0,none⟩)] #[]] w fun e w' =>
      e=.returned (.int .i64 ((z0y (nxt ts) f c part M 0 k acc).1:Int))∧(∃ nv',Stt w0 ao ts cap p w' (z0y (nxt ts) f c part M 0 k acc).2.1 nv' (z0y (nxt ts) f c part M 0 k acc).2.2 o∧Goes p w w' nv nv')∧k≤(z0y (nxt ts) f c part M 0 k acc).2.1:=by
  obtain ⟨R,hR⟩:∃ R,R=z0y (nxt ts) f c part M 0 k acc:=⟨_,rfl⟩
  rw [← hR]
  have HR:Hid (R=z0y (nxt ts) f c part M 0 k acc):=hR
  clear hR
  have HS:Hid (Stt w0 ao ts cap p w k nv acc o):=S
  have HH:Hid (∀ k acc nv w,Stt w0 ao ts cap p w k nv acc o→k0≤k→Does w0 ao ts cap p 229 o k acc nv w (part k acc)):=H
  have HE:Hid (Env w0 ao ts):=E
  have HL:Hid (L=(f:Int)+(c:Int) - 1):=hL
  clear S H E hL
  obtain ⟨M',rfl⟩:∃ M',M=M'+1:=⟨M - 1,by have:=HS.out.kl;omega⟩
  go_enter Tryz.func89,Tryz.ntmps89
  go_wp2
  refine z2b 0 M' rfl ?_
  go_wp2
  apply wp_label
  show _
  rename_i aK
  refine aK _ _ ?_
  clear aK
  refine z6x (fun m a W=>∃ (k' op:Nat) (acc':List Nd) (nv':Value) (z8 z10 z11 z12 z13 z14 z15 z16 z17 z18 z19 z20 z21 z22 z23 z24 z25 z26 z27 z28 z29:Value),a={ tmps:=#[Value.pointer (some ⟨p,0,none⟩),Value.int IntKind.i64 (f:Int),Value.int IntKind.i64 L,Value.func (Fn.func 229) #[Value.pointer (some ⟨p,0,none⟩)] #[],undef,undef,undef,undef,z8,Value.int IntKind.i64 (op:Int),z10,z11,z12,z13,z14,z15,z16,z17,z18,z19,z20,z21,z22,z23,z24,z25,z26,z27,z28,z29],defers:=[] }∧Hid (Stt w0 ao ts cap p W k' nv' acc' o∧Goes p w W nv nv'∧k0≤k'∧k≤k'∧z0y (nxt ts) f c part m op k' acc'=R∧ts.length+1≤m+k'∧op<19)) ?none0 ?step M' ?start
  case none0 =>
    rintro a W ⟨k',op,acc',nv',z8,z10,z11,z12,z13,z14,z15,z16,z17,z18,z19,z20,z21,z22,z23,z24,z25,z26,z27,z28,z29,_,hI⟩
    have h1:=hI.out.1.kl
    have h2:=hI.out.2.2.2.2.2.1
    omega
  case start=>exact ⟨k,0,acc,nv,_,_,_,_,_,_,_,_,_,_,_,_,_,_,_,_,_,_,_,_,_,rfl,HS.out,Goes.refl _ _ _,hk,Nat.le_refl _,HR.out.symm,hM,by omega⟩
  case step =>
    rintro m K hK a W ⟨k',op,acc',nv',z8,z10,z11,z12,z13,z14,z15,z16,z17,z18,z19,z20,z21,z22,z23,z24,z25,z26,z27,z28,z29,rfl,hI⟩
    have HK:Hid (∀ a w_1,(∃ (k' op:Nat) (acc':List Nd) (nv':Value) (z8 z10 z11 z12 z13 z14 z15 z16 z17 z18 z19 z20 z21 z22 z23 z24 z25 z26 z27 z28 z29:Value),a={ tmps:=#[Value.pointer (some ⟨p,0,none⟩),Value.int IntKind.i64 (f:Int),Value.int IntKind.i64 L,Value.func (Fn.func 229) #[Value.pointer (some ⟨p,0,none⟩)] #[],undef,undef,undef,undef,z8,Value.int IntKind.i64 (op:Int),z10,z11,z12,z13,z14,z15,z16,z17,z18,z19,z20,z21,z22,z23,z24,z25,z26,z27,z28,z29],defers:=[] }∧Hid (Stt w0 ao ts cap p w_1 k' nv' acc' o∧Goes p w w_1 nv nv'∧k0≤k'∧k≤k'∧z0y (nxt ts) f c part m op k' acc'=R∧ts.length+1≤m+k'∧op<19))→K a w_1):=hK
    clear hK HR HS
    obtain ⟨S1,G1,hk1,hk2,hst,hm,hop⟩:=hI.out
    have D:=HH.out k' acc' nv' W S1 hk1
    unfold Does at D
    have hst':(if (part k' acc').1=0 then
      (if opAt (nxt ts (part k' acc').2.1).t f c=0 then (0,(part k' acc').2.1,if op=0 then (part k' acc').2.2 else putN (part k' acc').2.2 (opX op))
       else z0y (nxt ts) f c part m (opAt (nxt ts (part k' acc').2.1).t f c) ((part k' acc').2.1+1) (if op=0 then (part k' acc').2.2 else putN (part k' acc').2.2 (opX op)))
      else part k' acc')=R:=hst
    generalize part k' acc'=r at D hst'
    obtain ⟨re,rk,rc⟩:=r
    simp only at D hst'
    have HST:Hid _:=hst'
    clear hst hst' hI HH S1
    go_wp2_with fail
    refine D.mono ?_
    rintro e w1 ⟨rfl,⟨n1,S1,g1⟩,hrk⟩
    clear D
    have G2:=G1.trans g1
    by_cases hre:re=0
    case neg =>
      have hre':¬ (re:Int)=0:=by omega
      have HF:Hid (R=(re,rk,rc)):=by show R=_;rw [← HST.out,if_neg hre]
      clear HST
      go_wp2
      simp only [Exit.jump]
      go_ret
      have hR:=HF.out
      subst hR
      exact ⟨rfl,⟨n1,S1,G2⟩,by simp only;omega⟩
    · subst hre
      have hst2:=HST.out
      rw [if_pos rfl] at hst2
      clear HST
      have HS1:Hid (Stt w0 ao ts cap p w1 rk n1 rc o):=S1
      have PU:Calls Tryz.prog 128 #[.pointer (some ⟨p,0,none⟩),.agg #[.int .i64 (op:Int),.string ⟨#[]⟩,.string ⟨#[]⟩,.int .i64 0,.int .i64 0,.int .i64 0,.string ⟨#[]⟩,.int .i64 0]] w1 fun e w'=>e=.returned (.tuple #[])∧∃ nv',Stt w0 ao ts cap p w' rk nv' (putN rc (opX op)) o∧Goes p w1 w' n1 nv':=z3s w0 p ao ts cap rk o n1 rc (opX op) w1 S1
      have TO:Hid (∀ n2 A W2,Stt w0 ao ts cap p W2 rk n2 A o→Calls Tryz.prog 129 #[.pointer (some ⟨p,0,none⟩),.int .i64 (f:Int),.int .i64 L] W2 fun e w'=>e=.returned (.int .i64 (opAt (nxt ts rk).t f c:Int))∧Stt w0 ao ts cap p w' (if opAt (nxt ts rk).t f c=0 then rk else rk+1) n2 A o∧Fr W2 w' p none):=fun n2 A W2 h=>z5m w0 p ao ts cap rk o n2 A f c L W2 HE.out hf hc HL.out h
      have hq19:opAt (nxt ts rk).t f c<19:=opAt_lt _ _ _ hc
      generalize opAt (nxt ts rk).t f c=q at TO hst2 hq19
      have HST2:Hid _:=hst2
      clear hst2 S1
      by_cases hop0:op=0
      · subst hop0
        clear PU
        simp only [↓reduceIte] at HST2
        by_cases hq:q=0
        · subst hq
          simp only [↓reduceIte] at HST2 TO
          have T1:=TO.out n1 rc w1 HS1.out
          clear TO
          go_wp2_with (go_at_call 129;refine T1.mono ?_;rintro e w2 ⟨rfl,S2,g2⟩)
          simp only [Exit.jump]
          go_ret
          have hR:=HST2.out
          subst hR
          exact ⟨rfl,⟨n1,S2,G2.trans (Goes.of_fr g2 n1)⟩,by simp only;omega⟩
        · have hq':¬ (q:Int)=0:=by omega
          rw [if_neg hq] at TO
          have HN:Hid (z0y (nxt ts) f c part m q (rk+1) rc=R):=by
            have:=HST2.out
            rw [if_neg hq] at this
            exact this
          have T1:=TO.out n1 rc w1 HS1.out
          clear TO HST2
          go_wp2_with (go_at_call 129;refine T1.mono ?_;rintro e w2 ⟨rfl,S2,g2⟩)
          apply wp_goto
          refine ⟨rfl,?_⟩
          exact HK.out _ _ ⟨rk+1,q,rc,n1,_,_,_,_,_,_,_,_,_,_,_,_,_,_,_,_,_,_,_,_,_,rfl,S2,G2.trans (Goes.of_fr g2 n1),by omega,by omega,HN.out,by omega,hq19⟩
      · have hop':¬ (op:Int)=0:=by omega
        simp only [if_neg hop0] at HST2
        by_cases hq:q=0
        · subst hq
          simp only [↓reduceIte] at HST2 TO
          go_wp2_with (first
            | (go_at_call 128;refine PU.mono ?_;rintro e w2 ⟨rfl,n2,S2,g2⟩;have T1:=TO.out n2 _ w2 S2)
            | (go_at_call 129;refine T1.mono ?_;rintro e w3 ⟨rfl,S3,g3⟩))
          simp only [Exit.jump]
          go_ret
          have hR:=HST2.out
          subst hR
          exact ⟨rfl,⟨n2,S3,(G2.trans g2).trans (Goes.of_fr g3 n2)⟩,by simp only;omega⟩
        · have hq':¬ (q:Int)=0:=by omega
          rw [if_neg hq] at TO
          have HN:Hid (z0y (nxt ts) f c part m q (rk+1) (putN rc (opX op))=R):=by
            have:=HST2.out
            rw [if_neg hq] at this
            exact this
          clear HST2
          go_wp2_with (first
            | (go_at_call 128;refine PU.mono ?_;rintro e w2 ⟨rfl,n2,S2,g2⟩;have T1:=TO.out n2 _ w2 S2)
            | (go_at_call 129;refine T1.mono ?_;rintro e w3 ⟨rfl,S3,g3⟩))
          apply wp_goto
          refine ⟨rfl,?_⟩
          exact HK.out _ _ ⟨rk+1,q,_,n2,_,_,_,_,_,_,_,_,_,_,_,_,_,_,_,_,_,_,_,_,_,rfl,S3,(G2.trans g2).trans (Goes.of_fr g3 n2),by omega,by omega,HN.out,by omega,hq19⟩
theorem steps_un (w0:World) (ao:Option Addr) (ts:List Ti) (cap p o:Nat) (E:Env w0 ao ts) (f c:Nat) (L:Int) (hf:6≤f) (hc:f+c≤19) (hL:L=(f:Int)+(c:Int) - 1)
    (part:Nat→List Nd→Rz) (k0:Nat) (H:∀ k acc nv w,Stt w0 ao ts cap p w k nv acc o→k0≤k→Does w0 ao ts cap p 240 o k acc nv w (part k acc))
    (k:Nat) (acc:List Nd) (nv:Value) (w:World) (S:Stt w0 ao ts cap p w k nv acc o) (hk:k0≤k) (M:Nat) (hM:ts.length+1≤M+k) :
    Calls Tryz.prog 89 #[.pointer (some ⟨p,0,none⟩),.int .i64 (f:Int),.int .i64 L,.func (.func 240) #[.pointer (some ⟨p,0,none⟩)] #[]] w fun e w' =>
      e=.returned (.int .i64 ((z0y (nxt ts) f c part M 0 k acc).1:Int))∧(∃ nv',Stt w0 ao ts cap p w' (z0y (nxt ts) f c part M 0 k acc).2.1 nv' (z0y (nxt ts) f c part M 0 k acc).2.2 o∧Goes p w w' nv nv')∧k≤(z0y (nxt ts) f c part M 0 k acc).2.1:=by
  obtain ⟨R,hR⟩:∃ R,R=z0y (nxt ts) f c part M 0 k acc:=⟨_,rfl⟩
  rw [← hR]
  have HR:Hid (R=z0y (nxt ts) f c part M 0 k acc):=hR
  clear hR
  have HS:Hid (Stt w0 ao ts cap p w k nv acc o):=S
  have HH:Hid (∀ k acc nv w,Stt w0 ao ts cap p w k nv acc o→k0≤k→Does w0 ao ts cap p 240 o k acc nv w (part k acc)):=H
  have HE:Hid (Env w0 ao ts):=E
  have HL:Hid (L=(f:Int)+(c:Int) - 1):=hL
  clear S H E hL
  obtain ⟨M',rfl⟩:∃ M',M=M'+1:=⟨M - 1,by have:=HS.out.kl;omega⟩
  go_enter Tryz.func89,Tryz.ntmps89
  go_wp2
  refine z2b 0 M' rfl ?_
  go_wp2
  apply wp_label
  show _
  rename_i aK
  refine aK _ _ ?_
  clear aK
  refine z6x (fun m a W=>∃ (k' op:Nat) (acc':List Nd) (nv':Value) (z8 z10 z11 z12 z13 z14 z15 z16 z17 z18 z19 z20 z21 z22 z23 z24 z25 z26 z27 z28 z29:Value),a={ tmps:=#[Value.pointer (some ⟨p,0,none⟩),Value.int IntKind.i64 (f:Int),Value.int IntKind.i64 L,Value.func (Fn.func 240) #[Value.pointer (some ⟨p,0,none⟩)] #[],undef,undef,undef,undef,z8,Value.int IntKind.i64 (op:Int),z10,z11,z12,z13,z14,z15,z16,z17,z18,z19,z20,z21,z22,z23,z24,z25,z26,z27,z28,z29],defers:=[] }∧Hid (Stt w0 ao ts cap p W k' nv' acc' o∧Goes p w W nv nv'∧k0≤k'∧k≤k'∧z0y (nxt ts) f c part m op k' acc'=R∧ts.length+1≤m+k'∧op<19)) ?none0 ?step M' ?start
  case none0 =>
    rintro a W ⟨k',op,acc',nv',z8,z10,z11,z12,z13,z14,z15,z16,z17,z18,z19,z20,z21,z22,z23,z24,z25,z26,z27,z28,z29,_,hI⟩
    have h1:=hI.out.1.kl
    have h2:=hI.out.2.2.2.2.2.1
    omega
  case start=>exact ⟨k,0,acc,nv,_,_,_,_,_,_,_,_,_,_,_,_,_,_,_,_,_,_,_,_,_,rfl,HS.out,Goes.refl _ _ _,hk,Nat.le_refl _,HR.out.symm,hM,by omega⟩
  case step =>
    rintro m K hK a W ⟨k',op,acc',nv',z8,z10,z11,z12,z13,z14,z15,z16,z17,z18,z19,z20,z21,z22,z23,z24,z25,z26,z27,z28,z29,rfl,hI⟩
    have HK:Hid (∀ a w_1,(∃ (k' op:Nat) (acc':List Nd) (nv':Value) (z8 z10 z11 z12 z13 z14 z15 z16 z17 z18 z19 z20 z21 z22 z23 z24 z25 z26 z27 z28 z29:Value),a={ tmps:=#[Value.pointer (some ⟨p,0,none⟩),Value.int IntKind.i64 (f:Int),Value.int IntKind.i64 L,Value.func (Fn.func 240) #[Value.pointer (some ⟨p,0,none⟩)] #[],undef,undef,undef,undef,z8,Value.int IntKind.i64 (op:Int),z10,z11,z12,z13,z14,z15,z16,z17,z18,z19,z20,z21,z22,z23,z24,z25,z26,z27,z28,z29],defers:=[] }∧Hid (Stt w0 ao ts cap p w_1 k' nv' acc' o∧Goes p w w_1 nv nv'∧k0≤k'∧k≤k'∧z0y (nxt ts) f c part m op k' acc'=R∧ts.length+1≤m+k'∧op<19))→K a w_1):=hK
    clear hK HR HS
    obtain ⟨S1,G1,hk1,hk2,hst,hm,hop⟩:=hI.out
    have D:=HH.out k' acc' nv' W S1 hk1
    unfold Does at D
    have hst':(if (part k' acc').1=0 then
      (if opAt (nxt ts (part k' acc').2.1).t f c=0 then (0,(part k' acc').2.1,if op=0 then (part k' acc').2.2 else putN (part k' acc').2.2 (opX op))
       else z0y (nxt ts) f c part m (opAt (nxt ts (part k' acc').2.1).t f c) ((part k' acc').2.1+1) (if op=0 then (part k' acc').2.2 else putN (part k' acc').2.2 (opX op)))
      else part k' acc')=R:=hst
    generalize part k' acc'=r at D hst'
    obtain ⟨re,rk,rc⟩:=r
    simp only at D hst'
    have HST:Hid _:=hst'
    clear hst hst' hI HH S1
    go_wp2_with fail
    refine D.mono ?_
    rintro e w1 ⟨rfl,⟨n1,S1,g1⟩,hrk⟩
    clear D
    have G2:=G1.trans g1
    by_cases hre:re=0
    case neg =>
      have hre':¬ (re:Int)=0:=by omega
      have HF:Hid (R=(re,rk,rc)):=by show R=_;rw [← HST.out,if_neg hre]
      clear HST
      go_wp2
      simp only [Exit.jump]
      go_ret
      have hR:=HF.out
      subst hR
      exact ⟨rfl,⟨n1,S1,G2⟩,by simp only;omega⟩
    · subst hre
      have hst2:=HST.out
      rw [if_pos rfl] at hst2
      clear HST
      have HS1:Hid (Stt w0 ao ts cap p w1 rk n1 rc o):=S1
      have PU:Calls Tryz.prog 128 #[.pointer (some ⟨p,0,none⟩),.agg #[.int .i64 (op:Int),.string ⟨#[]⟩,.string ⟨#[]⟩,.int .i64 0,.int .i64 0,.int .i64 0,.string ⟨#[]⟩,.int .i64 0]] w1 fun e w'=>e=.returned (.tuple #[])∧∃ nv',Stt w0 ao ts cap p w' rk nv' (putN rc (opX op)) o∧Goes p w1 w' n1 nv':=z3s w0 p ao ts cap rk o n1 rc (opX op) w1 S1
      have TO:Hid (∀ n2 A W2,Stt w0 ao ts cap p W2 rk n2 A o→Calls Tryz.prog 129 #[.pointer (some ⟨p,0,none⟩),.int .i64 (f:Int),.int .i64 L] W2 fun e w'=>e=.returned (.int .i64 (opAt (nxt ts rk).t f c:Int))∧Stt w0 ao ts cap p w' (if opAt (nxt ts rk).t f c=0 then rk else rk+1) n2 A o∧Fr W2 w' p none):=fun n2 A W2 h=>z5m w0 p ao ts cap rk o n2 A f c L W2 HE.out hf hc HL.out h
      have hq19:opAt (nxt ts rk).t f c<19:=opAt_lt _ _ _ hc
      generalize opAt (nxt ts rk).t f c=q at TO hst2 hq19
      have HST2:Hid _:=hst2
      clear hst2 S1
      by_cases hop0:op=0
      · subst hop0
        clear PU
        simp only [↓reduceIte] at HST2
        by_cases hq:q=0
        · subst hq
          simp only [↓reduceIte] at HST2 TO
          have T1:=TO.out n1 rc w1 HS1.out
          clear TO
          go_wp2_with (go_at_call 129;refine T1.mono ?_;rintro e w2 ⟨rfl,S2,g2⟩)
          simp only [Exit.jump]
          go_ret
          have hR:=HST2.out
          subst hR
          exact ⟨rfl,⟨n1,S2,G2.trans (Goes.of_fr g2 n1)⟩,by simp only;omega⟩
        · have hq':¬ (q:Int)=0:=by omega
          rw [if_neg hq] at TO
          have HN:Hid (z0y (nxt ts) f c part m q (rk+1) rc=R):=by
            have:=HST2.out
            rw [if_neg hq] at this
            exact this
          have T1:=TO.out n1 rc w1 HS1.out
          clear TO HST2
          go_wp2_with (go_at_call 129;refine T1.mono ?_;rintro e w2 ⟨rfl,S2,g2⟩)
          apply wp_goto
          refine ⟨rfl,?_⟩
          exact HK.out _ _ ⟨rk+1,q,rc,n1,_,_,_,_,_,_,_,_,_,_,_,_,_,_,_,_,_,_,_,_,_,rfl,S2,G2.trans (Goes.of_fr g2 n1),by omega,by omega,HN.out,by omega,hq19⟩
      · have hop':¬ (op:Int)=0:=by omega
        simp only [if_neg hop0] at HST2
        by_cases hq:q=0
        · subst hq
          simp only [↓reduceIte] at HST2 TO
          go_wp2_with (first
            | (go_at_call 128;refine PU.mono ?_;rintro e w2 ⟨rfl,n2,S2,g2⟩;have T1:=TO.out n2 _ w2 S2)
            | (go_at_call 129;refine T1.mono ?_;rintro e w3 ⟨rfl,S3,g3⟩))
          simp only [Exit.jump]
          go_ret
          have hR:=HST2.out
          subst hR
          exact ⟨rfl,⟨n2,S3,(G2.trans g2).trans (Goes.of_fr g3 n2)⟩,by simp only;omega⟩
        · have hq':¬ (q:Int)=0:=by omega
          rw [if_neg hq] at TO
          have HN:Hid (z0y (nxt ts) f c part m q (rk+1) (putN rc (opX op))=R):=by
            have:=HST2.out
            rw [if_neg hq] at this
            exact this
          clear HST2
          go_wp2_with (first
            | (go_at_call 128;refine PU.mono ?_;rintro e w2 ⟨rfl,n2,S2,g2⟩;have T1:=TO.out n2 _ w2 S2)
            | (go_at_call 129;refine T1.mono ?_;rintro e w3 ⟨rfl,S3,g3⟩))
          apply wp_goto
          refine ⟨rfl,?_⟩
          exact HK.out _ _ ⟨rk+1,q,_,n2,_,_,_,_,_,_,_,_,_,_,_,_,_,_,_,_,_,_,_,_,_,rfl,S3,(G2.trans g2).trans (Goes.of_fr g3 n2),by omega,by omega,HN.out,by omega,hq19⟩
theorem Stt.reopen {w0:World} {ao:Option Addr} {ts:List Ti} {cap p:Nat} {w:World} {k:Nat} {nv:Value} {acc:List Nd} {o:Nat} (S:Stt w0 ao ts cap p w k nv acc o) (o':Nat) (h:o'≤64) :
  Stt w0 ao ts cap p (w.setCell ⟨p,10,none⟩ (.int .i64 (o':Int))) k nv acc o':=by
 have g:=Fr.set w p 10 (.int .i64 (o':Int)) none
 exact ⟨g.below S.low S.low.size S.hp (fun k e=>by cases e),S.hp,rb_open S.rb _,S.own.fr S.rb g,S.kl,S.few,h⟩
theorem within_no (w0:World) (ao:Option Addr) (ts:List Ti) (cap p o:Nat) (r:Rz) (k:Nat) (acc:List Nd) (nv:Value) (w:World) (S:Stt w0 ao ts cap p w k nv acc o)
  (H:o<64→∀ W,Stt w0 ao ts cap p W k nv acc (o+1)→Does w0 ao ts cap p 130 (o+1) k acc nv W r) :
  Calls Tryz.prog 181 #[.pointer (some ⟨p,0,none⟩),.func (.func 130) #[.pointer (some ⟨p,0,none⟩)] #[]] w fun e w' =>
   e=.returned (.int .i64 (((if o=64 then (38,k,acc) else r:Rz).1:Nat):Int))∧(∃ nv',Stt w0 ao ts cap p w' (if o=64 then (38,k,acc) else r:Rz).2.1 nv' (if o=64 then (38,k,acc) else r:Rz).2.2 o∧Goes p w w' nv nv')∧k≤(if o=64 then (38,k,acc) else r:Rz).2.1:=by
 have hl:=S.rb.lt
 have c10:=S.rb.at 10
 have f10:=S.rb.free 10
 have hd:=S.deep
 by_cases ho:o=64
 ·subst ho
  simp only [↓reduceIte]
  have HS:Hid (Stt w0 ao ts cap p w k nv acc 64):=S
  clear S H
  go_enter Tryz.func181,Tryz.ntmps181
  go_wp2
  go_ret
  exact ⟨rfl,⟨nv,HS.out,Goes.refl _ _ _⟩,Nat.le_refl _⟩
 ·simp only [if_neg ho]
  have ho':((o:Int)==64)=false:=by rw [beq_eq_false_iff_ne];omega
  have ho2:(o:Int)<64:=by omega
  have S1:=S.reopen (o+1) (by omega)
  have e1:((o+1:Nat):Int)=(o:Int)+1:=by omega
  have D:=H (by omega) _ S1
  unfold Does at D
  rw [e1] at D
  have G1:Goes p w (w.setCell ⟨p,10,none⟩ (.int .i64 ((o:Int)+1))) nv nv:=Goes.of_fr (Fr.set w p 10 _ none) nv
  clear S H S1
  obtain ⟨re,rk,rc⟩:=r
  simp only at D ⊢
  go_enter Tryz.func181,Tryz.ntmps181
  go_wp2_with (go_at_call 130;refine D.mono ?_;rintro e w1 ⟨rfl,⟨n1,S1,g1⟩,hk1⟩;have HS1:Hid (Stt w0 ao ts cap p w1 rk n1 rc (o+1)):=S1;have d10:=S1.rb.at 10;have q10:=S1.rb.free 10;have hl1:=S1.rb.lt;rw [e1] at d10;clear S1)
  go_ret
  refine ⟨rfl,⟨n1,?_,?_⟩,hk1⟩
  ·have:=HS1.out.reopen o (by omega)
   exact this
  ·exact (G1.trans g1).trans (Goes.of_fr (Fr.set w1 p 10 _ none) n1)
theorem within_un (w0:World) (ao:Option Addr) (ts:List Ti) (cap p o:Nat) (r:Rz) (k:Nat) (acc:List Nd) (nv:Value) (w:World) (S:Stt w0 ao ts cap p w k nv acc o)
  (H:o<64→∀ W,Stt w0 ao ts cap p W k nv acc (o+1)→Does w0 ao ts cap p 240 (o+1) k acc nv W r) :
  Calls Tryz.prog 181 #[.pointer (some ⟨p,0,none⟩),.func (.func 240) #[.pointer (some ⟨p,0,none⟩)] #[]] w fun e w' =>
   e=.returned (.int .i64 (((if o=64 then (38,k,acc) else r:Rz).1:Nat):Int))∧(∃ nv',Stt w0 ao ts cap p w' (if o=64 then (38,k,acc) else r:Rz).2.1 nv' (if o=64 then (38,k,acc) else r:Rz).2.2 o∧Goes p w w' nv nv')∧k≤(if o=64 then (38,k,acc) else r:Rz).2.1:=by
 have hl:=S.rb.lt
 have c10:=S.rb.at 10
 have f10:=S.rb.free 10
 have hd:=S.deep
 by_cases ho:o=64
 ·subst ho
  simp only [↓reduceIte]
  have HS:Hid (Stt w0 ao ts cap p w k nv acc 64):=S
  clear S H
  go_enter Tryz.func181,Tryz.ntmps181
  go_wp2
  go_ret
  exact ⟨rfl,⟨nv,HS.out,Goes.refl _ _ _⟩,Nat.le_refl _⟩
 ·simp only [if_neg ho]
  have ho':((o:Int)==64)=false:=by rw [beq_eq_false_iff_ne];omega
  have ho2:(o:Int)<64:=by omega
  have S1:=S.reopen (o+1) (by omega)
  have e1:((o+1:Nat):Int)=(o:Int)+1:=by omega
  have D:=H (by omega) _ S1
  unfold Does at D
  rw [e1] at D
  have G1:Goes p w (w.setCell ⟨p,10,none⟩ (.int .i64 ((o:Int)+1))) nv nv:=Goes.of_fr (Fr.set w p 10 _ none) nv
  clear S H S1
  obtain ⟨re,rk,rc⟩:=r
  simp only at D ⊢
  go_enter Tryz.func181,Tryz.ntmps181
  go_wp2_with (go_at_call 240;refine D.mono ?_;rintro e w1 ⟨rfl,⟨n1,S1,g1⟩,hk1⟩;have HS1:Hid (Stt w0 ao ts cap p w1 rk n1 rc (o+1)):=S1;have d10:=S1.rb.at 10;have q10:=S1.rb.free 10;have hl1:=S1.rb.lt;rw [e1] at d10;clear S1)
  go_ret
  refine ⟨rfl,⟨n1,?_,?_⟩,hk1⟩
  ·have:=HS1.out.reopen o (by omega)
   exact this
  ·exact (G1.trans g1).trans (Goes.of_fr (Fr.set w1 p 10 _ none) n1)
theorem within_en (w0:World) (ao:Option Addr) (ts:List Ti) (cap p o:Nat) (r:Rz) (k:Nat) (acc:List Nd) (nv:Value) (w:World) (S:Stt w0 ao ts cap p w k nv acc o)
  (H:o<64→∀ W,Stt w0 ao ts cap p W k nv acc (o+1)→Does w0 ao ts cap p 254 (o+1) k acc nv W r) :
  Calls Tryz.prog 181 #[.pointer (some ⟨p,0,none⟩),.func (.func 254) #[.pointer (some ⟨p,0,none⟩)] #[]] w fun e w' =>
   e=.returned (.int .i64 (((if o=64 then (38,k,acc) else r:Rz).1:Nat):Int))∧(∃ nv',Stt w0 ao ts cap p w' (if o=64 then (38,k,acc) else r:Rz).2.1 nv' (if o=64 then (38,k,acc) else r:Rz).2.2 o∧Goes p w w' nv nv')∧k≤(if o=64 then (38,k,acc) else r:Rz).2.1:=by
 have hl:=S.rb.lt
 have c10:=S.rb.at 10
 have f10:=S.rb.free 10
 have hd:=S.deep
 by_cases ho:o=64
 ·subst ho
  simp only [↓reduceIte]
  have HS:Hid (Stt w0 ao ts cap p w k nv acc 64):=S
  clear S H
  go_enter Tryz.func181,Tryz.ntmps181
  go_wp2
  go_ret
  exact ⟨rfl,⟨nv,HS.out,Goes.refl _ _ _⟩,Nat.le_refl _⟩
 ·simp only [if_neg ho]
  have ho':((o:Int)==64)=false:=by rw [beq_eq_false_iff_ne];omega
  have ho2:(o:Int)<64:=by omega
  have S1:=S.reopen (o+1) (by omega)
  have e1:((o+1:Nat):Int)=(o:Int)+1:=by omega
  have D:=H (by omega) _ S1
  unfold Does at D
  rw [e1] at D
  have G1:Goes p w (w.setCell ⟨p,10,none⟩ (.int .i64 ((o:Int)+1))) nv nv:=Goes.of_fr (Fr.set w p 10 _ none) nv
  clear S H S1
  obtain ⟨re,rk,rc⟩:=r
  simp only at D ⊢
  go_enter Tryz.func181,Tryz.ntmps181
  go_wp2_with (go_at_call 254;refine D.mono ?_;rintro e w1 ⟨rfl,⟨n1,S1,g1⟩,hk1⟩;have HS1:Hid (Stt w0 ao ts cap p w1 rk n1 rc (o+1)):=S1;have d10:=S1.rb.at 10;have q10:=S1.rb.free 10;have hl1:=S1.rb.lt;rw [e1] at d10;clear S1)
  go_ret
  refine ⟨rfl,⟨n1,?_,?_⟩,hk1⟩
  ·have:=HS1.out.reopen o (by omega)
   exact this
  ·exact (G1.trans g1).trans (Goes.of_fr (Fr.set w1 p 10 _ none) n1)
theorem ex_step (w0:World) (ao:Option Addr) (ts:List Ti) (cap p o:Nat) (E:Env w0 ao ts) (V:List UInt8→Option Va) (n k:Nat) (acc:List Nd) (nv:Value) (w:World) (S:Stt w0 ao ts cap p w k nv acc o)
  (H:∀ k' acc nv w,Stt w0 ao ts cap p w k' nv acc o→k≤k'→Does w0 ao ts cap p 90 o k' acc nv w (rdx (nxt ts) V (ts.length+1) n .an k' acc o)) :
  Does w0 ao ts cap p 67 o k acc nv w (rdx (nxt ts) V (ts.length+1) (n+1) .ex k acc o):=by
 have D:=steps_an w0 ao ts cap p o E 18 1 18 (by decide) (by decide) (by decide) (fun k acc=>rdx (nxt ts) V (ts.length+1) n .an k acc o) k H k acc nv w S (Nat.le_refl _) (ts.length+1) (by omega)
 show Does w0 ao ts cap p 67 o k acc nv w (z0y (nxt ts) 18 1 (fun k acc=>rdx (nxt ts) V (ts.length+1) n .an k acc o) (ts.length+1) 0 k acc)
 generalize z0y (nxt ts) 18 1 (fun k acc=>rdx (nxt ts) V (ts.length+1) n .an k acc o) (ts.length+1) 0 k acc=R at D ⊢
 have D':Calls Tryz.prog 89 #[.pointer (some ⟨p,0,none⟩),.int .i64 18,.int .i64 18,.func (.func 90) #[.pointer (some ⟨p,0,none⟩)] #[]] w fun e w' =>
   e=.returned (.int .i64 (R.1:Int))∧(∃ nv',Stt w0 ao ts cap p w' R.2.1 nv' R.2.2 o∧Goes p w w' nv nv')∧k≤R.2.1:=D
 clear D S H E
 unfold Does
 obtain ⟨re,rk,rc⟩:=R
 simp only at D' ⊢
 go_enter Tryz.func67,Tryz.ntmps67
 go_wp2_with (go_at_call 89;refine D'.mono ?_;rintro e w1 ⟨rfl,h1,h2⟩)
 go_ret
 exact ⟨rfl,h1,h2⟩
theorem an_step (w0:World) (ao:Option Addr) (ts:List Ti) (cap p o:Nat) (E:Env w0 ao ts) (V:List UInt8→Option Va) (n k:Nat) (acc:List Nd) (nv:Value) (w:World) (S:Stt w0 ao ts cap p w k nv acc o)
  (H:∀ k' acc nv w,Stt w0 ao ts cap p w k' nv acc o→k≤k'→Does w0 ao ts cap p 130 o k' acc nv w (rdx (nxt ts) V (ts.length+1) n .no k' acc o)) :
  Does w0 ao ts cap p 90 o k acc nv w (rdx (nxt ts) V (ts.length+1) (n+1) .an k acc o):=by
 have D:=steps_no w0 ao ts cap p o E 17 1 17 (by decide) (by decide) (by decide) (fun k acc=>rdx (nxt ts) V (ts.length+1) n .no k acc o) k H k acc nv w S (Nat.le_refl _) (ts.length+1) (by omega)
 show Does w0 ao ts cap p 90 o k acc nv w (z0y (nxt ts) 17 1 (fun k acc=>rdx (nxt ts) V (ts.length+1) n .no k acc o) (ts.length+1) 0 k acc)
 generalize z0y (nxt ts) 17 1 (fun k acc=>rdx (nxt ts) V (ts.length+1) n .no k acc o) (ts.length+1) 0 k acc=R at D ⊢
 have D':Calls Tryz.prog 89 #[.pointer (some ⟨p,0,none⟩),.int .i64 17,.int .i64 17,.func (.func 130) #[.pointer (some ⟨p,0,none⟩)] #[]] w fun e w' =>
   e=.returned (.int .i64 (R.1:Int))∧(∃ nv',Stt w0 ao ts cap p w' R.2.1 nv' R.2.2 o∧Goes p w w' nv nv')∧k≤R.2.1:=D
 clear D S H E
 unfold Does
 obtain ⟨re,rk,rc⟩:=R
 simp only at D' ⊢
 go_enter Tryz.func90,Tryz.ntmps90
 go_wp2_with (go_at_call 89;refine D'.mono ?_;rintro e w1 ⟨rfl,h1,h2⟩)
 go_ret
 exact ⟨rfl,h1,h2⟩
theorem su_step (w0:World) (ao:Option Addr) (ts:List Ti) (cap p o:Nat) (E:Env w0 ao ts) (V:List UInt8→Option Va) (n k:Nat) (acc:List Nd) (nv:Value) (w:World) (S:Stt w0 ao ts cap p w k nv acc o)
  (H:∀ k' acc nv w,Stt w0 ao ts cap p w k' nv acc o→k≤k'→Does w0 ao ts cap p 229 o k' acc nv w (rdx (nxt ts) V (ts.length+1) n .te k' acc o)) :
  Does w0 ao ts cap p 207 o k acc nv w (rdx (nxt ts) V (ts.length+1) (n+1) .su k acc o):=by
 have D:=steps_te w0 ao ts cap p o E 9 2 10 (by decide) (by decide) (by decide) (fun k acc=>rdx (nxt ts) V (ts.length+1) n .te k acc o) k H k acc nv w S (Nat.le_refl _) (ts.length+1) (by omega)
 show Does w0 ao ts cap p 207 o k acc nv w (z0y (nxt ts) 9 2 (fun k acc=>rdx (nxt ts) V (ts.length+1) n .te k acc o) (ts.length+1) 0 k acc)
 generalize z0y (nxt ts) 9 2 (fun k acc=>rdx (nxt ts) V (ts.length+1) n .te k acc o) (ts.length+1) 0 k acc=R at D ⊢
 have D':Calls Tryz.prog 89 #[.pointer (some ⟨p,0,none⟩),.int .i64 9,.int .i64 10,.func (.func 229) #[.pointer (some ⟨p,0,none⟩)] #[]] w fun e w' =>
   e=.returned (.int .i64 (R.1:Int))∧(∃ nv',Stt w0 ao ts cap p w' R.2.1 nv' R.2.2 o∧Goes p w w' nv nv')∧k≤R.2.1:=D
 clear D S H E
 unfold Does
 obtain ⟨re,rk,rc⟩:=R
 simp only at D' ⊢
 go_enter Tryz.func207,Tryz.ntmps207
 go_wp2_with (go_at_call 89;refine D'.mono ?_;rintro e w1 ⟨rfl,h1,h2⟩)
 go_ret
 exact ⟨rfl,h1,h2⟩
theorem te_step (w0:World) (ao:Option Addr) (ts:List Ti) (cap p o:Nat) (E:Env w0 ao ts) (V:List UInt8→Option Va) (n k:Nat) (acc:List Nd) (nv:Value) (w:World) (S:Stt w0 ao ts cap p w k nv acc o)
  (H:∀ k' acc nv w,Stt w0 ao ts cap p w k' nv acc o→k≤k'→Does w0 ao ts cap p 240 o k' acc nv w (rdx (nxt ts) V (ts.length+1) n .un k' acc o)) :
  Does w0 ao ts cap p 229 o k acc nv w (rdx (nxt ts) V (ts.length+1) (n+1) .te k acc o):=by
 have D:=steps_un w0 ao ts cap p o E 6 3 8 (by decide) (by decide) (by decide) (fun k acc=>rdx (nxt ts) V (ts.length+1) n .un k acc o) k H k acc nv w S (Nat.le_refl _) (ts.length+1) (by omega)
 show Does w0 ao ts cap p 229 o k acc nv w (z0y (nxt ts) 6 3 (fun k acc=>rdx (nxt ts) V (ts.length+1) n .un k acc o) (ts.length+1) 0 k acc)
 generalize z0y (nxt ts) 6 3 (fun k acc=>rdx (nxt ts) V (ts.length+1) n .un k acc o) (ts.length+1) 0 k acc=R at D ⊢
 have D':Calls Tryz.prog 89 #[.pointer (some ⟨p,0,none⟩),.int .i64 6,.int .i64 8,.func (.func 240) #[.pointer (some ⟨p,0,none⟩)] #[]] w fun e w' =>
   e=.returned (.int .i64 (R.1:Int))∧(∃ nv',Stt w0 ao ts cap p w' R.2.1 nv' R.2.2 o∧Goes p w w' nv nv')∧k≤R.2.1:=D
 clear D S H E
 unfold Does
 obtain ⟨re,rk,rc⟩:=R
 simp only at D' ⊢
 go_enter Tryz.func229,Tryz.ntmps229
 go_wp2_with (go_at_call 89;refine D'.mono ?_;rintro e w1 ⟨rfl,h1,h2⟩)
 go_ret
 exact ⟨rfl,h1,h2⟩
theorem z3f (w0:World) (ao:Option Addr) (ts:List Ti) (cap p k o:Nat) (nv:Value) (acc:List Nd) (s:List UInt8) (w:World) (E:Env w0 ao ts) (hs:s≠[]) (S:Stt w0 ao ts cap p w k nv acc o) (h:((nxt ts k).t==s)=true) :
  Calls Tryz.prog 179 #[.pointer (some ⟨p,0,none⟩),.string ⟨s.toArray⟩] w fun e w'=>e=.returned (.bool true)∧Stt w0 ao ts cap p w' (k+1) nv acc o∧Goes p w w' nv nv:=by
 have:=took_any w0 p ao ts cap k o nv acc s w E hs S
 rw [h] at this
 simp only [↓reduceIte] at this
 exact this.mono fun e w' ⟨h1,h2,h3⟩=>⟨h1,h2,Goes.of_fr h3 nv⟩
theorem z4m (w0:World) (ao:Option Addr) (ts:List Ti) (cap p k o:Nat) (nv:Value) (acc:List Nd) (s:List UInt8) (w:World) (E:Env w0 ao ts) (hs:s≠[]) (S:Stt w0 ao ts cap p w k nv acc o) (h:((nxt ts k).t==s)=false) :
  Calls Tryz.prog 179 #[.pointer (some ⟨p,0,none⟩),.string ⟨s.toArray⟩] w fun e w'=>e=.returned (.bool false)∧Stt w0 ao ts cap p w' k nv acc o∧Goes p w w' nv nv:=by
 have:=took_any w0 p ao ts cap k o nv acc s w E hs S
 rw [h] at this
 simp only [Bool.false_eq_true,↓reduceIte] at this
 exact this.mono fun e w' ⟨h1,h2,h3⟩=>⟨h1,h2,Goes.of_fr h3 nv⟩
theorem ended_any (w0:World) (ao:Option Addr) (ts:List Ti) (cap p o k:Nat) (E:Env w0 ao ts) (acc:List Nd) (nv:Value) (w:World) (S:Stt w0 ao ts cap p w k nv acc o) :
  Does w0 ao ts cap p 263 o k acc nv w (if (nxt ts k).t==[41] then (0,k+1,acc) else (30,k,acc)):=by
 unfold Does
 cases h:((nxt ts k).t==[41]) with
 | true =>
  simp only [↓reduceIte]
  have T:=z3f w0 ao ts cap p k o nv acc [41] w E (by decide) S h
  clear S h E
  go_enter Tryz.func263,Tryz.ntmps263
  go_wp2_with (go_at_call 179;refine T.mono ?_;rintro e w1 ⟨rfl,S1,g1⟩)
  go_ret
  exact ⟨rfl,⟨nv,S1,g1⟩,by omega⟩
 | false =>
  simp only [Bool.false_eq_true,↓reduceIte]
  have T:=z4m w0 ao ts cap p k o nv acc [41] w E (by decide) S h
  clear S h E
  go_enter Tryz.func263,Tryz.ntmps263
  go_wp2_with (go_at_call 179;refine T.mono ?_;rintro e w1 ⟨rfl,S1,g1⟩)
  go_ret
  exact ⟨rfl,⟨nv,S1,g1⟩,Nat.le_refl _⟩
theorem en_step (w0:World) (ao:Option Addr) (ts:List Ti) (cap p o:Nat) (E:Env w0 ao ts) (V:List UInt8→Option Va) (n k:Nat) (acc:List Nd) (nv:Value) (w:World)
  (H:Does w0 ao ts cap p 67 o k acc nv w (rdx (nxt ts) V (ts.length+1) n .ex k acc o)) :
  Does w0 ao ts cap p 254 o k acc nv w (rdx (nxt ts) V (ts.length+1) (n+1) .en k acc o):=by
 have e0:rdx (nxt ts) V (ts.length+1) (n+1) .en k acc o=(if (rdx (nxt ts) V (ts.length+1) n .ex k acc o).1=0 then (if (nxt ts (rdx (nxt ts) V (ts.length+1) n .ex k acc o).2.1).t==[41] then (0,(rdx (nxt ts) V (ts.length+1) n .ex k acc o).2.1+1,(rdx (nxt ts) V (ts.length+1) n .ex k acc o).2.2) else (30,(rdx (nxt ts) V (ts.length+1) n .ex k acc o).2.1,(rdx (nxt ts) V (ts.length+1) n .ex k acc o).2.2)) else rdx (nxt ts) V (ts.length+1) n .ex k acc o):=rfl
 rw [e0]
 clear e0
 generalize rdx (nxt ts) V (ts.length+1) n .ex k acc o=r at H ⊢
 obtain ⟨re,rk,rc⟩:=r
 unfold Does at H ⊢
 simp only at H ⊢
 by_cases hre:re=0
 ·subst hre
  simp only [↓reduceIte]
  obtain ⟨q,hq⟩:∃ q,q=(if (nxt ts rk).t==[41] then (0,rk+1,rc) else (30,rk,rc):Rz):=⟨_,rfl⟩
  have EN:Hid (∀ n1 W,Stt w0 ao ts cap p W rk n1 rc o→Does w0 ao ts cap p 263 o rk rc n1 W q):=fun n1 W h=>by rw [hq];exact ended_any w0 ao ts cap p o rk E rc n1 W h
  rw [← hq]
  clear hq E
  obtain ⟨qe,qk,qc⟩:=q
  simp only
  go_enter Tryz.func254,Tryz.ntmps254
  go_wp2_with (first
   | (go_at_call 67;refine H.mono ?_;rintro e w1 ⟨rfl,⟨n1,S1,g1⟩,hk1⟩;have EN1:=EN.out n1 w1 S1;unfold Does at EN1;simp only at EN1)
   | (go_at_call 263;refine EN1.mono ?_;rintro e w2 ⟨rfl,⟨n2,S2,g2⟩,hk2⟩))
  go_ret
  exact ⟨rfl,⟨n2,S2,g1.trans g2⟩,by omega⟩
 ·have hre':¬ (re:Int)=0:=by omega
  simp only [if_neg hre]
  clear E
  go_enter Tryz.func254,Tryz.ntmps254
  go_wp2_with (go_at_call 67;refine H.mono ?_;rintro e w1 ⟨rfl,⟨n1,S1,g1⟩,hk1⟩)
  go_ret
  exact ⟨rfl,⟨n1,S1,g1⟩,hk1⟩
theorem no_step (w0:World) (ao:Option Addr) (ts:List Ti) (cap p o:Nat) (E:Env w0 ao ts) (V:List UInt8→Option Va) (n k:Nat) (acc:List Nd) (nv:Value) (w:World) (S:Stt w0 ao ts cap p w k nv acc o)
  (H1:o<64→∀ W,Stt w0 ao ts cap p W (k+1) nv acc (o+1)→Does w0 ao ts cap p 130 (o+1) (k+1) acc nv W (rdx (nxt ts) V (ts.length+1) n .no (k+1) acc (o+1)))
  (H2:∀ W,Stt w0 ao ts cap p W k nv acc o→Does w0 ao ts cap p 180 o k acc nv W (rdx (nxt ts) V (ts.length+1) n .co k acc o)) :
  Does w0 ao ts cap p 130 o k acc nv w (rdx (nxt ts) V (ts.length+1) (n+1) .no k acc o):=by
 have e0:rdx (nxt ts) V (ts.length+1) (n+1) .no k acc o=(if (nxt ts k).t==wNot then (if o=64 then (38,k+1,putN acc (opX 4)) else ((rdx (nxt ts) V (ts.length+1) n .no (k+1) acc (o+1)).1,(rdx (nxt ts) V (ts.length+1) n .no (k+1) acc (o+1)).2.1,putN (rdx (nxt ts) V (ts.length+1) n .no (k+1) acc (o+1)).2.2 (opX 4))) else rdx (nxt ts) V (ts.length+1) n .co k acc o):=rfl
 rw [e0]
 clear e0
 generalize rdx (nxt ts) V (ts.length+1) n .no (k+1) acc (o+1)=r1 at H1 ⊢
 generalize rdx (nxt ts) V (ts.length+1) n .co k acc o=r2 at H2 ⊢
 cases h:((nxt ts k).t==wNot) with
 | false =>
  simp only [Bool.false_eq_true,↓reduceIte]
  have T:=z4m w0 ao ts cap p k o nv acc wNot w E (by decide) S h
  have HH:Hid (∀ W,Stt w0 ao ts cap p W k nv acc o→Does w0 ao ts cap p 180 o k acc nv W r2):=H2
  clear H1 H2 S h E
  obtain ⟨re,rk,rc⟩:=r2
  unfold Does
  simp only
  go_enter Tryz.func130,Tryz.ntmps130
  go_wp2_with (first
   | (go_at_call 179;refine T.mono ?_;rintro e w1 ⟨rfl,S1,g1⟩;have C:=HH.out w1 S1;unfold Does at C;simp only at C)
   | (go_at_call 180;refine C.mono ?_;rintro e w2 ⟨rfl,⟨n2,S2,g2⟩,hk2⟩))
  go_ret
  exact ⟨rfl,⟨n2,S2,g1.trans g2⟩,hk2⟩
 | true =>
  simp only [↓reduceIte]
  have T:=z3f w0 ao ts cap p k o nv acc wNot w E (by decide) S h
  obtain ⟨q,hq⟩:∃ q,q=(if o=64 then (38,k+1,acc) else r1:Rz):=⟨_,rfl⟩
  have WI:Hid (∀ W,Stt w0 ao ts cap p W (k+1) nv acc o→Calls Tryz.prog 181 #[.pointer (some ⟨p,0,none⟩),.func (.func 130) #[.pointer (some ⟨p,0,none⟩)] #[]] W fun e w' =>
   e=.returned (.int .i64 (q.1:Int))∧(∃ nv',Stt w0 ao ts cap p w' q.2.1 nv' q.2.2 o∧Goes p W w' nv nv')∧k+1≤q.2.1):=fun W h=>by rw [hq];exact within_no w0 ao ts cap p o r1 (k+1) acc nv W h H1
  have e1:(if o=64 then (38,k+1,putN acc (opX 4)) else (r1.1,r1.2.1,putN r1.2.2 (opX 4)):Rz)=(q.1,q.2.1,putN q.2.2 (opX 4)):=by
   rw [hq];split <;> rfl
  rw [e1]
  clear e1 hq H1 H2 S h E
  obtain ⟨qe,qk,qc⟩:=q
  unfold Does
  simp only at WI ⊢
  go_enter Tryz.func130,Tryz.ntmps130
  go_wp2_with (first
   | (go_at_call 179;refine T.mono ?_;rintro e w1 ⟨rfl,S1,g1⟩;have C:=WI.out w1 S1)
   | (go_at_call 181;refine C.mono ?_;rintro e w2 ⟨rfl,⟨n2,S2,g2⟩,hk2⟩;have PU:Calls Tryz.prog 128 #[.pointer (some ⟨p,0,none⟩),.agg #[.int .i64 4,.string ⟨#[]⟩,.string ⟨#[]⟩,.int .i64 0,.int .i64 0,.int .i64 0,.string ⟨#[]⟩,.int .i64 0]] w2 _:=z3s w0 p ao ts cap qk o n2 qc (opX 4) w2 S2)
   | (go_at_call 128;refine PU.mono ?_;rintro e w3 ⟨rfl,n3,S3,g3⟩))
  go_ret
  exact ⟨rfl,⟨n3,S3,(g1.trans g2).trans g3⟩,by omega⟩
theorem null_any (w0:World) (ao:Option Addr) (ts:List Ti) (cap p o:Nat) (E:Env w0 ao ts) (k:Nat) (acc:List Nd) (nv:Value) (w:World) (S:Stt w0 ao ts cap p w k nv acc o) :
  Does w0 ao ts cap p 208 o k acc nv w (nullF (nxt ts) k acc):=by
 unfold nullF
 cases h:((nxt ts k).t==wNot) with
 | true =>
  simp only [↓reduceIte]
  have T:=z3f w0 ao ts cap p k o nv acc wNot w E (by decide) S h
  cases h2:((nxt ts (k+1)).t==wNull) with
  | true =>
   simp only [↓reduceIte]
   have T2:Hid (∀ W,Stt w0 ao ts cap p W (k+1) nv acc o→_):=fun W hS=>z3f w0 ao ts cap p (k+1) o nv acc wNull W E (by decide) hS h2
   clear S h h2 E
   unfold Does
   simp only
   go_enter Tryz.func208,Tryz.ntmps208
   go_wp2_with fail
   refine T.mono ?_
   rintro e w1 ⟨rfl,S1,g1⟩
   have T3:=T2.out w1 S1
   go_wp2_with fail
   refine T3.mono ?_
   rintro e w2 ⟨rfl,S2,g2⟩
   have PU:Calls Tryz.prog 128 #[.pointer (some ⟨p,0,none⟩),.agg #[.int .i64 5,.string ⟨#[]⟩,.string ⟨#[]⟩,.int .i64 0,.int .i64 0,.int .i64 0,.string ⟨#[]⟩,.int .i64 0]] w2 _:=z3s w0 p ao ts cap (k+2) o nv acc (opX 5) w2 S2
   go_wp2_with fail
   refine PU.mono ?_
   rintro e w3 ⟨rfl,n3,S3,g3⟩
   have PV:Calls Tryz.prog 128 #[.pointer (some ⟨p,0,none⟩),.agg #[.int .i64 4,.string ⟨#[]⟩,.string ⟨#[]⟩,.int .i64 0,.int .i64 0,.int .i64 0,.string ⟨#[]⟩,.int .i64 0]] w3 _:=z3s w0 p ao ts cap (k+2) o n3 (putN acc (opX 5)) (opX 4) w3 S3
   go_wp2_with fail
   refine PV.mono ?_
   rintro e w4 ⟨rfl,n4,S4,g4⟩
   go_wp2
   go_ret
   exact ⟨rfl,⟨n4,S4,((g1.trans g2).trans g3).trans g4⟩,by omega⟩
  | false =>
   simp only [Bool.false_eq_true,↓reduceIte]
   have T2:Hid (∀ W,Stt w0 ao ts cap p W (k+1) nv acc o→_):=fun W hS=>z4m w0 ao ts cap p (k+1) o nv acc wNull W E (by decide) hS h2
   clear S h h2 E
   unfold Does
   simp only
   go_enter Tryz.func208,Tryz.ntmps208
   go_wp2_with fail
   refine T.mono ?_
   rintro e w1 ⟨rfl,S1,g1⟩
   have T3:=T2.out w1 S1
   go_wp2_with fail
   refine T3.mono ?_
   rintro e w2 ⟨rfl,S2,g2⟩
   go_wp2
   go_ret
   exact ⟨rfl,⟨nv,S2,g1.trans g2⟩,by omega⟩
 | false =>
  simp only [Bool.false_eq_true,↓reduceIte]
  have T:=z4m w0 ao ts cap p k o nv acc wNot w E (by decide) S h
  cases h2:((nxt ts k).t==wNull) with
  | true =>
   simp only [↓reduceIte]
   have T2:Hid (∀ W,Stt w0 ao ts cap p W k nv acc o→_):=fun W hS=>z3f w0 ao ts cap p k o nv acc wNull W E (by decide) hS h2
   clear S h h2 E
   unfold Does
   simp only
   go_enter Tryz.func208,Tryz.ntmps208
   go_wp2_with fail
   refine T.mono ?_
   rintro e w1 ⟨rfl,S1,g1⟩
   have T3:=T2.out w1 S1
   go_wp2_with fail
   refine T3.mono ?_
   rintro e w2 ⟨rfl,S2,g2⟩
   have PU:Calls Tryz.prog 128 #[.pointer (some ⟨p,0,none⟩),.agg #[.int .i64 5,.string ⟨#[]⟩,.string ⟨#[]⟩,.int .i64 0,.int .i64 0,.int .i64 0,.string ⟨#[]⟩,.int .i64 0]] w2 _:=z3s w0 p ao ts cap (k+1) o nv acc (opX 5) w2 S2
   go_wp2_with fail
   refine PU.mono ?_
   rintro e w3 ⟨rfl,n3,S3,g3⟩
   go_wp2
   go_ret
   exact ⟨rfl,⟨n3,S3,(g1.trans g2).trans g3⟩,by omega⟩
  | false =>
   simp only [Bool.false_eq_true,↓reduceIte]
   have T2:Hid (∀ W,Stt w0 ao ts cap p W k nv acc o→_):=fun W hS=>z4m w0 ao ts cap p k o nv acc wNull W E (by decide) hS h2
   clear S h h2 E
   unfold Does
   simp only
   go_enter Tryz.func208,Tryz.ntmps208
   go_wp2_with fail
   refine T.mono ?_
   rintro e w1 ⟨rfl,S1,g1⟩
   have T3:=T2.out w1 S1
   go_wp2_with fail
   refine T3.mono ?_
   rintro e w2 ⟨rfl,S2,g2⟩
   go_wp2
   go_ret
   exact ⟨rfl,⟨nv,S2,g1.trans g2⟩,Nat.le_refl _⟩
theorem co_step (w0:World) (ao:Option Addr) (ts:List Ti) (cap p o:Nat) (E:Env w0 ao ts) (V:List UInt8→Option Va) (n k:Nat) (acc:List Nd) (nv:Value) (w:World)
    (H1:Does w0 ao ts cap p 207 o k acc nv w (rdx (nxt ts) V (ts.length+1) n .su k acc o))
    (H2:∀ k' acc' nv' W,k<k'→Stt w0 ao ts cap p W k' nv' acc' o→Does w0 ao ts cap p 207 o k' acc' nv' W (rdx (nxt ts) V (ts.length+1) n .su k' acc' o)) :
    Does w0 ao ts cap p 180 o k acc nv w (rdx (nxt ts) V (ts.length+1) (n+1) .co k acc o):=by
  have e0:rdx (nxt ts) V (ts.length+1) (n+1) .co k acc o=(if (rdx (nxt ts) V (ts.length+1) n .su k acc o).1=0 then
      (if (nxt ts (rdx (nxt ts) V (ts.length+1) n .su k acc o).2.1).t==wIs then nullF (nxt ts) ((rdx (nxt ts) V (ts.length+1) n .su k acc o).2.1+1) (rdx (nxt ts) V (ts.length+1) n .su k acc o).2.2
       else if opAt (nxt ts (rdx (nxt ts) V (ts.length+1) n .su k acc o).2.1).t 11 6=0 then rdx (nxt ts) V (ts.length+1) n .su k acc o
       else ((rdx (nxt ts) V (ts.length+1) n .su ((rdx (nxt ts) V (ts.length+1) n .su k acc o).2.1+1) (rdx (nxt ts) V (ts.length+1) n .su k acc o).2.2 o).1,(rdx (nxt ts) V (ts.length+1) n .su ((rdx (nxt ts) V (ts.length+1) n .su k acc o).2.1+1) (rdx (nxt ts) V (ts.length+1) n .su k acc o).2.2 o).2.1,
         putN (rdx (nxt ts) V (ts.length+1) n .su ((rdx (nxt ts) V (ts.length+1) n .su k acc o).2.1+1) (rdx (nxt ts) V (ts.length+1) n .su k acc o).2.2 o).2.2 (opX (opAt (nxt ts (rdx (nxt ts) V (ts.length+1) n .su k acc o).2.1).t 11 6))))
    else rdx (nxt ts) V (ts.length+1) n .su k acc o):=rfl
  rw [e0]
  clear e0
  generalize rdx (nxt ts) V (ts.length+1) n .su k acc o=r at H1 ⊢
  obtain ⟨re,rk,rc⟩:=r
  unfold Does at H1
  simp only at H1 ⊢
  by_cases hre:re=0
  case neg =>
    have hre':¬ (re:Int)=0:=by omega
    simp only [if_neg hre]
    clear E H2
    unfold Does
    simp only
    go_enter Tryz.func180,Tryz.ntmps180
    go_wp2_with (go_at_call 207;refine H1.mono ?_;rintro e w1 ⟨rfl,⟨n1,S1,g1⟩,hk1⟩)
    go_ret
    exact ⟨rfl,⟨n1,S1,g1⟩,hk1⟩
  subst hre
  simp only [↓reduceIte]
  cases h:((nxt ts rk).t==wIs) with
  | true =>
    simp only [↓reduceIte]
    have T:Hid (∀ n1 W,Stt w0 ao ts cap p W rk n1 rc o→_):=fun n1 W hS=>z3f w0 ao ts cap p rk o n1 rc wIs W E (by decide) hS h
    have NU:Hid (∀ n1 W,Stt w0 ao ts cap p W (rk+1) n1 rc o→Does w0 ao ts cap p 208 o (rk+1) rc n1 W (nullF (nxt ts) (rk+1) rc)):=fun n1 W hS=>null_any w0 ao ts cap p o E (rk+1) rc n1 W hS
    generalize nullF (nxt ts) (rk+1) rc=q at NU ⊢
    obtain ⟨qe,qk,qc⟩:=q
    clear E H2 h
    unfold Does
    simp only
    go_enter Tryz.func180,Tryz.ntmps180
    go_wp2_with fail
    refine H1.mono ?_
    rintro e w1 ⟨rfl,⟨n1,S1,g1⟩,hk1⟩
    have T1:=T.out n1 w1 S1
    go_wp2_with fail
    refine T1.mono ?_
    rintro e w2 ⟨rfl,S2,g2⟩
    have N1:=NU.out n1 w2 S2
    unfold Does at N1
    simp only at N1
    go_wp2_with fail
    refine N1.mono ?_
    rintro e w3 ⟨rfl,⟨n3,S3,g3⟩,hk3⟩
    go_wp2
    go_ret
    exact ⟨rfl,⟨n3,S3,(g1.trans g2).trans g3⟩,by omega⟩
  | false =>
    simp only [Bool.false_eq_true,↓reduceIte]
    have T:Hid (∀ n1 W,Stt w0 ao ts cap p W rk n1 rc o→_):=fun n1 W hS=>z4m w0 ao ts cap p rk o n1 rc wIs W E (by decide) hS h
    have TO:Hid (∀ n1 W,Stt w0 ao ts cap p W rk n1 rc o→Calls Tryz.prog 129 #[.pointer (some ⟨p,0,none⟩),.int .i64 11,.int .i64 16] W fun e w'=>e=.returned (.int .i64 (opAt (nxt ts rk).t 11 6:Int))∧Stt w0 ao ts cap p w' (if opAt (nxt ts rk).t 11 6=0 then rk else rk+1) n1 rc o∧Fr W w' p none):=fun n1 W hS=>z5m w0 p ao ts cap rk o n1 rc 11 6 16 W E (by decide) (by decide) (by decide) hS
    generalize opAt (nxt ts rk).t 11 6=op at TO ⊢
    by_cases hop:op=0
    · subst hop
      simp only [↓reduceIte] at TO ⊢
      clear E H2 h
      unfold Does
      simp only
      go_enter Tryz.func180,Tryz.ntmps180
      go_wp2_with fail
      refine H1.mono ?_
      rintro e w1 ⟨rfl,⟨n1,S1,g1⟩,hk1⟩
      have T1:=T.out n1 w1 S1
      go_wp2_with fail
      refine T1.mono ?_
      rintro e w2 ⟨rfl,S2,g2⟩
      have T2:=TO.out n1 w2 S2
      go_wp2_with fail
      refine T2.mono ?_
      rintro e w3 ⟨rfl,S3,g3⟩
      go_wp2
      go_ret
      exact ⟨rfl,⟨n1,S3,(g1.trans g2).trans (Goes.of_fr g3 n1)⟩,hk1⟩
    · have hop':((op:Int)==0)=false:=by rw [beq_eq_false_iff_ne];omega
      simp only [if_neg hop] at TO ⊢
      have SU:Hid (∀ n1 W,k≤rk→Stt w0 ao ts cap p W (rk+1) n1 rc o→Does w0 ao ts cap p 207 o (rk+1) rc n1 W (rdx (nxt ts) V (ts.length+1) n .su (rk+1) rc o)):=fun n1 W hk hS=>H2 (rk+1) rc n1 W (by omega) hS
      generalize rdx (nxt ts) V (ts.length+1) n .su (rk+1) rc o=q at SU ⊢
      obtain ⟨qe,qk,qc⟩:=q
      clear E H2 h
      unfold Does
      simp only
      go_enter Tryz.func180,Tryz.ntmps180
      go_wp2_with fail
      refine H1.mono ?_
      rintro e w1 ⟨rfl,⟨n1,S1,g1⟩,hk1⟩
      have T1:=T.out n1 w1 S1
      go_wp2_with fail
      refine T1.mono ?_
      rintro e w2 ⟨rfl,S2,g2⟩
      have T2:=TO.out n1 w2 S2
      go_wp2_with fail
      refine T2.mono ?_
      rintro e w3 ⟨rfl,S3,g3⟩
      have SS:=SU.out n1 w3 hk1 S3
      unfold Does at SS
      simp only at SS
      go_wp2_with fail
      refine SS.mono ?_
      rintro e w4 ⟨rfl,⟨n4,S4,g4⟩,hk4⟩
      have PU:Calls Tryz.prog 128 #[.pointer (some ⟨p,0,none⟩),.agg #[.int .i64 (op:Int),.string ⟨#[]⟩,.string ⟨#[]⟩,.int .i64 0,.int .i64 0,.int .i64 0,.string ⟨#[]⟩,.int .i64 0]] w4 fun e w'=>e=.returned (.tuple #[])∧∃ nv',Stt w0 ao ts cap p w' qk nv' (putN qc (opX op)) o∧Goes p w4 w' n4 nv':=z3s w0 p ao ts cap qk o n4 qc (opX op) w4 S4
      go_wp2_with fail
      refine PU.mono ?_
      rintro e w5 ⟨rfl,n5,S5,g5⟩
      go_wp2
      go_ret
      exact ⟨rfl,⟨n5,S5,(((g1.trans g2).trans (Goes.of_fr g3 n1)).trans g4).trans g5⟩,by omega⟩
end Go.Proofs.YtljkonkfeiojnaaGreatDoor
