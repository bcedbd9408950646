/-
  What must come: longstoplaw07.knows; on its road eval.Function at 'length' and one Text.
  eval.negOf: from kind to kind.
  eval.Unary.
  The walk of EvalRight.
  Two good texts joined are a good text. Nothing of the program is in it.
  What an op comes to may be, or is nothing.
  What functions lean on: eval.pointAt, rounded, isFunction.
  eval.apart, firstKnown, size.
-/
import Derived.Test.YtibbenhplmmmiaaGreatDoorMCQCall
import Derived.Deep.Cut
import Derived.Test.YtibbenhplmmmiaaGreatDoorMAQNums
import Derived.Test.YtibbenhplmmmiaaGreatDoorDNeg
import Derived.Test.YtibbenhplmmmiaaGreatDoorMzHRef4
import Derived.Test.YtibbenhplmmmiaaGreatDoorMsVOrd1
import Derived.Lib.ValidLaws
import Derived.Lib.DecodeN
import Derived.Test.YtibbenhplmmmiaaGreatDoorDResc
import Derived.Test.YtibbenhplmmmiaaGreatDoorMtLByte
set_option maxHeartbeats 4000000
set_option maxRecDepth 20000
namespace Go.Proofs.YtibbenhplmmmiaaGreatDoor
open Go.RowKit Go.Shelf
attribute [local go_sem] z0e z0b z0c z0f z0m z0k z0h z0d z0g z1n z1e z1x z1d z1r z1s z1z z1p z1y z1k z1v
theorem isf_len1 (w:World):Calls Tryz.prog 109 #[.string ⟨#[108,101,110,103,116,104]⟩,.int .i64 1] w fun e w'=>e=.returned (.bool true)∧Below w.heap.size w w':=by
 go_enter Tryz.func109,Tryz.ntmps109
 go_wp2
 all_goals go_ret
 all_goals exact ⟨rfl,Below.refl _ _⟩
theorem fun_length (ao:Option Addr) (cap:Nat) (rk rn rm re:Int) (rb:ByteArray) (w:World) (A:z0n 60 #[.slice ao 1 cap] w (.bool true)) (I:z0n 109 #[.string ⟨#[108,101,110,103,116,104]⟩,.int .i64 1] w (.bool true))
  (C:z0n 111 #[.slice ao 1 cap,va 0 0 0 ⟨#[]⟩] w (.bool false)) (F:z0n 112 #[.string ⟨#[108,101,110,103,116,104]⟩,.slice ao 1 cap] w (.tuple #[va rk rn rm rb,.int .i64 re])) :
  Calls Tryz.prog 58 #[.string ⟨#[108,101,110,103,116,104]⟩,.slice ao 1 cap] w fun e w'=>e=.returned (.tuple #[va rk rn rm rb,.int .i64 re])∧Below w.heap.size w w':=by
 obtain ⟨w0,hw0,bxr,Bw⟩:=z2p w
 go_enter Tryz.func58,Tryz.ntmps58
 go_upto_region 1 with fail
 rw [← hw0]
 clear hw0
 have B0:Below w0.heap.size w0 w0:=Below.refl _ _
 go_wp2_with fail
 refine (A _ (z0a Bw B0)).mono ?_
 rintro e w1 ⟨rfl,c⟩
 have B1:=z0a B0 c
 clear c
 go_wp2_with fail
 refine (I _ (z0a Bw B1)).mono ?_
 rintro e w2 ⟨rfl,c⟩
 have B2:=z0a B1 c
 clear c
 go_wp2_with fail
 refine (C _ (z0a Bw B2)).mono ?_
 rintro e w3 ⟨rfl,c⟩
 have B3:=z0a B2 c
 clear c
 go_wp2_with fail
 refine (F _ (z0a Bw B3)).mono ?_
 rintro e w4 ⟨rfl,c⟩
 have B4:=z0a B3 c
 clear c
 have br:=bxr.later B4
 obtain ⟨r0,r1,r2,r3⟩:=br.at4
 dsimp only [nul] at r0 r1 r2 r3
 simp only [Nat.zero_add] at r1 r2 r3
 have f0:=br.free 0
 have f1:=br.free 1
 have f2:=br.free 2
 have f3:=br.free 3
 have lt1:=br.lt
 have Be:=z0a Bw B4
 go_wp2
 refine bodyPost_ret_by (v:=.tuple #[va rk rn rm rb,.int .i64 re]) ?_ rfl ⟨rfl,?_⟩
 ·simp [results,Tryz.results58,go_sem,r0,r1,r2,r3]
 ·exact (Be.setCell (p:=⟨w.heap.size,0,none⟩) (Nat.le_refl _) (.int .i64 rk) |>.setCell (p:=⟨w.heap.size,1,none⟩) (Nat.le_refl _) (.int .i64 rn) |>.setCell (p:=⟨w.heap.size,2,none⟩) (Nat.le_refl _) (.int .i64 rm) |>.setCell (p:=⟨w.heap.size,3,none⟩) (Nat.le_refl _) (.string rb))
theorem qnum7_any (n:Int) (w:World):Calls Tryz.prog 28 #[.int .i64 n] w fun e w'=>e=.returned (.int .i64 n)∧w=w':=by
 go_enter Tryz.func28,Tryz.ntmps28
 go_wp2
 go_ret
 exact ⟨rfl,rfl⟩
theorem qints7_any (n:Int) (w:World):Calls Tryz.prog 57 #[.int .i64 n] w fun e w'=>e=.returned (va 1 n 0 ⟨#[]⟩)∧Grew w w':=by
 go_enter Tryz.func57,Tryz.ntmps57
 go_wp2
 refine bodyPost_ret_by (v:=va 1 n 0 ⟨#[]⟩) ?_ rfl ⟨rfl,?_⟩
 ·simp [results,Tryz.results57,go_sem]
 ·exact gA
theorem z8z {v:Va} (h:vok Lib.validD v):vr v=true:=(z2f v).2 h
theorem know1:binR 7 (vI 1) (vD 30 1)=(vD 333333 6,0):=by
 have h1:vr (vI 1)=true:=z8z (by simp [vok,vI])
 have h2:vr (vD 30 1)=true:=z8z (by simp [vok,vD])
 unfold binR
 rw [if_neg (by simp [h1,h2]),if_neg (by decide),if_neg (by simp [vI,vD]),if_neg (by simp [vI,vD]),if_pos (by simp [isn,vI,vD])]
 unfold z9r
 rw [if_neg (by decide),if_neg (by decide),if_neg (by decide),if_pos rfl,if_neg (by simp [vD])]
 rfl
theorem know2:binR 17 nul (vB false)=(vB false,0):=by
 have h1:vr nul=true:=z8z (by simp [vok,nul])
 have h2:vr (vB false)=true:=z8z (by simp [vok,vB])
 have t1:tB nul=true:=by
  show (vr nul&&_)=true
  rw [h1];rfl
 have t2:tB (vB false)=true:=by
  show (vr (vB false)&&_)=true
  rw [h2];rfl
 have n1:tN nul=2:=by
  unfold tN truN
  rw [if_neg (by simp [nul])]
 have n2:tN (vB false)=0:=by
  unfold tN truN
  rw [if_pos ⟨h2,rfl⟩];rfl
 unfold binR
 rw [if_neg (by simp [h1,h2]),if_pos (.inl rfl)]
 unfold truR
 rw [t1,t2,n1,n2]
 rfl
theorem vr_abc:vr ⟨3,0,0,[97,98,99]⟩=true:=z8z (by
 have:Lib.validD [97,98,99]=true:=by kernel_rfl
 simp [vok,this])
theorem knows7_any (w:World) (hT:Tabs w) (hP:Pw w):Calls Tryz.prog 19 #[] w fun e w'=>e=.returned (.bool true)∧Below w.heap.size w w':=by
 have K1:z0n 56 #[.int .i64 7,va 1 1 0 ⟨#[]⟩,va 2 30 1 ⟨#[]⟩] w (.tuple #[va 2 333333 6 ⟨#[]⟩,.int .i64 0]):=fun W h=>by
  have:=qbin_any 7 (vI 1) (vD 30 1) W (hT.later h) (hP.below h) ⟨⟨by decide,by decide⟩,⟨by decide,by decide⟩⟩ ⟨⟨by decide,by decide⟩,⟨by decide,by decide⟩⟩
  rw [know1] at this
  exact this
 have K2:z0n 56 #[.int .i64 17,va 0 0 0 ⟨#[]⟩,va 4 0 0 ⟨#[]⟩] w (.tuple #[va 4 0 0 ⟨#[]⟩,.int .i64 0]):=fun W h=>by
  have:=qbin_any 17 nul (vB false) W (hT.later h) (hP.below h) ⟨⟨by decide,by decide⟩,⟨by decide,by decide⟩⟩ ⟨⟨by decide,by decide⟩,⟨by decide,by decide⟩⟩
  rw [know2] at this
  exact this
 have K3:∀ (bl cap:Nat) (W:World),Below w.heap.size w W→At4 W bl 0 ⟨3,0,0,[97,98,99]⟩ →
   Calls Tryz.prog 58 #[.string ⟨#[108,101,110,103,116,104]⟩,.slice (some ⟨bl,0,none⟩) 1 cap] W fun e w'=>e=.returned (.tuple #[va 1 3 0 ⟨#[]⟩,.int .i64 0])∧Below W.heap.size W w':=by
  intro bl cap W h h4
  have hv:Vs W (some ⟨bl,0,none⟩) [⟨3,0,0,[97,98,99]⟩]:=fun _=>⟨bl,0,rfl,fun i hi=>by
   have:i=0:=by simpa using hi
   subst this
   exact h4⟩
  refine fun_length _ _ _ _ _ _ _ W (fun W' h'=>?_) (fun W' _=>isf_len1 W') (fun W' h'=>?_) (fun W' h'=>?_)
  ·have:=y0a (some ⟨bl,0,none⟩) cap [⟨3,0,0,[97,98,99]⟩] W' ((hT.later h).later h') (hv.later h') (by decide)
   rwa [show ([⟨3,0,0,[97,98,99]⟩]:List Va).all vr=true by rw [List.all_cons,vr_abc];rfl] at this
  ·have:=qcont_any (some ⟨bl,0,none⟩) cap [⟨3,0,0,[97,98,99]⟩] W' (hv.later h') (by decide)
   rwa [show ([⟨3,0,0,[97,98,99]⟩]:List Va).any zq=false by rfl] at this
  ·obtain ⟨c0,c1,c2,c3⟩:=h4.later h'
   exact called_length bl 0 cap 0 0 [97,98,99] W' (h4.later h').lt c0 c1 c2 c3
 have H1:=fun W=>qints7_any 1 W
 have N:=fun n W=>qnum7_any n W
 clear hT hP
 have G:Below w.heap.size w w:=Below.refl _ _
 go_enter Tryz.func19,Tryz.ntmps19
 go_upto_region 1 with fail
 go_cut [1,2] from 7 (fun s0 s1 wx=>∃ p:Nat,s0=.pointer (some ⟨p,0,none⟩)∧s1=.int .i64 0∧At4 wx p 0 ⟨2,333333,6,[]⟩∧Below w.heap.size w wx)
 case first =>
  clear K2 K3 N
  go_wp2_with (first
   | (go_at_call 57;refine (H1 _).mono ?_;rintro e wc ⟨rfl,osc,nc,rfl⟩)
   | (go_at_call 56;refine (K1 _ (z0z.below gC)).mono ?_;rintro e wc ⟨rfl,bc⟩;obtain ⟨osc,dc,rfl⟩:=wide bc;clear bc))
  all_goals go_meet
  all_goals exact ⟨_,rfl,rfl,⟨gD,gD,gD,gD⟩,z0z.below gC⟩
 rename World=>v1
 obtain ⟨p1,rfl,rfl,hp1,gv1⟩:=hcut
 replace K1:=K1.later gv1
 replace K2:=K2.later gv1
 replace G:=z0a G gv1
 clear gv1
 go_upto_region 2 with fail
 obtain ⟨k0a,k0b,k0c,k0d⟩:=id hp1
 have k0l:=hp1.lt
 simp only [Nat.zero_add] at k0b k0c k0d
 go_cut [3,4] from 7 (fun s0 s1 wx=>∃ p:Nat,s0=.pointer (some ⟨p,0,none⟩)∧s1=.int .i64 0∧At4 wx p 0 ⟨4,0,0,[]⟩∧Below v1.heap.size v1 wx)
 case first =>
  clear K1 K3 N
  go_wp2_with (first
   | (go_at_call 56;refine (K2 _ (z0z.below gC)).mono ?_;rintro e wc ⟨rfl,bc⟩;obtain ⟨osc,dc,rfl⟩:=wide bc;clear bc))
  all_goals go_meet
  all_goals exact ⟨_,rfl,rfl,⟨gD,gD,gD,gD⟩,z0z.below gC⟩
 rename World=>v2
 obtain ⟨p2,rfl,rfl,hp2,gv2⟩:=hcut
 clear k0a k0b k0c k0d k0l
 replace hp1:=hp1.later gv2
 replace K1:=K1.later gv2
 replace K2:=K2.later gv2
 replace G:=z0a G gv2
 clear gv2
 go_upto_region 3 with fail
 obtain ⟨k0a,k0b,k0c,k0d⟩:=id hp1
 have k0l:=hp1.lt
 simp only [Nat.zero_add] at k0b k0c k0d
 obtain ⟨k1a,k1b,k1c,k1d⟩:=id hp2
 have k1l:=hp2.lt
 simp only [Nat.zero_add] at k1b k1c k1d
 go_cut [5,6] from 7 (fun s0 s1 wx=>∃ p:Nat,s0=.pointer (some ⟨p,0,none⟩)∧s1=.int .i64 0∧At4 wx p 0 ⟨1,3,0,[]⟩∧Below v2.heap.size v2 wx)
 case first =>
  clear K1 K2 N
  go_wp2_with (first
   | (go_at_call 58;refine (K3 _ _ _ (z0a G (z0z.below gC)) ⟨gD,gD,gD,gD⟩).mono ?_;rintro e wc ⟨rfl,bc⟩;obtain ⟨osc,dc,rfl⟩:=wide bc;clear bc))
  all_goals go_meet
  all_goals exact ⟨_,rfl,rfl,⟨gD,gD,gD,gD⟩,z0z.below gC⟩
 rename World=>v3
 obtain ⟨p3,rfl,rfl,hp3,gv3⟩:=hcut
 clear k0a k0b k0c k0d k0l k1a k1b k1c k1d k1l
 replace hp1:=hp1.later gv3
 replace hp2:=hp2.later gv3
 replace K1:=K1.later gv3
 replace K2:=K2.later gv3
 replace G:=z0a G gv3
 clear gv3
 obtain ⟨k0a,k0b,k0c,k0d⟩:=id hp1
 have k0l:=hp1.lt
 simp only [Nat.zero_add] at k0b k0c k0d
 obtain ⟨k1a,k1b,k1c,k1d⟩:=id hp2
 have k1l:=hp2.lt
 simp only [Nat.zero_add] at k1b k1c k1d
 obtain ⟨k2a,k2b,k2c,k2d⟩:=id hp3
 have k2l:=hp3.lt
 simp only [Nat.zero_add] at k2b k2c k2d
 clear K1 K2 K3 H1
 go_wp2_with (go_at_call 28;refine (N _ _).mono ?_;rintro e wc ⟨rfl,rfl⟩)
 go_ret
 exact ⟨rfl,G⟩
end Go.Proofs.YtibbenhplmmmiaaGreatDoor

namespace Go.Proofs.YtibbenhplmmmiaaGreatDoor
open Go.RowKit Go.Shelf
attribute [local go_sem] z0e z0b z0c z0f z0m z0k z0h z0d z0g
theorem qneg_null (an am:Int) (ab:ByteArray) (w:World)  :
  Calls Tryz.prog 185 #[va 0 an am ab] w fun e w'=>e=.returned (.tuple #[va 0 0 0 ⟨#[]⟩,.int .i64 0])∧Grew w w':=by
 go_enter Tryz.func185,Tryz.ntmps185
 go_wp2_with fail
 refine z0x 5 ?_
 go_wp2
 refine z1a (by intro l h;cases h) ?_
 refine bodyPost_ret_by (v:=.tuple #[va 0 0 0 ⟨#[]⟩,.int .i64 0]) ?_ rfl ⟨rfl,gB⟩
 simp [results,Tryz.results185,go_sem]
theorem qneg_int (an am:Int) (ab:ByteArray) (w:World) (z x:Int) (D:∀ W,Grew w W→Calls Tryz.prog 157 #[.int .i64 0,.int .i64 an] W fun e w'=>e=.returned (.tuple #[.int .i64 z,.int .i64 x])∧Grew W w') :
  Calls Tryz.prog 185 #[va 1 an am ab] w fun e w'=>e=.returned (rs (z0v z x))∧Grew w w':=by
 have H:=fun n x W=>z2e n x W
 go_enter Tryz.func185,Tryz.ntmps185
 go_wp2_with fail
 refine z0x 5 ?_
 go_wp2_with fail
 refine z0r (n:=4) rfl ?_
 go_wp2_with (first
  | (go_at_call 157;refine (D _ gB).mono ?_;rintro e w1 ⟨rfl,os1,n1,rfl⟩)
  | (go_at_call 155;refine (H _ _ _).mono ?_;rintro e w1 ⟨rfl,os2,n2,rfl⟩))
 refine z1a (by intro l h;cases h) ?_
 refine bodyPost_ret_by (v:=rs (z0v z x)) ?_ rfl ⟨rfl,gB⟩
 simp [results,Tryz.results185,go_sem]
theorem qneg_dec (an am:Int) (ab:ByteArray) (w:World) (z s x:Int) (D:∀ W,Grew w W→Calls Tryz.prog 241 #[dv an am] W fun e w'=>e=.returned (.tuple #[dv z s,.int .i64 x])∧Grew W w') :
  Calls Tryz.prog 185 #[va 2 an am ab] w fun e w'=>e=.returned (rs (z2a z s x))∧Grew w w':=by
 have H:=fun n s x W=>z3q n s x W
 have U:=fun k n m b W=>z3t k n m b W
 go_enter Tryz.func185,Tryz.ntmps185
 go_wp2_with fail
 refine z0x 5 ?_
 go_wp2_with fail
 refine z0r (n:=4) rfl ?_
 go_wp2_with fail
 refine z0r (n:=3) rfl ?_
 go_wp2_with (first
  | (go_at_call 104;refine (U _ _ _ _ _).mono ?_;rintro e w1 ⟨rfl,os0,n0,rfl⟩)
  | (go_at_call 241;refine (D _ gB).mono ?_;rintro e w1 ⟨rfl,os1,n1,rfl⟩)
  | (go_at_call 162;refine (H _ _ _ _).mono ?_;rintro e w1 ⟨rfl,os2,n2,rfl⟩))
 refine z1a (by intro l h;cases h) ?_
 refine bodyPost_ret_by (v:=rs (z2a z s x)) ?_ rfl ⟨rfl,gB⟩
 simp [results,Tryz.results185,go_sem]
theorem qneg_pt (an am:Int) (ab:ByteArray) (w:World) (x y:Int) (D:∀ W,Calls Tryz.prog 242 #[dv an am,.int .i64 2] W fun e w'=>e=.returned (dv x y)∧Grew W w') :
  Calls Tryz.prog 185 #[va 5 an am ab] w fun e w'=>e=.returned (rs (z0u x y 0))∧Grew w w':=by
 have H:=fun n s x W=>z7g n s x W
 have U:=fun k n m b W=>z9a k n m b W
 go_enter Tryz.func185,Tryz.ntmps185
 go_wp2_with fail
 refine z0x 5 ?_
 go_wp2_with fail
 refine z0r (n:=4) rfl ?_
 go_wp2_with fail
 refine z0r (n:=3) rfl ?_
 go_wp2_with fail
 refine z0r (n:=2) rfl ?_
 go_wp2_with (first
  | (go_at_call 168;refine (U _ _ _ _ _).mono ?_;rintro e w1 ⟨rfl,os0,n0,rfl⟩)
  | (go_at_call 242;refine (D _).mono ?_;rintro e w1 ⟨rfl,os1,n1,rfl⟩)
  | (go_at_call 169;refine (H _ _ _ _).mono ?_;rintro e w1 ⟨rfl,os2,n2,rfl⟩))
 refine z1a (by intro l h;cases h) ?_
 refine bodyPost_ret_by (v:=rs (z0u x y 0)) ?_ rfl ⟨rfl,gB⟩
 simp [results,Tryz.results185,go_sem]
theorem qneg_other (ak:Int) (an am:Int) (ab:ByteArray) (w:World) (e0:(ak != 0)=true) (e1:(ak != 1)=true) (e2:(ak != 2)=true) (e5:(ak != 5)=true) :
  Calls Tryz.prog 185 #[va ak an am ab] w fun e w'=>e=.returned (.tuple #[va 0 0 0 ⟨#[]⟩,.int .i64 31])∧Grew w w':=by
 go_enter Tryz.func185,Tryz.ntmps185
 go_wp2_with fail
 refine z0x 5 ?_
 go_wp2_with fail
 refine z0r (n:=4) rfl ?_
 go_wp2_with fail
 refine z0r (n:=3) rfl ?_
 go_wp2_with fail
 refine z0r (n:=2) rfl ?_
 go_wp2_with fail
 refine z0r (n:=1) rfl ?_
 go_wp2
 refine z1a (by intro l h;cases h) ?_
 refine bodyPost_ret_by (v:=.tuple #[va 0 0 0 ⟨#[]⟩,.int .i64 31]) ?_ rfl ⟨rfl,gB⟩
 simp [results,Tryz.results185,go_sem]
theorem qneg_any (a:Va) (w:World) (hP:Pw w) (hr:vr a=true) (va':vin a):Calls Tryz.prog 185 #[vv a] w fun e w'=>e=.returned (rs (negR a))∧Grew w w':=by
 obtain ⟨k,n,m,b⟩:=a
 have hv:=(z2f _).1 hr
 simp only [vok] at hv
 obtain ⟨⟨a0,a1⟩,-⟩:=va'
 simp only at a0 a1
 unfold negR
 by_cases h0:k=0
 ·subst h0
  exact qneg_null n m _ w
 by_cases h1:k=1
 ·subst h1
  exact qneg_int n m _ w _ _ (fun W h=>qdiff_any 0 n W (hP.later h) (by decide) (by decide) a0 a1)
 by_cases h2:k=2
 ·subst h2
  have hm:0≤m∧m≤6:=by omega
  have hs:z0s m=true:=(z0w m).2 hm
  have:=qneg_dec n m ⟨b.toArray⟩ w _ _ _ (fun W h=>neg_any n m W (hP.later h) a0 a1)
  simp only [negU,negS,negE,hs,if_true] at this
  exact this
 by_cases h5:k=5
 ·subst h5
  have hp:Ga.ok2 n m=true:=(Ga.ok2_iff n m).2 (by omega)
  exact qneg_pt n m _ w _ _ (fun W=>Ga.turn_good n m 2 W hp)
 simp only [h0,h1,h2,h5,if_false]
 exact qneg_other k n m _ w (by simpa using h0) (by simpa using h1) (by simpa using h2) (by simpa using h5)
theorem z1q (w:World) (a:Va):∃ w0,w0=(w.alloc (.cells #[.int .i64 a.k,.int .i64 a.n,.int .i64 a.m,.string ⟨a.b.toArray⟩] 23)).alloc (.cells #[.int .i64 0,.int .i64 0,.int .i64 0,.string ⟨#[]⟩] 23) ∧
  Box w0 w.heap.size a∧Box w0 (w.heap.size+1) nul∧Below w.heap.size w w0:=by
 obtain ⟨h1,h2,h3⟩:=z7v w a nul
 exact ⟨_,rfl,h1,h2,h3⟩
theorem qun_low (op:Int) (ak:Int) (an am:Int) (ab:List UInt8) (w:World) (o1:op<3)  :
  Calls Tryz.prog 115 #[.int .i64 op,va ak an am ⟨ab.toArray⟩] w fun e w'=>e=.returned (.tuple #[va 0 0 0 ⟨#[]⟩,.int .i64 1])∧Below w.heap.size w w':=by
 obtain ⟨w0,hw0,bxa,bxr,Bw⟩:=z1q w ⟨ak,an,am,ab⟩
 dsimp only at hw0
 have B0:Below w0.heap.size w0 w0:=Below.refl _ _
 go_enter Tryz.func115,Tryz.ntmps115
 go_upto_region 1 with fail
 rw [← hw0]
 clear hw0
 obtain ⟨a0,a1,a2,a3⟩:=bxa.at4
 dsimp only at a0 a1 a2 a3
 have br:=bxr.later B0
 obtain ⟨r0,r1,r2,r3⟩:=br.at4
 dsimp only [nul] at r0 r1 r2 r3
 simp only [Nat.zero_add] at r1 r2 r3
 have f0:=br.free 0
 have f1:=br.free 1
 have f2:=br.free 2
 have f3:=br.free 3
 have lt1:=br.lt
 have Be:=z0a Bw B0
 go_wp2
 refine bodyPost_ret_by (v:=.tuple #[va 0 0 0 ⟨#[]⟩,.int .i64 1]) ?_ rfl ⟨rfl,?_⟩
 ·simp [results,Tryz.results115,go_sem,r0,r1,r2,r3]
 ·refine z0a (Be.setCell (p:=⟨w.heap.size+1,0,none⟩) (by dsimp only;omega) (.int .i64 0) |>.setCell (p:=⟨w.heap.size+1,1,none⟩) (by dsimp only;omega) (.int .i64 0) |>.setCell (p:=⟨w.heap.size+1,2,none⟩) (by dsimp only;omega) (.int .i64 0) |>.setCell (p:=⟨w.heap.size+1,3,none⟩) (by dsimp only;omega) (.string ⟨#[]⟩)) (Grew.below ?_)
  repeat exact gB
theorem qun_high (op:Int) (ak:Int) (an am:Int) (ab:List UInt8) (w:World) (o1:¬ op<3) (o2:op > 5)  :
  Calls Tryz.prog 115 #[.int .i64 op,va ak an am ⟨ab.toArray⟩] w fun e w'=>e=.returned (.tuple #[va 0 0 0 ⟨#[]⟩,.int .i64 1])∧Below w.heap.size w w':=by
 obtain ⟨w0,hw0,bxa,bxr,Bw⟩:=z1q w ⟨ak,an,am,ab⟩
 dsimp only at hw0
 have B0:Below w0.heap.size w0 w0:=Below.refl _ _
 go_enter Tryz.func115,Tryz.ntmps115
 go_upto_region 1 with fail
 rw [← hw0]
 clear hw0
 obtain ⟨a0,a1,a2,a3⟩:=bxa.at4
 dsimp only at a0 a1 a2 a3
 have br:=bxr.later B0
 obtain ⟨r0,r1,r2,r3⟩:=br.at4
 dsimp only [nul] at r0 r1 r2 r3
 simp only [Nat.zero_add] at r1 r2 r3
 have f0:=br.free 0
 have f1:=br.free 1
 have f2:=br.free 2
 have f3:=br.free 3
 have lt1:=br.lt
 have Be:=z0a Bw B0
 go_wp2
 refine bodyPost_ret_by (v:=.tuple #[va 0 0 0 ⟨#[]⟩,.int .i64 1]) ?_ rfl ⟨rfl,?_⟩
 ·simp [results,Tryz.results115,go_sem,r0,r1,r2,r3]
 ·refine z0a (Be.setCell (p:=⟨w.heap.size+1,0,none⟩) (by dsimp only;omega) (.int .i64 0) |>.setCell (p:=⟨w.heap.size+1,1,none⟩) (by dsimp only;omega) (.int .i64 0) |>.setCell (p:=⟨w.heap.size+1,2,none⟩) (by dsimp only;omega) (.int .i64 0) |>.setCell (p:=⟨w.heap.size+1,3,none⟩) (by dsimp only;omega) (.string ⟨#[]⟩)) (Grew.below ?_)
  repeat exact gB
theorem qun_bad (op:Int) (ak:Int) (an am:Int) (ab:List UInt8) (w:World) (o1:¬ op<3) (o2:¬ op > 5) (Ra:z0n 34 #[va ak an am ⟨ab.toArray⟩] w (.bool false)) :
  Calls Tryz.prog 115 #[.int .i64 op,va ak an am ⟨ab.toArray⟩] w fun e w'=>e=.returned (.tuple #[va 0 0 0 ⟨#[]⟩,.int .i64 1])∧Below w.heap.size w w':=by
 obtain ⟨w0,hw0,bxa,bxr,Bw⟩:=z1q w ⟨ak,an,am,ab⟩
 dsimp only at hw0
 have B0:Below w0.heap.size w0 w0:=Below.refl _ _
 go_enter Tryz.func115,Tryz.ntmps115
 go_upto_region 1 with fail
 rw [← hw0]
 clear hw0
 obtain ⟨a0,a1,a2,a3⟩:=bxa.at4
 dsimp only at a0 a1 a2 a3
 go_wp2_with fail
 refine (Ra _ (z0a Bw B0)).mono ?_
 rintro e w1 ⟨rfl,cc⟩
 have B1:=z0a B0 cc
 clear a0 a1 a2 a3 cc
 obtain ⟨a0,a1,a2,a3⟩:=(bxa.later B1).at4
 dsimp only at a0 a1 a2 a3
 have br:=bxr.later B1
 obtain ⟨r0,r1,r2,r3⟩:=br.at4
 dsimp only [nul] at r0 r1 r2 r3
 simp only [Nat.zero_add] at r1 r2 r3
 have f0:=br.free 0
 have f1:=br.free 1
 have f2:=br.free 2
 have f3:=br.free 3
 have lt1:=br.lt
 have Be:=z0a Bw B1
 go_wp2
 refine bodyPost_ret_by (v:=.tuple #[va 0 0 0 ⟨#[]⟩,.int .i64 1]) ?_ rfl ⟨rfl,?_⟩
 ·simp [results,Tryz.results115,go_sem,r0,r1,r2,r3]
 ·refine z0a (Be.setCell (p:=⟨w.heap.size+1,0,none⟩) (by dsimp only;omega) (.int .i64 0) |>.setCell (p:=⟨w.heap.size+1,1,none⟩) (by dsimp only;omega) (.int .i64 0) |>.setCell (p:=⟨w.heap.size+1,2,none⟩) (by dsimp only;omega) (.int .i64 0) |>.setCell (p:=⟨w.heap.size+1,3,none⟩) (by dsimp only;omega) (.string ⟨#[]⟩)) (Grew.below ?_)
  repeat exact gB
theorem qun_isnull (ak:Int) (an am:Int) (ab:List UInt8) (w:World) (rn:Int) (Ra:z0n 34 #[va ak an am ⟨ab.toArray⟩] w (.bool true)) (T:z0n 70 #[.bool (ak==0)] w (va 4 rn 0 ⟨#[]⟩)) :
  Calls Tryz.prog 115 #[.int .i64 5,va ak an am ⟨ab.toArray⟩] w fun e w'=>e=.returned (.tuple #[va 4 rn 0 ⟨#[]⟩,.int .i64 0])∧Below w.heap.size w w':=by
 obtain ⟨w0,hw0,bxa,bxr,Bw⟩:=z1q w ⟨ak,an,am,ab⟩
 dsimp only at hw0
 have B0:Below w0.heap.size w0 w0:=Below.refl _ _
 go_enter Tryz.func115,Tryz.ntmps115
 go_upto_region 1 with fail
 rw [← hw0]
 clear hw0
 obtain ⟨a0,a1,a2,a3⟩:=bxa.at4
 dsimp only at a0 a1 a2 a3
 go_wp2_with fail
 refine (Ra _ (z0a Bw B0)).mono ?_
 rintro e w1 ⟨rfl,cc⟩
 have B1:=z0a B0 cc
 clear a0 a1 a2 a3 cc
 obtain ⟨a0,a1,a2,a3⟩:=(bxa.later B1).at4
 dsimp only at a0 a1 a2 a3
 go_wp2_with fail
 refine (T _ (z0a Bw B1)).mono ?_
 rintro e w2 ⟨rfl,cc⟩
 have B2:=z0a B1 cc
 clear a0 a1 a2 a3 cc
 obtain ⟨a0,a1,a2,a3⟩:=(bxa.later B2).at4
 dsimp only at a0 a1 a2 a3
 have br:=bxr.later B2
 obtain ⟨r0,r1,r2,r3⟩:=br.at4
 dsimp only [nul] at r0 r1 r2 r3
 simp only [Nat.zero_add] at r1 r2 r3
 have f0:=br.free 0
 have f1:=br.free 1
 have f2:=br.free 2
 have f3:=br.free 3
 have lt1:=br.lt
 have Be:=z0a Bw B2
 go_wp2
 refine bodyPost_ret_by (v:=.tuple #[va 4 rn 0 ⟨#[]⟩,.int .i64 0]) ?_ rfl ⟨rfl,?_⟩
 ·simp [results,Tryz.results115,go_sem,r0,r1,r2,r3]
 ·refine z0a (Be.setCell (p:=⟨w.heap.size+1,0,none⟩) (by dsimp only;omega) (.int .i64 4) |>.setCell (p:=⟨w.heap.size+1,1,none⟩) (by dsimp only;omega) (.int .i64 rn) |>.setCell (p:=⟨w.heap.size+1,2,none⟩) (by dsimp only;omega) (.int .i64 0) |>.setCell (p:=⟨w.heap.size+1,3,none⟩) (by dsimp only;omega) (.string ⟨#[]⟩)) (Grew.below ?_)
  repeat exact gB
theorem qun_not (ak:Int) (an am:Int) (ab:List UInt8) (w:World) (rk rn rm re:Int) (rb:ByteArray) (Ra:z0n 34 #[va ak an am ⟨ab.toArray⟩] w (.bool true)) (F:z0n 184 #[va ak an am ⟨ab.toArray⟩] w (.tuple #[va rk rn rm rb,.int .i64 re])) :
  Calls Tryz.prog 115 #[.int .i64 4,va ak an am ⟨ab.toArray⟩] w fun e w'=>e=.returned (.tuple #[va rk rn rm rb,.int .i64 re])∧Below w.heap.size w w':=by
 obtain ⟨w0,hw0,bxa,bxr,Bw⟩:=z1q w ⟨ak,an,am,ab⟩
 dsimp only at hw0
 have B0:Below w0.heap.size w0 w0:=Below.refl _ _
 go_enter Tryz.func115,Tryz.ntmps115
 go_upto_region 1 with fail
 rw [← hw0]
 clear hw0
 obtain ⟨a0,a1,a2,a3⟩:=bxa.at4
 dsimp only at a0 a1 a2 a3
 go_wp2_with fail
 refine (Ra _ (z0a Bw B0)).mono ?_
 rintro e w1 ⟨rfl,cc⟩
 have B1:=z0a B0 cc
 clear a0 a1 a2 a3 cc
 obtain ⟨a0,a1,a2,a3⟩:=(bxa.later B1).at4
 dsimp only at a0 a1 a2 a3
 go_wp2_with fail
 refine (F _ (z0a Bw B1)).mono ?_
 rintro e w2 ⟨rfl,cc⟩
 have B2:=z0a B1 cc
 clear a0 a1 a2 a3 cc
 obtain ⟨a0,a1,a2,a3⟩:=(bxa.later B2).at4
 dsimp only at a0 a1 a2 a3
 have br:=bxr.later B2
 obtain ⟨r0,r1,r2,r3⟩:=br.at4
 dsimp only [nul] at r0 r1 r2 r3
 simp only [Nat.zero_add] at r1 r2 r3
 have f0:=br.free 0
 have f1:=br.free 1
 have f2:=br.free 2
 have f3:=br.free 3
 have lt1:=br.lt
 have Be:=z0a Bw B2
 go_wp2
 refine bodyPost_ret_by (v:=.tuple #[va rk rn rm rb,.int .i64 re]) ?_ rfl ⟨rfl,?_⟩
 ·simp [results,Tryz.results115,go_sem,r0,r1,r2,r3]
 ·refine z0a (Be.setCell (p:=⟨w.heap.size+1,0,none⟩) (by dsimp only;omega) (.int .i64 rk) |>.setCell (p:=⟨w.heap.size+1,1,none⟩) (by dsimp only;omega) (.int .i64 rn) |>.setCell (p:=⟨w.heap.size+1,2,none⟩) (by dsimp only;omega) (.int .i64 rm) |>.setCell (p:=⟨w.heap.size+1,3,none⟩) (by dsimp only;omega) (.string rb)) (Grew.below ?_)
  repeat exact gB
theorem qun_neg (ak:Int) (an am:Int) (ab:List UInt8) (w:World) (rk rn rm re:Int) (rb:ByteArray) (Ra:z0n 34 #[va ak an am ⟨ab.toArray⟩] w (.bool true)) (F:z0n 185 #[va ak an am ⟨ab.toArray⟩] w (.tuple #[va rk rn rm rb,.int .i64 re])) :
  Calls Tryz.prog 115 #[.int .i64 3,va ak an am ⟨ab.toArray⟩] w fun e w'=>e=.returned (.tuple #[va rk rn rm rb,.int .i64 re])∧Below w.heap.size w w':=by
 obtain ⟨w0,hw0,bxa,bxr,Bw⟩:=z1q w ⟨ak,an,am,ab⟩
 dsimp only at hw0
 have B0:Below w0.heap.size w0 w0:=Below.refl _ _
 go_enter Tryz.func115,Tryz.ntmps115
 go_upto_region 1 with fail
 rw [← hw0]
 clear hw0
 obtain ⟨a0,a1,a2,a3⟩:=bxa.at4
 dsimp only at a0 a1 a2 a3
 go_wp2_with fail
 refine (Ra _ (z0a Bw B0)).mono ?_
 rintro e w1 ⟨rfl,cc⟩
 have B1:=z0a B0 cc
 clear a0 a1 a2 a3 cc
 obtain ⟨a0,a1,a2,a3⟩:=(bxa.later B1).at4
 dsimp only at a0 a1 a2 a3
 go_wp2_with fail
 refine (F _ (z0a Bw B1)).mono ?_
 rintro e w2 ⟨rfl,cc⟩
 have B2:=z0a B1 cc
 clear a0 a1 a2 a3 cc
 obtain ⟨a0,a1,a2,a3⟩:=(bxa.later B2).at4
 dsimp only at a0 a1 a2 a3
 have br:=bxr.later B2
 obtain ⟨r0,r1,r2,r3⟩:=br.at4
 dsimp only [nul] at r0 r1 r2 r3
 simp only [Nat.zero_add] at r1 r2 r3
 have f0:=br.free 0
 have f1:=br.free 1
 have f2:=br.free 2
 have f3:=br.free 3
 have lt1:=br.lt
 have Be:=z0a Bw B2
 go_wp2
 refine bodyPost_ret_by (v:=.tuple #[va rk rn rm rb,.int .i64 re]) ?_ rfl ⟨rfl,?_⟩
 ·simp [results,Tryz.results115,go_sem,r0,r1,r2,r3]
 ·refine z0a (Be.setCell (p:=⟨w.heap.size+1,0,none⟩) (by dsimp only;omega) (.int .i64 rk) |>.setCell (p:=⟨w.heap.size+1,1,none⟩) (by dsimp only;omega) (.int .i64 rn) |>.setCell (p:=⟨w.heap.size+1,2,none⟩) (by dsimp only;omega) (.int .i64 rm) |>.setCell (p:=⟨w.heap.size+1,3,none⟩) (by dsimp only;omega) (.string rb)) (Grew.below ?_)
  repeat exact gB
theorem qun_any (op:Int) (a:Va) (w:World) (hT:Tabs w) (hP:Pw w) (va':vin a) :
  Calls Tryz.prog 115 #[.int .i64 op,vv a] w fun e w'=>e=.returned (rs (unR op a))∧Below w.heap.size w w':=by
 have Ra:z0n 34 #[vv a] w (.bool (vr a)):=fun W h=>z3r a.k a.n a.m ⟨a.b.toArray⟩ W (hT.later h)
 unfold unR
 by_cases o1:op<3
 ·rw [if_pos (by omega)]
  exact qun_low op a.k a.n a.m a.b w o1
 by_cases o2:op > 5
 ·rw [if_pos (by omega)]
  exact qun_high op a.k a.n a.m a.b w o1 o2
 cases hr:vr a
 ·rw [hr] at Ra
  rw [if_pos (by simp)]
  exact qun_bad op a.k a.n a.m a.b w o1 o2 Ra
 rw [hr] at Ra
 rw [if_neg (by simp;omega)]
 by_cases h5:op=5
 ·subst h5
  rw [if_pos rfl]
  exact qun_isnull a.k a.n a.m a.b w _ Ra (fun W _=>(z8p (a.k==0) W).mono fun _ _ h=>⟨h.1,h.2.below⟩)
 rw [if_neg h5]
 by_cases h4:op=4
 ·subst h4
  rw [if_pos rfl]
  exact qun_not a.k a.n a.m a.b w _ _ _ _ _ Ra (fun W _=>(qnot_any a W).mono fun _ _ h=>⟨h.1,h.2.below⟩)
 rw [if_neg h4]
 obtain rfl:op=3:=by omega
 exact qun_neg a.k a.n a.m a.b w _ _ _ _ _ Ra (fun W h=>(qneg_any a W (hP.below h) hr va').mono fun _ _ h=>⟨h.1,h.2.below⟩)
end Go.Proofs.YtibbenhplmmmiaaGreatDoor

namespace Go.Proofs.YtibbenhplmmmiaaGreatDoor
open Go.RowKit Go.Shelf
attribute [local go_sem] z0e z0b z0c z0f z0m z0k z0h z0d z0g z1n z1e z1x z1d z1r z1s z1z z1p z1y z1k z1v
end Go.Proofs.YtibbenhplmmmiaaGreatDoor

namespace Go.Proofs.YtibbenhplmmmiaaGreatDoor
open Go.Lib
theorem decN_app (n n' b0 b1 b2 b3 c1 c2 c3:Nat) (h0n:0<n) (hn:n≤n') (e1:1<n→c1=b1) (e2:2<n→c2=b2) (e3:3<n→c3=b3)
  (h:¬ ((decodeN n b0 b1 b2 b3).1=65533∧(decodeN n b0 b1 b2 b3).2=1)) :
  decodeN n' b0 c1 c2 c3=decodeN n b0 b1 b2 b3∧(decodeN n b0 b1 b2 b3).2≤n∧0<(decodeN n b0 b1 b2 b3).2:=by
 by_cases h0:b0<128
 ·simp only [decodeN,if_pos h0]
  exact ⟨trivial,h0n,by decide⟩
 by_cases h6:b0 / 32=6∧(1<n∧b1 / 64=2)
 ·obtain rfl:=e1 h6.2.1
  have h6':b0 / 32=6∧(1<n'∧c1 / 64=2):=⟨h6.1,by omega,h6.2.2⟩
  simp only [decodeN,if_neg h0,if_pos h6,if_pos h6']
  refine ⟨trivial,?_⟩
  split <;> simp <;> omega
 by_cases h14:b0 / 16=14∧(1<n∧b1 / 64=2)∧(2<n∧b2 / 64=2)
 ·obtain rfl:=e1 h14.2.1.1
  obtain rfl:=e2 h14.2.2.1
  have h6':¬ (b0 / 32=6∧(1<n'∧c1 / 64=2)):=by omega
  have h14':b0 / 16=14∧(1<n'∧c1 / 64=2)∧(2<n'∧c2 / 64=2):=⟨h14.1,⟨by omega,h14.2.1.2⟩,by omega,h14.2.2.2⟩
  simp only [decodeN,if_neg h0,if_neg h6,if_neg h6',if_pos h14,if_pos h14']
  refine ⟨trivial,?_⟩
  split <;> simp <;> omega
 by_cases h30:b0 / 8=30∧(1<n∧b1 / 64=2)∧(2<n∧b2 / 64=2)∧(3<n∧b3 / 64=2)
 ·obtain rfl:=e1 h30.2.1.1
  obtain rfl:=e2 h30.2.2.1.1
  obtain rfl:=e3 h30.2.2.2.1
  have h6':¬ (b0 / 32=6∧(1<n'∧c1 / 64=2)):=by omega
  have h14':¬ (b0 / 16=14∧(1<n'∧c1 / 64=2)∧(2<n'∧c2 / 64=2)):=by omega
  have h30':b0 / 8=30∧(1<n'∧c1 / 64=2)∧(2<n'∧c2 / 64=2)∧(3<n'∧c3 / 64=2):=⟨h30.1,⟨by omega,h30.2.1.2⟩,⟨by omega,h30.2.2.1.2⟩,by omega,h30.2.2.2.2⟩
  simp only [decodeN,if_neg h0,if_neg h6,if_neg h6',if_neg h14,if_neg h14',if_pos h30,if_pos h30']
  refine ⟨trivial,?_⟩
  split <;> simp <;> omega
 ·exfalso
  apply h
  simp only [decodeN,if_neg h0,if_neg h6,if_neg h14,if_neg h30]
  exact ⟨trivial,trivial⟩
theorem validD_append:∀ (n:Nat) (l r:List UInt8),l.length≤n→validD l=true→validD r=true→validD (l++r)=true:=by
 intro n
 induction n with
 | zero =>
  intro l r hl _ hr
  obtain rfl:l=[]:=List.length_eq_zero_iff.1 (by omega)
  exact hr
 | succ n ih =>
  intro l r hl hv hr
  by_cases hne:l=[]
  ·subst hne;exact hr
  ·have hp:0<l.length:=List.length_pos_iff.2 hne
   rw [validD_step l hne] at hv
   split at hv
   ·cases hv
   ·rename_i h
    have h':=h
    rw [decodeL_N] at h'
    have hg:∀ i,i<l.length→(l++r).getD i 0=l.getD i 0:=fun i hi=>by simp [List.getD,List.getElem?_append_left hi]
    obtain ⟨e,hle,hlt⟩:=decN_app l.length (l++r).length (l.getD 0 0).toNat (l.getD 1 0).toNat (l.getD 2 0).toNat (l.getD 3 0).toNat ((l++r).getD 1 0).toNat ((l++r).getD 2 0).toNat ((l++r).getD 3 0).toNat hp (by simp) (fun h=>by rw [hg 1 h]) (fun h=>by rw [hg 2 h]) (fun h=>by rw [hg 3 h]) h'
    have ed:decodeL (l++r)=decodeL l:=by rw [decodeL_N,decodeL_N,hg 0 hp];exact e
    rw [← decodeL_N] at hle hlt
    rw [validD_step (l++r) (by simp [hne]),ed,if_neg h,List.drop_append_of_le_length hle]
    exact ih _ _ (by rw [List.length_drop];omega) hv hr
end Go.Proofs.YtibbenhplmmmiaaGreatDoor

namespace Go.Proofs.YtibbenhplmmmiaaGreatDoor
open Go.RowKit Go.Shelf
def okR (r:Va × Int):Prop:=vr r.1=true∧(r.2=0∨r.1=nul)
theorem vr_nul:vr nul=true:=z8z (by simp [vok,nul])
theorem z4f (e:Int):okR (nul,e):=⟨vr_nul,.inr rfl⟩
theorem ok_int (z:Int):okR (vI z,0):=⟨z8z (by simp [vok,vI]),.inl rfl⟩
theorem ok_bool (b:Bool):okR (vB b,0):=⟨z8z (by cases b <;> simp [vok,vB]),.inl rfl⟩
theorem ok_pt (x y:Int) (h:Ga.ok2 x y=true):okR (vP x y,0):=⟨z8z (by have:=(Ga.ok2_iff x y).1 h;simp [vok,vP];omega),.inl rfl⟩
theorem ok_of (t:Int):okR (vO t,0):=by
 unfold vO
 split
 ·rename_i h
  exact ⟨z8z (by simp [vok];omega),.inl rfl⟩
 ·exact z4f 0
theorem ok_whole (z e:Int):okR (z0v z e):=by
 unfold z0v
 split
 ·exact ok_int z
 ·exact z4f e
theorem ok_dec (z s:Int) (h:0≤s∧s≤6):okR (decR z s):=by
 unfold decR z2a
 split
 ·refine ⟨z8z ?_,.inl rfl⟩
  have:0≤fs z s∧fs z s≤6:=by unfold fs;split <;> omega
  simp [vok,vD];omega
 ·exact z4f _
theorem ok_ptR (x y:Int):okR (ptR x y):=by
 unfold ptR z0u Ga.tX Ga.tY Ga.tE
 by_cases h:Ga.ok2 x y=true
 ·simp only [h,if_true]
  exact ok_pt x y h
 ·simp only [h]
  exact z4f 32
theorem ok_cmp (op c:Int):okR (cmpR op c):=by
 unfold cmpR
 repeat' split
 all_goals first|exact ok_bool _|exact z4f _
theorem ok_bin (op:Int) (a b:Va):okR (binR op a b):=by
 unfold binR
 split
 ·exact z4f 1
 rename_i hg
 have hr:vr a=true∧vr b=true:=by
  rcases Decidable.not_not.1 hg with ⟨_,_,h1,h2⟩
  exact ⟨h1,h2⟩
 have va':=(z2f a).1 hr.1
 have vb':=(z2f b).1 hr.2
 split
 ·unfold truR
  repeat' split
  all_goals first|exact ok_of _|exact z4f _
 split
 ·exact z4f 0
 split
 ·unfold intsR
  repeat' split
  all_goals first|exact ok_whole _ _|exact ok_cmp _ _
 obtain ⟨ak,an,am,ab⟩:=a
 obtain ⟨bk,bn,bm,bb⟩:=b
 simp only [vok] at va' vb'
 split
 ·rename_i hn
  simp only [isn] at hn
  have sa:0≤am∧am≤6:=by omega
  have sb:0≤bm∧bm≤6:=by omega
  unfold z9r
  have g1:0≤gsc am bm∧gsc am bm≤6:=by unfold gsc;split <;> omega
  have g2:0≤psc am bm∧psc am bm≤6:=by unfold psc;split <;> omega
  repeat' split
  all_goals first|exact ok_dec _ _ g1|exact ok_dec _ _ g2|exact ok_dec _ _ ⟨by decide,by decide⟩|exact z4f _|exact ok_cmp _ _
 split
 ·rename_i h5
  simp only at h5
  have pa:(-1048576≤an∧an≤1048576)∧(-1048576≤am∧am≤1048576):=by omega
  have pb:(-1048576≤bn∧bn≤1048576)∧(-1048576≤bm∧bm≤1048576):=by omega
  have q1:¬ (bn=0∧bm=0)→okR (vP (Ga.qX an am bn bm) (Ga.qY an am bn bm),0):=fun hz=>by
   have:=Ga.quo_ok an am bn bm pa.1 pa.2 (Ga.norm_pos hz)
   exact ok_pt _ _ ((Ga.ok2_iff _ _).2 ⟨this.1.1,this.1.2,this.2.1,this.2.2⟩)
  have q2:¬ (bn=0∧bm=0)→okR (vP (Ga.rX an am bn bm) (Ga.rY an am bn bm),0):=fun hz=>by
   have:=Ga.rest_ok an am bn bm pb.1 pb.2 (Ga.norm_pos hz)
   exact ok_pt _ _ ((Ga.ok2_iff _ _).2 ⟨this.1.1,this.1.2,this.2.1,this.2.2⟩)
  unfold ptsR
  simp only
  by_cases hz:bn=0∧bm=0
  ·rw [if_pos hz,if_pos hz]
   repeat' split
   all_goals first|exact ok_ptR _ _|exact z4f _|exact ok_cmp _ _
  ·rw [if_neg hz,if_neg hz]
   repeat' split
   all_goals first|exact ok_ptR _ _|exact q1 hz|exact q2 hz|exact ok_cmp _ _
 split
 ·rename_i h3
  simp only at h3
  unfold txtR
  simp only
  split
  ·split
   ·exact z4f 32
   ·rename_i ho
    refine ⟨z8z ?_,.inl rfl⟩
    have ga:Lib.validD ab=true:=by rcases va' with h|h|h|h|h|h <;> first|omega|exact h.2.2.2.2
    have gb:Lib.validD bb=true:=by rcases vb' with h|h|h|h|h|h <;> first|omega|exact h.2.2.2.2
    have:=validD_append ab.length ab bb (Nat.le_refl _) ga gb
    simp [vok,vT,this]
    omega
  ·exact ok_cmp _ _
 split
 ·exact ok_cmp _ _
 ·exact z4f 31
theorem ok_un (op:Int) (a:Va):okR (unR op a):=by
 unfold unR
 split
 ·exact z4f 1
 rename_i hg
 have hr:vr a=true:=(Decidable.not_not.1 hg).2.2
 have va':=(z2f a).1 hr
 split
 ·exact ok_bool _
 split
 ·unfold notR
  split
  ·exact ok_of _
  ·exact z4f _
 obtain ⟨ak,an,am,ab⟩:=a
 simp only [vok] at va'
 unfold negR
 simp only
 split
 ·exact z4f 0
 split
 ·exact ok_whole _ _
 split
 ·exact ok_dec _ _ (by omega)
 split
 ·exact ok_pt _ _ ((Ga.ok2_iff _ _).2 (by omega))
 ·exact z4f 31
end Go.Proofs.YtibbenhplmmmiaaGreatDoor

namespace Go.Proofs.YtibbenhplmmmiaaGreatDoor
open Go.RowKit Go.Shelf
attribute [local go_sem] z0e z0b z0c z0f z0m z0k z0h z0d z0g
def ptAtR (x y:Int):Va × Int:=if Ga.ok2 x y=true then (vP x y,0) else (nul,32)
theorem qpointAt_any (x y:Int) (w:World):Calls Tryz.prog 180 #[dv x y] w fun e w'=>e=.returned (rs (ptAtR x y))∧Grew w w':=by
 have R:=fun W=>Ga.right_any x y W
 have H:=fun W=>z7g x y 0 W
 unfold ptAtR
 cases h:Ga.ok2 x y
 ·rw [h] at R
  rw [if_neg (by simp)]
  clear h H
  go_enter Tryz.func180,Tryz.ntmps180
  go_wp2_with (go_at_call 88;refine (R _).mono ?_;rintro e w1 ⟨rfl,os1,n1,rfl⟩)
  refine bodyPost_ret_by (v:=rs (nul,32)) ?_ rfl ⟨rfl,gB⟩
  simp [results,Tryz.results180,go_sem,nul]
 ·rw [h] at R
  rw [if_pos rfl]
  clear h
  go_enter Tryz.func180,Tryz.ntmps180
  go_wp2_with (first
   | (go_at_call 88;refine (R _).mono ?_;rintro e w1 ⟨rfl,os1,n1,rfl⟩)
   | (go_at_call 169;refine (H _).mono ?_;rintro e w1 ⟨rfl,os2,n2,rfl⟩))
  refine bodyPost_ret_by (v:=rs (vP x y,0)) ?_ rfl ⟨rfl,gB⟩
  simp [results,Tryz.results180,go_sem,z0u]
def rndR (u s t:Int):Va × Int:=if z0s t=true then z2a (rU u s t) (rS u s t) (rE u s t) else (nul,32)
theorem qrounded_any (u s t:Int) (w:World) (hP:Pw w) (u0:-9223372036854775808≤u) (u1:u≤9223372036854775807):Calls Tryz.prog 181 #[dv u s,.int .i64 t] w fun e w'=>e=.returned (rs (rndR u s t))∧Grew w w':=by
 have R:=fun W=>right_any 0 t W
 have C:∀ W,Grew w W→_:=fun W (h:Grew w W)=>rescale_any u s t W (hP.later h) u0 u1
 have H:=fun W=>z3q (rU u s t) (rS u s t) (rE u s t) W
 clear hP u0 u1
 unfold rndR
 cases h:z0s t
 ·rw [h] at R
  rw [if_neg (by simp)]
  clear h H C
  go_enter Tryz.func181,Tryz.ntmps181
  go_wp2_with (go_at_call 146;refine (R _).mono ?_;rintro e w1 ⟨rfl,os1,n1,rfl⟩)
  refine bodyPost_ret_by (v:=rs (nul,32)) ?_ rfl ⟨rfl,gB⟩
  simp [results,Tryz.results181,go_sem,nul]
 ·rw [h] at R
  rw [if_pos rfl]
  clear h
  go_enter Tryz.func181,Tryz.ntmps181
  go_wp2_with (first
   | (go_at_call 146;refine (R _).mono ?_;rintro e w1 ⟨rfl,os1,n1,rfl⟩)
   | (go_at_call 238;refine (C _ gB).mono ?_;rintro e w1 ⟨rfl,os2,n2,rfl⟩)
   | (go_at_call 162;refine (H _).mono ?_;rintro e w1 ⟨rfl,os3,n3,rfl⟩))
  refine bodyPost_ret_by (v:=rs (z2a (rU u s t) (rS u s t) (rE u s t))) ?_ rfl ⟨rfl,gB⟩
  simp [results,Tryz.results181,go_sem]
def z5r:List UInt8:=[108,101,110,103,116,104]
def sAbs:List UInt8:=[97,98,115]
def sNorm:List UInt8:=[110,111,114,109]
def sPx:List UInt8:=[112,120]
def sPy:List UInt8:=[112,121]
def z6m:List UInt8:=[112,111,105,110,116]
def z5a:List UInt8:=[114,111,117,110,100]
def z4w:List UInt8:=[99,111,97,108,101,115,99,101]
def isF (nm:List UInt8) (n:Nat):Bool :=
 if nm=z5r∨nm=sAbs∨nm=sNorm∨nm=sPx∨nm=sPy then n==1 else if nm=z6m∨nm=z5a then n==2 else if nm=z4w then decide (1≤n∧n≤4) else false
theorem isf_length (c:Int) (w:World):Calls Tryz.prog 109 #[.string ⟨#[108,101,110,103,116,104]⟩,.int .i64 c] w fun e w'=>e=.returned (.bool (c==1))∧w=w':=by
 go_enter Tryz.func109,Tryz.ntmps109
 go_wp2
 all_goals go_ret
 all_goals exact ⟨rfl,rfl⟩
theorem isf_abs (c:Int) (w:World):Calls Tryz.prog 109 #[.string ⟨#[97,98,115]⟩,.int .i64 c] w fun e w'=>e=.returned (.bool (c==1))∧w=w':=by
 go_enter Tryz.func109,Tryz.ntmps109
 go_wp2
 all_goals go_ret
 all_goals exact ⟨rfl,rfl⟩
theorem isf_norm (c:Int) (w:World):Calls Tryz.prog 109 #[.string ⟨#[110,111,114,109]⟩,.int .i64 c] w fun e w'=>e=.returned (.bool (c==1))∧w=w':=by
 go_enter Tryz.func109,Tryz.ntmps109
 go_wp2
 all_goals go_ret
 all_goals exact ⟨rfl,rfl⟩
theorem isf_px (c:Int) (w:World):Calls Tryz.prog 109 #[.string ⟨#[112,120]⟩,.int .i64 c] w fun e w'=>e=.returned (.bool (c==1))∧w=w':=by
 go_enter Tryz.func109,Tryz.ntmps109
 go_wp2
 all_goals go_ret
 all_goals exact ⟨rfl,rfl⟩
theorem isf_py (c:Int) (w:World):Calls Tryz.prog 109 #[.string ⟨#[112,121]⟩,.int .i64 c] w fun e w'=>e=.returned (.bool (c==1))∧w=w':=by
 go_enter Tryz.func109,Tryz.ntmps109
 go_wp2
 all_goals go_ret
 all_goals exact ⟨rfl,rfl⟩
theorem isf_point (c:Int) (w:World):Calls Tryz.prog 109 #[.string ⟨#[112,111,105,110,116]⟩,.int .i64 c] w fun e w'=>e=.returned (.bool (c==2))∧w=w':=by
 go_enter Tryz.func109,Tryz.ntmps109
 go_wp2
 all_goals go_ret
 all_goals exact ⟨rfl,rfl⟩
theorem isf_round (c:Int) (w:World):Calls Tryz.prog 109 #[.string ⟨#[114,111,117,110,100]⟩,.int .i64 c] w fun e w'=>e=.returned (.bool (c==2))∧w=w':=by
 go_enter Tryz.func109,Tryz.ntmps109
 go_wp2
 all_goals go_ret
 all_goals exact ⟨rfl,rfl⟩
theorem isf_coal_lo (c:Int) (w:World) (h:¬ (1:Int)≤c):Calls Tryz.prog 109 #[.string ⟨#[99,111,97,108,101,115,99,101]⟩,.int .i64 c] w fun e w'=>e=.returned (.bool false)∧w=w':=by
 go_enter Tryz.func109,Tryz.ntmps109
 go_wp2
 all_goals go_ret
 all_goals exact ⟨rfl,rfl⟩
theorem isf_coal_hi (c:Int) (w:World) (h0:(1:Int)≤c) (h:¬ c≤4):Calls Tryz.prog 109 #[.string ⟨#[99,111,97,108,101,115,99,101]⟩,.int .i64 c] w fun e w'=>e=.returned (.bool false)∧w=w':=by
 go_enter Tryz.func109,Tryz.ntmps109
 go_wp2
 all_goals go_ret
 all_goals exact ⟨rfl,rfl⟩
theorem isf_coal_ok (c:Int) (w:World) (h0:(1:Int)≤c) (h:c≤4):Calls Tryz.prog 109 #[.string ⟨#[99,111,97,108,101,115,99,101]⟩,.int .i64 c] w fun e w'=>e=.returned (.bool true)∧w=w':=by
 go_enter Tryz.func109,Tryz.ntmps109
 go_wp2
 all_goals go_ret
 all_goals exact ⟨rfl,rfl⟩
theorem isf_other (B:ByteArray) (c:Int) (w:World) (e0:(B.toList==[108,101,110,103,116,104])=false) (e1:(B.toList==[97,98,115])=false) (e2:(B.toList==[110,111,114,109])=false) (e3:(B.toList==[112,120])=false) (e4:(B.toList==[112,121])=false) (e5:(B.toList==[112,111,105,110,116])=false) (e6:(B.toList==[114,111,117,110,100])=false) (e7:(B.toList==[99,111,97,108,101,115,99,101])=false):Calls Tryz.prog 109 #[.string B,.int .i64 c] w fun e w'=>e=.returned (.bool false)∧w=w':=by
 go_enter Tryz.func109,Tryz.ntmps109
 go_wp2
 all_goals go_ret
 all_goals exact ⟨rfl,rfl⟩
end Go.Proofs.YtibbenhplmmmiaaGreatDoor

namespace Go.Proofs.YtibbenhplmmmiaaGreatDoor
open Go.RowKit Go.Shelf
attribute [local go_sem] z0e z0b z0c z0f z0m z0k z0h z0d z0g z1n z1e z1x z1d z1r z1s z1z z1p z1y z1k z1v
theorem qapart_any (k n m:Int) (B:ByteArray) (w:World) (hB:B.size≤140737488351232):Calls Tryz.prog 63 #[va k n m B] w fun e w'=>e=.returned (va k n m B)∧Below w.heap.size w w':=by
 have C:=fun W=>clone_any B W hB
 clear hB
 go_enter Tryz.func63,Tryz.ntmps63
 go_wp2_with (go_at_call 116;refine (C _).mono ?_;rintro e wc ⟨rfl,bc⟩;obtain ⟨osc,dc,rfl⟩:=wide bc;clear bc)
 refine bodyPost_ret_by (v:=va k n m B) ?_ rfl ⟨rfl,z0z.below gC⟩
 simp [results,Tryz.results63,go_sem]
def z4v:List Va→Va
 | []=>nul
 | x::l=>if (x.k==0)=true then z4v l else x
theorem qfirst_any (ao:Option Addr) (cap:Nat) (l:List Va) (w:World) (hv:Vs w ao l) (hl:l.length≤9223372036854775807) (hb:∀ x∈l,x.b.length≤140737488351232) :
  Calls Tryz.prog 110 #[.slice ao l.length cap] w fun e w'=>e=.returned (vv (z4v l))∧Below w.heap.size w w':=by
 obtain ⟨E,hE⟩:∃ E,E=z4v l:=⟨_,rfl⟩
 rw [← hE]
 have HE:Hid (E=z4v (l.drop 0)):=hE
 obtain ⟨n,hn⟩:∃ n,l.length=n:=⟨_,rfl⟩
 rw [hn] at hl ⊢
 have HN:Hid (l.length=n):=hn
 clear hE hn
 obtain ⟨w0,hw0,bxr,Bw⟩:=z2p w
 go_enter Tryz.func110,Tryz.ntmps110
 go_upto_region 1 with fail
 rw [← hw0]
 clear hw0
 go_wp2
 replace hv:=hv.later Bw
 go_loopw [7] (fun r wr=>∃ k:Nat,r=.int .i64 (k:Int)∧k≤n∧Below w0.heap.size w0 wr∧Hid (E=z4v (l.drop k))) (fun r _=>n - (intOf r).toNat)
 case atStart=>exact ⟨0,rfl,Nat.zero_le _,Below.refl _ _,HE⟩
 case round =>
  obtain ⟨k,rfl,hk,hB,hA⟩:=hrel
  have sB:=hB.size
  have br:=bxr.later hB
  obtain ⟨r0,r1,r2,r3⟩:=br.at4
  dsimp only [nul] at r0 r1 r2 r3
  simp only [Nat.zero_add] at r1 r2 r3
  have f0:=br.free 0
  have f1:=br.free 1
  have f2:=br.free 2
  have f3:=br.free 3
  have lt1:=br.lt
  have Be:=z0a Bw hB
  by_cases hlt:k<n
  ·have hlt':(k:Int)<(n:Int):=by omega
   have hkl:k<l.length:=by rw [HN.out];exact hlt
   obtain ⟨b,off,rfl,hc⟩:=hv (by omega)
   obtain ⟨c0,c1,c2,c3⟩:=((hc k (by omega)).later hB)
   have hg:=(hc k (by omega)).lt
   have hg':b<wr.heap.size:=by omega
   have hdr:l.drop k=l[k]::l.drop (k+1):=List.drop_eq_getElem_cons hkl
   have hlen:=hb l[k] (List.getElem_mem _)
   obtain ⟨⟨vk,vn,vm,vb⟩,he⟩:∃ v:Va,v=l[k]:=⟨_,rfl⟩
   rw [← he] at c0 c1 c2 c3 hdr hlen
   have HST:Hid (E=z4v (⟨vk,vn,vm,vb⟩::l.drop (k+1))):=by
    show E=_
    rw [hA.out,hdr]
   have A:=fun W=>qapart_any vk vn vm ⟨vb.toArray⟩ W (by show vb.toArray.size≤_;simpa using hlen)
   clear hc he hdr hA hlen br bxr HE
   by_cases hz:vk=0
   ·subst hz
    go_wp2
    go_roundw
    case rel=>exact ⟨k+1,by go_num,by omega,z0a hB (Grew.below gB),HST.out⟩
    case measure=>simp [intOf];omega
   ·have hz':(vk != 0)=true:=by simpa using hz
    have hE':E=⟨vk,vn,vm,vb⟩:=by
     have:=HST.out
     rw [z4v,if_neg (by simpa using hz)] at this
     exact this
    subst hE'
    clear HST
    go_wp2_with (go_at_call 63;refine (A _).mono ?_;rintro e wc ⟨rfl,bc⟩;obtain ⟨osc,dc,rfl⟩:=wide bc;clear bc)
    refine bodyPost_ret_by (v:=va vk vn vm ⟨vb.toArray⟩) ?_ rfl ⟨rfl,?_⟩
    ·simp [results,Tryz.results110,go_sem,r0,r1,r2,r3,lt1]
    ·refine z0a (Be.setCell (p:=⟨w.heap.size,0,none⟩) (Nat.le_refl _) (.int .i64 vk) |>.setCell (p:=⟨w.heap.size,1,none⟩) (Nat.le_refl _) (.int .i64 vn) |>.setCell (p:=⟨w.heap.size,2,none⟩) (Nat.le_refl _) (.int .i64 vm) |>.setCell (p:=⟨w.heap.size,3,none⟩) (Nat.le_refl _) (.string ⟨vb.toArray⟩)) (z0z.below ?_)
     repeat exact gC
  ·have hlt':¬ (k:Int)<(n:Int):=by omega
   have hE':E=nul:=by
    rw [hA.out,List.drop_eq_nil_of_le (by rw [HN.out];omega)];rfl
   subst hE'
   clear hA HE
   go_wp2
   refine bodyPost_ret_by (v:=vv nul) ?_ rfl ⟨rfl,(Be.setCell (p:=⟨w.heap.size,0,none⟩) (Nat.le_refl _) _ |>.setCell (p:=⟨w.heap.size,1,none⟩) (Nat.le_refl _) _ |>.setCell (p:=⟨w.heap.size,2,none⟩) (Nat.le_refl _) _ |>.setCell (p:=⟨w.heap.size,3,none⟩) (Nat.le_refl _) _)⟩
   simp [results,Tryz.results110,go_sem,r0,r1,r2,r3,nul]
theorem qsize_walk (ak an am:Int) (ab:List UInt8) (bk bn bm be:Int) (bb:List UInt8) (c:Int) (w:World) (U:z0n 115 #[.int .i64 3,va ak an am ⟨ab.toArray⟩] w (.tuple #[va bk bn bm ⟨bb.toArray⟩,.int .i64 be]))
  (C:be=0→∀ W,Below w.heap.size w W→Calls Tryz.prog 167 #[dv an am,dv bn bm] W fun e w'=>e=.returned (.int .i64 c)∧Grew W w') (r:Va × Int) (hr:Hid (r=if be=0 then (if c<0 then (⟨bk,bn,bm,bb⟩,0) else (⟨ak,an,am,ab⟩,0)) else (nul,be))) :
  Calls Tryz.prog 178 #[va ak an am ⟨ab.toArray⟩] w fun e w'=>e=.returned (rs r)∧Below w.heap.size w w':=by
 obtain ⟨w0,hw0,bxa,bxr,G⟩:=z1q w ⟨ak,an,am,ab⟩
 dsimp only at hw0
 have UU:=fun k n m b W=>z3t k n m b W
 replace U:=U.later G
 have ha:=bxa.at4
 have C':Hid (be=0→∀ W,Below w0.heap.size w0 W→Calls Tryz.prog 167 #[dv an am,dv bn bm] W fun e w'=>e=.returned (.int .i64 c)∧Grew W w'):=fun h W hW=>C h W (z0a G hW)
 clear C
 go_enter Tryz.func178,Tryz.ntmps178
 go_upto_region 1 with fail
 rw [← hw0]
 clear hw0
 obtain ⟨k0a,k0b,k0c,k0d⟩:=id ha
 have k0l:=ha.lt
 simp only [Nat.zero_add] at k0b k0c k0d
 go_cut [4,5] from 6 (fun s0 s1 wx=>∃ p:Nat,s0=.pointer (some ⟨p,0,none⟩)∧s1=.int .i64 be∧At4 wx p 0 ⟨bk,bn,bm,bb⟩∧Below w0.heap.size w0 wx)
 case first =>
  clear UU C' hr
  go_wp2_with (first
   | (go_at_call 115;refine (U _ (z0z.below gC)).mono ?_;rintro e wc ⟨rfl,bc⟩;obtain ⟨osc,dc,rfl⟩:=wide bc;clear bc))
  all_goals go_meet
  all_goals exact ⟨_,rfl,rfl,⟨gD,gD,gD,gD⟩,z0z.below gC⟩
 rename World=>v1
 obtain ⟨p1,rfl,rfl,hp1,gv1⟩:=hcut
 clear k0a k0b k0c k0d k0l
 replace ha:=ha.later gv1
 replace U:=U.later gv1
 have br:=bxr.later gv1
 have C1:Hid (be=0→∀ W,Grew v1 W→Calls Tryz.prog 167 #[dv an am,dv bn bm] W fun e w'=>e=.returned (.int .i64 c)∧Grew W w'):=fun h W hW=>C'.out h W (z0a gv1 hW.below)
 replace G:=z0a G gv1
 clear gv1 C' U bxa bxr
 obtain ⟨r0,r1,r2,r3⟩:=br.at4
 dsimp only [nul] at r0 r1 r2 r3
 simp only [Nat.zero_add] at r1 r2 r3
 have f0:=br.free 0
 have f1:=br.free 1
 have f2:=br.free 2
 have f3:=br.free 3
 have lt1:=br.lt
 obtain ⟨A0,A1,A2,A3⟩:=id ha
 have Al:=ha.lt
 obtain ⟨B0,B1,B2,B3⟩:=id hp1
 have Bl:=hp1.lt
 dsimp only at A0 A1 A2 A3 B0 B1 B2 B3
 simp only [Nat.zero_add] at A1 A2 A3 B1 B2 B3
 clear br ha hp1
 by_cases hz:be=0
 ·subst hz
  have C:=C1.out rfl
  have hr':=hr.out
  rw [if_pos rfl] at hr'
  clear C1 hr
  by_cases hc:c<0
  ·rw [if_pos hc] at hr'
   subst hr'
   go_wp2_with fail
   go_region_held2 (fun W=>W.cell? ⟨w.heap.size,0,none⟩=some (.int .i64 ak)∧W.cell? ⟨w.heap.size,1,none⟩=some (.int .i64 an)∧W.cell? ⟨w.heap.size,2,none⟩=some (.int .i64 am)∧W.cell? ⟨w.heap.size,3,none⟩=some (.string ⟨ab.toArray⟩) ∧
     W.cell? ⟨p1,0,none⟩=some (.int .i64 bk)∧W.cell? ⟨p1,1,none⟩=some (.int .i64 bn)∧W.cell? ⟨p1,2,none⟩=some (.int .i64 bm)∧W.cell? ⟨p1,3,none⟩=some (.string ⟨bb.toArray⟩)) (simp (maxDischargeDepth:=12) [go_sem,A0,A1,A2,A3,B0,B1,B2,B3,Al,Bl]) (first
    | (go_at_call 104;refine (UU _ _ _ _ _).mono ?_;rintro e wc ⟨rfl,os1,n1,rfl⟩)
    | (go_at_call 167;refine (C _ gB).mono ?_;rintro e wc ⟨rfl,os2,n2,rfl⟩))
   go_wp2
   refine bodyPost_ret_by (v:=rs (⟨bk,bn,bm,bb⟩,0)) ?_ rfl ⟨rfl,?_⟩
   ·simp [results,Tryz.results178,go_sem,r0,r1,r2,r3,lt1]
   ·refine z0a (G.setCell (p:=⟨w.heap.size+1,0,none⟩) (by dsimp only;omega) (.int .i64 bk) |>.setCell (p:=⟨w.heap.size+1,1,none⟩) (by dsimp only;omega) (.int .i64 bn) |>.setCell (p:=⟨w.heap.size+1,2,none⟩) (by dsimp only;omega) (.int .i64 bm) |>.setCell (p:=⟨w.heap.size+1,3,none⟩) (by dsimp only;omega) (.string ⟨bb.toArray⟩)) (Grew.below ?_)
    repeat exact gB
  ·rw [if_neg hc] at hr'
   subst hr'
   go_wp2_with fail
   go_region_held2 (fun W=>W.cell? ⟨w.heap.size,0,none⟩=some (.int .i64 ak)∧W.cell? ⟨w.heap.size,1,none⟩=some (.int .i64 an)∧W.cell? ⟨w.heap.size,2,none⟩=some (.int .i64 am)∧W.cell? ⟨w.heap.size,3,none⟩=some (.string ⟨ab.toArray⟩) ∧
     W.cell? ⟨p1,0,none⟩=some (.int .i64 bk)∧W.cell? ⟨p1,1,none⟩=some (.int .i64 bn)∧W.cell? ⟨p1,2,none⟩=some (.int .i64 bm)∧W.cell? ⟨p1,3,none⟩=some (.string ⟨bb.toArray⟩)) (simp (maxDischargeDepth:=12) [go_sem,A0,A1,A2,A3,B0,B1,B2,B3,Al,Bl]) (first
    | (go_at_call 104;refine (UU _ _ _ _ _).mono ?_;rintro e wc ⟨rfl,os1,n1,rfl⟩)
    | (go_at_call 167;refine (C _ gB).mono ?_;rintro e wc ⟨rfl,os2,n2,rfl⟩))
   go_wp2
   refine bodyPost_ret_by (v:=rs (⟨ak,an,am,ab⟩,0)) ?_ rfl ⟨rfl,?_⟩
   ·simp [results,Tryz.results178,go_sem,r0,r1,r2,r3,lt1]
   ·refine z0a (G.setCell (p:=⟨w.heap.size+1,0,none⟩) (by dsimp only;omega) (.int .i64 ak) |>.setCell (p:=⟨w.heap.size+1,1,none⟩) (by dsimp only;omega) (.int .i64 an) |>.setCell (p:=⟨w.heap.size+1,2,none⟩) (by dsimp only;omega) (.int .i64 am) |>.setCell (p:=⟨w.heap.size+1,3,none⟩) (by dsimp only;omega) (.string ⟨ab.toArray⟩)) (Grew.below ?_)
    repeat exact gB
 ·have hr':=hr.out
  rw [if_neg hz] at hr'
  subst hr'
  have hz':(be != 0)=true:=by simpa using hz
  clear C1 hr
  go_wp2
  refine bodyPost_ret_by (v:=rs (nul,be)) ?_ rfl ⟨rfl,?_⟩
  ·simp [results,Tryz.results178,go_sem,r0,r1,r2,r3,nul]
  ·refine z0a (G.setCell (p:=⟨w.heap.size+1,0,none⟩) (by dsimp only;omega) (.int .i64 0) |>.setCell (p:=⟨w.heap.size+1,1,none⟩) (by dsimp only;omega) (.int .i64 0) |>.setCell (p:=⟨w.heap.size+1,2,none⟩) (by dsimp only;omega) (.int .i64 0) |>.setCell (p:=⟨w.heap.size+1,3,none⟩) (by dsimp only;omega) (.string ⟨#[]⟩)) (Grew.below ?_)
   repeat exact gB
end Go.Proofs.YtibbenhplmmmiaaGreatDoor
