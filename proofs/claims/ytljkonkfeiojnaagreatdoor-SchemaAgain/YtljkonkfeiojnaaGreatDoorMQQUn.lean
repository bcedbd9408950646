/-
  Ops of two Texts: eval.ofTexts.
  Truths: eval.ofTruths, notOf.
  eval.Binary, whole: what an op of two comes to.
  A world with some blocks more, whatever has been drawn: out of 'Below', so that its cells read as those of a world that has grown. Nothing of the program is in it.
  Rows of values: eval.allRight, slices.Contains at the value Null.
  eval.called.
  What must come: longstoplaw07.knows; on its road eval.Function at 'length' and one Text.
  eval.negOf: from kind to kind.
  eval.Unary.
-/
import Derived.Test.YtljkonkfeiojnaaGreatDoorMNQBinC
import Derived.Test.YtljkonkfeiojnaaGreatDoorMCLByte
import Derived.Test.YtljkonkfeiojnaaGreatDoorMOQNums
import Derived.Test.YtljkonkfeiojnaaGreatDoorQPts
import Derived.Test.YtljkonkfeiojnaaGreatDoorMeDWide3
import Derived.BigRegion
import Derived.Deep.Cut
import Derived.Test.YtljkonkfeiojnaaGreatDoorDNeg
import Derived.Test.YtljkonkfeiojnaaGreatDoorMMHTurn
set_option maxHeartbeats 2000000
set_option maxRecDepth 4000
namespace Go.Proofs.YtljkonkfeiojnaaGreatDoor
open Go.RowKit Go.Shelf
attribute [local go_sem] z0f z0b z0c z0e z0m z0k z0h z0d z0g
theorem qtxt_cmp (op c:Int) (an am bn bm:Int) (ab bb:List UInt8) (w:World) (e9:(op != 9)=true) (D:z0s 125 #[va 3 an am ⟨ab.toArray⟩,va 3 bn bm ⟨bb.toArray⟩] w (.int .i64 c)) :
  Calls Tryz.prog 123 #[.int .i64 op,va 3 an am ⟨ab.toArray⟩,va 3 bn bm ⟨bb.toArray⟩] w fun e w'=>e=.returned (rs (cmpR op c))∧Below w.heap.size w w':=by
 have HC:=fun W=>z3t op c W
 obtain ⟨w0,hw0,bxa,bxb,bxr,Bw⟩:=z0w w ⟨3,an,am,ab⟩ ⟨3,bn,bm,bb⟩
 dsimp only at hw0
 have B0:Below w0.heap.size w0 w0:=Below.refl _ _
 go_enter Tryz.func123,Tryz.ntmps123
 go_wp2_with fail
 rw [← hw0]
 clear hw0
 obtain ⟨a0,a1,a2,a3⟩:=bxa.at4
 obtain ⟨b0,b1,b2,b3⟩:=bxb.at4
 dsimp only at a0 a1 a2 a3 b0 b1 b2 b3
 go_wp2_with fail
 refine (D _ Bw).mono ?_
 rintro e w1 ⟨rfl,B1⟩
 have br:=bxr.later B1
 obtain ⟨r0,r1,r2,r3⟩:=br.at4
 dsimp only [nul] at r0 r1 r2 r3
 simp only [Nat.zero_add] at r1 r2 r3
 have f0:=br.free 0
 have f1:=br.free 1
 have f2:=br.free 2
 have f3:=br.free 3
 have lt1:=br.lt
 have Be:=z0a Bw B1
 clear D a0 a1 a2 a3 b0 b1 b2 b3 br bxr
 go_wp2_with (go_at_call 124;refine (HC _).mono ?_;rintro e w3 ⟨rfl,os2,n2,rfl⟩)
 refine bodyPost_ret_by (v:=rs (cmpR op c)) ?_ rfl ⟨rfl,?_⟩
 ·simp [results,Tryz.results123,go_sem,r0,r1,r2,r3,lt1]
 ·refine z0a (Be.setCell (p:=⟨w.heap.size+1+1,0,none⟩) (by dsimp only;omega) (.int .i64 (cmpR op c).1.k) |>.setCell (p:=⟨w.heap.size+1+1,1,none⟩) (by dsimp only;omega) (.int .i64 (cmpR op c).1.n) |>.setCell (p:=⟨w.heap.size+1+1,2,none⟩) (by dsimp only;omega) (.int .i64 (cmpR op c).1.m) |>.setCell (p:=⟨w.heap.size+1+1,3,none⟩) (by dsimp only;omega) (.string ⟨(cmpR op c).1.b.toArray⟩)) (Grew.below ?_)
  repeat exact gB
theorem qtxt_over (an am bn bm:Int) (ab bb:List UInt8) (w:World) (ha:ab.length≤256) (hb:bb.length≤256) (ho:256<ab.length+bb.length) :
  Calls Tryz.prog 123 #[.int .i64 9,va 3 an am ⟨ab.toArray⟩,va 3 bn bm ⟨bb.toArray⟩] w fun e w'=>e=.returned (.tuple #[va 0 0 0 ⟨#[]⟩,.int .i64 32])∧Below w.heap.size w w':=by
 have hs:(256:Int)<(ab.length:Int)+(bb.length:Int):=by omega
 have hw:IntKind.i64.wrap ((ab.length:Int)+(bb.length:Int))=(ab.length:Int)+(bb.length:Int):=by rw [IntKind.wrap_i64];omega
 obtain ⟨w0,hw0,bxa,bxb,bxr,Bw⟩:=z0w w ⟨3,an,am,ab⟩ ⟨3,bn,bm,bb⟩
 dsimp only at hw0
 have B0:Below w0.heap.size w0 w0:=Below.refl _ _
 go_enter Tryz.func123,Tryz.ntmps123
 go_wp2_with fail
 rw [← hw0]
 clear hw0
 obtain ⟨a0,a1,a2,a3⟩:=bxa.at4
 obtain ⟨b0,b1,b2,b3⟩:=bxb.at4
 dsimp only at a0 a1 a2 a3 b0 b1 b2 b3
 have br:=bxr.later B0
 obtain ⟨r0,r1,r2,r3⟩:=br.at4
 dsimp only [nul] at r0 r1 r2 r3
 simp only [Nat.zero_add] at r1 r2 r3
 have f0:=br.free 0
 have f1:=br.free 1
 have f2:=br.free 2
 have f3:=br.free 3
 have lt1:=br.lt
 have Be:=z0a Bw B0
 go_wp2
 refine bodyPost_ret_by (v:=.tuple #[va 0 0 0 ⟨#[]⟩,.int .i64 32]) ?_ rfl ⟨rfl,?_⟩
 ·simp [results,Tryz.results123,go_sem,r0,r1,r2,r3]
 ·exact Be
theorem ba_append (x y:List UInt8):(⟨x.toArray⟩:ByteArray)++⟨y.toArray⟩=⟨(x++y).toArray⟩:=by
 apply ByteArray.ext
 simp
theorem qtxt_join (an am bn bm:Int) (ab bb:List UInt8) (w:World) (ho:¬ 256<ab.length+bb.length) :
  Calls Tryz.prog 123 #[.int .i64 9,va 3 an am ⟨ab.toArray⟩,va 3 bn bm ⟨bb.toArray⟩] w fun e w'=>e=.returned (.tuple #[va 3 0 0 ⟨(ab++bb).toArray⟩,.int .i64 0])∧Below w.heap.size w w':=by
 have hs:¬ (256:Int)<(ab.length:Int)+(bb.length:Int):=by omega
 have hw:IntKind.i64.wrap ((ab.length:Int)+(bb.length:Int))=(ab.length:Int)+(bb.length:Int):=by rw [IntKind.wrap_i64];omega
 have C:∀ W,Calls Tryz.prog 35 #[.string (⟨ab.toArray⟩++⟨bb.toArray⟩)] W fun e w'=>e=.returned (.string ⟨(ab++bb).toArray⟩)∧Below W.heap.size W w':=by
  intro W
  rw [ba_append]
  exact z4a _ W (by show (ab++bb).toArray.size≤_;simp;omega)
 obtain ⟨w0,hw0,bxa,bxb,bxr,Bw⟩:=z0w w ⟨3,an,am,ab⟩ ⟨3,bn,bm,bb⟩
 dsimp only at hw0
 have B0:Below w0.heap.size w0 w0:=Below.refl _ _
 go_enter Tryz.func123,Tryz.ntmps123
 go_wp2_with fail
 rw [← hw0]
 clear hw0
 obtain ⟨a0,a1,a2,a3⟩:=bxa.at4
 obtain ⟨b0,b1,b2,b3⟩:=bxb.at4
 dsimp only at a0 a1 a2 a3 b0 b1 b2 b3
 go_wp2_with fail
 refine (C _).mono ?_
 rintro e w1 ⟨rfl,B1⟩
 have br:=bxr.later B1
 obtain ⟨r0,r1,r2,r3⟩:=br.at4
 dsimp only [nul] at r0 r1 r2 r3
 simp only [Nat.zero_add] at r1 r2 r3
 have f0:=br.free 0
 have f1:=br.free 1
 have f2:=br.free 2
 have f3:=br.free 3
 have lt1:=br.lt
 have Be:=z0a Bw B1
 clear C a0 a1 a2 a3 b0 b1 b2 b3 br bxr
 go_wp2
 refine bodyPost_ret_by (v:=.tuple #[va 3 0 0 ⟨(ab++bb).toArray⟩,.int .i64 0]) ?_ rfl ⟨rfl,?_⟩
 ·simp [results,Tryz.results123,go_sem,r0,r1,r2,r3]
 ·refine z0a (Be.setCell (p:=⟨w.heap.size+1+1,0,none⟩) (by dsimp only;omega) (.int .i64 3) |>.setCell (p:=⟨w.heap.size+1+1,1,none⟩) (by dsimp only;omega) (.int .i64 0) |>.setCell (p:=⟨w.heap.size+1+1,2,none⟩) (by dsimp only;omega) (.int .i64 0) |>.setCell (p:=⟨w.heap.size+1+1,3,none⟩) (by dsimp only;omega) (.string ⟨(ab++bb).toArray⟩)) (Grew.below ?_)
  repeat exact gB
theorem vof_vO (t:Int):vof t=vv (vO t):=by unfold vof vO;split <;> rfl
theorem qof_any (t:Int) (w:World):Calls Tryz.prog 63 #[.int .i64 t] w fun e w'=>e=.returned (vv (vO t))∧Grew w w':=by rw [← vof_vO];exact of_any t w
theorem qtr_ff (op ak an am bk bn bm t u:Int) (ab bb:ByteArray) (w:World) (y0:Bool) (Ta:∀ W,Calls Tryz.prog 39 #[va ak an am ab] W fun e w'=>e=.returned (.tuple #[.int .i64 t,.bool false])∧Grew W w') (Tb:∀ W,Calls Tryz.prog 39 #[va bk bn bm bb] W fun e w'=>e=.returned (.tuple #[.int .i64 u,.bool y0])∧Grew W w') :
  Calls Tryz.prog 117 #[.int .i64 op,va ak an am ab,va bk bn bm bb] w fun e w'=>e=.returned (.tuple #[va 0 0 0 ⟨#[]⟩,.int .i64 31])∧Grew w w':=by
 go_enter Tryz.func117,Tryz.ntmps117
 go_wp2_with fail
 refine (Ta _).mono ?_
 rintro e w1 ⟨rfl,os1,n1,rfl⟩
 go_wp2_with fail
 refine (Tb _).mono ?_
 rintro e w2 ⟨rfl,os2,n2,rfl⟩
 go_wp2
 all_goals refine bodyPost_ret_by (v:=.tuple #[va 0 0 0 ⟨#[]⟩,.int .i64 31]) ?_ rfl ⟨rfl,gB⟩
 all_goals simp [results,Tryz.results117,go_sem]
theorem qtr_tf (op ak an am bk bn bm t u:Int) (ab bb:ByteArray) (w:World)  (Ta:∀ W,Calls Tryz.prog 39 #[va ak an am ab] W fun e w'=>e=.returned (.tuple #[.int .i64 t,.bool true])∧Grew W w') (Tb:∀ W,Calls Tryz.prog 39 #[va bk bn bm bb] W fun e w'=>e=.returned (.tuple #[.int .i64 u,.bool false])∧Grew W w') :
  Calls Tryz.prog 117 #[.int .i64 op,va ak an am ab,va bk bn bm bb] w fun e w'=>e=.returned (.tuple #[va 0 0 0 ⟨#[]⟩,.int .i64 31])∧Grew w w':=by
 go_enter Tryz.func117,Tryz.ntmps117
 go_wp2_with fail
 refine (Ta _).mono ?_
 rintro e w1 ⟨rfl,os1,n1,rfl⟩
 go_wp2_with fail
 refine (Tb _).mono ?_
 rintro e w2 ⟨rfl,os2,n2,rfl⟩
 go_wp2
 all_goals refine bodyPost_ret_by (v:=.tuple #[va 0 0 0 ⟨#[]⟩,.int .i64 31]) ?_ rfl ⟨rfl,gB⟩
 all_goals simp [results,Tryz.results117,go_sem]
theorem qtr_and (ak an am bk bn bm t u:Int) (ab bb:ByteArray) (w:World)  (Ta:∀ W,Calls Tryz.prog 39 #[va ak an am ab] W fun e w'=>e=.returned (.tuple #[.int .i64 t,.bool true])∧Grew W w') (Tb:∀ W,Calls Tryz.prog 39 #[va bk bn bm bb] W fun e w'=>e=.returned (.tuple #[.int .i64 u,.bool true])∧Grew W w') :
  Calls Tryz.prog 117 #[.int .i64 17,va ak an am ab,va bk bn bm bb] w fun e w'=>e=.returned (rs (vO (tand t u),0))∧Grew w w':=by
 have C:=fun W=>and_any t u W
 have O:=fun W=>qof_any (tand t u) W
 go_enter Tryz.func117,Tryz.ntmps117
 go_wp2_with fail
 refine (Ta _).mono ?_
 rintro e w1 ⟨rfl,os1,n1,rfl⟩
 go_wp2_with fail
 refine (Tb _).mono ?_
 rintro e w2 ⟨rfl,os2,n2,rfl⟩
 go_wp2_with (first
  | (go_at_call 156;refine (C _).mono ?_;rintro e w3 ⟨rfl,rfl⟩)
  | (go_at_call 63;refine (O _).mono ?_;rintro e w3 ⟨rfl,os3,n3,rfl⟩))
 refine bodyPost_ret_by (v:=rs (vO (tand t u),0)) ?_ rfl ⟨rfl,gB⟩
 simp [results,Tryz.results117,go_sem]
theorem qtr_or (op ak an am bk bn bm t u:Int) (ab bb:ByteArray) (w:World) (e17:(op==17)=false) (Ta:∀ W,Calls Tryz.prog 39 #[va ak an am ab] W fun e w'=>e=.returned (.tuple #[.int .i64 t,.bool true])∧Grew W w') (Tb:∀ W,Calls Tryz.prog 39 #[va bk bn bm bb] W fun e w'=>e=.returned (.tuple #[.int .i64 u,.bool true])∧Grew W w') :
  Calls Tryz.prog 117 #[.int .i64 op,va ak an am ab,va bk bn bm bb] w fun e w'=>e=.returned (rs (vO (tor t u),0))∧Grew w w':=by
 have C:=fun W=>or_any t u W
 have O:=fun W=>qof_any (tor t u) W
 go_enter Tryz.func117,Tryz.ntmps117
 go_wp2_with fail
 refine (Ta _).mono ?_
 rintro e w1 ⟨rfl,os1,n1,rfl⟩
 go_wp2_with fail
 refine (Tb _).mono ?_
 rintro e w2 ⟨rfl,os2,n2,rfl⟩
 go_wp2_with (first
  | (go_at_call 157;refine (C _).mono ?_;rintro e w3 ⟨rfl,rfl⟩)
  | (go_at_call 63;refine (O _).mono ?_;rintro e w3 ⟨rfl,os3,n3,rfl⟩))
 refine bodyPost_ret_by (v:=rs (vO (tor t u),0)) ?_ rfl ⟨rfl,gB⟩
 simp [results,Tryz.results117,go_sem]
theorem qtru_any (op:Int) (a b:Va) (w:World):Calls Tryz.prog 117 #[.int .i64 op,vv a,vv b] w fun e w'=>e=.returned (rs (truR op a b))∧Grew w w':=by
 have A:=fun W=>z8b a.k a.n a.m ⟨a.b.toArray⟩ W
 have B:=fun W=>z8b b.k b.n b.m ⟨b.b.toArray⟩ W
 unfold truR
 cases ha:tB a
 ·rw [if_neg (by simp)]
  rw [show truB a.k a.n a.m ⟨a.b.toArray⟩=false from ha] at A
  exact qtr_ff op _ _ _ _ _ _ _ _ _ _ w _ A B
 ·rw [show truB a.k a.n a.m ⟨a.b.toArray⟩=true from ha] at A
  cases hb:tB b
  ·rw [if_neg (by simp)]
   rw [show truB b.k b.n b.m ⟨b.b.toArray⟩=false from hb] at B
   exact qtr_tf op _ _ _ _ _ _ _ _ _ _ w A B
  ·rw [if_pos (by rfl)]
   rw [show truB b.k b.n b.m ⟨b.b.toArray⟩=true from hb] at B
   by_cases h:op=17
   ·subst h
    rw [if_pos rfl]
    exact qtr_and _ _ _ _ _ _ _ _ _ _ w A B
   ·rw [if_neg h]
    exact qtr_or op _ _ _ _ _ _ _ _ _ _ w (by simpa using h) A B
theorem qnot_any (a:Va) (w:World):Calls Tryz.prog 115 #[vv a] w fun e w'=>e=.returned (rs (notR a))∧Grew w w':=by
 have A:=fun W=>z8b a.k a.n a.m ⟨a.b.toArray⟩ W
 unfold notR
 cases ha:tB a
 ·rw [if_neg (by simp)]
  rw [show truB a.k a.n a.m ⟨a.b.toArray⟩=false from ha] at A
  generalize truN a.k a.n a.m ⟨a.b.toArray⟩=t at *
  go_enter Tryz.func115,Tryz.ntmps115
  go_wp2_with (go_at_call 39;refine (A _).mono ?_;rintro e w1 ⟨rfl,os1,n1,rfl⟩)
  refine bodyPost_ret_by (v:=rs (nul,31)) ?_ rfl ⟨rfl,gB⟩
  simp [results,Tryz.results115,go_sem,nul]
 ·rw [if_pos rfl]
  rw [show truB a.k a.n a.m ⟨a.b.toArray⟩=true from ha] at A
  unfold tN
  generalize truN a.k a.n a.m ⟨a.b.toArray⟩=t at *
  have C:=fun W=>not_any t W
  have O:=fun W=>qof_any (tnot t) W
  go_enter Tryz.func115,Tryz.ntmps115
  go_wp2_with (first
   | (go_at_call 39;refine (A _).mono ?_;rintro e w1 ⟨rfl,os1,n1,rfl⟩)
   | (go_at_call 150;refine (C _).mono ?_;rintro e w3 ⟨rfl,rfl⟩)
   | (go_at_call 63;refine (O _).mono ?_;rintro e w3 ⟨rfl,os3,n3,rfl⟩))
  refine bodyPost_ret_by (v:=rs (vO (tnot t),0)) ?_ rfl ⟨rfl,gB⟩
  simp [results,Tryz.results115,go_sem]
end Go.Proofs.YtljkonkfeiojnaaGreatDoor

namespace Go.Proofs.YtljkonkfeiojnaaGreatDoor
open Go.RowKit Go.Shelf
theorem z8p (a b:Va) (w:World) (hT:Tabs w) (hP:Pw w) (va:vin a) (vb:vin b):z0s 125 #[vv a,vv b] w (.int .i64 (pcmp a b)) :=
 fun W h=>compare_any a b W (hT.later h) (hP.below h) va vb
theorem qcompared_tells (op c:Int) (w:World):z0s 124 #[.int .i64 op,.int .i64 c] w (rs (cmpR op c)) :=
 fun W _=>(z3t op c W).mono fun _ _ h=>⟨h.1,h.2.below⟩
theorem qpts_any (op n m n' m':Int) (b b':List UInt8) (w:World) (hT:Tabs w) (hP:Pw w) (ha:Ga.ok2 n m=true) (hb:Ga.ok2 n' m'=true) :
  Calls Tryz.prog 122 #[.int .i64 op,vv ⟨5,n,m,b⟩,vv ⟨5,n',m',b'⟩] w fun e w'=>e=.returned (rs (ptsR op ⟨5,n,m,b⟩ ⟨5,n',m',b'⟩))∧Below w.heap.size w w':=by
 have ia:=(Ga.ok2_iff n m).1 ha
 have ib:=(Ga.ok2_iff n' m').1 hb
 have D:=z8p ⟨5,n,m,b⟩ ⟨5,n',m',b'⟩ w hT hP ⟨⟨by simp only;omega,by simp only;omega⟩,⟨by simp only;omega,by simp only;omega⟩⟩ ⟨⟨by simp only;omega,by simp only;omega⟩,⟨by simp only;omega,by simp only;omega⟩⟩
 by_cases hz:n'=0∧m'=0
 ·obtain ⟨rfl,rfl⟩:=hz
  refine qpts_walk op n m 0 0 _ _ _ _ _ _ _ _ _ _ _ _ _ _ _ b b' w (fun W=>Ga.add_good n m 0 0 W ha hb) (fun W=>Ga.sub_good n m 0 0 W ha hb) (fun W=>Ga.mul_good n m 0 0 W ha hb) (fun W=>Ga.div_zero n m W ha) D _ ?_
  show ptsR op _ _=_
  unfold ptsR ptR
  simp only [and_self,if_true]
  rfl
 ·have hn:=Ga.norm_pos hz
  refine qpts_walk op n m n' m' _ _ _ _ _ _ _ _ _ _ _ _ _ _ _ b b' w (fun W=>Ga.add_good n m n' m' W ha hb) (fun W=>Ga.sub_good n m n' m' W ha hb) (fun W=>Ga.mul_good n m n' m' W ha hb) (fun W=>Ga.div_good n m n' m' W ha hb hn) D _ ?_
  show ptsR op _ _=_
  unfold ptsR ptR
  rw [if_neg hz,if_neg hz]
  rfl
theorem qtxt_any (op:Int) (b b':List UInt8) (w:World) (hT:Tabs w) (hP:Pw w) (h1:b.length≤256) (h2:b'.length≤256) :
  Calls Tryz.prog 123 #[.int .i64 op,vv ⟨3,0,0,b⟩,vv ⟨3,0,0,b'⟩] w fun e w'=>e=.returned (rs (txtR op ⟨3,0,0,b⟩ ⟨3,0,0,b'⟩))∧Below w.heap.size w w':=by
 unfold txtR
 by_cases h:op=9
 ·subst h
  rw [if_pos rfl]
  by_cases ho:256<b.length+b'.length
  ·rw [if_pos ho]
   exact qtxt_over 0 0 0 0 b b' w h1 h2 ho
  ·rw [if_neg ho]
   exact qtxt_join 0 0 0 0 b b' w ho
 ·rw [if_neg h]
  exact qtxt_cmp op _ 0 0 0 0 b b' w (by simpa using h) (z8p ⟨3,0,0,b⟩ ⟨3,0,0,b'⟩ w hT hP ⟨⟨(by show (-9223372036854775808:Int)≤0;decide),(by show (0:Int)≤9223372036854775807;decide)⟩,⟨(by show (-9223372036854775808:Int)≤0;decide),(by show (0:Int)≤9223372036854775807;decide)⟩⟩ ⟨⟨(by show (-9223372036854775808:Int)≤0;decide),(by show (0:Int)≤9223372036854775807;decide)⟩,⟨(by show (-9223372036854775808:Int)≤0;decide),(by show (0:Int)≤9223372036854775807;decide)⟩⟩)
theorem qnum_tells (a:Va) (b:Bool) (h:(a.k==1 || a.k==2)=b) (w:World):z0s 119 #[vv a] w (.bool b):=by
 subst h
 exact fun W _=>(z2e a.k a.n a.m ⟨a.b.toArray⟩ W).mono fun _ _ h=>⟨h.1,h.2.below⟩
theorem qbin_any (op:Int) (a b:Va) (w:World) (hT:Tabs w) (hP:Pw w) (ia:vin a) (ib:vin b) :
  Calls Tryz.prog 84 #[.int .i64 op,vv a,vv b] w fun e w'=>e=.returned (rs (binR op a b))∧Below w.heap.size w w':=by
 have Ra:z0s 22 #[vv a] w (.bool (vr a)):=fun W h=>z2u a.k a.n a.m ⟨a.b.toArray⟩ W (hT.later h)
 have Rb:z0s 22 #[vv b] w (.bool (vr b)):=fun W h=>z2u b.k b.n b.m ⟨b.b.toArray⟩ W (hT.later h)
 unfold binR
 by_cases o1:op<6
 ·rw [if_pos (by omega)]
  exact qbin_low op a.k b.k a.n a.m b.n b.m a.b b.b w o1
 by_cases o2:op > 18
 ·rw [if_pos (by omega)]
  exact qbin_high op a.k b.k a.n a.m b.n b.m a.b b.b w o1 o2
 cases ha:vr a
 ·rw [ha] at Ra
  rw [if_pos (by simp)]
  exact qbin_badA op a.k b.k a.n a.m b.n b.m a.b b.b w o1 o2 Ra
 rw [ha] at Ra
 cases hb:vr b
 ·rw [hb] at Rb
  rw [if_pos (by simp)]
  exact qbin_badB op a.k b.k a.n a.m b.n b.m a.b b.b w o1 o2 Ra Rb
 rw [hb] at Rb
 rw [if_neg (by simp;omega)]
 by_cases h17:op=17
 ·subst h17
  rw [if_pos (.inl rfl)]
  exact qbin_t17 a.k b.k a.n a.m b.n b.m a.b b.b w _ _ _ _ _ Ra Rb (fun W _=>(qtru_any 17 a b W).mono fun _ _ h=>⟨h.1,h.2.below⟩)
 by_cases h18:op=18
 ·subst h18
  rw [if_pos (.inr rfl)]
  exact qbin_t18 a.k b.k a.n a.m b.n b.m a.b b.b w _ _ _ _ _ Ra Rb (fun W _=>(qtru_any 18 a b W).mono fun _ _ h=>⟨h.1,h.2.below⟩)
 rw [if_neg (by omega)]
 have e17:(op != 17)=true:=by simpa using h17
 have e18:(op != 18)=true:=by simpa using h18
 have va':=(z3u a).1 ha
 have vb':=(z3u b).1 hb
 obtain ⟨ak,an,am,ab⟩:=a
 obtain ⟨bk,bn,bm,bb⟩:=b
 simp only [vok] at va' vb'
 obtain ⟨⟨ia0,ia1⟩,-⟩:=id ia
 obtain ⟨⟨ib0,ib1⟩,-⟩:=id ib
 simp only at ia0 ia1 ib0 ib1
 simp only [isn]
 by_cases a0:ak=0
 ·subst a0
  rw [if_pos (.inl rfl)]
  exact qbin_nullA op bk an am bn bm ab bb w o1 o2 e17 e18 Ra Rb
 have ea:(ak != 0)=true:=by simpa using a0
 by_cases b0:bk=0
 ·subst b0
  rw [if_pos (.inr rfl)]
  exact qbin_nullB op ak an am bn bm ab bb w o1 o2 e17 e18 ea Ra Rb
 have eb:(bk != 0)=true:=by simpa using b0
 rw [if_neg (by omega)]
 have NT:=fun (k n m:Int) (l:List UInt8) (v:Bool) (h:(k==1 || k==2)=v)=>qnum_tells ⟨k,n,m,l⟩ v h w
 rcases (by omega:ak=1∨ak=2∨ak=3∨ak=4∨ak=5) with rfl|rfl|rfl|rfl|rfl
 ·by_cases h1:bk=1
  ·subst h1
   rw [if_pos ⟨rfl,rfl⟩]
   exact qbin_ints op an am bn bm ab bb w _ _ _ _ _ o1 o2 e17 e18 Ra Rb (fun W h=>(qints_any op an bn W (hP.below h) ia0 ia1 ib0 ib1).mono fun _ _ h=>⟨h.1,h.2.below⟩)
  by_cases h2:bk=2
  ·subst h2
   rw [if_neg (by omega),if_pos (by omega)]
   exact qbin_n12 op an am bn bm ab bb w _ _ _ _ _ o1 o2 e17 e18 Ra Rb (NT 1 an am ab true rfl) (NT 2 bn bm bb true rfl) (fun W h=>qnums_any op ⟨1,an,am,ab⟩ ⟨2,bn,bm,bb⟩ W (hP.below h) (by simp only;omega) (by simp only;omega) ia ib)
  ·rw [if_neg (by omega),if_neg (by omega),if_neg (by omega),if_neg (by omega),if_neg (by omega)]
   exact qbin_o1 op bk an am bn bm ab bb w o1 o2 e17 e18 eb (by simpa using h1) Ra Rb (NT 1 an am ab true rfl) (NT bk bn bm bb false (by simp [h1,h2]))
 ·by_cases h1:bk=1
  ·subst h1
   rw [if_neg (by omega),if_pos (by omega)]
   exact qbin_n21 op an am bn bm ab bb w _ _ _ _ _ o1 o2 e17 e18 Ra Rb (NT 2 an am ab true rfl) (NT 1 bn bm bb true rfl) (fun W h=>qnums_any op ⟨2,an,am,ab⟩ ⟨1,bn,bm,bb⟩ W (hP.below h) (by simp only;omega) (by simp only;omega) ia ib)
  by_cases h2:bk=2
  ·subst h2
   rw [if_neg (by omega),if_pos (by omega)]
   exact qbin_n22 op an am bn bm ab bb w _ _ _ _ _ o1 o2 e17 e18 Ra Rb (NT 2 an am ab true rfl) (NT 2 bn bm bb true rfl) (fun W h=>qnums_any op ⟨2,an,am,ab⟩ ⟨2,bn,bm,bb⟩ W (hP.below h) (by simp only;omega) (by simp only;omega) ia ib)
  ·rw [if_neg (by omega),if_neg (by omega),if_neg (by omega),if_neg (by omega),if_neg (by omega)]
   exact qbin_o2 op bk an am bn bm ab bb w o1 o2 e17 e18 eb Ra Rb (NT 2 an am ab true rfl) (NT bk bn bm bb false (by simp [h1,h2]))
 ·by_cases h3:bk=3
  ·subst h3
   rw [if_neg (by omega),if_neg (by omega),if_neg (by omega),if_pos ⟨rfl,rfl⟩]
   obtain ⟨rfl,rfl,la⟩:an=0∧am=0∧ab.length≤256:=by rcases va' with h|h|h|h|h|h <;> first|omega|exact ⟨h.2.1,h.2.2.1,h.2.2.2.1⟩
   obtain ⟨rfl,rfl,lb⟩:bn=0∧bm=0∧bb.length≤256:=by rcases vb' with h|h|h|h|h|h <;> first|omega|exact ⟨h.2.1,h.2.2.1,h.2.2.2.1⟩
   exact qbin_txt op 0 0 0 0 ab bb w _ _ _ _ _ o1 o2 e17 e18 Ra Rb (NT 3 0 0 ab false rfl) (fun W h=>qtxt_any op ab bb W (hT.later h) (hP.below h) la lb)
  ·rw [if_neg (by omega),if_neg (by omega),if_neg (by omega),if_neg (by omega),if_neg (by omega)]
   exact qbin_o3 op bk an am bn bm ab bb w o1 o2 e17 e18 eb (by simpa using h3) Ra Rb (NT 3 an am ab false rfl)
 ·by_cases h4:bk=4
  ·subst h4
   rw [if_neg (by omega),if_neg (by omega),if_neg (by omega),if_neg (by omega),if_pos ⟨rfl,rfl⟩]
   exact qbin_bools op an am bn bm ab bb w _ _ _ _ _ _ o1 o2 e17 e18 Ra Rb (NT 4 an am ab false rfl) (z8p ⟨4,an,am,ab⟩ ⟨4,bn,bm,bb⟩ w hT hP ia ib) (qcompared_tells op _ w)
  ·rw [if_neg (by omega),if_neg (by omega),if_neg (by omega),if_neg (by omega),if_neg (by omega)]
   exact qbin_o4 op bk an am bn bm ab bb w o1 o2 e17 e18 eb (by simpa using h4) Ra Rb (NT 4 an am ab false rfl)
 ·by_cases h5:bk=5
  ·subst h5
   rw [if_neg (by omega),if_neg (by omega),if_pos ⟨rfl,rfl⟩]
   have pa:Ga.ok2 an am=true:=(Ga.ok2_iff an am).2 (by omega)
   have pb:Ga.ok2 bn bm=true:=(Ga.ok2_iff bn bm).2 (by omega)
   exact qbin_pts op an am bn bm ab bb w _ _ _ _ _ o1 o2 e17 e18 Ra Rb (NT 5 an am ab false rfl) (fun W h=>qpts_any op an am bn bm ab bb W (hT.later h) (hP.below h) pa pb)
  ·rw [if_neg (by omega),if_neg (by omega),if_neg (by omega),if_neg (by omega),if_neg (by omega)]
   exact qbin_o5 op bk an am bn bm ab bb w o1 o2 e17 e18 eb (by simpa using h5) Ra Rb (NT 5 an am ab false rfl)
end Go.Proofs.YtljkonkfeiojnaaGreatDoor

namespace Go.Proofs.YtljkonkfeiojnaaGreatDoor
open Go.RowKit
def drawTo (w:World) (d:Nat):World:={ w with drawn:=d }
theorem z2n (w:World) (d:Nat) (a:Addr):(drawTo w d).cell? a=w.cell? a:=rfl
theorem z1u (w:World) (d:Nat) (a:Addr):(drawTo w d).frozen? a=w.frozen? a:=rfl
theorem z3k (w:World) (d:Nat):(drawTo w d).heap=w.heap:=rfl
theorem z1v (w:World) (d:Nat) (a:Addr) (v:Value):(drawTo w d).setCell a v=drawTo (w.setCell a v) d:=by
 unfold World.setCell drawTo
 split <;> rfl
theorem z2m (w:World) (d:Nat) (o:Obj):(drawTo w d).alloc o=drawTo (w.alloc o) d:=rfl
theorem z2q (w:World) (d n:Nat):(drawTo w d).drewN n=drawTo w (d+n):=rfl
theorem z3h (w:World) (d:Nat):(drawTo w d).drew=drawTo w (d+1):=rfl
theorem z2p (w:World) (d n:Nat):drawTo (w.drewN n) d=drawTo w d:=rfl
theorem z3g (w:World) (d:Nat):drawTo w.drew d=drawTo w d:=rfl
theorem z2d (w:World) (d n:Nat):drawTo (drawTo w d) n=drawTo w n:=rfl
theorem z2r (os:List Obj) (d:Nat):∀ w:World,more (drawTo w d) os=drawTo (more w os) d:=by
 induction os with
 | nil=>intro w;rfl
 | cons p a ih=>intro w;exact ih (w.alloc p)
theorem more_heap (os:List Obj):∀ w:World,(more w os).heap=w.heap++os.toArray:=by
 induction os with
 | nil=>intro w;simp [more]
 | cons p a ih =>
  intro w
  show (more (w.alloc p) a).heap=_
  rw [ih,World.alloc]
  simp
theorem more_rest (os:List Obj):∀ w:World,(more w os).tape=w.tape∧(more w os).os=w.os∧(more w os).output=w.output:=by
 induction os with
 | nil=>intro w;exact ⟨rfl,rfl,rfl⟩
 | cons p a ih=>intro w;exact ih (w.alloc p)
theorem wide {w w':World} (h:Below w.heap.size w w'):∃ (os:List Obj) (d:Nat),w'=drawTo (more w os) d:=by
 refine ⟨w'.heap.toList.drop w.heap.size,w'.drawn,?_⟩
 have e1:w'.heap=(more w (w'.heap.toList.drop w.heap.size)).heap:=by
  rw [more_heap]
  apply Array.ext'
  have:w.heap.toList=w'.heap.toList.take w.heap.size:=by
   apply List.ext_getElem?
   intro i
   rw [List.getElem?_take]
   by_cases hi:i<w.heap.size
   ·rw [if_pos hi]
    have:=h.block i hi
    simpa using this.symm
   ·rw [if_neg hi]
    simp
    omega
  simp only [Array.toList_append]
  rw [this,List.take_append_drop]
 obtain ⟨t,o,p⟩:=more_rest (w'.heap.toList.drop w.heap.size) w
 generalize more w (w'.heap.toList.drop w.heap.size)=m at *
 obtain ⟨h',t',d',o',p'⟩:=w'
 obtain ⟨hm,tm,dm,om,pm⟩:=m
 simp only [drawTo,World.mk.injEq] at *
 exact ⟨e1,h.tape.trans t.symm,trivial,h.os.trans o.symm,h.output.trans p.symm⟩
def z1z (w w':World):Prop:=∃ (os:List Obj) (d:Nat),w'=drawTo (more w os) d
theorem z1z.refl (w:World):z1z w w:=⟨[],w.drawn,rfl⟩
theorem z1z.alloc {a w:World} (h:z1z a w) (o:Obj):z1z a (w.alloc o):=by
 obtain ⟨os,n,rfl⟩:=h
 exact ⟨os++[o],n,by rw [more_snoc];rfl⟩
theorem z1z.drawTo {a w:World} (h:z1z a w) (m:Nat):z1z a (drawTo w m):=by
 obtain ⟨os,n,rfl⟩:=h
 exact ⟨os,m,rfl⟩
theorem z1z.drewN {a w:World} (h:z1z a w) (m:Nat):z1z a (w.drewN m):=by
 obtain ⟨os,n,rfl⟩:=h
 exact ⟨os,n+m,rfl⟩
theorem z1z.drew {a w:World} (h:z1z a w):z1z a w.drew:=h.drewN 1
theorem z1z.trans {a b c:World} (h:z1z a b) (k:z1z b c):z1z a c:=by
 obtain ⟨os,n,rfl⟩:=h
 obtain ⟨ps,m,rfl⟩:=k
 exact ⟨os++ps,m,by rw [z2r,z0m];rfl⟩
theorem z1z.more {a w:World} (h:z1z a w) (os:List Obj):z1z a (more w os):=h.trans ⟨os,(Proofs.YtljkonkfeiojnaaGreatDoor.more w os).drawn,rfl⟩
theorem z1z.below {w w':World} (h:z1z w w'):Below w.heap.size w w':=by
 obtain ⟨os,n,rfl⟩:=h
 have:=more_below os w w _ (Below.refl _ _) (Nat.le_refl _)
 exact ⟨this.os,this.tape,this.output,this.size,this.block⟩
theorem gC {p:Prop} (h:p:=by repeat (first|assumption|exact z1z.refl _|apply z1z.drew|apply z1z.drewN|apply z1z.alloc|apply z1z.more|apply z1z.drawTo)):p:=h
end Go.Proofs.YtljkonkfeiojnaaGreatDoor

namespace Go.Proofs.YtljkonkfeiojnaaGreatDoor
open Go.RowKit Go.Shelf
attribute [local go_sem] z0f z0b z0c z0e z0m z0k z0h z0d z0g
theorem qall_any (ao:Option Addr) (cap:Nat) (l:List Va) (w:World) (hT:Tabs w) (hv:Vs w ao l) (hl:l.length≤9223372036854775807) :
  Calls Tryz.prog 59 #[.slice ao l.length cap] w fun e w'=>e=.returned (.bool (l.all vr))∧Below w.heap.size w w':=by
 obtain ⟨E,hE⟩:∃ E,E=l.all vr:=⟨_,rfl⟩
 rw [← hE]
 have HE:Hid (E=l.all vr):=hE
 obtain ⟨n,hn⟩:∃ n,l.length=n:=⟨_,rfl⟩
 rw [hn] at hl ⊢
 have HN:Hid (l.length=n):=hn
 clear hE hn
 go_enter Tryz.func59,Tryz.ntmps59
 go_wp2
 go_loopw [7] (fun r wr=>∃ k:Nat,r=.int .i64 (k:Int)∧k≤n∧Below w.heap.size w wr∧Hid (∀ i (h:i<l.length),i<k→vr l[i]=true)) (fun r _=>n - (intOf r).toNat)
 case atStart=>exact ⟨0,rfl,Nat.zero_le _,Below.refl _ _,fun i _ h=>by omega⟩
 case round =>
  obtain ⟨k,rfl,hk,hB,hA⟩:=hrel
  have sB:=hB.size
  by_cases hlt:k<n
  ·have hlt':(k:Int)<(n:Int):=by omega
   have hkl:k<l.length:=by rw [HN.out];exact hlt
   obtain ⟨b,off,rfl,hc⟩:=hv (by omega)
   obtain ⟨c0,c1,c2,c3⟩:=((hc k (by omega)).later hB)
   have hg:=(hc k (by omega)).lt
   have hg':b<wr.heap.size:=by omega
   have hT':=hT.later hB
   have R:∀ W,Grew wr W→Calls Tryz.prog 22 #[vv l[k]] W fun e w'=>e=.returned (.bool (vr l[k]))∧Below W.heap.size W w':=fun W h=>z2u _ _ _ _ W (hT'.later h.below)
   obtain ⟨⟨vk,vn,vm,vb⟩,he⟩:∃ v:Va,v=l[k]:=⟨_,rfl⟩
   rw [← he] at c0 c1 c2 c3 R
   have HV:Hid (Va.mk vk vn vm vb=l[k]):=he
   clear hc hT' hT he
   cases hvr:vr ⟨vk,vn,vm,vb⟩
   ·rw [hvr] at R
    go_wp2_with (go_at_call 22;refine (R _ gA).mono ?_;rintro e w2 ⟨rfl,hb2⟩)
    go_ret
    have hall:(l.all vr)=false:=by
     rw [List.all_eq_false]
     exact ⟨l[k]'(by have:=HN.out;omega),List.getElem_mem _,by rw [← HV.out,hvr];simp⟩
    refine ⟨by rw [HE.out,hall];rfl,?_⟩
    exact hB.trans ((Below.mono (z0a (Grew.below gA) hb2)) sB)
   ·rw [hvr] at R
    go_wp2_with (go_at_call 22;refine (R _ gA).mono ?_;rintro e w2 ⟨rfl,hb2⟩)
    go_roundw
    case rel =>
     refine ⟨k+1,by go_num,by omega,hB.trans ((Below.mono (z0a (Grew.below gA) hb2)) sB),fun i hi hik=>?_⟩
     by_cases h:i<k
     ·exact hA.out i hi h
     ·have:i=k:=by omega
      subst this
      rw [← HV.out,hvr]
    case measure=>simp [intOf];omega
  ·have hlt':¬ (k:Int)<(n:Int):=by omega
   go_wp2
   go_ret
   have hall:(l.all vr)=true:=by
    rw [List.all_eq_true]
    intro v hv'
    obtain ⟨i,hi,rfl⟩:=List.getElem_of_mem hv'
    exact hA.out i hi (by have:=HN.out;omega)
   exact ⟨by rw [HE.out,hall];rfl,hB⟩
def zq (x:Va):Bool:=eqv 0 0 0 ⟨#[]⟩ x.k x.n x.m ⟨x.b.toArray⟩
theorem cstq (k:Nat):((k+1:Nat):Int)=(k:Int)+1:=by omega
theorem qidx_any (ao:Option Addr) (cap:Nat) (l:List Va) (w:World) (hv:Vs w ao l) (hn:l.length≤140737488351232) :
  Calls Tryz.prog 143 #[.slice ao l.length cap,va 0 0 0 ⟨#[]⟩] w fun e w'=>(∃ i:Int,e=.returned (.int .i64 i)∧decide (0≤i)=l.any zq)∧Below w.heap.size w w':=by
 obtain ⟨R,hR⟩:∃ R,R=l.any zq:=⟨_,rfl⟩
 rw [← hR]
 have HR:Hid (R=(l.drop 0).any zq):=hR
 clear hR
 obtain ⟨n,hnn⟩:∃ n,l.length=n:=⟨_,rfl⟩
 rw [hnn] at hn ⊢
 have HN:Hid (l.length=n):=hnn
 clear hnn
 go_enter Tryz.func143,Tryz.ntmps143
 go_wp2
 go_loopw [8] (fun r wr=>∃ k:Nat,r=.int .i64 (k:Int)∧k≤n∧Box wr w.heap.size nul∧Below w.heap.size w wr∧Hid (R=(l.drop k).any zq)) (fun r _=>n - (intOf r).toNat)
 case atStart=>exact ⟨0,rfl,Nat.zero_le _,Box.new w 0 0 0 [],(Below.refl _ w).alloc (Nat.le_refl _) _,HR⟩
 case round =>
  obtain ⟨k,rfl,hk,hc,hb,hH⟩:=hrel
  have sB:=hb.size
  by_cases hlt:k<n
  ·have hlt':(k:Int)<(n:Int):=by omega
   have k0:(0:Int)≤(k:Int):=by omega
   have hkl:k<l.length:=by rw [HN.out];exact hlt
   obtain ⟨b,off,rfl,hcl⟩:=hv (by omega)
   obtain ⟨c0,c1,c2,c3⟩:=((hcl k hkl).later hb)
   have hg:=(hcl k hkl).lt
   have hg':b<wr.heap.size:=by omega
   have hdr:l.drop k=l[k]::l.drop (k+1):=List.drop_eq_getElem_cons hkl
   obtain ⟨x,he⟩:∃ x:Va,x=l[k]:=⟨_,rfl⟩
   rw [← he] at c0 c1 c2 c3 hdr
   have HST:Hid (R=(zq x || (l.drop (k+1)).any zq)):=by
    show R=_
    rw [hH.out,hdr];rfl
   obtain ⟨xk,xn,xm,xb⟩:=x
   have eqx:∀ W,(Op.equalIn 10000 44 (va 0 0 0 ⟨#[]⟩) (va xk xn xm ⟨xb.toArray⟩)).run Tryz.prog W=.ok (zq ⟨xk,xn,xm,xb⟩) W:=fun W=>eqVb 0 0 0 xk xn xm ⟨#[]⟩ ⟨xb.toArray⟩ W
   generalize zq ⟨xk,xn,xm,xb⟩=q at eqx HST
   obtain ⟨z0,z1,z2,z3⟩:=hc.at4
   have zl:=hc.lt
   have HC:Hid (Box wr w.heap.size nul):=hc
   dsimp only [nul] at z0 z1 z2 z3
   simp only [Nat.zero_add] at z1 z2 z3
   clear hdr he hcl hH HR hc
   cases q with
   | true =>
    go_wp2
    go_region
    all_goals go_wp2
    all_goals go_ret
    all_goals exact ⟨⟨(k:Int),rfl,by rw [HST.out];simp⟩,by first|exact hb|exact hb.drew⟩
   | false =>
    have HF:Hid (R=(l.drop (k+1)).any zq):=by show R=_;rw [HST.out,Bool.false_or]
    go_wp2
    go_region
    all_goals go_wp2
    all_goals exact ⟨⟨k+1,by rw [cstq],by omega,HC.out,by first|exact hb|exact hb.drew,HF⟩,by simp [intOf];omega⟩
  ·have hlt':¬ (k:Int)<(n:Int):=by omega
   have HF:Hid (R=false):=by
    show R=false
    rw [hH.out,List.drop_eq_nil_of_le (by rw [HN.out];omega)];rfl
   clear hH HR hc
   go_wp2
   go_ret
   exact ⟨⟨-1,rfl,by rw [HF.out];rfl⟩,hb⟩
theorem qcont_any (ao:Option Addr) (cap:Nat) (l:List Va) (w:World) (hv:Vs w ao l) (hn:l.length≤140737488351232) :
  Calls Tryz.prog 112 #[.slice ao l.length cap,va 0 0 0 ⟨#[]⟩] w fun e w'=>e=.returned (.bool (l.any zq))∧Below w.heap.size w w':=by
 have I:∀ W,Below w.heap.size w W→_:=fun W h=>qidx_any ao cap l W (hv.later h) hn
 have A0:=(Below.refl w.heap.size w).alloc (Nat.le_refl _) (.cells #[.int .i64 0,.int .i64 0,.int .i64 0,.string ⟨#[]⟩] 44)
 clear hv
 generalize l.any zq=q at *
 generalize l.length=n at *
 go_enter Tryz.func112,Tryz.ntmps112
 go_wp2_with fail
 refine (I _ (by first|exact A0|exact Below.refl _ _)).mono ?_
 rintro e w1 ⟨⟨i,rfl,hi⟩,b1⟩
 have HI:Hid (decide (0≤i)=q):=hi
 clear hi I
 go_wp2
 go_ret
 exact ⟨by rw [← HI.out];rfl,by first|exact A0.trans (b1.mono A0.size)|exact b1⟩
theorem z6s (w:World):∃ w0,w0=w.alloc (.cells #[.int .i64 0,.int .i64 0,.int .i64 0,.string ⟨#[]⟩] 44)∧Box w0 w.heap.size nul∧Below w.heap.size w w0 :=
 ⟨_,rfl,Box.new w 0 0 0 [],(Below.refl _ w).alloc (Nat.le_refl _) _⟩
def qcO0:Oper:=⟨some 8,.move (.tmp 1),28, "function.go:57",#[],none⟩
def qcO1:Oper:=⟨some 9,.indexAddr 28 (.tmp 8) (.const (Value.int IntKind.i64 0)),0, "function.go:57",#[⟨0,.data⟩],none⟩
def qcO2:Oper:=⟨some 10,.load 44 (.tmp 9),44, "function.go:57",#[⟨1,.data⟩],none⟩
def qcO3:Oper:=⟨some 11,.move (.tmp 1),28, "function.go:57",#[⟨11,.gcOnly .lateStores⟩],none⟩
def qcO4:Oper:=⟨some 12,.move (.tmp 1),28, "function.go:57",#[],none⟩
def qcO5:Oper:=⟨some 13,.call { callee:=Callee.builtin Builtin.len,args:=#[.tmp 12],argTypes:=#[28] },3, "function.go:57",#[⟨4,.data⟩],none⟩
def qcO6:Oper:=⟨some 14,.binOp BinOp.sub 3 (.tmp 13) (.const (Value.int IntKind.i64 1)) 3,3, "function.go:57",#[⟨5,.data⟩,⟨11,.gcOnly .lateStores⟩],none⟩
def qcO7:Oper:=⟨some 15,.indexAddr 28 (.tmp 11) (.tmp 14),0, "function.go:57",#[⟨3,.data⟩,⟨6,.data⟩,⟨11,.gcOnly .lateStores⟩],none⟩
def qcO8:Oper:=⟨some 16,.load 44 (.tmp 15),44, "function.go:57",#[⟨7,.data⟩,⟨11,.gcOnly .lateStores⟩],none⟩
def qcO9:Oper:=⟨some 6,.alloc 44,0, "function.go:57",#[],none⟩
def qcO10:Oper:=⟨some 7,.alloc 44,0, "function.go:57",#[],none⟩
def qcO11:Oper:=⟨none,.store 44 (.tmp 6) (.tmp 10),0, "function.go:57",#[⟨9,.data⟩,⟨2,.data⟩,⟨0,.phase⟩,⟨1,.phase⟩,⟨2,.phase⟩,⟨3,.textOnly .lateStores⟩,⟨4,.textOnly .lateStores⟩,⟨5,.textOnly .lateStoresUnsure⟩,⟨6,.textOnly .lateStores⟩,⟨7,.textOnly .lateStores⟩,⟨8,.textOnly .lateStores⟩,⟨9,.phase⟩,⟨10,.phase⟩],none⟩
def qcO12:Oper:=⟨none,.store 44 (.tmp 7) (.tmp 16),0, "function.go:57",#[⟨10,.data⟩,⟨8,.data⟩,⟨11,.chain⟩,⟨0,.phase⟩,⟨1,.phase⟩,⟨2,.phase⟩,⟨3,.phase⟩,⟨4,.phase⟩,⟨5,.phase⟩,⟨6,.phase⟩,⟨7,.phase⟩,⟨8,.phase⟩,⟨9,.phase⟩,⟨10,.phase⟩,⟨11,.phase⟩],none⟩
end Go.Proofs.YtljkonkfeiojnaaGreatDoor

namespace Go.Proofs.YtljkonkfeiojnaaGreatDoor
open Go.RowKit Go.Shelf
attribute [local go_sem] z0f z0b z0c z0e z0m z0k z0h z0d z0g z2n z1u z3k z1v z2m z2q z3h z2p z3g z2d z2r
theorem vr_of {v:Va} (h:vok Lib.validD v):vr v=true:=(z3u v).2 h
end Go.Proofs.YtljkonkfeiojnaaGreatDoor

namespace Go.Proofs.YtljkonkfeiojnaaGreatDoor
open Go.RowKit Go.Shelf
attribute [local go_sem] z0f z0b z0c z0e z0m z0k z0h z0d z0g
theorem qneg_null (an am:Int) (ab:ByteArray) (w:World)  :
  Calls Tryz.prog 116 #[va 0 an am ab] w fun e w'=>e=.returned (.tuple #[va 0 0 0 ⟨#[]⟩,.int .i64 0])∧Grew w w':=by
 go_enter Tryz.func116,Tryz.ntmps116
 go_wp2_with fail
 refine z0t 5 ?_
 go_wp2
 refine z0x (by intro l h;cases h) ?_
 refine bodyPost_ret_by (v:=.tuple #[va 0 0 0 ⟨#[]⟩,.int .i64 0]) ?_ rfl ⟨rfl,gB⟩
 simp [results,Tryz.results116,go_sem]
theorem qneg_int (an am:Int) (ab:ByteArray) (w:World) (z x:Int) (D:∀ W,Grew w W→Calls Tryz.prog 151 #[.int .i64 0,.int .i64 an] W fun e w'=>e=.returned (.tuple #[.int .i64 z,.int .i64 x])∧Grew W w') :
  Calls Tryz.prog 116 #[va 1 an am ab] w fun e w'=>e=.returned (rs (z1e z x))∧Grew w w':=by
 have H:=fun n x W=>z2h n x W
 go_enter Tryz.func116,Tryz.ntmps116
 go_wp2_with fail
 refine z0t 5 ?_
 go_wp2_with fail
 refine z0p (n:=4) rfl ?_
 go_wp2_with (first
  | (go_at_call 151;refine (D _ gB).mono ?_;rintro e w1 ⟨rfl,os1,n1,rfl⟩)
  | (go_at_call 144;refine (H _ _ _).mono ?_;rintro e w1 ⟨rfl,os2,n2,rfl⟩))
 refine z0x (by intro l h;cases h) ?_
 refine bodyPost_ret_by (v:=rs (z1e z x)) ?_ rfl ⟨rfl,gB⟩
 simp [results,Tryz.results116,go_sem]
theorem qneg_dec (an am:Int) (ab:ByteArray) (w:World) (z s x:Int) (D:∀ W,Grew w W→Calls Tryz.prog 153 #[dv an am] W fun e w'=>e=.returned (.tuple #[dv z s,.int .i64 x])∧Grew W w') :
  Calls Tryz.prog 116 #[va 2 an am ab] w fun e w'=>e=.returned (rs (z5g z s x))∧Grew w w':=by
 have H:=fun n s x W=>z3x n s x W
 have U:=fun k n m b W=>z3y k n m b W
 go_enter Tryz.func116,Tryz.ntmps116
 go_wp2_with fail
 refine z0t 5 ?_
 go_wp2_with fail
 refine z0p (n:=4) rfl ?_
 go_wp2_with fail
 refine z0p (n:=3) rfl ?_
 go_wp2_with (first
  | (go_at_call 121;refine (U _ _ _ _ _).mono ?_;rintro e w1 ⟨rfl,os0,n0,rfl⟩)
  | (go_at_call 153;refine (D _ gB).mono ?_;rintro e w1 ⟨rfl,os1,n1,rfl⟩)
  | (go_at_call 152;refine (H _ _ _ _).mono ?_;rintro e w1 ⟨rfl,os2,n2,rfl⟩))
 refine z0x (by intro l h;cases h) ?_
 refine bodyPost_ret_by (v:=rs (z5g z s x)) ?_ rfl ⟨rfl,gB⟩
 simp [results,Tryz.results116,go_sem]
theorem qneg_pt (an am:Int) (ab:ByteArray) (w:World) (x y:Int) (D:∀ W,Calls Tryz.prog 155 #[dv an am,.int .i64 2] W fun e w'=>e=.returned (dv x y)∧Grew W w') :
  Calls Tryz.prog 116 #[va 5 an am ab] w fun e w'=>e=.returned (rs (z0z x y 0))∧Grew w w':=by
 have H:=fun n s x W=>z7h n s x W
 have U:=fun k n m b W=>z8q k n m b W
 go_enter Tryz.func116,Tryz.ntmps116
 go_wp2_with fail
 refine z0t 5 ?_
 go_wp2_with fail
 refine z0p (n:=4) rfl ?_
 go_wp2_with fail
 refine z0p (n:=3) rfl ?_
 go_wp2_with fail
 refine z0p (n:=2) rfl ?_
 go_wp2_with (first
  | (go_at_call 147;refine (U _ _ _ _ _).mono ?_;rintro e w1 ⟨rfl,os0,n0,rfl⟩)
  | (go_at_call 155;refine (D _).mono ?_;rintro e w1 ⟨rfl,os1,n1,rfl⟩)
  | (go_at_call 154;refine (H _ _ _ _).mono ?_;rintro e w1 ⟨rfl,os2,n2,rfl⟩))
 refine z0x (by intro l h;cases h) ?_
 refine bodyPost_ret_by (v:=rs (z0z x y 0)) ?_ rfl ⟨rfl,gB⟩
 simp [results,Tryz.results116,go_sem]
theorem qneg_other (ak:Int) (an am:Int) (ab:ByteArray) (w:World) (e0:(ak != 0)=true) (e1:(ak != 1)=true) (e2:(ak != 2)=true) (e5:(ak != 5)=true) :
  Calls Tryz.prog 116 #[va ak an am ab] w fun e w'=>e=.returned (.tuple #[va 0 0 0 ⟨#[]⟩,.int .i64 31])∧Grew w w':=by
 go_enter Tryz.func116,Tryz.ntmps116
 go_wp2_with fail
 refine z0t 5 ?_
 go_wp2_with fail
 refine z0p (n:=4) rfl ?_
 go_wp2_with fail
 refine z0p (n:=3) rfl ?_
 go_wp2_with fail
 refine z0p (n:=2) rfl ?_
 go_wp2_with fail
 refine z0p (n:=1) rfl ?_
 go_wp2
 refine z0x (by intro l h;cases h) ?_
 refine bodyPost_ret_by (v:=.tuple #[va 0 0 0 ⟨#[]⟩,.int .i64 31]) ?_ rfl ⟨rfl,gB⟩
 simp [results,Tryz.results116,go_sem]
theorem qneg_any (a:Va) (w:World) (hP:Pw w) (hr:vr a=true) (va':vin a):Calls Tryz.prog 116 #[vv a] w fun e w'=>e=.returned (rs (negR a))∧Grew w w':=by
 obtain ⟨k,n,m,b⟩:=a
 have hv:=(z3u _).1 hr
 simp only [vok] at hv
 obtain ⟨⟨a0,a1⟩,-⟩:=va'
 simp only at a0 a1
 unfold negR
 by_cases h0:k=0
 ·subst h0
  exact qneg_null n m _ w
 by_cases h1:k=1
 ·subst h1
  exact qneg_int n m _ w _ _ (fun W h=>qdiff_any 0 n W (hP.later h) (by decide) (by decide) a0 a1)
 by_cases h2:k=2
 ·subst h2
  have hm:0≤m∧m≤6:=by omega
  have hs:z0u m=true:=(z1f m).2 hm
  have:=qneg_dec n m ⟨b.toArray⟩ w _ _ _ (fun W h=>neg_any n m W (hP.later h) a0 a1)
  simp only [negU,negS,negE,hs,if_true] at this
  exact this
 by_cases h5:k=5
 ·subst h5
  have hp:Ga.ok2 n m=true:=(Ga.ok2_iff n m).2 (by omega)
  exact qneg_pt n m _ w _ _ (fun W=>Ga.turn_good n m 2 W hp)
 simp only [h0,h1,h2,h5,if_false]
 exact qneg_other k n m _ w (by simpa using h0) (by simpa using h1) (by simpa using h2) (by simpa using h5)
theorem z4d (w:World) (a:Va):∃ w0,w0=(w.alloc (.cells #[.int .i64 a.k,.int .i64 a.n,.int .i64 a.m,.string ⟨a.b.toArray⟩] 44)).alloc (.cells #[.int .i64 0,.int .i64 0,.int .i64 0,.string ⟨#[]⟩] 44) ∧
  Box w0 w.heap.size a∧Box w0 (w.heap.size+1) nul∧Below w.heap.size w w0:=by
 obtain ⟨h1,h2,h3⟩:=two_boxes w a nul
 exact ⟨_,rfl,h1,h2,h3⟩
theorem qun_low (op:Int) (ak:Int) (an am:Int) (ab:List UInt8) (w:World) (o1:op<3)  :
  Calls Tryz.prog 83 #[.int .i64 op,va ak an am ⟨ab.toArray⟩] w fun e w'=>e=.returned (.tuple #[va 0 0 0 ⟨#[]⟩,.int .i64 1])∧Below w.heap.size w w':=by
 obtain ⟨w0,hw0,bxa,bxr,Bw⟩:=z4d w ⟨ak,an,am,ab⟩
 dsimp only at hw0
 have B0:Below w0.heap.size w0 w0:=Below.refl _ _
 go_enter Tryz.func83,Tryz.ntmps83
 go_upto_region 1 with fail
 rw [← hw0]
 clear hw0
 obtain ⟨a0,a1,a2,a3⟩:=bxa.at4
 dsimp only at a0 a1 a2 a3
 have br:=bxr.later B0
 obtain ⟨r0,r1,r2,r3⟩:=br.at4
 dsimp only [nul] at r0 r1 r2 r3
 simp only [Nat.zero_add] at r1 r2 r3
 have f0:=br.free 0
 have f1:=br.free 1
 have f2:=br.free 2
 have f3:=br.free 3
 have lt1:=br.lt
 have Be:=z0a Bw B0
 go_wp2
 refine bodyPost_ret_by (v:=.tuple #[va 0 0 0 ⟨#[]⟩,.int .i64 1]) ?_ rfl ⟨rfl,?_⟩
 ·simp [results,Tryz.results83,go_sem,r0,r1,r2,r3]
 ·refine z0a (Be.setCell (p:=⟨w.heap.size+1,0,none⟩) (by dsimp only;omega) (.int .i64 0) |>.setCell (p:=⟨w.heap.size+1,1,none⟩) (by dsimp only;omega) (.int .i64 0) |>.setCell (p:=⟨w.heap.size+1,2,none⟩) (by dsimp only;omega) (.int .i64 0) |>.setCell (p:=⟨w.heap.size+1,3,none⟩) (by dsimp only;omega) (.string ⟨#[]⟩)) (Grew.below ?_)
  repeat exact gB
theorem qun_high (op:Int) (ak:Int) (an am:Int) (ab:List UInt8) (w:World) (o1:¬ op<3) (o2:op > 5)  :
  Calls Tryz.prog 83 #[.int .i64 op,va ak an am ⟨ab.toArray⟩] w fun e w'=>e=.returned (.tuple #[va 0 0 0 ⟨#[]⟩,.int .i64 1])∧Below w.heap.size w w':=by
 obtain ⟨w0,hw0,bxa,bxr,Bw⟩:=z4d w ⟨ak,an,am,ab⟩
 dsimp only at hw0
 have B0:Below w0.heap.size w0 w0:=Below.refl _ _
 go_enter Tryz.func83,Tryz.ntmps83
 go_upto_region 1 with fail
 rw [← hw0]
 clear hw0
 obtain ⟨a0,a1,a2,a3⟩:=bxa.at4
 dsimp only at a0 a1 a2 a3
 have br:=bxr.later B0
 obtain ⟨r0,r1,r2,r3⟩:=br.at4
 dsimp only [nul] at r0 r1 r2 r3
 simp only [Nat.zero_add] at r1 r2 r3
 have f0:=br.free 0
 have f1:=br.free 1
 have f2:=br.free 2
 have f3:=br.free 3
 have lt1:=br.lt
 have Be:=z0a Bw B0
 go_wp2
 refine bodyPost_ret_by (v:=.tuple #[va 0 0 0 ⟨#[]⟩,.int .i64 1]) ?_ rfl ⟨rfl,?_⟩
 ·simp [results,Tryz.results83,go_sem,r0,r1,r2,r3]
 ·refine z0a (Be.setCell (p:=⟨w.heap.size+1,0,none⟩) (by dsimp only;omega) (.int .i64 0) |>.setCell (p:=⟨w.heap.size+1,1,none⟩) (by dsimp only;omega) (.int .i64 0) |>.setCell (p:=⟨w.heap.size+1,2,none⟩) (by dsimp only;omega) (.int .i64 0) |>.setCell (p:=⟨w.heap.size+1,3,none⟩) (by dsimp only;omega) (.string ⟨#[]⟩)) (Grew.below ?_)
  repeat exact gB
theorem qun_bad (op:Int) (ak:Int) (an am:Int) (ab:List UInt8) (w:World) (o1:¬ op<3) (o2:¬ op > 5) (Ra:z0s 22 #[va ak an am ⟨ab.toArray⟩] w (.bool false)) :
  Calls Tryz.prog 83 #[.int .i64 op,va ak an am ⟨ab.toArray⟩] w fun e w'=>e=.returned (.tuple #[va 0 0 0 ⟨#[]⟩,.int .i64 1])∧Below w.heap.size w w':=by
 obtain ⟨w0,hw0,bxa,bxr,Bw⟩:=z4d w ⟨ak,an,am,ab⟩
 dsimp only at hw0
 have B0:Below w0.heap.size w0 w0:=Below.refl _ _
 go_enter Tryz.func83,Tryz.ntmps83
 go_upto_region 1 with fail
 rw [← hw0]
 clear hw0
 obtain ⟨a0,a1,a2,a3⟩:=bxa.at4
 dsimp only at a0 a1 a2 a3
 go_wp2_with fail
 refine (Ra _ (z0a Bw B0)).mono ?_
 rintro e w1 ⟨rfl,cc⟩
 have B1:=z0a B0 cc
 clear a0 a1 a2 a3 cc
 obtain ⟨a0,a1,a2,a3⟩:=(bxa.later B1).at4
 dsimp only at a0 a1 a2 a3
 have br:=bxr.later B1
 obtain ⟨r0,r1,r2,r3⟩:=br.at4
 dsimp only [nul] at r0 r1 r2 r3
 simp only [Nat.zero_add] at r1 r2 r3
 have f0:=br.free 0
 have f1:=br.free 1
 have f2:=br.free 2
 have f3:=br.free 3
 have lt1:=br.lt
 have Be:=z0a Bw B1
 go_wp2
 refine bodyPost_ret_by (v:=.tuple #[va 0 0 0 ⟨#[]⟩,.int .i64 1]) ?_ rfl ⟨rfl,?_⟩
 ·simp [results,Tryz.results83,go_sem,r0,r1,r2,r3]
 ·refine z0a (Be.setCell (p:=⟨w.heap.size+1,0,none⟩) (by dsimp only;omega) (.int .i64 0) |>.setCell (p:=⟨w.heap.size+1,1,none⟩) (by dsimp only;omega) (.int .i64 0) |>.setCell (p:=⟨w.heap.size+1,2,none⟩) (by dsimp only;omega) (.int .i64 0) |>.setCell (p:=⟨w.heap.size+1,3,none⟩) (by dsimp only;omega) (.string ⟨#[]⟩)) (Grew.below ?_)
  repeat exact gB
theorem qun_isnull (ak:Int) (an am:Int) (ab:List UInt8) (w:World) (rn:Int) (Ra:z0s 22 #[va ak an am ⟨ab.toArray⟩] w (.bool true)) (T:z0s 114 #[.bool (ak==0)] w (va 4 rn 0 ⟨#[]⟩)) :
  Calls Tryz.prog 83 #[.int .i64 5,va ak an am ⟨ab.toArray⟩] w fun e w'=>e=.returned (.tuple #[va 4 rn 0 ⟨#[]⟩,.int .i64 0])∧Below w.heap.size w w':=by
 obtain ⟨w0,hw0,bxa,bxr,Bw⟩:=z4d w ⟨ak,an,am,ab⟩
 dsimp only at hw0
 have B0:Below w0.heap.size w0 w0:=Below.refl _ _
 go_enter Tryz.func83,Tryz.ntmps83
 go_upto_region 1 with fail
 rw [← hw0]
 clear hw0
 obtain ⟨a0,a1,a2,a3⟩:=bxa.at4
 dsimp only at a0 a1 a2 a3
 go_wp2_with fail
 refine (Ra _ (z0a Bw B0)).mono ?_
 rintro e w1 ⟨rfl,cc⟩
 have B1:=z0a B0 cc
 clear a0 a1 a2 a3 cc
 obtain ⟨a0,a1,a2,a3⟩:=(bxa.later B1).at4
 dsimp only at a0 a1 a2 a3
 go_wp2_with fail
 refine (T _ (z0a Bw B1)).mono ?_
 rintro e w2 ⟨rfl,cc⟩
 have B2:=z0a B1 cc
 clear a0 a1 a2 a3 cc
 obtain ⟨a0,a1,a2,a3⟩:=(bxa.later B2).at4
 dsimp only at a0 a1 a2 a3
 have br:=bxr.later B2
 obtain ⟨r0,r1,r2,r3⟩:=br.at4
 dsimp only [nul] at r0 r1 r2 r3
 simp only [Nat.zero_add] at r1 r2 r3
 have f0:=br.free 0
 have f1:=br.free 1
 have f2:=br.free 2
 have f3:=br.free 3
 have lt1:=br.lt
 have Be:=z0a Bw B2
 go_wp2
 refine bodyPost_ret_by (v:=.tuple #[va 4 rn 0 ⟨#[]⟩,.int .i64 0]) ?_ rfl ⟨rfl,?_⟩
 ·simp [results,Tryz.results83,go_sem,r0,r1,r2,r3]
 ·refine z0a (Be.setCell (p:=⟨w.heap.size+1,0,none⟩) (by dsimp only;omega) (.int .i64 4) |>.setCell (p:=⟨w.heap.size+1,1,none⟩) (by dsimp only;omega) (.int .i64 rn) |>.setCell (p:=⟨w.heap.size+1,2,none⟩) (by dsimp only;omega) (.int .i64 0) |>.setCell (p:=⟨w.heap.size+1,3,none⟩) (by dsimp only;omega) (.string ⟨#[]⟩)) (Grew.below ?_)
  repeat exact gB
theorem qun_not (ak:Int) (an am:Int) (ab:List UInt8) (w:World) (rk rn rm re:Int) (rb:ByteArray) (Ra:z0s 22 #[va ak an am ⟨ab.toArray⟩] w (.bool true)) (F:z0s 115 #[va ak an am ⟨ab.toArray⟩] w (.tuple #[va rk rn rm rb,.int .i64 re])) :
  Calls Tryz.prog 83 #[.int .i64 4,va ak an am ⟨ab.toArray⟩] w fun e w'=>e=.returned (.tuple #[va rk rn rm rb,.int .i64 re])∧Below w.heap.size w w':=by
 obtain ⟨w0,hw0,bxa,bxr,Bw⟩:=z4d w ⟨ak,an,am,ab⟩
 dsimp only at hw0
 have B0:Below w0.heap.size w0 w0:=Below.refl _ _
 go_enter Tryz.func83,Tryz.ntmps83
 go_upto_region 1 with fail
 rw [← hw0]
 clear hw0
 obtain ⟨a0,a1,a2,a3⟩:=bxa.at4
 dsimp only at a0 a1 a2 a3
 go_wp2_with fail
 refine (Ra _ (z0a Bw B0)).mono ?_
 rintro e w1 ⟨rfl,cc⟩
 have B1:=z0a B0 cc
 clear a0 a1 a2 a3 cc
 obtain ⟨a0,a1,a2,a3⟩:=(bxa.later B1).at4
 dsimp only at a0 a1 a2 a3
 go_wp2_with fail
 refine (F _ (z0a Bw B1)).mono ?_
 rintro e w2 ⟨rfl,cc⟩
 have B2:=z0a B1 cc
 clear a0 a1 a2 a3 cc
 obtain ⟨a0,a1,a2,a3⟩:=(bxa.later B2).at4
 dsimp only at a0 a1 a2 a3
 have br:=bxr.later B2
 obtain ⟨r0,r1,r2,r3⟩:=br.at4
 dsimp only [nul] at r0 r1 r2 r3
 simp only [Nat.zero_add] at r1 r2 r3
 have f0:=br.free 0
 have f1:=br.free 1
 have f2:=br.free 2
 have f3:=br.free 3
 have lt1:=br.lt
 have Be:=z0a Bw B2
 go_wp2
 refine bodyPost_ret_by (v:=.tuple #[va rk rn rm rb,.int .i64 re]) ?_ rfl ⟨rfl,?_⟩
 ·simp [results,Tryz.results83,go_sem,r0,r1,r2,r3]
 ·refine z0a (Be.setCell (p:=⟨w.heap.size+1,0,none⟩) (by dsimp only;omega) (.int .i64 rk) |>.setCell (p:=⟨w.heap.size+1,1,none⟩) (by dsimp only;omega) (.int .i64 rn) |>.setCell (p:=⟨w.heap.size+1,2,none⟩) (by dsimp only;omega) (.int .i64 rm) |>.setCell (p:=⟨w.heap.size+1,3,none⟩) (by dsimp only;omega) (.string rb)) (Grew.below ?_)
  repeat exact gB
theorem qun_neg (ak:Int) (an am:Int) (ab:List UInt8) (w:World) (rk rn rm re:Int) (rb:ByteArray) (Ra:z0s 22 #[va ak an am ⟨ab.toArray⟩] w (.bool true)) (F:z0s 116 #[va ak an am ⟨ab.toArray⟩] w (.tuple #[va rk rn rm rb,.int .i64 re])) :
  Calls Tryz.prog 83 #[.int .i64 3,va ak an am ⟨ab.toArray⟩] w fun e w'=>e=.returned (.tuple #[va rk rn rm rb,.int .i64 re])∧Below w.heap.size w w':=by
 obtain ⟨w0,hw0,bxa,bxr,Bw⟩:=z4d w ⟨ak,an,am,ab⟩
 dsimp only at hw0
 have B0:Below w0.heap.size w0 w0:=Below.refl _ _
 go_enter Tryz.func83,Tryz.ntmps83
 go_upto_region 1 with fail
 rw [← hw0]
 clear hw0
 obtain ⟨a0,a1,a2,a3⟩:=bxa.at4
 dsimp only at a0 a1 a2 a3
 go_wp2_with fail
 refine (Ra _ (z0a Bw B0)).mono ?_
 rintro e w1 ⟨rfl,cc⟩
 have B1:=z0a B0 cc
 clear a0 a1 a2 a3 cc
 obtain ⟨a0,a1,a2,a3⟩:=(bxa.later B1).at4
 dsimp only at a0 a1 a2 a3
 go_wp2_with fail
 refine (F _ (z0a Bw B1)).mono ?_
 rintro e w2 ⟨rfl,cc⟩
 have B2:=z0a B1 cc
 clear a0 a1 a2 a3 cc
 obtain ⟨a0,a1,a2,a3⟩:=(bxa.later B2).at4
 dsimp only at a0 a1 a2 a3
 have br:=bxr.later B2
 obtain ⟨r0,r1,r2,r3⟩:=br.at4
 dsimp only [nul] at r0 r1 r2 r3
 simp only [Nat.zero_add] at r1 r2 r3
 have f0:=br.free 0
 have f1:=br.free 1
 have f2:=br.free 2
 have f3:=br.free 3
 have lt1:=br.lt
 have Be:=z0a Bw B2
 go_wp2
 refine bodyPost_ret_by (v:=.tuple #[va rk rn rm rb,.int .i64 re]) ?_ rfl ⟨rfl,?_⟩
 ·simp [results,Tryz.results83,go_sem,r0,r1,r2,r3]
 ·refine z0a (Be.setCell (p:=⟨w.heap.size+1,0,none⟩) (by dsimp only;omega) (.int .i64 rk) |>.setCell (p:=⟨w.heap.size+1,1,none⟩) (by dsimp only;omega) (.int .i64 rn) |>.setCell (p:=⟨w.heap.size+1,2,none⟩) (by dsimp only;omega) (.int .i64 rm) |>.setCell (p:=⟨w.heap.size+1,3,none⟩) (by dsimp only;omega) (.string rb)) (Grew.below ?_)
  repeat exact gB
theorem qun_any (op:Int) (a:Va) (w:World) (hT:Tabs w) (hP:Pw w) (va':vin a) :
  Calls Tryz.prog 83 #[.int .i64 op,vv a] w fun e w'=>e=.returned (rs (unR op a))∧Below w.heap.size w w':=by
 have Ra:z0s 22 #[vv a] w (.bool (vr a)):=fun W h=>z2u a.k a.n a.m ⟨a.b.toArray⟩ W (hT.later h)
 unfold unR
 by_cases o1:op<3
 ·rw [if_pos (by omega)]
  exact qun_low op a.k a.n a.m a.b w o1
 by_cases o2:op > 5
 ·rw [if_pos (by omega)]
  exact qun_high op a.k a.n a.m a.b w o1 o2
 cases hr:vr a
 ·rw [hr] at Ra
  rw [if_pos (by simp)]
  exact qun_bad op a.k a.n a.m a.b w o1 o2 Ra
 rw [hr] at Ra
 rw [if_neg (by simp;omega)]
 by_cases h5:op=5
 ·subst h5
  rw [if_pos rfl]
  exact qun_isnull a.k a.n a.m a.b w _ Ra (fun W _=>(qtruth_any (a.k==0) W).mono fun _ _ h=>⟨h.1,h.2.below⟩)
 rw [if_neg h5]
 by_cases h4:op=4
 ·subst h4
  rw [if_pos rfl]
  exact qun_not a.k a.n a.m a.b w _ _ _ _ _ Ra (fun W _=>(qnot_any a W).mono fun _ _ h=>⟨h.1,h.2.below⟩)
 rw [if_neg h4]
 obtain rfl:op=3:=by omega
 exact qun_neg a.k a.n a.m a.b w _ _ _ _ _ Ra (fun W h=>(qneg_any a W (hP.below h) hr va').mono fun _ _ h=>⟨h.1,h.2.below⟩)
end Go.Proofs.YtljkonkfeiojnaaGreatDoor
