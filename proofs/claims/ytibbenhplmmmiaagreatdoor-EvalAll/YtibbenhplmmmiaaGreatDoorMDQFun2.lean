/-
  Ops of two Texts: eval.ofTexts.
  Truths: eval.ofTruths, notOf.
  eval.Binary, whole: what an op of two comes to.
  A world with some blocks more, whatever has been drawn: out of 'Below', so that its cells read as those of a world that has grown. Nothing of the program is in it.
  Rows of values: eval.allRight, slices.Contains at the value Null.
  eval.called.
  What must come: longstoplaw07.knows; on its road eval.Function at 'length' and one Text.
  eval.negOf: from kind to kind.
  eval.Unary.
  The walk of EvalRight.
  Two good texts joined are a good text. Nothing of the program is in it.
  What an op comes to may be, or is nothing.
  What functions lean on: eval.pointAt, rounded, isFunction.
  eval.apart, firstKnown, size.
-/
import Derived.Test.YtibbenhplmmmiaaGreatDoorMBQNums
import Derived.Test.YtibbenhplmmmiaaGreatDoorMwLByte
import Derived.Test.YtibbenhplmmmiaaGreatDoorQPts
import Derived.Test.YtibbenhplmmmiaaGreatDoorMcDWide3
import Derived.BigRegion
import Derived.Deep.Cut
import Derived.Test.YtibbenhplmmmiaaGreatDoorDNeg
import Derived.Test.YtibbenhplmmmiaaGreatDoorMAHRef4
import Derived.Test.YtibbenhplmmmiaaGreatDoorMvVOrd1
import Derived.Lib.ValidLaws
import Derived.Lib.DecodeN
import Derived.Test.YtibbenhplmmmiaaGreatDoorDResc
set_option maxHeartbeats 4000000
set_option maxRecDepth 20000
namespace Go.Proofs.YtibbenhplmmmiaaGreatDoor
open Go.RowKit Go.Shelf
attribute [local go_sem] z0e z0b z0c z0f z0m z0k z0h z0d z0g
theorem qtxt_cmp (op c:Int) (an am bn bm:Int) (ab bb:List UInt8) (w:World) (e9:(op != 9)=true) (D:z0n 108 #[va 3 an am ⟨ab.toArray⟩,va 3 bn bm ⟨bb.toArray⟩] w (.int .i64 c)) :
  Calls Tryz.prog 106 #[.int .i64 op,va 3 an am ⟨ab.toArray⟩,va 3 bn bm ⟨bb.toArray⟩] w fun e w'=>e=.returned (rs (cmpR op c))∧Below w.heap.size w w':=by
 have HC:=fun W=>z3f op c W
 obtain ⟨w0,hw0,bxa,bxb,bxr,Bw⟩:=z0q w ⟨3,an,am,ab⟩ ⟨3,bn,bm,bb⟩
 dsimp only at hw0
 have B0:Below w0.heap.size w0 w0:=Below.refl _ _
 go_enter Tryz.func106,Tryz.ntmps106
 go_wp2_with fail
 rw [← hw0]
 clear hw0
 obtain ⟨a0,a1,a2,a3⟩:=bxa.at4
 obtain ⟨b0,b1,b2,b3⟩:=bxb.at4
 dsimp only at a0 a1 a2 a3 b0 b1 b2 b3
 go_wp2_with fail
 refine (D _ Bw).mono ?_
 rintro e w1 ⟨rfl,B1⟩
 have br:=bxr.later B1
 obtain ⟨r0,r1,r2,r3⟩:=br.at4
 dsimp only [nul] at r0 r1 r2 r3
 simp only [Nat.zero_add] at r1 r2 r3
 have f0:=br.free 0
 have f1:=br.free 1
 have f2:=br.free 2
 have f3:=br.free 3
 have lt1:=br.lt
 have Be:=z0a Bw B1
 clear D a0 a1 a2 a3 b0 b1 b2 b3 br bxr
 go_wp2_with (go_at_call 107;refine (HC _).mono ?_;rintro e w3 ⟨rfl,os2,n2,rfl⟩)
 refine bodyPost_ret_by (v:=rs (cmpR op c)) ?_ rfl ⟨rfl,?_⟩
 ·simp [results,Tryz.results106,go_sem,r0,r1,r2,r3,lt1]
 ·refine z0a (Be.setCell (p:=⟨w.heap.size+1+1,0,none⟩) (by dsimp only;omega) (.int .i64 (cmpR op c).1.k) |>.setCell (p:=⟨w.heap.size+1+1,1,none⟩) (by dsimp only;omega) (.int .i64 (cmpR op c).1.n) |>.setCell (p:=⟨w.heap.size+1+1,2,none⟩) (by dsimp only;omega) (.int .i64 (cmpR op c).1.m) |>.setCell (p:=⟨w.heap.size+1+1,3,none⟩) (by dsimp only;omega) (.string ⟨(cmpR op c).1.b.toArray⟩)) (Grew.below ?_)
  repeat exact gB
theorem qtxt_over (an am bn bm:Int) (ab bb:List UInt8) (w:World) (ha:ab.length≤256) (hb:bb.length≤256) (ho:256<ab.length+bb.length) :
  Calls Tryz.prog 106 #[.int .i64 9,va 3 an am ⟨ab.toArray⟩,va 3 bn bm ⟨bb.toArray⟩] w fun e w'=>e=.returned (.tuple #[va 0 0 0 ⟨#[]⟩,.int .i64 32])∧Below w.heap.size w w':=by
 have hs:(256:Int)<(ab.length:Int)+(bb.length:Int):=by omega
 have hw:IntKind.i64.wrap ((ab.length:Int)+(bb.length:Int))=(ab.length:Int)+(bb.length:Int):=by rw [IntKind.wrap_i64];omega
 obtain ⟨w0,hw0,bxa,bxb,bxr,Bw⟩:=z0q w ⟨3,an,am,ab⟩ ⟨3,bn,bm,bb⟩
 dsimp only at hw0
 have B0:Below w0.heap.size w0 w0:=Below.refl _ _
 go_enter Tryz.func106,Tryz.ntmps106
 go_wp2_with fail
 rw [← hw0]
 clear hw0
 obtain ⟨a0,a1,a2,a3⟩:=bxa.at4
 obtain ⟨b0,b1,b2,b3⟩:=bxb.at4
 dsimp only at a0 a1 a2 a3 b0 b1 b2 b3
 have br:=bxr.later B0
 obtain ⟨r0,r1,r2,r3⟩:=br.at4
 dsimp only [nul] at r0 r1 r2 r3
 simp only [Nat.zero_add] at r1 r2 r3
 have f0:=br.free 0
 have f1:=br.free 1
 have f2:=br.free 2
 have f3:=br.free 3
 have lt1:=br.lt
 have Be:=z0a Bw B0
 go_wp2
 refine bodyPost_ret_by (v:=.tuple #[va 0 0 0 ⟨#[]⟩,.int .i64 32]) ?_ rfl ⟨rfl,?_⟩
 ·simp [results,Tryz.results106,go_sem,r0,r1,r2,r3]
 ·exact Be
theorem ba_append (x y:List UInt8):(⟨x.toArray⟩:ByteArray)++⟨y.toArray⟩=⟨(x++y).toArray⟩:=by
 apply ByteArray.ext
 simp
theorem qtxt_join (an am bn bm:Int) (ab bb:List UInt8) (w:World) (ho:¬ 256<ab.length+bb.length) :
  Calls Tryz.prog 106 #[.int .i64 9,va 3 an am ⟨ab.toArray⟩,va 3 bn bm ⟨bb.toArray⟩] w fun e w'=>e=.returned (.tuple #[va 3 0 0 ⟨(ab++bb).toArray⟩,.int .i64 0])∧Below w.heap.size w w':=by
 have hs:¬ (256:Int)<(ab.length:Int)+(bb.length:Int):=by omega
 have hw:IntKind.i64.wrap ((ab.length:Int)+(bb.length:Int))=(ab.length:Int)+(bb.length:Int):=by rw [IntKind.wrap_i64];omega
 have C:∀ W,Calls Tryz.prog 116 #[.string (⟨ab.toArray⟩++⟨bb.toArray⟩)] W fun e w'=>e=.returned (.string ⟨(ab++bb).toArray⟩)∧Below W.heap.size W w':=by
  intro W
  rw [ba_append]
  exact clone_any _ W (by show (ab++bb).toArray.size≤_;simp;omega)
 obtain ⟨w0,hw0,bxa,bxb,bxr,Bw⟩:=z0q w ⟨3,an,am,ab⟩ ⟨3,bn,bm,bb⟩
 dsimp only at hw0
 have B0:Below w0.heap.size w0 w0:=Below.refl _ _
 go_enter Tryz.func106,Tryz.ntmps106
 go_wp2_with fail
 rw [← hw0]
 clear hw0
 obtain ⟨a0,a1,a2,a3⟩:=bxa.at4
 obtain ⟨b0,b1,b2,b3⟩:=bxb.at4
 dsimp only at a0 a1 a2 a3 b0 b1 b2 b3
 go_wp2_with fail
 refine (C _).mono ?_
 rintro e w1 ⟨rfl,B1⟩
 have br:=bxr.later B1
 obtain ⟨r0,r1,r2,r3⟩:=br.at4
 dsimp only [nul] at r0 r1 r2 r3
 simp only [Nat.zero_add] at r1 r2 r3
 have f0:=br.free 0
 have f1:=br.free 1
 have f2:=br.free 2
 have f3:=br.free 3
 have lt1:=br.lt
 have Be:=z0a Bw B1
 clear C a0 a1 a2 a3 b0 b1 b2 b3 br bxr
 go_wp2
 refine bodyPost_ret_by (v:=.tuple #[va 3 0 0 ⟨(ab++bb).toArray⟩,.int .i64 0]) ?_ rfl ⟨rfl,?_⟩
 ·simp [results,Tryz.results106,go_sem,r0,r1,r2,r3]
 ·refine z0a (Be.setCell (p:=⟨w.heap.size+1+1,0,none⟩) (by dsimp only;omega) (.int .i64 3) |>.setCell (p:=⟨w.heap.size+1+1,1,none⟩) (by dsimp only;omega) (.int .i64 0) |>.setCell (p:=⟨w.heap.size+1+1,2,none⟩) (by dsimp only;omega) (.int .i64 0) |>.setCell (p:=⟨w.heap.size+1+1,3,none⟩) (by dsimp only;omega) (.string ⟨(ab++bb).toArray⟩)) (Grew.below ?_)
  repeat exact gB
theorem vof_vO (t:Int):vof t=vv (vO t):=by unfold vof vO;split <;> rfl
theorem qof_any (t:Int) (w:World):Calls Tryz.prog 72 #[.int .i64 t] w fun e w'=>e=.returned (vv (vO t))∧Grew w w':=by rw [← vof_vO];exact of_any t w
theorem qtr_ff (op ak an am bk bn bm t u:Int) (ab bb:ByteArray) (w:World) (y0:Bool) (Ta:∀ W,Calls Tryz.prog 69 #[va ak an am ab] W fun e w'=>e=.returned (.tuple #[.int .i64 t,.bool false])∧Grew W w') (Tb:∀ W,Calls Tryz.prog 69 #[va bk bn bm bb] W fun e w'=>e=.returned (.tuple #[.int .i64 u,.bool y0])∧Grew W w') :
  Calls Tryz.prog 100 #[.int .i64 op,va ak an am ab,va bk bn bm bb] w fun e w'=>e=.returned (.tuple #[va 0 0 0 ⟨#[]⟩,.int .i64 31])∧Grew w w':=by
 go_enter Tryz.func100,Tryz.ntmps100
 go_wp2_with fail
 refine (Ta _).mono ?_
 rintro e w1 ⟨rfl,os1,n1,rfl⟩
 go_wp2_with fail
 refine (Tb _).mono ?_
 rintro e w2 ⟨rfl,os2,n2,rfl⟩
 go_wp2
 all_goals refine bodyPost_ret_by (v:=.tuple #[va 0 0 0 ⟨#[]⟩,.int .i64 31]) ?_ rfl ⟨rfl,gB⟩
 all_goals simp [results,Tryz.results100,go_sem]
theorem qtr_tf (op ak an am bk bn bm t u:Int) (ab bb:ByteArray) (w:World)  (Ta:∀ W,Calls Tryz.prog 69 #[va ak an am ab] W fun e w'=>e=.returned (.tuple #[.int .i64 t,.bool true])∧Grew W w') (Tb:∀ W,Calls Tryz.prog 69 #[va bk bn bm bb] W fun e w'=>e=.returned (.tuple #[.int .i64 u,.bool false])∧Grew W w') :
  Calls Tryz.prog 100 #[.int .i64 op,va ak an am ab,va bk bn bm bb] w fun e w'=>e=.returned (.tuple #[va 0 0 0 ⟨#[]⟩,.int .i64 31])∧Grew w w':=by
 go_enter Tryz.func100,Tryz.ntmps100
 go_wp2_with fail
 refine (Ta _).mono ?_
 rintro e w1 ⟨rfl,os1,n1,rfl⟩
 go_wp2_with fail
 refine (Tb _).mono ?_
 rintro e w2 ⟨rfl,os2,n2,rfl⟩
 go_wp2
 all_goals refine bodyPost_ret_by (v:=.tuple #[va 0 0 0 ⟨#[]⟩,.int .i64 31]) ?_ rfl ⟨rfl,gB⟩
 all_goals simp [results,Tryz.results100,go_sem]
theorem qtr_and (ak an am bk bn bm t u:Int) (ab bb:ByteArray) (w:World)  (Ta:∀ W,Calls Tryz.prog 69 #[va ak an am ab] W fun e w'=>e=.returned (.tuple #[.int .i64 t,.bool true])∧Grew W w') (Tb:∀ W,Calls Tryz.prog 69 #[va bk bn bm bb] W fun e w'=>e=.returned (.tuple #[.int .i64 u,.bool true])∧Grew W w') :
  Calls Tryz.prog 100 #[.int .i64 17,va ak an am ab,va bk bn bm bb] w fun e w'=>e=.returned (rs (vO (tand t u),0))∧Grew w w':=by
 have C:=fun W=>and_any t u W
 have O:=fun W=>qof_any (tand t u) W
 go_enter Tryz.func100,Tryz.ntmps100
 go_wp2_with fail
 refine (Ta _).mono ?_
 rintro e w1 ⟨rfl,os1,n1,rfl⟩
 go_wp2_with fail
 refine (Tb _).mono ?_
 rintro e w2 ⟨rfl,os2,n2,rfl⟩
 go_wp2_with (first
  | (go_at_call 43;refine (C _).mono ?_;rintro e w3 ⟨rfl,rfl⟩)
  | (go_at_call 72;refine (O _).mono ?_;rintro e w3 ⟨rfl,os3,n3,rfl⟩))
 refine bodyPost_ret_by (v:=rs (vO (tand t u),0)) ?_ rfl ⟨rfl,gB⟩
 simp [results,Tryz.results100,go_sem]
theorem qtr_or (op ak an am bk bn bm t u:Int) (ab bb:ByteArray) (w:World) (e17:(op==17)=false) (Ta:∀ W,Calls Tryz.prog 69 #[va ak an am ab] W fun e w'=>e=.returned (.tuple #[.int .i64 t,.bool true])∧Grew W w') (Tb:∀ W,Calls Tryz.prog 69 #[va bk bn bm bb] W fun e w'=>e=.returned (.tuple #[.int .i64 u,.bool true])∧Grew W w') :
  Calls Tryz.prog 100 #[.int .i64 op,va ak an am ab,va bk bn bm bb] w fun e w'=>e=.returned (rs (vO (tor t u),0))∧Grew w w':=by
 have C:=fun W=>or_any t u W
 have O:=fun W=>qof_any (tor t u) W
 go_enter Tryz.func100,Tryz.ntmps100
 go_wp2_with fail
 refine (Ta _).mono ?_
 rintro e w1 ⟨rfl,os1,n1,rfl⟩
 go_wp2_with fail
 refine (Tb _).mono ?_
 rintro e w2 ⟨rfl,os2,n2,rfl⟩
 go_wp2_with (first
  | (go_at_call 44;refine (C _).mono ?_;rintro e w3 ⟨rfl,rfl⟩)
  | (go_at_call 72;refine (O _).mono ?_;rintro e w3 ⟨rfl,os3,n3,rfl⟩))
 refine bodyPost_ret_by (v:=rs (vO (tor t u),0)) ?_ rfl ⟨rfl,gB⟩
 simp [results,Tryz.results100,go_sem]
theorem qtru_any (op:Int) (a b:Va) (w:World):Calls Tryz.prog 100 #[.int .i64 op,vv a,vv b] w fun e w'=>e=.returned (rs (truR op a b))∧Grew w w':=by
 have A:=fun W=>z7x a.k a.n a.m ⟨a.b.toArray⟩ W
 have B:=fun W=>z7x b.k b.n b.m ⟨b.b.toArray⟩ W
 unfold truR
 cases ha:tB a
 ·rw [if_neg (by simp)]
  rw [show truB a.k a.n a.m ⟨a.b.toArray⟩=false from ha] at A
  exact qtr_ff op _ _ _ _ _ _ _ _ _ _ w _ A B
 ·rw [show truB a.k a.n a.m ⟨a.b.toArray⟩=true from ha] at A
  cases hb:tB b
  ·rw [if_neg (by simp)]
   rw [show truB b.k b.n b.m ⟨b.b.toArray⟩=false from hb] at B
   exact qtr_tf op _ _ _ _ _ _ _ _ _ _ w A B
  ·rw [if_pos (by rfl)]
   rw [show truB b.k b.n b.m ⟨b.b.toArray⟩=true from hb] at B
   by_cases h:op=17
   ·subst h
    rw [if_pos rfl]
    exact qtr_and _ _ _ _ _ _ _ _ _ _ w A B
   ·rw [if_neg h]
    exact qtr_or op _ _ _ _ _ _ _ _ _ _ w (by simpa using h) A B
theorem qnot_any (a:Va) (w:World):Calls Tryz.prog 184 #[vv a] w fun e w'=>e=.returned (rs (notR a))∧Grew w w':=by
 have A:=fun W=>z7x a.k a.n a.m ⟨a.b.toArray⟩ W
 unfold notR
 cases ha:tB a
 ·rw [if_neg (by simp)]
  rw [show truB a.k a.n a.m ⟨a.b.toArray⟩=false from ha] at A
  generalize truN a.k a.n a.m ⟨a.b.toArray⟩=t at *
  go_enter Tryz.func184,Tryz.ntmps184
  go_wp2_with (go_at_call 69;refine (A _).mono ?_;rintro e w1 ⟨rfl,os1,n1,rfl⟩)
  refine bodyPost_ret_by (v:=rs (nul,31)) ?_ rfl ⟨rfl,gB⟩
  simp [results,Tryz.results184,go_sem,nul]
 ·rw [if_pos rfl]
  rw [show truB a.k a.n a.m ⟨a.b.toArray⟩=true from ha] at A
  unfold tN
  generalize truN a.k a.n a.m ⟨a.b.toArray⟩=t at *
  have C:=fun W=>not_any t W
  have O:=fun W=>qof_any (tnot t) W
  go_enter Tryz.func184,Tryz.ntmps184
  go_wp2_with (first
   | (go_at_call 69;refine (A _).mono ?_;rintro e w1 ⟨rfl,os1,n1,rfl⟩)
   | (go_at_call 45;refine (C _).mono ?_;rintro e w3 ⟨rfl,rfl⟩)
   | (go_at_call 72;refine (O _).mono ?_;rintro e w3 ⟨rfl,os3,n3,rfl⟩))
  refine bodyPost_ret_by (v:=rs (vO (tnot t),0)) ?_ rfl ⟨rfl,gB⟩
  simp [results,Tryz.results184,go_sem]
end Go.Proofs.YtibbenhplmmmiaaGreatDoor

namespace Go.Proofs.YtibbenhplmmmiaaGreatDoor
open Go.RowKit Go.Shelf
theorem z8f (a b:Va) (w:World) (hT:Tabs w) (hP:Pw w) (va:vin a) (vb:vin b):z0n 108 #[vv a,vv b] w (.int .i64 (pcmp a b)) :=
 fun W h=>compare_any a b W (hT.later h) (hP.below h) va vb
theorem qcompared_tells (op c:Int) (w:World):z0n 107 #[.int .i64 op,.int .i64 c] w (rs (cmpR op c)) :=
 fun W _=>(z3f op c W).mono fun _ _ h=>⟨h.1,h.2.below⟩
theorem qpts_any (op n m n' m':Int) (b b':List UInt8) (w:World) (hT:Tabs w) (hP:Pw w) (ha:Ga.ok2 n m=true) (hb:Ga.ok2 n' m'=true) :
  Calls Tryz.prog 105 #[.int .i64 op,vv ⟨5,n,m,b⟩,vv ⟨5,n',m',b'⟩] w fun e w'=>e=.returned (rs (ptsR op ⟨5,n,m,b⟩ ⟨5,n',m',b'⟩))∧Below w.heap.size w w':=by
 have ia:=(Ga.ok2_iff n m).1 ha
 have ib:=(Ga.ok2_iff n' m').1 hb
 have D:=z8f ⟨5,n,m,b⟩ ⟨5,n',m',b'⟩ w hT hP ⟨⟨by simp only;omega,by simp only;omega⟩,⟨by simp only;omega,by simp only;omega⟩⟩ ⟨⟨by simp only;omega,by simp only;omega⟩,⟨by simp only;omega,by simp only;omega⟩⟩
 by_cases hz:n'=0∧m'=0
 ·obtain ⟨rfl,rfl⟩:=hz
  refine qpts_walk op n m 0 0 _ _ _ _ _ _ _ _ _ _ _ _ _ _ _ b b' w (fun W=>Ga.add_good n m 0 0 W ha hb) (fun W=>Ga.sub_good n m 0 0 W ha hb) (fun W=>Ga.mul_good n m 0 0 W ha hb) (fun W=>Ga.div_zero n m W ha) D _ ?_
  show ptsR op _ _=_
  unfold ptsR ptR
  simp only [and_self,if_true]
  rfl
 ·have hn:=Ga.norm_pos hz
  refine qpts_walk op n m n' m' _ _ _ _ _ _ _ _ _ _ _ _ _ _ _ b b' w (fun W=>Ga.add_good n m n' m' W ha hb) (fun W=>Ga.sub_good n m n' m' W ha hb) (fun W=>Ga.mul_good n m n' m' W ha hb) (fun W=>Ga.div_good n m n' m' W ha hb hn) D _ ?_
  show ptsR op _ _=_
  unfold ptsR ptR
  rw [if_neg hz,if_neg hz]
  rfl
theorem qtxt_any (op:Int) (b b':List UInt8) (w:World) (hT:Tabs w) (hP:Pw w) (h1:b.length≤256) (h2:b'.length≤256) :
  Calls Tryz.prog 106 #[.int .i64 op,vv ⟨3,0,0,b⟩,vv ⟨3,0,0,b'⟩] w fun e w'=>e=.returned (rs (txtR op ⟨3,0,0,b⟩ ⟨3,0,0,b'⟩))∧Below w.heap.size w w':=by
 unfold txtR
 by_cases h:op=9
 ·subst h
  rw [if_pos rfl]
  by_cases ho:256<b.length+b'.length
  ·rw [if_pos ho]
   exact qtxt_over 0 0 0 0 b b' w h1 h2 ho
  ·rw [if_neg ho]
   exact qtxt_join 0 0 0 0 b b' w ho
 ·rw [if_neg h]
  exact qtxt_cmp op _ 0 0 0 0 b b' w (by simpa using h) (z8f ⟨3,0,0,b⟩ ⟨3,0,0,b'⟩ w hT hP ⟨⟨(by show (-9223372036854775808:Int)≤0;decide),(by show (0:Int)≤9223372036854775807;decide)⟩,⟨(by show (-9223372036854775808:Int)≤0;decide),(by show (0:Int)≤9223372036854775807;decide)⟩⟩ ⟨⟨(by show (-9223372036854775808:Int)≤0;decide),(by show (0:Int)≤9223372036854775807;decide)⟩,⟨(by show (-9223372036854775808:Int)≤0;decide),(by show (0:Int)≤9223372036854775807;decide)⟩⟩)
theorem qnum_tells (a:Va) (b:Bool) (h:(a.k==1 || a.k==2)=b) (w:World):z0n 102 #[vv a] w (.bool b):=by
 subst h
 exact fun W _=>(z2g a.k a.n a.m ⟨a.b.toArray⟩ W).mono fun _ _ h=>⟨h.1,h.2.below⟩
theorem qbin_any (op:Int) (a b:Va) (w:World) (hT:Tabs w) (hP:Pw w) (ia:vin a) (ib:vin b) :
  Calls Tryz.prog 56 #[.int .i64 op,vv a,vv b] w fun e w'=>e=.returned (rs (binR op a b))∧Below w.heap.size w w':=by
 have Ra:z0n 34 #[vv a] w (.bool (vr a)):=fun W h=>z3s a.k a.n a.m ⟨a.b.toArray⟩ W (hT.later h)
 have Rb:z0n 34 #[vv b] w (.bool (vr b)):=fun W h=>z3s b.k b.n b.m ⟨b.b.toArray⟩ W (hT.later h)
 unfold binR
 by_cases o1:op<6
 ·rw [if_pos (by omega)]
  exact qbin_low op a.k b.k a.n a.m b.n b.m a.b b.b w o1
 by_cases o2:op > 18
 ·rw [if_pos (by omega)]
  exact qbin_high op a.k b.k a.n a.m b.n b.m a.b b.b w o1 o2
 cases ha:vr a
 ·rw [ha] at Ra
  rw [if_pos (by simp)]
  exact qbin_badA op a.k b.k a.n a.m b.n b.m a.b b.b w o1 o2 Ra
 rw [ha] at Ra
 cases hb:vr b
 ·rw [hb] at Rb
  rw [if_pos (by simp)]
  exact qbin_badB op a.k b.k a.n a.m b.n b.m a.b b.b w o1 o2 Ra Rb
 rw [hb] at Rb
 rw [if_neg (by simp;omega)]
 by_cases h17:op=17
 ·subst h17
  rw [if_pos (.inl rfl)]
  exact qbin_t17 a.k b.k a.n a.m b.n b.m a.b b.b w _ _ _ _ _ Ra Rb (fun W _=>(qtru_any 17 a b W).mono fun _ _ h=>⟨h.1,h.2.below⟩)
 by_cases h18:op=18
 ·subst h18
  rw [if_pos (.inr rfl)]
  exact qbin_t18 a.k b.k a.n a.m b.n b.m a.b b.b w _ _ _ _ _ Ra Rb (fun W _=>(qtru_any 18 a b W).mono fun _ _ h=>⟨h.1,h.2.below⟩)
 rw [if_neg (by omega)]
 have e17:(op != 17)=true:=by simpa using h17
 have e18:(op != 18)=true:=by simpa using h18
 have va':=(z2f a).1 ha
 have vb':=(z2f b).1 hb
 obtain ⟨ak,an,am,ab⟩:=a
 obtain ⟨bk,bn,bm,bb⟩:=b
 simp only [vok] at va' vb'
 obtain ⟨⟨ia0,ia1⟩,-⟩:=id ia
 obtain ⟨⟨ib0,ib1⟩,-⟩:=id ib
 simp only at ia0 ia1 ib0 ib1
 simp only [isn]
 by_cases a0:ak=0
 ·subst a0
  rw [if_pos (.inl rfl)]
  exact qbin_nullA op bk an am bn bm ab bb w o1 o2 e17 e18 Ra Rb
 have ea:(ak != 0)=true:=by simpa using a0
 by_cases b0:bk=0
 ·subst b0
  rw [if_pos (.inr rfl)]
  exact qbin_nullB op ak an am bn bm ab bb w o1 o2 e17 e18 ea Ra Rb
 have eb:(bk != 0)=true:=by simpa using b0
 rw [if_neg (by omega)]
 have NT:=fun (k n m:Int) (l:List UInt8) (v:Bool) (h:(k==1 || k==2)=v)=>qnum_tells ⟨k,n,m,l⟩ v h w
 rcases (by omega:ak=1∨ak=2∨ak=3∨ak=4∨ak=5) with rfl|rfl|rfl|rfl|rfl
 ·by_cases h1:bk=1
  ·subst h1
   rw [if_pos ⟨rfl,rfl⟩]
   exact qbin_ints op an am bn bm ab bb w _ _ _ _ _ o1 o2 e17 e18 Ra Rb (fun W h=>(qints_any op an bn W (hP.below h) ia0 ia1 ib0 ib1).mono fun _ _ h=>⟨h.1,h.2.below⟩)
  by_cases h2:bk=2
  ·subst h2
   rw [if_neg (by omega),if_pos (by omega)]
   exact qbin_n12 op an am bn bm ab bb w _ _ _ _ _ o1 o2 e17 e18 Ra Rb (NT 1 an am ab true rfl) (NT 2 bn bm bb true rfl) (fun W h=>qnums_any op ⟨1,an,am,ab⟩ ⟨2,bn,bm,bb⟩ W (hP.below h) (by simp only;omega) (by simp only;omega) ia ib)
  ·rw [if_neg (by omega),if_neg (by omega),if_neg (by omega),if_neg (by omega),if_neg (by omega)]
   exact qbin_o1 op bk an am bn bm ab bb w o1 o2 e17 e18 eb (by simpa using h1) Ra Rb (NT 1 an am ab true rfl) (NT bk bn bm bb false (by simp [h1,h2]))
 ·by_cases h1:bk=1
  ·subst h1
   rw [if_neg (by omega),if_pos (by omega)]
   exact qbin_n21 op an am bn bm ab bb w _ _ _ _ _ o1 o2 e17 e18 Ra Rb (NT 2 an am ab true rfl) (NT 1 bn bm bb true rfl) (fun W h=>qnums_any op ⟨2,an,am,ab⟩ ⟨1,bn,bm,bb⟩ W (hP.below h) (by simp only;omega) (by simp only;omega) ia ib)
  by_cases h2:bk=2
  ·subst h2
   rw [if_neg (by omega),if_pos (by omega)]
   exact qbin_n22 op an am bn bm ab bb w _ _ _ _ _ o1 o2 e17 e18 Ra Rb (NT 2 an am ab true rfl) (NT 2 bn bm bb true rfl) (fun W h=>qnums_any op ⟨2,an,am,ab⟩ ⟨2,bn,bm,bb⟩ W (hP.below h) (by simp only;omega) (by simp only;omega) ia ib)
  ·rw [if_neg (by omega),if_neg (by omega),if_neg (by omega),if_neg (by omega),if_neg (by omega)]
   exact qbin_o2 op bk an am bn bm ab bb w o1 o2 e17 e18 eb Ra Rb (NT 2 an am ab true rfl) (NT bk bn bm bb false (by simp [h1,h2]))
 ·by_cases h3:bk=3
  ·subst h3
   rw [if_neg (by omega),if_neg (by omega),if_neg (by omega),if_pos ⟨rfl,rfl⟩]
   obtain ⟨rfl,rfl,la⟩:an=0∧am=0∧ab.length≤256:=by rcases va' with h|h|h|h|h|h <;> first|omega|exact ⟨h.2.1,h.2.2.1,h.2.2.2.1⟩
   obtain ⟨rfl,rfl,lb⟩:bn=0∧bm=0∧bb.length≤256:=by rcases vb' with h|h|h|h|h|h <;> first|omega|exact ⟨h.2.1,h.2.2.1,h.2.2.2.1⟩
   exact qbin_txt op 0 0 0 0 ab bb w _ _ _ _ _ o1 o2 e17 e18 Ra Rb (NT 3 0 0 ab false rfl) (fun W h=>qtxt_any op ab bb W (hT.later h) (hP.below h) la lb)
  ·rw [if_neg (by omega),if_neg (by omega),if_neg (by omega),if_neg (by omega),if_neg (by omega)]
   exact qbin_o3 op bk an am bn bm ab bb w o1 o2 e17 e18 eb (by simpa using h3) Ra Rb (NT 3 an am ab false rfl)
 ·by_cases h4:bk=4
  ·subst h4
   rw [if_neg (by omega),if_neg (by omega),if_neg (by omega),if_neg (by omega),if_pos ⟨rfl,rfl⟩]
   exact qbin_bools op an am bn bm ab bb w _ _ _ _ _ _ o1 o2 e17 e18 Ra Rb (NT 4 an am ab false rfl) (z8f ⟨4,an,am,ab⟩ ⟨4,bn,bm,bb⟩ w hT hP ia ib) (qcompared_tells op _ w)
  ·rw [if_neg (by omega),if_neg (by omega),if_neg (by omega),if_neg (by omega),if_neg (by omega)]
   exact qbin_o4 op bk an am bn bm ab bb w o1 o2 e17 e18 eb (by simpa using h4) Ra Rb (NT 4 an am ab false rfl)
 ·by_cases h5:bk=5
  ·subst h5
   rw [if_neg (by omega),if_neg (by omega),if_pos ⟨rfl,rfl⟩]
   have pa:Ga.ok2 an am=true:=(Ga.ok2_iff an am).2 (by omega)
   have pb:Ga.ok2 bn bm=true:=(Ga.ok2_iff bn bm).2 (by omega)
   exact qbin_pts op an am bn bm ab bb w _ _ _ _ _ o1 o2 e17 e18 Ra Rb (NT 5 an am ab false rfl) (fun W h=>qpts_any op an am bn bm ab bb W (hT.later h) (hP.below h) pa pb)
  ·rw [if_neg (by omega),if_neg (by omega),if_neg (by omega),if_neg (by omega),if_neg (by omega)]
   exact qbin_o5 op bk an am bn bm ab bb w o1 o2 e17 e18 eb (by simpa using h5) Ra Rb (NT 5 an am ab false rfl)
end Go.Proofs.YtibbenhplmmmiaaGreatDoor

namespace Go.Proofs.YtibbenhplmmmiaaGreatDoor
open Go.RowKit
def drawTo (w:World) (d:Nat):World:={ w with drawn:=d }
theorem z1r (w:World) (d:Nat) (a:Addr):(drawTo w d).cell? a=w.cell? a:=rfl
theorem z1e (w:World) (d:Nat) (a:Addr):(drawTo w d).frozen? a=w.frozen? a:=rfl
theorem z1x (w:World) (d:Nat):(drawTo w d).heap=w.heap:=rfl
theorem z1d (w:World) (d:Nat) (a:Addr) (v:Value):(drawTo w d).setCell a v=drawTo (w.setCell a v) d:=by
 unfold World.setCell drawTo
 split <;> rfl
theorem z1q (w:World) (d:Nat) (o:Obj):(drawTo w d).alloc o=drawTo (w.alloc o) d:=rfl
theorem z1s (w:World) (d n:Nat):(drawTo w d).drewN n=drawTo w (d+n):=rfl
theorem z1z (w:World) (d:Nat):(drawTo w d).drew=drawTo w (d+1):=rfl
theorem z1p (w:World) (d n:Nat):drawTo (w.drewN n) d=drawTo w d:=rfl
theorem z1y (w:World) (d:Nat):drawTo w.drew d=drawTo w d:=rfl
theorem z1k (w:World) (d n:Nat):drawTo (drawTo w d) n=drawTo w n:=rfl
theorem z1u (os:List Obj) (d:Nat):∀ w:World,more (drawTo w d) os=drawTo (more w os) d:=by
 induction os with
 | nil=>intro w;rfl
 | cons p a ih=>intro w;exact ih (w.alloc p)
theorem more_heap (os:List Obj):∀ w:World,(more w os).heap=w.heap++os.toArray:=by
 induction os with
 | nil=>intro w;simp [more]
 | cons p a ih =>
  intro w
  show (more (w.alloc p) a).heap=_
  rw [ih,World.alloc]
  simp
theorem more_rest (os:List Obj):∀ w:World,(more w os).tape=w.tape∧(more w os).os=w.os∧(more w os).output=w.output:=by
 induction os with
 | nil=>intro w;exact ⟨rfl,rfl,rfl⟩
 | cons p a ih=>intro w;exact ih (w.alloc p)
theorem wide {w w':World} (h:Below w.heap.size w w'):∃ (os:List Obj) (d:Nat),w'=drawTo (more w os) d:=by
 refine ⟨w'.heap.toList.drop w.heap.size,w'.drawn,?_⟩
 have e1:w'.heap=(more w (w'.heap.toList.drop w.heap.size)).heap:=by
  rw [more_heap]
  apply Array.ext'
  have:w.heap.toList=w'.heap.toList.take w.heap.size:=by
   apply List.ext_getElem?
   intro i
   rw [List.getElem?_take]
   by_cases hi:i<w.heap.size
   ·rw [if_pos hi]
    have:=h.block i hi
    simpa using this.symm
   ·rw [if_neg hi]
    simp
    omega
  simp only [Array.toList_append]
  rw [this,List.take_append_drop]
 obtain ⟨t,o,p⟩:=more_rest (w'.heap.toList.drop w.heap.size) w
 generalize more w (w'.heap.toList.drop w.heap.size)=m at *
 obtain ⟨h',t',d',o',p'⟩:=w'
 obtain ⟨hm,tm,dm,om,pm⟩:=m
 simp only [drawTo,World.mk.injEq] at *
 exact ⟨e1,h.tape.trans t.symm,trivial,h.os.trans o.symm,h.output.trans p.symm⟩
def z0z (w w':World):Prop:=∃ (os:List Obj) (d:Nat),w'=drawTo (more w os) d
theorem z0z.refl (w:World):z0z w w:=⟨[],w.drawn,rfl⟩
theorem z0z.alloc {a w:World} (h:z0z a w) (o:Obj):z0z a (w.alloc o):=by
 obtain ⟨os,n,rfl⟩:=h
 exact ⟨os++[o],n,by rw [more_snoc];rfl⟩
theorem z0z.drawTo {a w:World} (h:z0z a w) (m:Nat):z0z a (drawTo w m):=by
 obtain ⟨os,n,rfl⟩:=h
 exact ⟨os,m,rfl⟩
theorem z0z.drewN {a w:World} (h:z0z a w) (m:Nat):z0z a (w.drewN m):=by
 obtain ⟨os,n,rfl⟩:=h
 exact ⟨os,n+m,rfl⟩
theorem z0z.drew {a w:World} (h:z0z a w):z0z a w.drew:=h.drewN 1
theorem z0z.trans {a b c:World} (h:z0z a b) (k:z0z b c):z0z a c:=by
 obtain ⟨os,n,rfl⟩:=h
 obtain ⟨ps,m,rfl⟩:=k
 exact ⟨os++ps,m,by rw [z1u,z0m];rfl⟩
theorem z0z.more {a w:World} (h:z0z a w) (os:List Obj):z0z a (more w os):=h.trans ⟨os,(Proofs.YtibbenhplmmmiaaGreatDoor.more w os).drawn,rfl⟩
theorem z0z.below {w w':World} (h:z0z w w'):Below w.heap.size w w':=by
 obtain ⟨os,n,rfl⟩:=h
 have:=more_below os w w _ (Below.refl _ _) (Nat.le_refl _)
 exact ⟨this.os,this.tape,this.output,this.size,this.block⟩
theorem gC {p:Prop} (h:p:=by repeat (first|assumption|exact z0z.refl _|apply z0z.drew|apply z0z.drewN|apply z0z.alloc|apply z0z.more|apply z0z.drawTo)):p:=h
end Go.Proofs.YtibbenhplmmmiaaGreatDoor

namespace Go.Proofs.YtibbenhplmmmiaaGreatDoor
open Go.RowKit Go.Shelf
attribute [local go_sem] z0e z0b z0c z0f z0m z0k z0h z0d z0g
theorem z9v (ao:Option Addr) (cap:Nat) (l:List Va) (w:World) (hT:Tabs w) (hv:Vs w ao l) (hl:l.length≤9223372036854775807) :
  Calls Tryz.prog 60 #[.slice ao l.length cap] w fun e w'=>e=.returned (.bool (l.all vr))∧Below w.heap.size w w':=by
 obtain ⟨E,hE⟩:∃ E,E=l.all vr:=⟨_,rfl⟩
 rw [← hE]
 have HE:Hid (E=l.all vr):=hE
 obtain ⟨n,hn⟩:∃ n,l.length=n:=⟨_,rfl⟩
 rw [hn] at hl ⊢
 have HN:Hid (l.length=n):=hn
 clear hE hn
 go_enter Tryz.func60,Tryz.ntmps60
 go_wp2
 go_loopw [7] (fun r wr=>∃ k:Nat,r=.int .i64 (k:Int)∧k≤n∧Below w.heap.size w wr∧Hid (∀ i (h:i<l.length),i<k→vr l[i]=true)) (fun r _=>n - (intOf r).toNat)
 case atStart=>exact ⟨0,rfl,Nat.zero_le _,Below.refl _ _,fun i _ h=>by omega⟩
 case round =>
  obtain ⟨k,rfl,hk,hB,hA⟩:=hrel
  have sB:=hB.size
  by_cases hlt:k<n
  ·have hlt':(k:Int)<(n:Int):=by omega
   have hkl:k<l.length:=by rw [HN.out];exact hlt
   obtain ⟨b,off,rfl,hc⟩:=hv (by omega)
   obtain ⟨c0,c1,c2,c3⟩:=((hc k (by omega)).later hB)
   have hg:=(hc k (by omega)).lt
   have hg':b<wr.heap.size:=by omega
   have hT':=hT.later hB
   have R:∀ W,Grew wr W→Calls Tryz.prog 34 #[vv l[k]] W fun e w'=>e=.returned (.bool (vr l[k]))∧Below W.heap.size W w':=fun W h=>z3s _ _ _ _ W (hT'.later h.below)
   obtain ⟨⟨vk,vn,vm,vb⟩,he⟩:∃ v:Va,v=l[k]:=⟨_,rfl⟩
   rw [← he] at c0 c1 c2 c3 R
   have HV:Hid (Va.mk vk vn vm vb=l[k]):=he
   clear hc hT' hT he
   cases hvr:vr ⟨vk,vn,vm,vb⟩
   ·rw [hvr] at R
    go_wp2_with (go_at_call 34;refine (R _ gA).mono ?_;rintro e w2 ⟨rfl,hb2⟩)
    go_ret
    have hall:(l.all vr)=false:=by
     rw [List.all_eq_false]
     exact ⟨l[k]'(by have:=HN.out;omega),List.getElem_mem _,by rw [← HV.out,hvr];simp⟩
    refine ⟨by rw [HE.out,hall];rfl,?_⟩
    exact hB.trans ((Below.mono (z0a (Grew.below gA) hb2)) sB)
   ·rw [hvr] at R
    go_wp2_with (go_at_call 34;refine (R _ gA).mono ?_;rintro e w2 ⟨rfl,hb2⟩)
    go_roundw
    case rel =>
     refine ⟨k+1,by go_num,by omega,hB.trans ((Below.mono (z0a (Grew.below gA) hb2)) sB),fun i hi hik=>?_⟩
     by_cases h:i<k
     ·exact hA.out i hi h
     ·have:i=k:=by omega
      subst this
      rw [← HV.out,hvr]
    case measure=>simp [intOf];omega
  ·have hlt':¬ (k:Int)<(n:Int):=by omega
   go_wp2
   go_ret
   have hall:(l.all vr)=true:=by
    rw [List.all_eq_true]
    intro v hv'
    obtain ⟨i,hi,rfl⟩:=List.getElem_of_mem hv'
    exact hA.out i hi (by have:=HN.out;omega)
   exact ⟨by rw [HE.out,hall];rfl,hB⟩
def zq (x:Va):Bool:=eqv 0 0 0 ⟨#[]⟩ x.k x.n x.m ⟨x.b.toArray⟩
theorem cstq (k:Nat):((k+1:Nat):Int)=(k:Int)+1:=by omega
theorem qidx_any (ao:Option Addr) (cap:Nat) (l:List Va) (w:World) (hv:Vs w ao l) (hn:l.length≤140737488351232) :
  Calls Tryz.prog 177 #[.slice ao l.length cap,va 0 0 0 ⟨#[]⟩] w fun e w'=>(∃ i:Int,e=.returned (.int .i64 i)∧decide (0≤i)=l.any zq)∧Below w.heap.size w w':=by
 obtain ⟨R,hR⟩:∃ R,R=l.any zq:=⟨_,rfl⟩
 rw [← hR]
 have HR:Hid (R=(l.drop 0).any zq):=hR
 clear hR
 obtain ⟨n,hnn⟩:∃ n,l.length=n:=⟨_,rfl⟩
 rw [hnn] at hn ⊢
 have HN:Hid (l.length=n):=hnn
 clear hnn
 go_enter Tryz.func177,Tryz.ntmps177
 go_wp2
 go_loopw [8] (fun r wr=>∃ k:Nat,r=.int .i64 (k:Int)∧k≤n∧Box wr w.heap.size nul∧Below w.heap.size w wr∧Hid (R=(l.drop k).any zq)) (fun r _=>n - (intOf r).toNat)
 case atStart=>exact ⟨0,rfl,Nat.zero_le _,Box.new w 0 0 0 [],(Below.refl _ w).alloc (Nat.le_refl _) _,HR⟩
 case round =>
  obtain ⟨k,rfl,hk,hc,hb,hH⟩:=hrel
  have sB:=hb.size
  by_cases hlt:k<n
  ·have hlt':(k:Int)<(n:Int):=by omega
   have k0:(0:Int)≤(k:Int):=by omega
   have hkl:k<l.length:=by rw [HN.out];exact hlt
   obtain ⟨b,off,rfl,hcl⟩:=hv (by omega)
   obtain ⟨c0,c1,c2,c3⟩:=((hcl k hkl).later hb)
   have hg:=(hcl k hkl).lt
   have hg':b<wr.heap.size:=by omega
   have hdr:l.drop k=l[k]::l.drop (k+1):=List.drop_eq_getElem_cons hkl
   obtain ⟨x,he⟩:∃ x:Va,x=l[k]:=⟨_,rfl⟩
   rw [← he] at c0 c1 c2 c3 hdr
   have HST:Hid (R=(zq x || (l.drop (k+1)).any zq)):=by
    show R=_
    rw [hH.out,hdr];rfl
   obtain ⟨xk,xn,xm,xb⟩:=x
   have eqx:∀ W,(Op.equalIn 10000 23 (va 0 0 0 ⟨#[]⟩) (va xk xn xm ⟨xb.toArray⟩)).run Tryz.prog W=.ok (zq ⟨xk,xn,xm,xb⟩) W:=fun W=>eqVb 0 0 0 xk xn xm ⟨#[]⟩ ⟨xb.toArray⟩ W
   generalize zq ⟨xk,xn,xm,xb⟩=q at eqx HST
   obtain ⟨z0,z1,z2,z3⟩:=hc.at4
   have zl:=hc.lt
   have HC:Hid (Box wr w.heap.size nul):=hc
   dsimp only [nul] at z0 z1 z2 z3
   simp only [Nat.zero_add] at z1 z2 z3
   clear hdr he hcl hH HR hc
   cases q with
   | true =>
    go_wp2
    go_region
    all_goals go_wp2
    all_goals go_ret
    all_goals exact ⟨⟨(k:Int),rfl,by rw [HST.out];simp⟩,by first|exact hb|exact hb.drew⟩
   | false =>
    have HF:Hid (R=(l.drop (k+1)).any zq):=by show R=_;rw [HST.out,Bool.false_or]
    go_wp2
    go_region
    all_goals go_wp2
    all_goals exact ⟨⟨k+1,by rw [cstq],by omega,HC.out,by first|exact hb|exact hb.drew,HF⟩,by simp [intOf];omega⟩
  ·have hlt':¬ (k:Int)<(n:Int):=by omega
   have HF:Hid (R=false):=by
    show R=false
    rw [hH.out,List.drop_eq_nil_of_le (by rw [HN.out];omega)];rfl
   clear hH HR hc
   go_wp2
   go_ret
   exact ⟨⟨-1,rfl,by rw [HF.out];rfl⟩,hb⟩
theorem qcont_any (ao:Option Addr) (cap:Nat) (l:List Va) (w:World) (hv:Vs w ao l) (hn:l.length≤140737488351232) :
  Calls Tryz.prog 111 #[.slice ao l.length cap,va 0 0 0 ⟨#[]⟩] w fun e w'=>e=.returned (.bool (l.any zq))∧Below w.heap.size w w':=by
 have I:∀ W,Below w.heap.size w W→_:=fun W h=>qidx_any ao cap l W (hv.later h) hn
 have A0:=(Below.refl w.heap.size w).alloc (Nat.le_refl _) (.cells #[.int .i64 0,.int .i64 0,.int .i64 0,.string ⟨#[]⟩] 23)
 clear hv
 generalize l.any zq=q at *
 generalize l.length=n at *
 go_enter Tryz.func111,Tryz.ntmps111
 go_wp2_with fail
 refine (I _ (by first|exact A0|exact Below.refl _ _)).mono ?_
 rintro e w1 ⟨⟨i,rfl,hi⟩,b1⟩
 have HI:Hid (decide (0≤i)=q):=hi
 clear hi I
 go_wp2
 go_ret
 exact ⟨by rw [← HI.out];rfl,by first|exact A0.trans (b1.mono A0.size)|exact b1⟩
theorem z2r (w:World):∃ w0,w0=w.alloc (.cells #[.int .i64 0,.int .i64 0,.int .i64 0,.string ⟨#[]⟩] 23)∧Box w0 w.heap.size nul∧Below w.heap.size w w0 :=
 ⟨_,rfl,Box.new w 0 0 0 [],(Below.refl _ w).alloc (Nat.le_refl _) _⟩
def qcO0:Oper:=⟨some 8,.move (.tmp 1),34, "function.go:57",#[],none⟩
def qcO1:Oper:=⟨some 9,.indexAddr 34 (.tmp 8) (.const (Value.int IntKind.i64 0)),0, "function.go:57",#[⟨0,.data⟩],none⟩
def qcO2:Oper:=⟨some 10,.load 23 (.tmp 9),23, "function.go:57",#[⟨1,.data⟩],none⟩
def qcO3:Oper:=⟨some 11,.move (.tmp 1),34, "function.go:57",#[⟨11,.gcOnly .lateStores⟩],none⟩
def qcO4:Oper:=⟨some 12,.move (.tmp 1),34, "function.go:57",#[],none⟩
def qcO5:Oper:=⟨some 13,.call { callee:=Callee.builtin Builtin.len,args:=#[.tmp 12],argTypes:=#[34] },3, "function.go:57",#[⟨4,.data⟩],none⟩
def qcO6:Oper:=⟨some 14,.binOp BinOp.sub 3 (.tmp 13) (.const (Value.int IntKind.i64 1)) 3,3, "function.go:57",#[⟨5,.data⟩,⟨11,.gcOnly .lateStores⟩],none⟩
def qcO7:Oper:=⟨some 15,.indexAddr 34 (.tmp 11) (.tmp 14),0, "function.go:57",#[⟨3,.data⟩,⟨6,.data⟩,⟨11,.gcOnly .lateStores⟩],none⟩
def qcO8:Oper:=⟨some 16,.load 23 (.tmp 15),23, "function.go:57",#[⟨7,.data⟩,⟨11,.gcOnly .lateStores⟩],none⟩
def qcO9:Oper:=⟨some 6,.alloc 23,0, "function.go:57",#[],none⟩
def z9t:Oper:=⟨some 7,.alloc 23,0, "function.go:57",#[],none⟩
def z9r:Oper:=⟨none,.store 23 (.tmp 6) (.tmp 10),0, "function.go:57",#[⟨9,.data⟩,⟨2,.data⟩,⟨0,.phase⟩,⟨1,.phase⟩,⟨2,.phase⟩,⟨3,.textOnly .lateStores⟩,⟨4,.textOnly .lateStores⟩,⟨5,.textOnly .lateStoresUnsure⟩,⟨6,.textOnly .lateStores⟩,⟨7,.textOnly .lateStores⟩,⟨8,.textOnly .lateStores⟩,⟨9,.phase⟩,⟨10,.phase⟩],none⟩
def z9q:Oper:=⟨none,.store 23 (.tmp 7) (.tmp 16),0, "function.go:57",#[⟨10,.data⟩,⟨8,.data⟩,⟨11,.chain⟩,⟨0,.phase⟩,⟨1,.phase⟩,⟨2,.phase⟩,⟨3,.phase⟩,⟨4,.phase⟩,⟨5,.phase⟩,⟨6,.phase⟩,⟨7,.phase⟩,⟨8,.phase⟩,⟨9,.phase⟩,⟨10,.phase⟩,⟨11,.phase⟩],none⟩
theorem called_length (bl off cap:Nat) (an am:Int) (ab:List UInt8) (w:World) (hg:bl<w.heap.size) (c0:w.cell? ⟨bl,off,none⟩=some (.int .i64 3)) (c1:w.cell? ⟨bl,off+1,none⟩=some (.int .i64 an)) (c2:w.cell? ⟨bl,off+2,none⟩=some (.int .i64 am)) (c3:w.cell? ⟨bl,off+3,none⟩=some (.string ⟨ab.toArray⟩))
  :
  Calls Tryz.prog 112 #[.string ⟨#[108,101,110,103,116,104]⟩,.slice (some ⟨bl,off,none⟩) 1 cap] w fun e w'=>e=.returned (rs (z0v (ab.length:Int) 0))∧Below w.heap.size w w':=by
 obtain ⟨w0,hw0,bxr,Bw⟩:=z2r w
 have z0:IntKind.i64.wrap 0=0:=by rw [IntKind.wrap_i64];rfl
 go_enter Tryz.func112,Tryz.ntmps112
 go_wp2_with fail
 rw [← hw0]
 clear hw0
 rw [← Bw.cell (p:=⟨bl,off,none⟩) hg] at c0
 rw [← Bw.cell (p:=⟨bl,off+1,none⟩) hg] at c1
 rw [← Bw.cell (p:=⟨bl,off+2,none⟩) hg] at c2
 rw [← Bw.cell (p:=⟨bl,off+3,none⟩) hg] at c3
 replace hg:bl<w0.heap.size:=Nat.lt_of_lt_of_le hg Bw.size
 go_cut [6,7] from 8 (fun s0 s1 wx=>∃ p q:Nat,s0=.pointer (some ⟨p,0,none⟩)∧s1=.pointer (some ⟨q,0,none⟩)∧(wx.cell? ⟨p,0,none⟩=some (.int .i64 3)∧wx.cell? ⟨p,1,none⟩=some (.int .i64 an)∧wx.cell? ⟨p,2,none⟩=some (.int .i64 am)∧wx.cell? ⟨p,3,none⟩=some (.string ⟨ab.toArray⟩))∧(wx.cell? ⟨q,0,none⟩=some (.int .i64 3)∧wx.cell? ⟨q,1,none⟩=some (.int .i64 an)∧wx.cell? ⟨q,2,none⟩=some (.int .i64 am)∧wx.cell? ⟨q,3,none⟩=some (.string ⟨ab.toArray⟩))∧w0.heap.size≤p∧w0.heap.size≤q∧Grew w0 wx)
 case first =>
  refine wp_region_held_drew (S:=(fun W=>W.cell? ⟨bl,off,none⟩=some (.int .i64 3)∧W.cell? ⟨bl,off+1,none⟩=some (.int .i64 an)∧W.cell? ⟨bl,off+2,none⟩=some (.int .i64 am)∧W.cell? ⟨bl,off+3,none⟩=some (.string ⟨ab.toArray⟩))) gK ?_ (fun hHeld=>?_)
  ·((try dsimp only);(simp (maxDischargeDepth:=12) [go_sem,c0,c1,c2,c3]))
  refine wpAnyH_take (i:=0) (oi:=qcO0) (v:=?_) rfl gK gK gK (fun _ _ _ h=>h) (Or.inl ⟨by rfl,?_⟩) (by assumption) ?_
  rotate_left
  ·(intro W hSw;(try dsimp only at hSw);try simp only [qcO0];first|(go_simp;done)|(go_simp;with_reducible rfl))
  try simp only [qcO0,Act.put,List.setIfInBounds_toArray,List.set_cons_zero,List.set_cons_succ]
  refine wpAnyH_take (i:=1) (oi:=qcO1) (v:=?_) rfl gK gK gK (fun _ _ _ h=>h) (Or.inl ⟨by rfl,?_⟩) (by assumption) ?_
  rotate_left
  ·(intro W hSw;(try dsimp only at hSw);try simp only [qcO1];first|(go_simp;done)|(go_simp;with_reducible rfl))
  try simp only [qcO1,Act.put,List.setIfInBounds_toArray,List.set_cons_zero,List.set_cons_succ]
  refine wpAnyH_take (i:=2) (oi:=qcO2) (v:=?_) rfl gK gK gK (fun _ _ _ h=>h) (Or.inl ⟨by rfl,?_⟩) (by assumption) ?_
  rotate_left
  ·(intro W hSw;(try dsimp only at hSw);try simp only [qcO2];first|(go_simp;done)|(go_simp;with_reducible rfl))
  try simp only [qcO2,Act.put,List.setIfInBounds_toArray,List.set_cons_zero,List.set_cons_succ]
  refine wpAnyH_take (i:=3) (oi:=qcO3) (v:=?_) rfl gK gK gK (fun _ _ _ h=>h) (Or.inl ⟨by rfl,?_⟩) (by assumption) ?_
  rotate_left
  ·(intro W hSw;(try dsimp only at hSw);try simp only [qcO3];first|(go_simp;done)|(go_simp;with_reducible rfl))
  try simp only [qcO3,Act.put,List.setIfInBounds_toArray,List.set_cons_zero,List.set_cons_succ]
  refine wpAnyH_take (i:=4) (oi:=qcO4) (v:=?_) rfl gK gK gK (fun _ _ _ h=>h) (Or.inl ⟨by rfl,?_⟩) (by assumption) ?_
  rotate_left
  ·(intro W hSw;(try dsimp only at hSw);try simp only [qcO4];first|(go_simp;done)|(go_simp;with_reducible rfl))
  try simp only [qcO4,Act.put,List.setIfInBounds_toArray,List.set_cons_zero,List.set_cons_succ]
  refine wpAnyH_take (i:=5) (oi:=qcO5) (v:=?_) rfl gK gK gK (fun _ _ _ h=>h) (Or.inl ⟨by rfl,?_⟩) (by assumption) ?_
  rotate_left
  ·(intro W hSw;(try dsimp only at hSw);try simp only [qcO5];first|(go_simp;done)|(go_simp;with_reducible rfl))
  try simp only [qcO5,Act.put,List.setIfInBounds_toArray,List.set_cons_zero,List.set_cons_succ]
  refine wpAnyH_take (i:=6) (oi:=qcO6) (v:=?_) rfl gK gK gK (fun _ _ _ h=>h) (Or.inl ⟨by rfl,?_⟩) (by assumption) ?_
  rotate_left
  ·(intro W hSw;(try dsimp only at hSw);try simp only [qcO6];first|(go_simp;done)|(go_simp;with_reducible rfl))
  try simp only [qcO6,Act.put,List.setIfInBounds_toArray,List.set_cons_zero,List.set_cons_succ]
  refine wpAnyH_take (i:=7) (oi:=qcO7) (v:=?_) rfl gK gK gK (fun _ _ _ h=>h) (Or.inl ⟨by rfl,?_⟩) (by assumption) ?_
  rotate_left
  ·(intro W hSw;(try dsimp only at hSw);try simp only [qcO7];first|(go_simp;done)|(go_simp;with_reducible rfl))
  try simp only [qcO7,Act.put,List.setIfInBounds_toArray,List.set_cons_zero,List.set_cons_succ]
  refine wpAnyH_take (i:=8) (oi:=qcO8) (v:=?_) rfl gK gK gK (fun _ _ _ h=>h) (Or.inl ⟨by rfl,?_⟩) (by assumption) ?_
  rotate_left
  ·(intro W hSw;(try dsimp only at hSw);try simp only [qcO8];first|(go_simp;done)|(go_simp;with_reducible rfl))
  try simp only [qcO8,Act.put,List.setIfInBounds_toArray,List.set_cons_zero,List.set_cons_succ]
  refine wpAnyH_ready (rs:=[9,10]) gK (by simp) ?_
  refine AllReadyH.cons (o:=qcO9) rfl (fun K hK=>?_) (AllReadyH.cons (o:=z9t) rfl (fun K hK=>?_) AllReadyH.nil)
  ·
   try simp only [qcO9]
   go_simp
   refine hK.out _ _ ?_ (fun hHeld=>?_)
   ·((try dsimp only);(simp (maxDischargeDepth:=12) [go_sem,c0,c1,c2,c3,hg]))
   clear hK K
   try simp only [Act.put,sA,sB,sC]
   refine wpAnyH_ready (rs:=[10]) gK (by simp) ?_
   refine AllReadyH.cons (o:=z9t) rfl (fun K hK=>?_) AllReadyH.nil
   try simp only [z9t]
   go_simp
   refine hK.out _ _ ?_ (fun hHeld=>?_)
   ·((try dsimp only);(simp (maxDischargeDepth:=12) [go_sem,c0,c1,c2,c3,hg]))
   clear hK K
   try simp only [Act.put,sA,sB,sC]
   refine wpAnyH_ready (rs:=[11]) gK (by simp) ?_
   refine AllReadyH.cons (o:=z9r) rfl (fun K hK=>?_) AllReadyH.nil
   try simp only [z9r]
   go_simp
   refine hK.out _ _ ?_ (fun hHeld=>?_)
   ·((try dsimp only);(simp (maxDischargeDepth:=12) [go_sem,c0,c1,c2,c3,hg]))
   clear hK K
   try simp only [Act.put,sA,sB,sC]
   refine wpAnyH_ready (rs:=[12]) gK (by simp) ?_
   refine AllReadyH.cons (o:=z9q) rfl (fun K hK=>?_) AllReadyH.nil
   try simp only [z9q]
   go_simp
   refine hK.out _ _ ?_ (fun hHeld=>?_)
   ·((try dsimp only);(simp (maxDischargeDepth:=12) [go_sem,c0,c1,c2,c3,hg]))
   clear hK K
   try simp only [Act.put,sA,sB,sC]
   refine wpAnyH_done gK ?_ _
   go_wp2_with fail
   go_meet
   exact ⟨_,_,rfl,rfl,⟨gD,gD,gD,gD⟩,⟨gD,gD,gD,gD⟩,by simp,by simp,gB⟩
  ·
   try simp only [z9t]
   go_simp
   refine hK.out _ _ ?_ (fun hHeld=>?_)
   ·((try dsimp only);(simp (maxDischargeDepth:=12) [go_sem,c0,c1,c2,c3,hg]))
   clear hK K
   try simp only [Act.put,sA,sB,sC]
   refine wpAnyH_ready (rs:=[9]) gK (by simp) ?_
   refine AllReadyH.cons (o:=qcO9) rfl (fun K hK=>?_) AllReadyH.nil
   try simp only [qcO9]
   go_simp
   refine hK.out _ _ ?_ (fun hHeld=>?_)
   ·((try dsimp only);(simp (maxDischargeDepth:=12) [go_sem,c0,c1,c2,c3,hg]))
   clear hK K
   try simp only [Act.put,sA,sB,sC]
   refine wpAnyH_ready (rs:=[11]) gK (by simp) ?_
   refine AllReadyH.cons (o:=z9r) rfl (fun K hK=>?_) AllReadyH.nil
   try simp only [z9r]
   go_simp
   refine hK.out _ _ ?_ (fun hHeld=>?_)
   ·((try dsimp only);(simp (maxDischargeDepth:=12) [go_sem,c0,c1,c2,c3,hg]))
   clear hK K
   try simp only [Act.put,sA,sB,sC]
   refine wpAnyH_ready (rs:=[12]) gK (by simp) ?_
   refine AllReadyH.cons (o:=z9q) rfl (fun K hK=>?_) AllReadyH.nil
   try simp only [z9q]
   go_simp
   refine hK.out _ _ ?_ (fun hHeld=>?_)
   ·((try dsimp only);(simp (maxDischargeDepth:=12) [go_sem,c0,c1,c2,c3,hg]))
   clear hK K
   try simp only [Act.put,sA,sB,sC]
   refine wpAnyH_done gK ?_ _
   go_wp2_with fail
   go_meet
   exact ⟨_,_,rfl,rfl,⟨gD,gD,gD,gD⟩,⟨gD,gD,gD,gD⟩,by simp,by simp,gB⟩
 rename World=>w1
 obtain ⟨p,q,rfl,rfl,⟨p0,p1,p2,p3⟩,⟨q0,q1,q2,q3⟩,gp,gq,g⟩:=hcut
 have lp:=World.block_lt_of_cell? w1 _ p0
 have lq:=World.block_lt_of_cell? w1 _ q0
 have B1:=g.below
 have br:=bxr.later B1
 obtain ⟨r0,r1,r2,r3⟩:=br.at4
 dsimp only [nul] at r0 r1 r2 r3
 simp only [Nat.zero_add] at r1 r2 r3
 have f0:=br.free 0
 have f1:=br.free 1
 have f2:=br.free 2
 have f3:=br.free 3
 have lt1:=br.lt
 have Be:=z0a Bw B1
 have lr:=bxr.lt
 have np:¬ w.heap.size=p:=by omega
 have nq:¬ w.heap.size=q:=by omega
 clear gp gq lr
 clear br bxr g c0 c1 c2 c3 hg
 go_wp2_with (first
  | (go_at_call 155;refine (z2e _ _ _).mono ?_;rintro e w2 ⟨rfl,os2,n2,rfl⟩))
 refine bodyPost_ret_by (v:=rs (z0v (ab.length:Int) 0)) ?_ rfl ⟨rfl,?_⟩
 ·simp [results,Tryz.results112,go_sem,r0,r1,r2,r3,lt1]
 ·refine z0a (Be.setCell (p:=⟨w.heap.size,0,none⟩) (Nat.le_refl _) (.int .i64 (z0v (ab.length:Int) 0).1.k) |>.setCell (p:=⟨w.heap.size,1,none⟩) (Nat.le_refl _) (.int .i64 (z0v (ab.length:Int) 0).1.n) |>.setCell (p:=⟨w.heap.size,2,none⟩) (Nat.le_refl _) (.int .i64 (z0v (ab.length:Int) 0).1.m) |>.setCell (p:=⟨w.heap.size,3,none⟩) (Nat.le_refl _) (.string ⟨(z0v (ab.length:Int) 0).1.b.toArray⟩)) (Grew.below ?_)
  repeat exact gB
end Go.Proofs.YtibbenhplmmmiaaGreatDoor

namespace Go.Proofs.YtibbenhplmmmiaaGreatDoor
open Go.RowKit Go.Shelf
attribute [local go_sem] z0e z0b z0c z0f z0m z0k z0h z0d z0g z1r z1e z1x z1d z1q z1s z1z z1p z1y z1k z1u
theorem isf_len1 (w:World):Calls Tryz.prog 109 #[.string ⟨#[108,101,110,103,116,104]⟩,.int .i64 1] w fun e w'=>e=.returned (.bool true)∧Below w.heap.size w w':=by
 go_enter Tryz.func109,Tryz.ntmps109
 go_wp2
 all_goals go_ret
 all_goals exact ⟨rfl,Below.refl _ _⟩
theorem fun_length (ao:Option Addr) (cap:Nat) (rk rn rm re:Int) (rb:ByteArray) (w:World) (A:z0n 60 #[.slice ao 1 cap] w (.bool true)) (I:z0n 109 #[.string ⟨#[108,101,110,103,116,104]⟩,.int .i64 1] w (.bool true))
  (C:z0n 111 #[.slice ao 1 cap,va 0 0 0 ⟨#[]⟩] w (.bool false)) (F:z0n 112 #[.string ⟨#[108,101,110,103,116,104]⟩,.slice ao 1 cap] w (.tuple #[va rk rn rm rb,.int .i64 re])) :
  Calls Tryz.prog 58 #[.string ⟨#[108,101,110,103,116,104]⟩,.slice ao 1 cap] w fun e w'=>e=.returned (.tuple #[va rk rn rm rb,.int .i64 re])∧Below w.heap.size w w':=by
 obtain ⟨w0,hw0,bxr,Bw⟩:=z2r w
 go_enter Tryz.func58,Tryz.ntmps58
 go_upto_region 1 with fail
 rw [← hw0]
 clear hw0
 have B0:Below w0.heap.size w0 w0:=Below.refl _ _
 go_wp2_with fail
 refine (A _ (z0a Bw B0)).mono ?_
 rintro e w1 ⟨rfl,c⟩
 have B1:=z0a B0 c
 clear c
 go_wp2_with fail
 refine (I _ (z0a Bw B1)).mono ?_
 rintro e w2 ⟨rfl,c⟩
 have B2:=z0a B1 c
 clear c
 go_wp2_with fail
 refine (C _ (z0a Bw B2)).mono ?_
 rintro e w3 ⟨rfl,c⟩
 have B3:=z0a B2 c
 clear c
 go_wp2_with fail
 refine (F _ (z0a Bw B3)).mono ?_
 rintro e w4 ⟨rfl,c⟩
 have B4:=z0a B3 c
 clear c
 have br:=bxr.later B4
 obtain ⟨r0,r1,r2,r3⟩:=br.at4
 dsimp only [nul] at r0 r1 r2 r3
 simp only [Nat.zero_add] at r1 r2 r3
 have f0:=br.free 0
 have f1:=br.free 1
 have f2:=br.free 2
 have f3:=br.free 3
 have lt1:=br.lt
 have Be:=z0a Bw B4
 go_wp2
 refine bodyPost_ret_by (v:=.tuple #[va rk rn rm rb,.int .i64 re]) ?_ rfl ⟨rfl,?_⟩
 ·simp [results,Tryz.results58,go_sem,r0,r1,r2,r3]
 ·exact (Be.setCell (p:=⟨w.heap.size,0,none⟩) (Nat.le_refl _) (.int .i64 rk) |>.setCell (p:=⟨w.heap.size,1,none⟩) (Nat.le_refl _) (.int .i64 rn) |>.setCell (p:=⟨w.heap.size,2,none⟩) (Nat.le_refl _) (.int .i64 rm) |>.setCell (p:=⟨w.heap.size,3,none⟩) (Nat.le_refl _) (.string rb))
theorem qnum7_any (n:Int) (w:World):Calls Tryz.prog 28 #[.int .i64 n] w fun e w'=>e=.returned (.int .i64 n)∧w=w':=by
 go_enter Tryz.func28,Tryz.ntmps28
 go_wp2
 go_ret
 exact ⟨rfl,rfl⟩
theorem qints7_any (n:Int) (w:World):Calls Tryz.prog 57 #[.int .i64 n] w fun e w'=>e=.returned (va 1 n 0 ⟨#[]⟩)∧Grew w w':=by
 go_enter Tryz.func57,Tryz.ntmps57
 go_wp2
 refine bodyPost_ret_by (v:=va 1 n 0 ⟨#[]⟩) ?_ rfl ⟨rfl,?_⟩
 ·simp [results,Tryz.results57,go_sem]
 ·exact gA
theorem z8x {v:Va} (h:vok Lib.validD v):vr v=true:=(z2f v).2 h
theorem know1:binR 7 (vI 1) (vD 30 1)=(vD 333333 6,0):=by
 have h1:vr (vI 1)=true:=z8x (by simp [vok,vI])
 have h2:vr (vD 30 1)=true:=z8x (by simp [vok,vD])
 unfold binR
 rw [if_neg (by simp [h1,h2]),if_neg (by decide),if_neg (by simp [vI,vD]),if_neg (by simp [vI,vD]),if_pos (by simp [isn,vI,vD])]
 unfold z9s
 rw [if_neg (by decide),if_neg (by decide),if_neg (by decide),if_pos rfl,if_neg (by simp [vD])]
 rfl
theorem know2:binR 17 nul (vB false)=(vB false,0):=by
 have h1:vr nul=true:=z8x (by simp [vok,nul])
 have h2:vr (vB false)=true:=z8x (by simp [vok,vB])
 have t1:tB nul=true:=by
  show (vr nul&&_)=true
  rw [h1];rfl
 have t2:tB (vB false)=true:=by
  show (vr (vB false)&&_)=true
  rw [h2];rfl
 have n1:tN nul=2:=by
  unfold tN truN
  rw [if_neg (by simp [nul])]
 have n2:tN (vB false)=0:=by
  unfold tN truN
  rw [if_pos ⟨h2,rfl⟩];rfl
 unfold binR
 rw [if_neg (by simp [h1,h2]),if_pos (.inl rfl)]
 unfold truR
 rw [t1,t2,n1,n2]
 rfl
theorem vr_abc:vr ⟨3,0,0,[97,98,99]⟩=true:=z8x (by
 have:Lib.validD [97,98,99]=true:=by kernel_rfl
 simp [vok,this])
theorem knows7_any (w:World) (hT:Tabs w) (hP:Pw w):Calls Tryz.prog 19 #[] w fun e w'=>e=.returned (.bool true)∧Below w.heap.size w w':=by
 have K1:z0n 56 #[.int .i64 7,va 1 1 0 ⟨#[]⟩,va 2 30 1 ⟨#[]⟩] w (.tuple #[va 2 333333 6 ⟨#[]⟩,.int .i64 0]):=fun W h=>by
  have:=qbin_any 7 (vI 1) (vD 30 1) W (hT.later h) (hP.below h) ⟨⟨by decide,by decide⟩,⟨by decide,by decide⟩⟩ ⟨⟨by decide,by decide⟩,⟨by decide,by decide⟩⟩
  rw [know1] at this
  exact this
 have K2:z0n 56 #[.int .i64 17,va 0 0 0 ⟨#[]⟩,va 4 0 0 ⟨#[]⟩] w (.tuple #[va 4 0 0 ⟨#[]⟩,.int .i64 0]):=fun W h=>by
  have:=qbin_any 17 nul (vB false) W (hT.later h) (hP.below h) ⟨⟨by decide,by decide⟩,⟨by decide,by decide⟩⟩ ⟨⟨by decide,by decide⟩,⟨by decide,by decide⟩⟩
  rw [know2] at this
  exact this
 have K3:∀ (bl cap:Nat) (W:World),Below w.heap.size w W→At4 W bl 0 ⟨3,0,0,[97,98,99]⟩ →
   Calls Tryz.prog 58 #[.string ⟨#[108,101,110,103,116,104]⟩,.slice (some ⟨bl,0,none⟩) 1 cap] W fun e w'=>e=.returned (.tuple #[va 1 3 0 ⟨#[]⟩,.int .i64 0])∧Below W.heap.size W w':=by
  intro bl cap W h h4
  have hv:Vs W (some ⟨bl,0,none⟩) [⟨3,0,0,[97,98,99]⟩]:=fun _=>⟨bl,0,rfl,fun i hi=>by
   have:i=0:=by simpa using hi
   subst this
   exact h4⟩
  refine fun_length _ _ _ _ _ _ _ W (fun W' h'=>?_) (fun W' _=>isf_len1 W') (fun W' h'=>?_) (fun W' h'=>?_)
  ·have:=z9v (some ⟨bl,0,none⟩) cap [⟨3,0,0,[97,98,99]⟩] W' ((hT.later h).later h') (hv.later h') (by decide)
   rwa [show ([⟨3,0,0,[97,98,99]⟩]:List Va).all vr=true by rw [List.all_cons,vr_abc];rfl] at this
  ·have:=qcont_any (some ⟨bl,0,none⟩) cap [⟨3,0,0,[97,98,99]⟩] W' (hv.later h') (by decide)
   rwa [show ([⟨3,0,0,[97,98,99]⟩]:List Va).any zq=false by rfl] at this
  ·obtain ⟨c0,c1,c2,c3⟩:=h4.later h'
   exact called_length bl 0 cap 0 0 [97,98,99] W' (h4.later h').lt c0 c1 c2 c3
 have H1:=fun W=>qints7_any 1 W
 have N:=fun n W=>qnum7_any n W
 clear hT hP
 have G:Below w.heap.size w w:=Below.refl _ _
 go_enter Tryz.func19,Tryz.ntmps19
 go_upto_region 1 with fail
 go_cut [1,2] from 7 (fun s0 s1 wx=>∃ p:Nat,s0=.pointer (some ⟨p,0,none⟩)∧s1=.int .i64 0∧At4 wx p 0 ⟨2,333333,6,[]⟩∧Below w.heap.size w wx)
 case first =>
  clear K2 K3 N
  go_wp2_with (first
   | (go_at_call 57;refine (H1 _).mono ?_;rintro e wc ⟨rfl,osc,nc,rfl⟩)
   | (go_at_call 56;refine (K1 _ (z0z.below gC)).mono ?_;rintro e wc ⟨rfl,bc⟩;obtain ⟨osc,dc,rfl⟩:=wide bc;clear bc))
  all_goals go_meet
  all_goals exact ⟨_,rfl,rfl,⟨gD,gD,gD,gD⟩,z0z.below gC⟩
 rename World=>v1
 obtain ⟨p1,rfl,rfl,hp1,gv1⟩:=hcut
 replace K1:=K1.later gv1
 replace K2:=K2.later gv1
 replace G:=z0a G gv1
 clear gv1
 go_upto_region 2 with fail
 obtain ⟨k0a,k0b,k0c,k0d⟩:=id hp1
 have k0l:=hp1.lt
 simp only [Nat.zero_add] at k0b k0c k0d
 go_cut [3,4] from 7 (fun s0 s1 wx=>∃ p:Nat,s0=.pointer (some ⟨p,0,none⟩)∧s1=.int .i64 0∧At4 wx p 0 ⟨4,0,0,[]⟩∧Below v1.heap.size v1 wx)
 case first =>
  clear K1 K3 N
  go_wp2_with (first
   | (go_at_call 56;refine (K2 _ (z0z.below gC)).mono ?_;rintro e wc ⟨rfl,bc⟩;obtain ⟨osc,dc,rfl⟩:=wide bc;clear bc))
  all_goals go_meet
  all_goals exact ⟨_,rfl,rfl,⟨gD,gD,gD,gD⟩,z0z.below gC⟩
 rename World=>v2
 obtain ⟨p2,rfl,rfl,hp2,gv2⟩:=hcut
 clear k0a k0b k0c k0d k0l
 replace hp1:=hp1.later gv2
 replace K1:=K1.later gv2
 replace K2:=K2.later gv2
 replace G:=z0a G gv2
 clear gv2
 go_upto_region 3 with fail
 obtain ⟨k0a,k0b,k0c,k0d⟩:=id hp1
 have k0l:=hp1.lt
 simp only [Nat.zero_add] at k0b k0c k0d
 obtain ⟨k1a,k1b,k1c,k1d⟩:=id hp2
 have k1l:=hp2.lt
 simp only [Nat.zero_add] at k1b k1c k1d
 go_cut [5,6] from 7 (fun s0 s1 wx=>∃ p:Nat,s0=.pointer (some ⟨p,0,none⟩)∧s1=.int .i64 0∧At4 wx p 0 ⟨1,3,0,[]⟩∧Below v2.heap.size v2 wx)
 case first =>
  clear K1 K2 N
  go_wp2_with (first
   | (go_at_call 58;refine (K3 _ _ _ (z0a G (z0z.below gC)) ⟨gD,gD,gD,gD⟩).mono ?_;rintro e wc ⟨rfl,bc⟩;obtain ⟨osc,dc,rfl⟩:=wide bc;clear bc))
  all_goals go_meet
  all_goals exact ⟨_,rfl,rfl,⟨gD,gD,gD,gD⟩,z0z.below gC⟩
 rename World=>v3
 obtain ⟨p3,rfl,rfl,hp3,gv3⟩:=hcut
 clear k0a k0b k0c k0d k0l k1a k1b k1c k1d k1l
 replace hp1:=hp1.later gv3
 replace hp2:=hp2.later gv3
 replace K1:=K1.later gv3
 replace K2:=K2.later gv3
 replace G:=z0a G gv3
 clear gv3
 obtain ⟨k0a,k0b,k0c,k0d⟩:=id hp1
 have k0l:=hp1.lt
 simp only [Nat.zero_add] at k0b k0c k0d
 obtain ⟨k1a,k1b,k1c,k1d⟩:=id hp2
 have k1l:=hp2.lt
 simp only [Nat.zero_add] at k1b k1c k1d
 obtain ⟨k2a,k2b,k2c,k2d⟩:=id hp3
 have k2l:=hp3.lt
 simp only [Nat.zero_add] at k2b k2c k2d
 clear K1 K2 K3 H1
 go_wp2_with (go_at_call 28;refine (N _ _).mono ?_;rintro e wc ⟨rfl,rfl⟩)
 go_ret
 exact ⟨rfl,G⟩
end Go.Proofs.YtibbenhplmmmiaaGreatDoor

namespace Go.Proofs.YtibbenhplmmmiaaGreatDoor
open Go.RowKit Go.Shelf
attribute [local go_sem] z0e z0b z0c z0f z0m z0k z0h z0d z0g
theorem qneg_null (an am:Int) (ab:ByteArray) (w:World)  :
  Calls Tryz.prog 185 #[va 0 an am ab] w fun e w'=>e=.returned (.tuple #[va 0 0 0 ⟨#[]⟩,.int .i64 0])∧Grew w w':=by
 go_enter Tryz.func185,Tryz.ntmps185
 go_wp2_with fail
 refine z0x 5 ?_
 go_wp2
 refine z1a (by intro l h;cases h) ?_
 refine bodyPost_ret_by (v:=.tuple #[va 0 0 0 ⟨#[]⟩,.int .i64 0]) ?_ rfl ⟨rfl,gB⟩
 simp [results,Tryz.results185,go_sem]
theorem qneg_int (an am:Int) (ab:ByteArray) (w:World) (z x:Int) (D:∀ W,Grew w W→Calls Tryz.prog 157 #[.int .i64 0,.int .i64 an] W fun e w'=>e=.returned (.tuple #[.int .i64 z,.int .i64 x])∧Grew W w') :
  Calls Tryz.prog 185 #[va 1 an am ab] w fun e w'=>e=.returned (rs (z0v z x))∧Grew w w':=by
 have H:=fun n x W=>z2e n x W
 go_enter Tryz.func185,Tryz.ntmps185
 go_wp2_with fail
 refine z0x 5 ?_
 go_wp2_with fail
 refine z0r (n:=4) rfl ?_
 go_wp2_with (first
  | (go_at_call 157;refine (D _ gB).mono ?_;rintro e w1 ⟨rfl,os1,n1,rfl⟩)
  | (go_at_call 155;refine (H _ _ _).mono ?_;rintro e w1 ⟨rfl,os2,n2,rfl⟩))
 refine z1a (by intro l h;cases h) ?_
 refine bodyPost_ret_by (v:=rs (z0v z x)) ?_ rfl ⟨rfl,gB⟩
 simp [results,Tryz.results185,go_sem]
theorem qneg_dec (an am:Int) (ab:ByteArray) (w:World) (z s x:Int) (D:∀ W,Grew w W→Calls Tryz.prog 241 #[dv an am] W fun e w'=>e=.returned (.tuple #[dv z s,.int .i64 x])∧Grew W w') :
  Calls Tryz.prog 185 #[va 2 an am ab] w fun e w'=>e=.returned (rs (z2a z s x))∧Grew w w':=by
 have H:=fun n s x W=>z3t n s x W
 have U:=fun k n m b W=>z3q k n m b W
 go_enter Tryz.func185,Tryz.ntmps185
 go_wp2_with fail
 refine z0x 5 ?_
 go_wp2_with fail
 refine z0r (n:=4) rfl ?_
 go_wp2_with fail
 refine z0r (n:=3) rfl ?_
 go_wp2_with (first
  | (go_at_call 104;refine (U _ _ _ _ _).mono ?_;rintro e w1 ⟨rfl,os0,n0,rfl⟩)
  | (go_at_call 241;refine (D _ gB).mono ?_;rintro e w1 ⟨rfl,os1,n1,rfl⟩)
  | (go_at_call 162;refine (H _ _ _ _).mono ?_;rintro e w1 ⟨rfl,os2,n2,rfl⟩))
 refine z1a (by intro l h;cases h) ?_
 refine bodyPost_ret_by (v:=rs (z2a z s x)) ?_ rfl ⟨rfl,gB⟩
 simp [results,Tryz.results185,go_sem]
theorem qneg_pt (an am:Int) (ab:ByteArray) (w:World) (x y:Int) (D:∀ W,Calls Tryz.prog 242 #[dv an am,.int .i64 2] W fun e w'=>e=.returned (dv x y)∧Grew W w') :
  Calls Tryz.prog 185 #[va 5 an am ab] w fun e w'=>e=.returned (rs (z0u x y 0))∧Grew w w':=by
 have H:=fun n s x W=>z7g n s x W
 have U:=fun k n m b W=>z8g k n m b W
 go_enter Tryz.func185,Tryz.ntmps185
 go_wp2_with fail
 refine z0x 5 ?_
 go_wp2_with fail
 refine z0r (n:=4) rfl ?_
 go_wp2_with fail
 refine z0r (n:=3) rfl ?_
 go_wp2_with fail
 refine z0r (n:=2) rfl ?_
 go_wp2_with (first
  | (go_at_call 168;refine (U _ _ _ _ _).mono ?_;rintro e w1 ⟨rfl,os0,n0,rfl⟩)
  | (go_at_call 242;refine (D _).mono ?_;rintro e w1 ⟨rfl,os1,n1,rfl⟩)
  | (go_at_call 169;refine (H _ _ _ _).mono ?_;rintro e w1 ⟨rfl,os2,n2,rfl⟩))
 refine z1a (by intro l h;cases h) ?_
 refine bodyPost_ret_by (v:=rs (z0u x y 0)) ?_ rfl ⟨rfl,gB⟩
 simp [results,Tryz.results185,go_sem]
theorem qneg_other (ak:Int) (an am:Int) (ab:ByteArray) (w:World) (e0:(ak != 0)=true) (e1:(ak != 1)=true) (e2:(ak != 2)=true) (e5:(ak != 5)=true) :
  Calls Tryz.prog 185 #[va ak an am ab] w fun e w'=>e=.returned (.tuple #[va 0 0 0 ⟨#[]⟩,.int .i64 31])∧Grew w w':=by
 go_enter Tryz.func185,Tryz.ntmps185
 go_wp2_with fail
 refine z0x 5 ?_
 go_wp2_with fail
 refine z0r (n:=4) rfl ?_
 go_wp2_with fail
 refine z0r (n:=3) rfl ?_
 go_wp2_with fail
 refine z0r (n:=2) rfl ?_
 go_wp2_with fail
 refine z0r (n:=1) rfl ?_
 go_wp2
 refine z1a (by intro l h;cases h) ?_
 refine bodyPost_ret_by (v:=.tuple #[va 0 0 0 ⟨#[]⟩,.int .i64 31]) ?_ rfl ⟨rfl,gB⟩
 simp [results,Tryz.results185,go_sem]
theorem qneg_any (a:Va) (w:World) (hP:Pw w) (hr:vr a=true) (va':vin a):Calls Tryz.prog 185 #[vv a] w fun e w'=>e=.returned (rs (negR a))∧Grew w w':=by
 obtain ⟨k,n,m,b⟩:=a
 have hv:=(z2f _).1 hr
 simp only [vok] at hv
 obtain ⟨⟨a0,a1⟩,-⟩:=va'
 simp only at a0 a1
 unfold negR
 by_cases h0:k=0
 ·subst h0
  exact qneg_null n m _ w
 by_cases h1:k=1
 ·subst h1
  exact qneg_int n m _ w _ _ (fun W h=>qdiff_any 0 n W (hP.later h) (by decide) (by decide) a0 a1)
 by_cases h2:k=2
 ·subst h2
  have hm:0≤m∧m≤6:=by omega
  have hs:z0s m=true:=(z0w m).2 hm
  have:=qneg_dec n m ⟨b.toArray⟩ w _ _ _ (fun W h=>neg_any n m W (hP.later h) a0 a1)
  simp only [negU,negS,negE,hs,if_true] at this
  exact this
 by_cases h5:k=5
 ·subst h5
  have hp:Ga.ok2 n m=true:=(Ga.ok2_iff n m).2 (by omega)
  exact qneg_pt n m _ w _ _ (fun W=>Ga.turn_good n m 2 W hp)
 simp only [h0,h1,h2,h5,if_false]
 exact qneg_other k n m _ w (by simpa using h0) (by simpa using h1) (by simpa using h2) (by simpa using h5)
theorem z1n (w:World) (a:Va):∃ w0,w0=(w.alloc (.cells #[.int .i64 a.k,.int .i64 a.n,.int .i64 a.m,.string ⟨a.b.toArray⟩] 23)).alloc (.cells #[.int .i64 0,.int .i64 0,.int .i64 0,.string ⟨#[]⟩] 23) ∧
  Box w0 w.heap.size a∧Box w0 (w.heap.size+1) nul∧Below w.heap.size w w0:=by
 obtain ⟨h1,h2,h3⟩:=z7n w a nul
 exact ⟨_,rfl,h1,h2,h3⟩
theorem qun_low (op:Int) (ak:Int) (an am:Int) (ab:List UInt8) (w:World) (o1:op<3)  :
  Calls Tryz.prog 115 #[.int .i64 op,va ak an am ⟨ab.toArray⟩] w fun e w'=>e=.returned (.tuple #[va 0 0 0 ⟨#[]⟩,.int .i64 1])∧Below w.heap.size w w':=by
 obtain ⟨w0,hw0,bxa,bxr,Bw⟩:=z1n w ⟨ak,an,am,ab⟩
 dsimp only at hw0
 have B0:Below w0.heap.size w0 w0:=Below.refl _ _
 go_enter Tryz.func115,Tryz.ntmps115
 go_upto_region 1 with fail
 rw [← hw0]
 clear hw0
 obtain ⟨a0,a1,a2,a3⟩:=bxa.at4
 dsimp only at a0 a1 a2 a3
 have br:=bxr.later B0
 obtain ⟨r0,r1,r2,r3⟩:=br.at4
 dsimp only [nul] at r0 r1 r2 r3
 simp only [Nat.zero_add] at r1 r2 r3
 have f0:=br.free 0
 have f1:=br.free 1
 have f2:=br.free 2
 have f3:=br.free 3
 have lt1:=br.lt
 have Be:=z0a Bw B0
 go_wp2
 refine bodyPost_ret_by (v:=.tuple #[va 0 0 0 ⟨#[]⟩,.int .i64 1]) ?_ rfl ⟨rfl,?_⟩
 ·simp [results,Tryz.results115,go_sem,r0,r1,r2,r3]
 ·refine z0a (Be.setCell (p:=⟨w.heap.size+1,0,none⟩) (by dsimp only;omega) (.int .i64 0) |>.setCell (p:=⟨w.heap.size+1,1,none⟩) (by dsimp only;omega) (.int .i64 0) |>.setCell (p:=⟨w.heap.size+1,2,none⟩) (by dsimp only;omega) (.int .i64 0) |>.setCell (p:=⟨w.heap.size+1,3,none⟩) (by dsimp only;omega) (.string ⟨#[]⟩)) (Grew.below ?_)
  repeat exact gB
theorem qun_high (op:Int) (ak:Int) (an am:Int) (ab:List UInt8) (w:World) (o1:¬ op<3) (o2:op > 5)  :
  Calls Tryz.prog 115 #[.int .i64 op,va ak an am ⟨ab.toArray⟩] w fun e w'=>e=.returned (.tuple #[va 0 0 0 ⟨#[]⟩,.int .i64 1])∧Below w.heap.size w w':=by
 obtain ⟨w0,hw0,bxa,bxr,Bw⟩:=z1n w ⟨ak,an,am,ab⟩
 dsimp only at hw0
 have B0:Below w0.heap.size w0 w0:=Below.refl _ _
 go_enter Tryz.func115,Tryz.ntmps115
 go_upto_region 1 with fail
 rw [← hw0]
 clear hw0
 obtain ⟨a0,a1,a2,a3⟩:=bxa.at4
 dsimp only at a0 a1 a2 a3
 have br:=bxr.later B0
 obtain ⟨r0,r1,r2,r3⟩:=br.at4
 dsimp only [nul] at r0 r1 r2 r3
 simp only [Nat.zero_add] at r1 r2 r3
 have f0:=br.free 0
 have f1:=br.free 1
 have f2:=br.free 2
 have f3:=br.free 3
 have lt1:=br.lt
 have Be:=z0a Bw B0
 go_wp2
 refine bodyPost_ret_by (v:=.tuple #[va 0 0 0 ⟨#[]⟩,.int .i64 1]) ?_ rfl ⟨rfl,?_⟩
 ·simp [results,Tryz.results115,go_sem,r0,r1,r2,r3]
 ·refine z0a (Be.setCell (p:=⟨w.heap.size+1,0,none⟩) (by dsimp only;omega) (.int .i64 0) |>.setCell (p:=⟨w.heap.size+1,1,none⟩) (by dsimp only;omega) (.int .i64 0) |>.setCell (p:=⟨w.heap.size+1,2,none⟩) (by dsimp only;omega) (.int .i64 0) |>.setCell (p:=⟨w.heap.size+1,3,none⟩) (by dsimp only;omega) (.string ⟨#[]⟩)) (Grew.below ?_)
  repeat exact gB
theorem qun_bad (op:Int) (ak:Int) (an am:Int) (ab:List UInt8) (w:World) (o1:¬ op<3) (o2:¬ op > 5) (Ra:z0n 34 #[va ak an am ⟨ab.toArray⟩] w (.bool false)) :
  Calls Tryz.prog 115 #[.int .i64 op,va ak an am ⟨ab.toArray⟩] w fun e w'=>e=.returned (.tuple #[va 0 0 0 ⟨#[]⟩,.int .i64 1])∧Below w.heap.size w w':=by
 obtain ⟨w0,hw0,bxa,bxr,Bw⟩:=z1n w ⟨ak,an,am,ab⟩
 dsimp only at hw0
 have B0:Below w0.heap.size w0 w0:=Below.refl _ _
 go_enter Tryz.func115,Tryz.ntmps115
 go_upto_region 1 with fail
 rw [← hw0]
 clear hw0
 obtain ⟨a0,a1,a2,a3⟩:=bxa.at4
 dsimp only at a0 a1 a2 a3
 go_wp2_with fail
 refine (Ra _ (z0a Bw B0)).mono ?_
 rintro e w1 ⟨rfl,cc⟩
 have B1:=z0a B0 cc
 clear a0 a1 a2 a3 cc
 obtain ⟨a0,a1,a2,a3⟩:=(bxa.later B1).at4
 dsimp only at a0 a1 a2 a3
 have br:=bxr.later B1
 obtain ⟨r0,r1,r2,r3⟩:=br.at4
 dsimp only [nul] at r0 r1 r2 r3
 simp only [Nat.zero_add] at r1 r2 r3
 have f0:=br.free 0
 have f1:=br.free 1
 have f2:=br.free 2
 have f3:=br.free 3
 have lt1:=br.lt
 have Be:=z0a Bw B1
 go_wp2
 refine bodyPost_ret_by (v:=.tuple #[va 0 0 0 ⟨#[]⟩,.int .i64 1]) ?_ rfl ⟨rfl,?_⟩
 ·simp [results,Tryz.results115,go_sem,r0,r1,r2,r3]
 ·refine z0a (Be.setCell (p:=⟨w.heap.size+1,0,none⟩) (by dsimp only;omega) (.int .i64 0) |>.setCell (p:=⟨w.heap.size+1,1,none⟩) (by dsimp only;omega) (.int .i64 0) |>.setCell (p:=⟨w.heap.size+1,2,none⟩) (by dsimp only;omega) (.int .i64 0) |>.setCell (p:=⟨w.heap.size+1,3,none⟩) (by dsimp only;omega) (.string ⟨#[]⟩)) (Grew.below ?_)
  repeat exact gB
theorem qun_isnull (ak:Int) (an am:Int) (ab:List UInt8) (w:World) (rn:Int) (Ra:z0n 34 #[va ak an am ⟨ab.toArray⟩] w (.bool true)) (T:z0n 70 #[.bool (ak==0)] w (va 4 rn 0 ⟨#[]⟩)) :
  Calls Tryz.prog 115 #[.int .i64 5,va ak an am ⟨ab.toArray⟩] w fun e w'=>e=.returned (.tuple #[va 4 rn 0 ⟨#[]⟩,.int .i64 0])∧Below w.heap.size w w':=by
 obtain ⟨w0,hw0,bxa,bxr,Bw⟩:=z1n w ⟨ak,an,am,ab⟩
 dsimp only at hw0
 have B0:Below w0.heap.size w0 w0:=Below.refl _ _
 go_enter Tryz.func115,Tryz.ntmps115
 go_upto_region 1 with fail
 rw [← hw0]
 clear hw0
 obtain ⟨a0,a1,a2,a3⟩:=bxa.at4
 dsimp only at a0 a1 a2 a3
 go_wp2_with fail
 refine (Ra _ (z0a Bw B0)).mono ?_
 rintro e w1 ⟨rfl,cc⟩
 have B1:=z0a B0 cc
 clear a0 a1 a2 a3 cc
 obtain ⟨a0,a1,a2,a3⟩:=(bxa.later B1).at4
 dsimp only at a0 a1 a2 a3
 go_wp2_with fail
 refine (T _ (z0a Bw B1)).mono ?_
 rintro e w2 ⟨rfl,cc⟩
 have B2:=z0a B1 cc
 clear a0 a1 a2 a3 cc
 obtain ⟨a0,a1,a2,a3⟩:=(bxa.later B2).at4
 dsimp only at a0 a1 a2 a3
 have br:=bxr.later B2
 obtain ⟨r0,r1,r2,r3⟩:=br.at4
 dsimp only [nul] at r0 r1 r2 r3
 simp only [Nat.zero_add] at r1 r2 r3
 have f0:=br.free 0
 have f1:=br.free 1
 have f2:=br.free 2
 have f3:=br.free 3
 have lt1:=br.lt
 have Be:=z0a Bw B2
 go_wp2
 refine bodyPost_ret_by (v:=.tuple #[va 4 rn 0 ⟨#[]⟩,.int .i64 0]) ?_ rfl ⟨rfl,?_⟩
 ·simp [results,Tryz.results115,go_sem,r0,r1,r2,r3]
 ·refine z0a (Be.setCell (p:=⟨w.heap.size+1,0,none⟩) (by dsimp only;omega) (.int .i64 4) |>.setCell (p:=⟨w.heap.size+1,1,none⟩) (by dsimp only;omega) (.int .i64 rn) |>.setCell (p:=⟨w.heap.size+1,2,none⟩) (by dsimp only;omega) (.int .i64 0) |>.setCell (p:=⟨w.heap.size+1,3,none⟩) (by dsimp only;omega) (.string ⟨#[]⟩)) (Grew.below ?_)
  repeat exact gB
theorem qun_not (ak:Int) (an am:Int) (ab:List UInt8) (w:World) (rk rn rm re:Int) (rb:ByteArray) (Ra:z0n 34 #[va ak an am ⟨ab.toArray⟩] w (.bool true)) (F:z0n 184 #[va ak an am ⟨ab.toArray⟩] w (.tuple #[va rk rn rm rb,.int .i64 re])) :
  Calls Tryz.prog 115 #[.int .i64 4,va ak an am ⟨ab.toArray⟩] w fun e w'=>e=.returned (.tuple #[va rk rn rm rb,.int .i64 re])∧Below w.heap.size w w':=by
 obtain ⟨w0,hw0,bxa,bxr,Bw⟩:=z1n w ⟨ak,an,am,ab⟩
 dsimp only at hw0
 have B0:Below w0.heap.size w0 w0:=Below.refl _ _
 go_enter Tryz.func115,Tryz.ntmps115
 go_upto_region 1 with fail
 rw [← hw0]
 clear hw0
 obtain ⟨a0,a1,a2,a3⟩:=bxa.at4
 dsimp only at a0 a1 a2 a3
 go_wp2_with fail
 refine (Ra _ (z0a Bw B0)).mono ?_
 rintro e w1 ⟨rfl,cc⟩
 have B1:=z0a B0 cc
 clear a0 a1 a2 a3 cc
 obtain ⟨a0,a1,a2,a3⟩:=(bxa.later B1).at4
 dsimp only at a0 a1 a2 a3
 go_wp2_with fail
 refine (F _ (z0a Bw B1)).mono ?_
 rintro e w2 ⟨rfl,cc⟩
 have B2:=z0a B1 cc
 clear a0 a1 a2 a3 cc
 obtain ⟨a0,a1,a2,a3⟩:=(bxa.later B2).at4
 dsimp only at a0 a1 a2 a3
 have br:=bxr.later B2
 obtain ⟨r0,r1,r2,r3⟩:=br.at4
 dsimp only [nul] at r0 r1 r2 r3
 simp only [Nat.zero_add] at r1 r2 r3
 have f0:=br.free 0
 have f1:=br.free 1
 have f2:=br.free 2
 have f3:=br.free 3
 have lt1:=br.lt
 have Be:=z0a Bw B2
 go_wp2
 refine bodyPost_ret_by (v:=.tuple #[va rk rn rm rb,.int .i64 re]) ?_ rfl ⟨rfl,?_⟩
 ·simp [results,Tryz.results115,go_sem,r0,r1,r2,r3]
 ·refine z0a (Be.setCell (p:=⟨w.heap.size+1,0,none⟩) (by dsimp only;omega) (.int .i64 rk) |>.setCell (p:=⟨w.heap.size+1,1,none⟩) (by dsimp only;omega) (.int .i64 rn) |>.setCell (p:=⟨w.heap.size+1,2,none⟩) (by dsimp only;omega) (.int .i64 rm) |>.setCell (p:=⟨w.heap.size+1,3,none⟩) (by dsimp only;omega) (.string rb)) (Grew.below ?_)
  repeat exact gB
theorem qun_neg (ak:Int) (an am:Int) (ab:List UInt8) (w:World) (rk rn rm re:Int) (rb:ByteArray) (Ra:z0n 34 #[va ak an am ⟨ab.toArray⟩] w (.bool true)) (F:z0n 185 #[va ak an am ⟨ab.toArray⟩] w (.tuple #[va rk rn rm rb,.int .i64 re])) :
  Calls Tryz.prog 115 #[.int .i64 3,va ak an am ⟨ab.toArray⟩] w fun e w'=>e=.returned (.tuple #[va rk rn rm rb,.int .i64 re])∧Below w.heap.size w w':=by
 obtain ⟨w0,hw0,bxa,bxr,Bw⟩:=z1n w ⟨ak,an,am,ab⟩
 dsimp only at hw0
 have B0:Below w0.heap.size w0 w0:=Below.refl _ _
 go_enter Tryz.func115,Tryz.ntmps115
 go_upto_region 1 with fail
 rw [← hw0]
 clear hw0
 obtain ⟨a0,a1,a2,a3⟩:=bxa.at4
 dsimp only at a0 a1 a2 a3
 go_wp2_with fail
 refine (Ra _ (z0a Bw B0)).mono ?_
 rintro e w1 ⟨rfl,cc⟩
 have B1:=z0a B0 cc
 clear a0 a1 a2 a3 cc
 obtain ⟨a0,a1,a2,a3⟩:=(bxa.later B1).at4
 dsimp only at a0 a1 a2 a3
 go_wp2_with fail
 refine (F _ (z0a Bw B1)).mono ?_
 rintro e w2 ⟨rfl,cc⟩
 have B2:=z0a B1 cc
 clear a0 a1 a2 a3 cc
 obtain ⟨a0,a1,a2,a3⟩:=(bxa.later B2).at4
 dsimp only at a0 a1 a2 a3
 have br:=bxr.later B2
 obtain ⟨r0,r1,r2,r3⟩:=br.at4
 dsimp only [nul] at r0 r1 r2 r3
 simp only [Nat.zero_add] at r1 r2 r3
 have f0:=br.free 0
 have f1:=br.free 1
 have f2:=br.free 2
 have f3:=br.free 3
 have lt1:=br.lt
 have Be:=z0a Bw B2
 go_wp2
 refine bodyPost_ret_by (v:=.tuple #[va rk rn rm rb,.int .i64 re]) ?_ rfl ⟨rfl,?_⟩
 ·simp [results,Tryz.results115,go_sem,r0,r1,r2,r3]
 ·refine z0a (Be.setCell (p:=⟨w.heap.size+1,0,none⟩) (by dsimp only;omega) (.int .i64 rk) |>.setCell (p:=⟨w.heap.size+1,1,none⟩) (by dsimp only;omega) (.int .i64 rn) |>.setCell (p:=⟨w.heap.size+1,2,none⟩) (by dsimp only;omega) (.int .i64 rm) |>.setCell (p:=⟨w.heap.size+1,3,none⟩) (by dsimp only;omega) (.string rb)) (Grew.below ?_)
  repeat exact gB
theorem qun_any (op:Int) (a:Va) (w:World) (hT:Tabs w) (hP:Pw w) (va':vin a) :
  Calls Tryz.prog 115 #[.int .i64 op,vv a] w fun e w'=>e=.returned (rs (unR op a))∧Below w.heap.size w w':=by
 have Ra:z0n 34 #[vv a] w (.bool (vr a)):=fun W h=>z3s a.k a.n a.m ⟨a.b.toArray⟩ W (hT.later h)
 unfold unR
 by_cases o1:op<3
 ·rw [if_pos (by omega)]
  exact qun_low op a.k a.n a.m a.b w o1
 by_cases o2:op > 5
 ·rw [if_pos (by omega)]
  exact qun_high op a.k a.n a.m a.b w o1 o2
 cases hr:vr a
 ·rw [hr] at Ra
  rw [if_pos (by simp)]
  exact qun_bad op a.k a.n a.m a.b w o1 o2 Ra
 rw [hr] at Ra
 rw [if_neg (by simp;omega)]
 by_cases h5:op=5
 ·subst h5
  rw [if_pos rfl]
  exact qun_isnull a.k a.n a.m a.b w _ Ra (fun W _=>(z8v (a.k==0) W).mono fun _ _ h=>⟨h.1,h.2.below⟩)
 rw [if_neg h5]
 by_cases h4:op=4
 ·subst h4
  rw [if_pos rfl]
  exact qun_not a.k a.n a.m a.b w _ _ _ _ _ Ra (fun W _=>(qnot_any a W).mono fun _ _ h=>⟨h.1,h.2.below⟩)
 rw [if_neg h4]
 obtain rfl:op=3:=by omega
 exact qun_neg a.k a.n a.m a.b w _ _ _ _ _ Ra (fun W h=>(qneg_any a W (hP.below h) hr va').mono fun _ _ h=>⟨h.1,h.2.below⟩)
end Go.Proofs.YtibbenhplmmmiaaGreatDoor

namespace Go.Proofs.YtibbenhplmmmiaaGreatDoor
open Go.RowKit Go.Shelf
attribute [local go_sem] z0e z0b z0c z0f z0m z0k z0h z0d z0g z1r z1e z1x z1d z1q z1s z1z z1p z1y z1k z1u
end Go.Proofs.YtibbenhplmmmiaaGreatDoor

namespace Go.Proofs.YtibbenhplmmmiaaGreatDoor
open Go.Lib
theorem decN_app (n n' b0 b1 b2 b3 c1 c2 c3:Nat) (h0n:0<n) (hn:n≤n') (e1:1<n→c1=b1) (e2:2<n→c2=b2) (e3:3<n→c3=b3)
  (h:¬ ((decodeN n b0 b1 b2 b3).1=65533∧(decodeN n b0 b1 b2 b3).2=1)) :
  decodeN n' b0 c1 c2 c3=decodeN n b0 b1 b2 b3∧(decodeN n b0 b1 b2 b3).2≤n∧0<(decodeN n b0 b1 b2 b3).2:=by
 by_cases h0:b0<128
 ·simp only [decodeN,if_pos h0]
  exact ⟨trivial,h0n,by decide⟩
 by_cases h6:b0 / 32=6∧(1<n∧b1 / 64=2)
 ·obtain rfl:=e1 h6.2.1
  have h6':b0 / 32=6∧(1<n'∧c1 / 64=2):=⟨h6.1,by omega,h6.2.2⟩
  simp only [decodeN,if_neg h0,if_pos h6,if_pos h6']
  refine ⟨trivial,?_⟩
  split <;> simp <;> omega
 by_cases h14:b0 / 16=14∧(1<n∧b1 / 64=2)∧(2<n∧b2 / 64=2)
 ·obtain rfl:=e1 h14.2.1.1
  obtain rfl:=e2 h14.2.2.1
  have h6':¬ (b0 / 32=6∧(1<n'∧c1 / 64=2)):=by omega
  have h14':b0 / 16=14∧(1<n'∧c1 / 64=2)∧(2<n'∧c2 / 64=2):=⟨h14.1,⟨by omega,h14.2.1.2⟩,by omega,h14.2.2.2⟩
  simp only [decodeN,if_neg h0,if_neg h6,if_neg h6',if_pos h14,if_pos h14']
  refine ⟨trivial,?_⟩
  split <;> simp <;> omega
 by_cases h30:b0 / 8=30∧(1<n∧b1 / 64=2)∧(2<n∧b2 / 64=2)∧(3<n∧b3 / 64=2)
 ·obtain rfl:=e1 h30.2.1.1
  obtain rfl:=e2 h30.2.2.1.1
  obtain rfl:=e3 h30.2.2.2.1
  have h6':¬ (b0 / 32=6∧(1<n'∧c1 / 64=2)):=by omega
  have h14':¬ (b0 / 16=14∧(1<n'∧c1 / 64=2)∧(2<n'∧c2 / 64=2)):=by omega
  have h30':b0 / 8=30∧(1<n'∧c1 / 64=2)∧(2<n'∧c2 / 64=2)∧(3<n'∧c3 / 64=2):=⟨h30.1,⟨by omega,h30.2.1.2⟩,⟨by omega,h30.2.2.1.2⟩,by omega,h30.2.2.2.2⟩
  simp only [decodeN,if_neg h0,if_neg h6,if_neg h6',if_neg h14,if_neg h14',if_pos h30,if_pos h30']
  refine ⟨trivial,?_⟩
  split <;> simp <;> omega
 ·exfalso
  apply h
  simp only [decodeN,if_neg h0,if_neg h6,if_neg h14,if_neg h30]
  exact ⟨trivial,trivial⟩
theorem validD_append:∀ (n:Nat) (l r:List UInt8),l.length≤n→validD l=true→validD r=true→validD (l++r)=true:=by
 intro n
 induction n with
 | zero =>
  intro l r hl _ hr
  obtain rfl:l=[]:=List.length_eq_zero_iff.1 (by omega)
  exact hr
 | succ n ih =>
  intro l r hl hv hr
  by_cases hne:l=[]
  ·subst hne;exact hr
  ·have hp:0<l.length:=List.length_pos_iff.2 hne
   rw [validD_step l hne] at hv
   split at hv
   ·cases hv
   ·rename_i h
    have h':=h
    rw [decodeL_N] at h'
    have hg:∀ i,i<l.length→(l++r).getD i 0=l.getD i 0:=fun i hi=>by simp [List.getD,List.getElem?_append_left hi]
    obtain ⟨e,hle,hlt⟩:=decN_app l.length (l++r).length (l.getD 0 0).toNat (l.getD 1 0).toNat (l.getD 2 0).toNat (l.getD 3 0).toNat ((l++r).getD 1 0).toNat ((l++r).getD 2 0).toNat ((l++r).getD 3 0).toNat hp (by simp) (fun h=>by rw [hg 1 h]) (fun h=>by rw [hg 2 h]) (fun h=>by rw [hg 3 h]) h'
    have ed:decodeL (l++r)=decodeL l:=by rw [decodeL_N,decodeL_N,hg 0 hp];exact e
    rw [← decodeL_N] at hle hlt
    rw [validD_step (l++r) (by simp [hne]),ed,if_neg h,List.drop_append_of_le_length hle]
    exact ih _ _ (by rw [List.length_drop];omega) hv hr
end Go.Proofs.YtibbenhplmmmiaaGreatDoor

namespace Go.Proofs.YtibbenhplmmmiaaGreatDoor
open Go.RowKit Go.Shelf
def okR (r:Va × Int):Prop:=vr r.1=true∧(r.2=0∨r.1=nul)
theorem vr_nul:vr nul=true:=z8x (by simp [vok,nul])
theorem z4f (e:Int):okR (nul,e):=⟨vr_nul,.inr rfl⟩
theorem ok_int (z:Int):okR (vI z,0):=⟨z8x (by simp [vok,vI]),.inl rfl⟩
theorem ok_bool (b:Bool):okR (vB b,0):=⟨z8x (by cases b <;> simp [vok,vB]),.inl rfl⟩
theorem ok_pt (x y:Int) (h:Ga.ok2 x y=true):okR (vP x y,0):=⟨z8x (by have:=(Ga.ok2_iff x y).1 h;simp [vok,vP];omega),.inl rfl⟩
theorem ok_of (t:Int):okR (vO t,0):=by
 unfold vO
 split
 ·rename_i h
  exact ⟨z8x (by simp [vok];omega),.inl rfl⟩
 ·exact z4f 0
theorem ok_whole (z e:Int):okR (z0v z e):=by
 unfold z0v
 split
 ·exact ok_int z
 ·exact z4f e
theorem ok_dec (z s:Int) (h:0≤s∧s≤6):okR (decR z s):=by
 unfold decR z2a
 split
 ·refine ⟨z8x ?_,.inl rfl⟩
  have:0≤fs z s∧fs z s≤6:=by unfold fs;split <;> omega
  simp [vok,vD];omega
 ·exact z4f _
theorem ok_ptR (x y:Int):okR (ptR x y):=by
 unfold ptR z0u Ga.tX Ga.tY Ga.tE
 by_cases h:Ga.ok2 x y=true
 ·simp only [h,if_true]
  exact ok_pt x y h
 ·simp only [h]
  exact z4f 32
theorem ok_cmp (op c:Int):okR (cmpR op c):=by
 unfold cmpR
 repeat' split
 all_goals first|exact ok_bool _|exact z4f _
theorem ok_bin (op:Int) (a b:Va):okR (binR op a b):=by
 unfold binR
 split
 ·exact z4f 1
 rename_i hg
 have hr:vr a=true∧vr b=true:=by
  rcases Decidable.not_not.1 hg with ⟨_,_,h1,h2⟩
  exact ⟨h1,h2⟩
 have va':=(z2f a).1 hr.1
 have vb':=(z2f b).1 hr.2
 split
 ·unfold truR
  repeat' split
  all_goals first|exact ok_of _|exact z4f _
 split
 ·exact z4f 0
 split
 ·unfold intsR
  repeat' split
  all_goals first|exact ok_whole _ _|exact ok_cmp _ _
 obtain ⟨ak,an,am,ab⟩:=a
 obtain ⟨bk,bn,bm,bb⟩:=b
 simp only [vok] at va' vb'
 split
 ·rename_i hn
  simp only [isn] at hn
  have sa:0≤am∧am≤6:=by omega
  have sb:0≤bm∧bm≤6:=by omega
  unfold z9s
  have g1:0≤gsc am bm∧gsc am bm≤6:=by unfold gsc;split <;> omega
  have g2:0≤psc am bm∧psc am bm≤6:=by unfold psc;split <;> omega
  repeat' split
  all_goals first|exact ok_dec _ _ g1|exact ok_dec _ _ g2|exact ok_dec _ _ ⟨by decide,by decide⟩|exact z4f _|exact ok_cmp _ _
 split
 ·rename_i h5
  simp only at h5
  have pa:(-1048576≤an∧an≤1048576)∧(-1048576≤am∧am≤1048576):=by omega
  have pb:(-1048576≤bn∧bn≤1048576)∧(-1048576≤bm∧bm≤1048576):=by omega
  have q1:¬ (bn=0∧bm=0)→okR (vP (Ga.qX an am bn bm) (Ga.qY an am bn bm),0):=fun hz=>by
   have:=Ga.quo_ok an am bn bm pa.1 pa.2 (Ga.norm_pos hz)
   exact ok_pt _ _ ((Ga.ok2_iff _ _).2 ⟨this.1.1,this.1.2,this.2.1,this.2.2⟩)
  have q2:¬ (bn=0∧bm=0)→okR (vP (Ga.rX an am bn bm) (Ga.rY an am bn bm),0):=fun hz=>by
   have:=Ga.rest_ok an am bn bm pb.1 pb.2 (Ga.norm_pos hz)
   exact ok_pt _ _ ((Ga.ok2_iff _ _).2 ⟨this.1.1,this.1.2,this.2.1,this.2.2⟩)
  unfold ptsR
  simp only
  by_cases hz:bn=0∧bm=0
  ·rw [if_pos hz,if_pos hz]
   repeat' split
   all_goals first|exact ok_ptR _ _|exact z4f _|exact ok_cmp _ _
  ·rw [if_neg hz,if_neg hz]
   repeat' split
   all_goals first|exact ok_ptR _ _|exact q1 hz|exact q2 hz|exact ok_cmp _ _
 split
 ·rename_i h3
  simp only at h3
  unfold txtR
  simp only
  split
  ·split
   ·exact z4f 32
   ·rename_i ho
    refine ⟨z8x ?_,.inl rfl⟩
    have ga:Lib.validD ab=true:=by rcases va' with h|h|h|h|h|h <;> first|omega|exact h.2.2.2.2
    have gb:Lib.validD bb=true:=by rcases vb' with h|h|h|h|h|h <;> first|omega|exact h.2.2.2.2
    have:=validD_append ab.length ab bb (Nat.le_refl _) ga gb
    simp [vok,vT,this]
    omega
  ·exact ok_cmp _ _
 split
 ·exact ok_cmp _ _
 ·exact z4f 31
theorem ok_un (op:Int) (a:Va):okR (unR op a):=by
 unfold unR
 split
 ·exact z4f 1
 rename_i hg
 have hr:vr a=true:=(Decidable.not_not.1 hg).2.2
 have va':=(z2f a).1 hr
 split
 ·exact ok_bool _
 split
 ·unfold notR
  split
  ·exact ok_of _
  ·exact z4f _
 obtain ⟨ak,an,am,ab⟩:=a
 simp only [vok] at va'
 unfold negR
 simp only
 split
 ·exact z4f 0
 split
 ·exact ok_whole _ _
 split
 ·exact ok_dec _ _ (by omega)
 split
 ·exact ok_pt _ _ ((Ga.ok2_iff _ _).2 (by omega))
 ·exact z4f 31
end Go.Proofs.YtibbenhplmmmiaaGreatDoor

namespace Go.Proofs.YtibbenhplmmmiaaGreatDoor
open Go.RowKit Go.Shelf
attribute [local go_sem] z0e z0b z0c z0f z0m z0k z0h z0d z0g
def ptAtR (x y:Int):Va × Int:=if Ga.ok2 x y=true then (vP x y,0) else (nul,32)
theorem qpointAt_any (x y:Int) (w:World):Calls Tryz.prog 180 #[dv x y] w fun e w'=>e=.returned (rs (ptAtR x y))∧Grew w w':=by
 have R:=fun W=>Ga.right_any x y W
 have H:=fun W=>z7g x y 0 W
 unfold ptAtR
 cases h:Ga.ok2 x y
 ·rw [h] at R
  rw [if_neg (by simp)]
  clear h H
  go_enter Tryz.func180,Tryz.ntmps180
  go_wp2_with (go_at_call 88;refine (R _).mono ?_;rintro e w1 ⟨rfl,os1,n1,rfl⟩)
  refine bodyPost_ret_by (v:=rs (nul,32)) ?_ rfl ⟨rfl,gB⟩
  simp [results,Tryz.results180,go_sem,nul]
 ·rw [h] at R
  rw [if_pos rfl]
  clear h
  go_enter Tryz.func180,Tryz.ntmps180
  go_wp2_with (first
   | (go_at_call 88;refine (R _).mono ?_;rintro e w1 ⟨rfl,os1,n1,rfl⟩)
   | (go_at_call 169;refine (H _).mono ?_;rintro e w1 ⟨rfl,os2,n2,rfl⟩))
  refine bodyPost_ret_by (v:=rs (vP x y,0)) ?_ rfl ⟨rfl,gB⟩
  simp [results,Tryz.results180,go_sem,z0u]
def rndR (u s t:Int):Va × Int:=if z0s t=true then z2a (rU u s t) (rS u s t) (rE u s t) else (nul,32)
theorem qrounded_any (u s t:Int) (w:World) (hP:Pw w) (u0:-9223372036854775808≤u) (u1:u≤9223372036854775807):Calls Tryz.prog 181 #[dv u s,.int .i64 t] w fun e w'=>e=.returned (rs (rndR u s t))∧Grew w w':=by
 have R:=fun W=>right_any 0 t W
 have C:∀ W,Grew w W→_:=fun W (h:Grew w W)=>rescale_any u s t W (hP.later h) u0 u1
 have H:=fun W=>z3t (rU u s t) (rS u s t) (rE u s t) W
 clear hP u0 u1
 unfold rndR
 cases h:z0s t
 ·rw [h] at R
  rw [if_neg (by simp)]
  clear h H C
  go_enter Tryz.func181,Tryz.ntmps181
  go_wp2_with (go_at_call 146;refine (R _).mono ?_;rintro e w1 ⟨rfl,os1,n1,rfl⟩)
  refine bodyPost_ret_by (v:=rs (nul,32)) ?_ rfl ⟨rfl,gB⟩
  simp [results,Tryz.results181,go_sem,nul]
 ·rw [h] at R
  rw [if_pos rfl]
  clear h
  go_enter Tryz.func181,Tryz.ntmps181
  go_wp2_with (first
   | (go_at_call 146;refine (R _).mono ?_;rintro e w1 ⟨rfl,os1,n1,rfl⟩)
   | (go_at_call 238;refine (C _ gB).mono ?_;rintro e w1 ⟨rfl,os2,n2,rfl⟩)
   | (go_at_call 162;refine (H _).mono ?_;rintro e w1 ⟨rfl,os3,n3,rfl⟩))
  refine bodyPost_ret_by (v:=rs (z2a (rU u s t) (rS u s t) (rE u s t))) ?_ rfl ⟨rfl,gB⟩
  simp [results,Tryz.results181,go_sem]
def z5n:List UInt8:=[108,101,110,103,116,104]
def sAbs:List UInt8:=[97,98,115]
def sNorm:List UInt8:=[110,111,114,109]
def sPx:List UInt8:=[112,120]
def sPy:List UInt8:=[112,121]
def z6h:List UInt8:=[112,111,105,110,116]
def z5a:List UInt8:=[114,111,117,110,100]
def z4s:List UInt8:=[99,111,97,108,101,115,99,101]
def isF (nm:List UInt8) (n:Nat):Bool :=
 if nm=z5n∨nm=sAbs∨nm=sNorm∨nm=sPx∨nm=sPy then n==1 else if nm=z6h∨nm=z5a then n==2 else if nm=z4s then decide (1≤n∧n≤4) else false
theorem isf_length (c:Int) (w:World):Calls Tryz.prog 109 #[.string ⟨#[108,101,110,103,116,104]⟩,.int .i64 c] w fun e w'=>e=.returned (.bool (c==1))∧w=w':=by
 go_enter Tryz.func109,Tryz.ntmps109
 go_wp2
 all_goals go_ret
 all_goals exact ⟨rfl,rfl⟩
theorem isf_abs (c:Int) (w:World):Calls Tryz.prog 109 #[.string ⟨#[97,98,115]⟩,.int .i64 c] w fun e w'=>e=.returned (.bool (c==1))∧w=w':=by
 go_enter Tryz.func109,Tryz.ntmps109
 go_wp2
 all_goals go_ret
 all_goals exact ⟨rfl,rfl⟩
theorem isf_norm (c:Int) (w:World):Calls Tryz.prog 109 #[.string ⟨#[110,111,114,109]⟩,.int .i64 c] w fun e w'=>e=.returned (.bool (c==1))∧w=w':=by
 go_enter Tryz.func109,Tryz.ntmps109
 go_wp2
 all_goals go_ret
 all_goals exact ⟨rfl,rfl⟩
theorem isf_px (c:Int) (w:World):Calls Tryz.prog 109 #[.string ⟨#[112,120]⟩,.int .i64 c] w fun e w'=>e=.returned (.bool (c==1))∧w=w':=by
 go_enter Tryz.func109,Tryz.ntmps109
 go_wp2
 all_goals go_ret
 all_goals exact ⟨rfl,rfl⟩
theorem isf_py (c:Int) (w:World):Calls Tryz.prog 109 #[.string ⟨#[112,121]⟩,.int .i64 c] w fun e w'=>e=.returned (.bool (c==1))∧w=w':=by
 go_enter Tryz.func109,Tryz.ntmps109
 go_wp2
 all_goals go_ret
 all_goals exact ⟨rfl,rfl⟩
theorem isf_point (c:Int) (w:World):Calls Tryz.prog 109 #[.string ⟨#[112,111,105,110,116]⟩,.int .i64 c] w fun e w'=>e=.returned (.bool (c==2))∧w=w':=by
 go_enter Tryz.func109,Tryz.ntmps109
 go_wp2
 all_goals go_ret
 all_goals exact ⟨rfl,rfl⟩
theorem isf_round (c:Int) (w:World):Calls Tryz.prog 109 #[.string ⟨#[114,111,117,110,100]⟩,.int .i64 c] w fun e w'=>e=.returned (.bool (c==2))∧w=w':=by
 go_enter Tryz.func109,Tryz.ntmps109
 go_wp2
 all_goals go_ret
 all_goals exact ⟨rfl,rfl⟩
theorem isf_coal_lo (c:Int) (w:World) (h:¬ (1:Int)≤c):Calls Tryz.prog 109 #[.string ⟨#[99,111,97,108,101,115,99,101]⟩,.int .i64 c] w fun e w'=>e=.returned (.bool false)∧w=w':=by
 go_enter Tryz.func109,Tryz.ntmps109
 go_wp2
 all_goals go_ret
 all_goals exact ⟨rfl,rfl⟩
theorem isf_coal_hi (c:Int) (w:World) (h0:(1:Int)≤c) (h:¬ c≤4):Calls Tryz.prog 109 #[.string ⟨#[99,111,97,108,101,115,99,101]⟩,.int .i64 c] w fun e w'=>e=.returned (.bool false)∧w=w':=by
 go_enter Tryz.func109,Tryz.ntmps109
 go_wp2
 all_goals go_ret
 all_goals exact ⟨rfl,rfl⟩
theorem isf_coal_ok (c:Int) (w:World) (h0:(1:Int)≤c) (h:c≤4):Calls Tryz.prog 109 #[.string ⟨#[99,111,97,108,101,115,99,101]⟩,.int .i64 c] w fun e w'=>e=.returned (.bool true)∧w=w':=by
 go_enter Tryz.func109,Tryz.ntmps109
 go_wp2
 all_goals go_ret
 all_goals exact ⟨rfl,rfl⟩
theorem isf_other (B:ByteArray) (c:Int) (w:World) (e0:(B.toList==[108,101,110,103,116,104])=false) (e1:(B.toList==[97,98,115])=false) (e2:(B.toList==[110,111,114,109])=false) (e3:(B.toList==[112,120])=false) (e4:(B.toList==[112,121])=false) (e5:(B.toList==[112,111,105,110,116])=false) (e6:(B.toList==[114,111,117,110,100])=false) (e7:(B.toList==[99,111,97,108,101,115,99,101])=false):Calls Tryz.prog 109 #[.string B,.int .i64 c] w fun e w'=>e=.returned (.bool false)∧w=w':=by
 go_enter Tryz.func109,Tryz.ntmps109
 go_wp2
 all_goals go_ret
 all_goals exact ⟨rfl,rfl⟩
end Go.Proofs.YtibbenhplmmmiaaGreatDoor

namespace Go.Proofs.YtibbenhplmmmiaaGreatDoor
open Go.RowKit Go.Shelf
attribute [local go_sem] z0e z0b z0c z0f z0m z0k z0h z0d z0g z1r z1e z1x z1d z1q z1s z1z z1p z1y z1k z1u
theorem qapart_any (k n m:Int) (B:ByteArray) (w:World) (hB:B.size≤140737488351232):Calls Tryz.prog 63 #[va k n m B] w fun e w'=>e=.returned (va k n m B)∧Below w.heap.size w w':=by
 have C:=fun W=>clone_any B W hB
 clear hB
 go_enter Tryz.func63,Tryz.ntmps63
 go_wp2_with (go_at_call 116;refine (C _).mono ?_;rintro e wc ⟨rfl,bc⟩;obtain ⟨osc,dc,rfl⟩:=wide bc;clear bc)
 refine bodyPost_ret_by (v:=va k n m B) ?_ rfl ⟨rfl,z0z.below gC⟩
 simp [results,Tryz.results63,go_sem]
def z4t:List Va→Va
 | []=>nul
 | x::l=>if (x.k==0)=true then z4t l else x
theorem qfirst_any (ao:Option Addr) (cap:Nat) (l:List Va) (w:World) (hv:Vs w ao l) (hl:l.length≤9223372036854775807) (hb:∀ x∈l,x.b.length≤140737488351232) :
  Calls Tryz.prog 110 #[.slice ao l.length cap] w fun e w'=>e=.returned (vv (z4t l))∧Below w.heap.size w w':=by
 obtain ⟨E,hE⟩:∃ E,E=z4t l:=⟨_,rfl⟩
 rw [← hE]
 have HE:Hid (E=z4t (l.drop 0)):=hE
 obtain ⟨n,hn⟩:∃ n,l.length=n:=⟨_,rfl⟩
 rw [hn] at hl ⊢
 have HN:Hid (l.length=n):=hn
 clear hE hn
 obtain ⟨w0,hw0,bxr,Bw⟩:=z2r w
 go_enter Tryz.func110,Tryz.ntmps110
 go_upto_region 1 with fail
 rw [← hw0]
 clear hw0
 go_wp2
 replace hv:=hv.later Bw
 go_loopw [7] (fun r wr=>∃ k:Nat,r=.int .i64 (k:Int)∧k≤n∧Below w0.heap.size w0 wr∧Hid (E=z4t (l.drop k))) (fun r _=>n - (intOf r).toNat)
 case atStart=>exact ⟨0,rfl,Nat.zero_le _,Below.refl _ _,HE⟩
 case round =>
  obtain ⟨k,rfl,hk,hB,hA⟩:=hrel
  have sB:=hB.size
  have br:=bxr.later hB
  obtain ⟨r0,r1,r2,r3⟩:=br.at4
  dsimp only [nul] at r0 r1 r2 r3
  simp only [Nat.zero_add] at r1 r2 r3
  have f0:=br.free 0
  have f1:=br.free 1
  have f2:=br.free 2
  have f3:=br.free 3
  have lt1:=br.lt
  have Be:=z0a Bw hB
  by_cases hlt:k<n
  ·have hlt':(k:Int)<(n:Int):=by omega
   have hkl:k<l.length:=by rw [HN.out];exact hlt
   obtain ⟨b,off,rfl,hc⟩:=hv (by omega)
   obtain ⟨c0,c1,c2,c3⟩:=((hc k (by omega)).later hB)
   have hg:=(hc k (by omega)).lt
   have hg':b<wr.heap.size:=by omega
   have hdr:l.drop k=l[k]::l.drop (k+1):=List.drop_eq_getElem_cons hkl
   have hlen:=hb l[k] (List.getElem_mem _)
   obtain ⟨⟨vk,vn,vm,vb⟩,he⟩:∃ v:Va,v=l[k]:=⟨_,rfl⟩
   rw [← he] at c0 c1 c2 c3 hdr hlen
   have HST:Hid (E=z4t (⟨vk,vn,vm,vb⟩::l.drop (k+1))):=by
    show E=_
    rw [hA.out,hdr]
   have A:=fun W=>qapart_any vk vn vm ⟨vb.toArray⟩ W (by show vb.toArray.size≤_;simpa using hlen)
   clear hc he hdr hA hlen br bxr HE
   by_cases hz:vk=0
   ·subst hz
    go_wp2
    go_roundw
    case rel=>exact ⟨k+1,by go_num,by omega,z0a hB (Grew.below gB),HST.out⟩
    case measure=>simp [intOf];omega
   ·have hz':(vk != 0)=true:=by simpa using hz
    have hE':E=⟨vk,vn,vm,vb⟩:=by
     have:=HST.out
     rw [z4t,if_neg (by simpa using hz)] at this
     exact this
    subst hE'
    clear HST
    go_wp2_with (go_at_call 63;refine (A _).mono ?_;rintro e wc ⟨rfl,bc⟩;obtain ⟨osc,dc,rfl⟩:=wide bc;clear bc)
    refine bodyPost_ret_by (v:=va vk vn vm ⟨vb.toArray⟩) ?_ rfl ⟨rfl,?_⟩
    ·simp [results,Tryz.results110,go_sem,r0,r1,r2,r3,lt1]
    ·refine z0a (Be.setCell (p:=⟨w.heap.size,0,none⟩) (Nat.le_refl _) (.int .i64 vk) |>.setCell (p:=⟨w.heap.size,1,none⟩) (Nat.le_refl _) (.int .i64 vn) |>.setCell (p:=⟨w.heap.size,2,none⟩) (Nat.le_refl _) (.int .i64 vm) |>.setCell (p:=⟨w.heap.size,3,none⟩) (Nat.le_refl _) (.string ⟨vb.toArray⟩)) (z0z.below ?_)
     repeat exact gC
  ·have hlt':¬ (k:Int)<(n:Int):=by omega
   have hE':E=nul:=by
    rw [hA.out,List.drop_eq_nil_of_le (by rw [HN.out];omega)];rfl
   subst hE'
   clear hA HE
   go_wp2
   refine bodyPost_ret_by (v:=vv nul) ?_ rfl ⟨rfl,(Be.setCell (p:=⟨w.heap.size,0,none⟩) (Nat.le_refl _) _ |>.setCell (p:=⟨w.heap.size,1,none⟩) (Nat.le_refl _) _ |>.setCell (p:=⟨w.heap.size,2,none⟩) (Nat.le_refl _) _ |>.setCell (p:=⟨w.heap.size,3,none⟩) (Nat.le_refl _) _)⟩
   simp [results,Tryz.results110,go_sem,r0,r1,r2,r3,nul]
theorem qsize_walk (ak an am:Int) (ab:List UInt8) (bk bn bm be:Int) (bb:List UInt8) (c:Int) (w:World) (U:z0n 115 #[.int .i64 3,va ak an am ⟨ab.toArray⟩] w (.tuple #[va bk bn bm ⟨bb.toArray⟩,.int .i64 be]))
  (C:be=0→∀ W,Below w.heap.size w W→Calls Tryz.prog 167 #[dv an am,dv bn bm] W fun e w'=>e=.returned (.int .i64 c)∧Grew W w') (r:Va × Int) (hr:Hid (r=if be=0 then (if c<0 then (⟨bk,bn,bm,bb⟩,0) else (⟨ak,an,am,ab⟩,0)) else (nul,be))) :
  Calls Tryz.prog 178 #[va ak an am ⟨ab.toArray⟩] w fun e w'=>e=.returned (rs r)∧Below w.heap.size w w':=by
 obtain ⟨w0,hw0,bxa,bxr,G⟩:=z1n w ⟨ak,an,am,ab⟩
 dsimp only at hw0
 have UU:=fun k n m b W=>z3q k n m b W
 replace U:=U.later G
 have ha:=bxa.at4
 have C':Hid (be=0→∀ W,Below w0.heap.size w0 W→Calls Tryz.prog 167 #[dv an am,dv bn bm] W fun e w'=>e=.returned (.int .i64 c)∧Grew W w'):=fun h W hW=>C h W (z0a G hW)
 clear C
 go_enter Tryz.func178,Tryz.ntmps178
 go_upto_region 1 with fail
 rw [← hw0]
 clear hw0
 obtain ⟨k0a,k0b,k0c,k0d⟩:=id ha
 have k0l:=ha.lt
 simp only [Nat.zero_add] at k0b k0c k0d
 go_cut [4,5] from 6 (fun s0 s1 wx=>∃ p:Nat,s0=.pointer (some ⟨p,0,none⟩)∧s1=.int .i64 be∧At4 wx p 0 ⟨bk,bn,bm,bb⟩∧Below w0.heap.size w0 wx)
 case first =>
  clear UU C' hr
  go_wp2_with (first
   | (go_at_call 115;refine (U _ (z0z.below gC)).mono ?_;rintro e wc ⟨rfl,bc⟩;obtain ⟨osc,dc,rfl⟩:=wide bc;clear bc))
  all_goals go_meet
  all_goals exact ⟨_,rfl,rfl,⟨gD,gD,gD,gD⟩,z0z.below gC⟩
 rename World=>v1
 obtain ⟨p1,rfl,rfl,hp1,gv1⟩:=hcut
 clear k0a k0b k0c k0d k0l
 replace ha:=ha.later gv1
 replace U:=U.later gv1
 have br:=bxr.later gv1
 have C1:Hid (be=0→∀ W,Grew v1 W→Calls Tryz.prog 167 #[dv an am,dv bn bm] W fun e w'=>e=.returned (.int .i64 c)∧Grew W w'):=fun h W hW=>C'.out h W (z0a gv1 hW.below)
 replace G:=z0a G gv1
 clear gv1 C' U bxa bxr
 obtain ⟨r0,r1,r2,r3⟩:=br.at4
 dsimp only [nul] at r0 r1 r2 r3
 simp only [Nat.zero_add] at r1 r2 r3
 have f0:=br.free 0
 have f1:=br.free 1
 have f2:=br.free 2
 have f3:=br.free 3
 have lt1:=br.lt
 obtain ⟨A0,A1,A2,A3⟩:=id ha
 have Al:=ha.lt
 obtain ⟨B0,B1,B2,B3⟩:=id hp1
 have Bl:=hp1.lt
 dsimp only at A0 A1 A2 A3 B0 B1 B2 B3
 simp only [Nat.zero_add] at A1 A2 A3 B1 B2 B3
 clear br ha hp1
 by_cases hz:be=0
 ·subst hz
  have C:=C1.out rfl
  have hr':=hr.out
  rw [if_pos rfl] at hr'
  clear C1 hr
  by_cases hc:c<0
  ·rw [if_pos hc] at hr'
   subst hr'
   go_wp2_with fail
   go_region_held2 (fun W=>W.cell? ⟨w.heap.size,0,none⟩=some (.int .i64 ak)∧W.cell? ⟨w.heap.size,1,none⟩=some (.int .i64 an)∧W.cell? ⟨w.heap.size,2,none⟩=some (.int .i64 am)∧W.cell? ⟨w.heap.size,3,none⟩=some (.string ⟨ab.toArray⟩) ∧
     W.cell? ⟨p1,0,none⟩=some (.int .i64 bk)∧W.cell? ⟨p1,1,none⟩=some (.int .i64 bn)∧W.cell? ⟨p1,2,none⟩=some (.int .i64 bm)∧W.cell? ⟨p1,3,none⟩=some (.string ⟨bb.toArray⟩)) (simp (maxDischargeDepth:=12) [go_sem,A0,A1,A2,A3,B0,B1,B2,B3,Al,Bl]) (first
    | (go_at_call 104;refine (UU _ _ _ _ _).mono ?_;rintro e wc ⟨rfl,os1,n1,rfl⟩)
    | (go_at_call 167;refine (C _ gB).mono ?_;rintro e wc ⟨rfl,os2,n2,rfl⟩))
   go_wp2
   refine bodyPost_ret_by (v:=rs (⟨bk,bn,bm,bb⟩,0)) ?_ rfl ⟨rfl,?_⟩
   ·simp [results,Tryz.results178,go_sem,r0,r1,r2,r3,lt1]
   ·refine z0a (G.setCell (p:=⟨w.heap.size+1,0,none⟩) (by dsimp only;omega) (.int .i64 bk) |>.setCell (p:=⟨w.heap.size+1,1,none⟩) (by dsimp only;omega) (.int .i64 bn) |>.setCell (p:=⟨w.heap.size+1,2,none⟩) (by dsimp only;omega) (.int .i64 bm) |>.setCell (p:=⟨w.heap.size+1,3,none⟩) (by dsimp only;omega) (.string ⟨bb.toArray⟩)) (Grew.below ?_)
    repeat exact gB
  ·rw [if_neg hc] at hr'
   subst hr'
   go_wp2_with fail
   go_region_held2 (fun W=>W.cell? ⟨w.heap.size,0,none⟩=some (.int .i64 ak)∧W.cell? ⟨w.heap.size,1,none⟩=some (.int .i64 an)∧W.cell? ⟨w.heap.size,2,none⟩=some (.int .i64 am)∧W.cell? ⟨w.heap.size,3,none⟩=some (.string ⟨ab.toArray⟩) ∧
     W.cell? ⟨p1,0,none⟩=some (.int .i64 bk)∧W.cell? ⟨p1,1,none⟩=some (.int .i64 bn)∧W.cell? ⟨p1,2,none⟩=some (.int .i64 bm)∧W.cell? ⟨p1,3,none⟩=some (.string ⟨bb.toArray⟩)) (simp (maxDischargeDepth:=12) [go_sem,A0,A1,A2,A3,B0,B1,B2,B3,Al,Bl]) (first
    | (go_at_call 104;refine (UU _ _ _ _ _).mono ?_;rintro e wc ⟨rfl,os1,n1,rfl⟩)
    | (go_at_call 167;refine (C _ gB).mono ?_;rintro e wc ⟨rfl,os2,n2,rfl⟩))
   go_wp2
   refine bodyPost_ret_by (v:=rs (⟨ak,an,am,ab⟩,0)) ?_ rfl ⟨rfl,?_⟩
   ·simp [results,Tryz.results178,go_sem,r0,r1,r2,r3,lt1]
   ·refine z0a (G.setCell (p:=⟨w.heap.size+1,0,none⟩) (by dsimp only;omega) (.int .i64 ak) |>.setCell (p:=⟨w.heap.size+1,1,none⟩) (by dsimp only;omega) (.int .i64 an) |>.setCell (p:=⟨w.heap.size+1,2,none⟩) (by dsimp only;omega) (.int .i64 am) |>.setCell (p:=⟨w.heap.size+1,3,none⟩) (by dsimp only;omega) (.string ⟨ab.toArray⟩)) (Grew.below ?_)
    repeat exact gB
 ·have hr':=hr.out
  rw [if_neg hz] at hr'
  subst hr'
  have hz':(be != 0)=true:=by simpa using hz
  clear C1 hr
  go_wp2
  refine bodyPost_ret_by (v:=rs (nul,be)) ?_ rfl ⟨rfl,?_⟩
  ·simp [results,Tryz.results178,go_sem,r0,r1,r2,r3,nul]
  ·refine z0a (G.setCell (p:=⟨w.heap.size+1,0,none⟩) (by dsimp only;omega) (.int .i64 0) |>.setCell (p:=⟨w.heap.size+1,1,none⟩) (by dsimp only;omega) (.int .i64 0) |>.setCell (p:=⟨w.heap.size+1,2,none⟩) (by dsimp only;omega) (.int .i64 0) |>.setCell (p:=⟨w.heap.size+1,3,none⟩) (by dsimp only;omega) (.string ⟨#[]⟩)) (Grew.below ?_)
   repeat exact gB
end Go.Proofs.YtibbenhplmmmiaaGreatDoor
