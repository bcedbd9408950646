/-
  Ops of two Texts: eval.ofTexts.
  Truths: eval.ofTruths, notOf.
  eval.Binary, whole: what an op of two comes to.
  A world with some blocks more, whatever has been drawn: out of 'Below', so that its cells read as those of a world that has grown. Nothing of the program is in it.
  Rows of values: eval.allRight, slices.Contains at the value Null.
  eval.called.
-/
import Derived.Test.YtibbenhplmmmiaaGreatDoorMAQNums
import Derived.Test.YtibbenhplmmmiaaGreatDoorMtLByte
import Derived.Test.YtibbenhplmmmiaaGreatDoorQPts
import Derived.Test.YtibbenhplmmmiaaGreatDoorMcDWide3
import Derived.BigRegion
import Derived.Deep.Cut
set_option maxHeartbeats 2000000
set_option maxRecDepth 20000
namespace Go.Proofs.YtibbenhplmmmiaaGreatDoor
open Go.RowKit Go.Shelf
attribute [local go_sem] z0e z0b z0c z0f z0m z0k z0h z0d z0g
theorem qtxt_cmp (op c:Int) (an am bn bm:Int) (ab bb:List UInt8) (w:World) (e9:(op != 9)=true) (D:z0n 108 #[va 3 an am ⟨ab.toArray⟩,va 3 bn bm ⟨bb.toArray⟩] w (.int .i64 c)) :
  Calls Tryz.prog 106 #[.int .i64 op,va 3 an am ⟨ab.toArray⟩,va 3 bn bm ⟨bb.toArray⟩] w fun e w'=>e=.returned (rs (cmpR op c))∧Below w.heap.size w w':=by
 have HC:=fun W=>z3k op c W
 obtain ⟨w0,hw0,bxa,bxb,bxr,Bw⟩:=z0q w ⟨3,an,am,ab⟩ ⟨3,bn,bm,bb⟩
 dsimp only at hw0
 have B0:Below w0.heap.size w0 w0:=Below.refl _ _
 go_enter Tryz.func106,Tryz.ntmps106
 go_wp2_with fail
 rw [← hw0]
 clear hw0
 obtain ⟨a0,a1,a2,a3⟩:=bxa.at4
 obtain ⟨b0,b1,b2,b3⟩:=bxb.at4
 dsimp only at a0 a1 a2 a3 b0 b1 b2 b3
 go_wp2_with fail
 refine (D _ Bw).mono ?_
 rintro e w1 ⟨rfl,B1⟩
 have br:=bxr.later B1
 obtain ⟨r0,r1,r2,r3⟩:=br.at4
 dsimp only [nul] at r0 r1 r2 r3
 simp only [Nat.zero_add] at r1 r2 r3
 have f0:=br.free 0
 have f1:=br.free 1
 have f2:=br.free 2
 have f3:=br.free 3
 have lt1:=br.lt
 have Be:=z0a Bw B1
 clear D a0 a1 a2 a3 b0 b1 b2 b3 br bxr
 go_wp2_with (go_at_call 107;refine (HC _).mono ?_;rintro e w3 ⟨rfl,os2,n2,rfl⟩)
 refine bodyPost_ret_by (v:=rs (cmpR op c)) ?_ rfl ⟨rfl,?_⟩
 ·simp [results,Tryz.results106,go_sem,r0,r1,r2,r3,lt1]
 ·refine z0a (Be.setCell (p:=⟨w.heap.size+1+1,0,none⟩) (by dsimp only;omega) (.int .i64 (cmpR op c).1.k) |>.setCell (p:=⟨w.heap.size+1+1,1,none⟩) (by dsimp only;omega) (.int .i64 (cmpR op c).1.n) |>.setCell (p:=⟨w.heap.size+1+1,2,none⟩) (by dsimp only;omega) (.int .i64 (cmpR op c).1.m) |>.setCell (p:=⟨w.heap.size+1+1,3,none⟩) (by dsimp only;omega) (.string ⟨(cmpR op c).1.b.toArray⟩)) (Grew.below ?_)
  repeat exact gB
theorem qtxt_over (an am bn bm:Int) (ab bb:List UInt8) (w:World) (ha:ab.length≤256) (hb:bb.length≤256) (ho:256<ab.length+bb.length) :
  Calls Tryz.prog 106 #[.int .i64 9,va 3 an am ⟨ab.toArray⟩,va 3 bn bm ⟨bb.toArray⟩] w fun e w'=>e=.returned (.tuple #[va 0 0 0 ⟨#[]⟩,.int .i64 32])∧Below w.heap.size w w':=by
 have hs:(256:Int)<(ab.length:Int)+(bb.length:Int):=by omega
 have hw:IntKind.i64.wrap ((ab.length:Int)+(bb.length:Int))=(ab.length:Int)+(bb.length:Int):=by rw [IntKind.wrap_i64];omega
 obtain ⟨w0,hw0,bxa,bxb,bxr,Bw⟩:=z0q w ⟨3,an,am,ab⟩ ⟨3,bn,bm,bb⟩
 dsimp only at hw0
 have B0:Below w0.heap.size w0 w0:=Below.refl _ _
 go_enter Tryz.func106,Tryz.ntmps106
 go_wp2_with fail
 rw [← hw0]
 clear hw0
 obtain ⟨a0,a1,a2,a3⟩:=bxa.at4
 obtain ⟨b0,b1,b2,b3⟩:=bxb.at4
 dsimp only at a0 a1 a2 a3 b0 b1 b2 b3
 have br:=bxr.later B0
 obtain ⟨r0,r1,r2,r3⟩:=br.at4
 dsimp only [nul] at r0 r1 r2 r3
 simp only [Nat.zero_add] at r1 r2 r3
 have f0:=br.free 0
 have f1:=br.free 1
 have f2:=br.free 2
 have f3:=br.free 3
 have lt1:=br.lt
 have Be:=z0a Bw B0
 go_wp2
 refine bodyPost_ret_by (v:=.tuple #[va 0 0 0 ⟨#[]⟩,.int .i64 32]) ?_ rfl ⟨rfl,?_⟩
 ·simp [results,Tryz.results106,go_sem,r0,r1,r2,r3]
 ·exact Be
theorem ba_append (x y:List UInt8):(⟨x.toArray⟩:ByteArray)++⟨y.toArray⟩=⟨(x++y).toArray⟩:=by
 apply ByteArray.ext
 simp
theorem qtxt_join (an am bn bm:Int) (ab bb:List UInt8) (w:World) (ho:¬ 256<ab.length+bb.length) :
  Calls Tryz.prog 106 #[.int .i64 9,va 3 an am ⟨ab.toArray⟩,va 3 bn bm ⟨bb.toArray⟩] w fun e w'=>e=.returned (.tuple #[va 3 0 0 ⟨(ab++bb).toArray⟩,.int .i64 0])∧Below w.heap.size w w':=by
 have hs:¬ (256:Int)<(ab.length:Int)+(bb.length:Int):=by omega
 have hw:IntKind.i64.wrap ((ab.length:Int)+(bb.length:Int))=(ab.length:Int)+(bb.length:Int):=by rw [IntKind.wrap_i64];omega
 have C:∀ W,Calls Tryz.prog 116 #[.string (⟨ab.toArray⟩++⟨bb.toArray⟩)] W fun e w'=>e=.returned (.string ⟨(ab++bb).toArray⟩)∧Below W.heap.size W w':=by
  intro W
  rw [ba_append]
  exact clone_any _ W (by show (ab++bb).toArray.size≤_;simp;omega)
 obtain ⟨w0,hw0,bxa,bxb,bxr,Bw⟩:=z0q w ⟨3,an,am,ab⟩ ⟨3,bn,bm,bb⟩
 dsimp only at hw0
 have B0:Below w0.heap.size w0 w0:=Below.refl _ _
 go_enter Tryz.func106,Tryz.ntmps106
 go_wp2_with fail
 rw [← hw0]
 clear hw0
 obtain ⟨a0,a1,a2,a3⟩:=bxa.at4
 obtain ⟨b0,b1,b2,b3⟩:=bxb.at4
 dsimp only at a0 a1 a2 a3 b0 b1 b2 b3
 go_wp2_with fail
 refine (C _).mono ?_
 rintro e w1 ⟨rfl,B1⟩
 have br:=bxr.later B1
 obtain ⟨r0,r1,r2,r3⟩:=br.at4
 dsimp only [nul] at r0 r1 r2 r3
 simp only [Nat.zero_add] at r1 r2 r3
 have f0:=br.free 0
 have f1:=br.free 1
 have f2:=br.free 2
 have f3:=br.free 3
 have lt1:=br.lt
 have Be:=z0a Bw B1
 clear C a0 a1 a2 a3 b0 b1 b2 b3 br bxr
 go_wp2
 refine bodyPost_ret_by (v:=.tuple #[va 3 0 0 ⟨(ab++bb).toArray⟩,.int .i64 0]) ?_ rfl ⟨rfl,?_⟩
 ·simp [results,Tryz.results106,go_sem,r0,r1,r2,r3]
 ·refine z0a (Be.setCell (p:=⟨w.heap.size+1+1,0,none⟩) (by dsimp only;omega) (.int .i64 3) |>.setCell (p:=⟨w.heap.size+1+1,1,none⟩) (by dsimp only;omega) (.int .i64 0) |>.setCell (p:=⟨w.heap.size+1+1,2,none⟩) (by dsimp only;omega) (.int .i64 0) |>.setCell (p:=⟨w.heap.size+1+1,3,none⟩) (by dsimp only;omega) (.string ⟨(ab++bb).toArray⟩)) (Grew.below ?_)
  repeat exact gB
theorem vof_vO (t:Int):vof t=vv (vO t):=by unfold vof vO;split <;> rfl
theorem qof_any (t:Int) (w:World):Calls Tryz.prog 72 #[.int .i64 t] w fun e w'=>e=.returned (vv (vO t))∧Grew w w':=by rw [← vof_vO];exact of_any t w
theorem qtr_ff (op ak an am bk bn bm t u:Int) (ab bb:ByteArray) (w:World) (y0:Bool) (Ta:∀ W,Calls Tryz.prog 69 #[va ak an am ab] W fun e w'=>e=.returned (.tuple #[.int .i64 t,.bool false])∧Grew W w') (Tb:∀ W,Calls Tryz.prog 69 #[va bk bn bm bb] W fun e w'=>e=.returned (.tuple #[.int .i64 u,.bool y0])∧Grew W w') :
  Calls Tryz.prog 100 #[.int .i64 op,va ak an am ab,va bk bn bm bb] w fun e w'=>e=.returned (.tuple #[va 0 0 0 ⟨#[]⟩,.int .i64 31])∧Grew w w':=by
 go_enter Tryz.func100,Tryz.ntmps100
 go_wp2_with fail
 refine (Ta _).mono ?_
 rintro e w1 ⟨rfl,os1,n1,rfl⟩
 go_wp2_with fail
 refine (Tb _).mono ?_
 rintro e w2 ⟨rfl,os2,n2,rfl⟩
 go_wp2
 all_goals refine bodyPost_ret_by (v:=.tuple #[va 0 0 0 ⟨#[]⟩,.int .i64 31]) ?_ rfl ⟨rfl,gB⟩
 all_goals simp [results,Tryz.results100,go_sem]
theorem qtr_tf (op ak an am bk bn bm t u:Int) (ab bb:ByteArray) (w:World)  (Ta:∀ W,Calls Tryz.prog 69 #[va ak an am ab] W fun e w'=>e=.returned (.tuple #[.int .i64 t,.bool true])∧Grew W w') (Tb:∀ W,Calls Tryz.prog 69 #[va bk bn bm bb] W fun e w'=>e=.returned (.tuple #[.int .i64 u,.bool false])∧Grew W w') :
  Calls Tryz.prog 100 #[.int .i64 op,va ak an am ab,va bk bn bm bb] w fun e w'=>e=.returned (.tuple #[va 0 0 0 ⟨#[]⟩,.int .i64 31])∧Grew w w':=by
 go_enter Tryz.func100,Tryz.ntmps100
 go_wp2_with fail
 refine (Ta _).mono ?_
 rintro e w1 ⟨rfl,os1,n1,rfl⟩
 go_wp2_with fail
 refine (Tb _).mono ?_
 rintro e w2 ⟨rfl,os2,n2,rfl⟩
 go_wp2
 all_goals refine bodyPost_ret_by (v:=.tuple #[va 0 0 0 ⟨#[]⟩,.int .i64 31]) ?_ rfl ⟨rfl,gB⟩
 all_goals simp [results,Tryz.results100,go_sem]
theorem qtr_and (ak an am bk bn bm t u:Int) (ab bb:ByteArray) (w:World)  (Ta:∀ W,Calls Tryz.prog 69 #[va ak an am ab] W fun e w'=>e=.returned (.tuple #[.int .i64 t,.bool true])∧Grew W w') (Tb:∀ W,Calls Tryz.prog 69 #[va bk bn bm bb] W fun e w'=>e=.returned (.tuple #[.int .i64 u,.bool true])∧Grew W w') :
  Calls Tryz.prog 100 #[.int .i64 17,va ak an am ab,va bk bn bm bb] w fun e w'=>e=.returned (rs (vO (tand t u),0))∧Grew w w':=by
 have C:=fun W=>and_any t u W
 have O:=fun W=>qof_any (tand t u) W
 go_enter Tryz.func100,Tryz.ntmps100
 go_wp2_with fail
 refine (Ta _).mono ?_
 rintro e w1 ⟨rfl,os1,n1,rfl⟩
 go_wp2_with fail
 refine (Tb _).mono ?_
 rintro e w2 ⟨rfl,os2,n2,rfl⟩
 go_wp2_with (first
  | (go_at_call 43;refine (C _).mono ?_;rintro e w3 ⟨rfl,rfl⟩)
  | (go_at_call 72;refine (O _).mono ?_;rintro e w3 ⟨rfl,os3,n3,rfl⟩))
 refine bodyPost_ret_by (v:=rs (vO (tand t u),0)) ?_ rfl ⟨rfl,gB⟩
 simp [results,Tryz.results100,go_sem]
theorem qtr_or (op ak an am bk bn bm t u:Int) (ab bb:ByteArray) (w:World) (e17:(op==17)=false) (Ta:∀ W,Calls Tryz.prog 69 #[va ak an am ab] W fun e w'=>e=.returned (.tuple #[.int .i64 t,.bool true])∧Grew W w') (Tb:∀ W,Calls Tryz.prog 69 #[va bk bn bm bb] W fun e w'=>e=.returned (.tuple #[.int .i64 u,.bool true])∧Grew W w') :
  Calls Tryz.prog 100 #[.int .i64 op,va ak an am ab,va bk bn bm bb] w fun e w'=>e=.returned (rs (vO (tor t u),0))∧Grew w w':=by
 have C:=fun W=>or_any t u W
 have O:=fun W=>qof_any (tor t u) W
 go_enter Tryz.func100,Tryz.ntmps100
 go_wp2_with fail
 refine (Ta _).mono ?_
 rintro e w1 ⟨rfl,os1,n1,rfl⟩
 go_wp2_with fail
 refine (Tb _).mono ?_
 rintro e w2 ⟨rfl,os2,n2,rfl⟩
 go_wp2_with (first
  | (go_at_call 44;refine (C _).mono ?_;rintro e w3 ⟨rfl,rfl⟩)
  | (go_at_call 72;refine (O _).mono ?_;rintro e w3 ⟨rfl,os3,n3,rfl⟩))
 refine bodyPost_ret_by (v:=rs (vO (tor t u),0)) ?_ rfl ⟨rfl,gB⟩
 simp [results,Tryz.results100,go_sem]
theorem qtru_any (op:Int) (a b:Va) (w:World):Calls Tryz.prog 100 #[.int .i64 op,vv a,vv b] w fun e w'=>e=.returned (rs (truR op a b))∧Grew w w':=by
 have A:=fun W=>z7y a.k a.n a.m ⟨a.b.toArray⟩ W
 have B:=fun W=>z7y b.k b.n b.m ⟨b.b.toArray⟩ W
 unfold truR
 cases ha:tB a
 ·rw [if_neg (by simp)]
  rw [show truB a.k a.n a.m ⟨a.b.toArray⟩=false from ha] at A
  exact qtr_ff op _ _ _ _ _ _ _ _ _ _ w _ A B
 ·rw [show truB a.k a.n a.m ⟨a.b.toArray⟩=true from ha] at A
  cases hb:tB b
  ·rw [if_neg (by simp)]
   rw [show truB b.k b.n b.m ⟨b.b.toArray⟩=false from hb] at B
   exact qtr_tf op _ _ _ _ _ _ _ _ _ _ w A B
  ·rw [if_pos (by rfl)]
   rw [show truB b.k b.n b.m ⟨b.b.toArray⟩=true from hb] at B
   by_cases h:op=17
   ·subst h
    rw [if_pos rfl]
    exact qtr_and _ _ _ _ _ _ _ _ _ _ w A B
   ·rw [if_neg h]
    exact qtr_or op _ _ _ _ _ _ _ _ _ _ w (by simpa using h) A B
theorem qnot_any (a:Va) (w:World):Calls Tryz.prog 184 #[vv a] w fun e w'=>e=.returned (rs (notR a))∧Grew w w':=by
 have A:=fun W=>z7y a.k a.n a.m ⟨a.b.toArray⟩ W
 unfold notR
 cases ha:tB a
 ·rw [if_neg (by simp)]
  rw [show truB a.k a.n a.m ⟨a.b.toArray⟩=false from ha] at A
  generalize truN a.k a.n a.m ⟨a.b.toArray⟩=t at *
  go_enter Tryz.func184,Tryz.ntmps184
  go_wp2_with (go_at_call 69;refine (A _).mono ?_;rintro e w1 ⟨rfl,os1,n1,rfl⟩)
  refine bodyPost_ret_by (v:=rs (nul,31)) ?_ rfl ⟨rfl,gB⟩
  simp [results,Tryz.results184,go_sem,nul]
 ·rw [if_pos rfl]
  rw [show truB a.k a.n a.m ⟨a.b.toArray⟩=true from ha] at A
  unfold tN
  generalize truN a.k a.n a.m ⟨a.b.toArray⟩=t at *
  have C:=fun W=>not_any t W
  have O:=fun W=>qof_any (tnot t) W
  go_enter Tryz.func184,Tryz.ntmps184
  go_wp2_with (first
   | (go_at_call 69;refine (A _).mono ?_;rintro e w1 ⟨rfl,os1,n1,rfl⟩)
   | (go_at_call 45;refine (C _).mono ?_;rintro e w3 ⟨rfl,rfl⟩)
   | (go_at_call 72;refine (O _).mono ?_;rintro e w3 ⟨rfl,os3,n3,rfl⟩))
  refine bodyPost_ret_by (v:=rs (vO (tnot t),0)) ?_ rfl ⟨rfl,gB⟩
  simp [results,Tryz.results184,go_sem]
end Go.Proofs.YtibbenhplmmmiaaGreatDoor

namespace Go.Proofs.YtibbenhplmmmiaaGreatDoor
open Go.RowKit Go.Shelf
theorem z8s (a b:Va) (w:World) (hT:Tabs w) (hP:Pw w) (va:vin a) (vb:vin b):z0n 108 #[vv a,vv b] w (.int .i64 (pcmp a b)) :=
 fun W h=>compare_any a b W (hT.later h) (hP.below h) va vb
theorem qcompared_tells (op c:Int) (w:World):z0n 107 #[.int .i64 op,.int .i64 c] w (rs (cmpR op c)) :=
 fun W _=>(z3k op c W).mono fun _ _ h=>⟨h.1,h.2.below⟩
theorem qpts_any (op n m n' m':Int) (b b':List UInt8) (w:World) (hT:Tabs w) (hP:Pw w) (ha:Ga.ok2 n m=true) (hb:Ga.ok2 n' m'=true) :
  Calls Tryz.prog 105 #[.int .i64 op,vv ⟨5,n,m,b⟩,vv ⟨5,n',m',b'⟩] w fun e w'=>e=.returned (rs (ptsR op ⟨5,n,m,b⟩ ⟨5,n',m',b'⟩))∧Below w.heap.size w w':=by
 have ia:=(Ga.ok2_iff n m).1 ha
 have ib:=(Ga.ok2_iff n' m').1 hb
 have D:=z8s ⟨5,n,m,b⟩ ⟨5,n',m',b'⟩ w hT hP ⟨⟨by simp only;omega,by simp only;omega⟩,⟨by simp only;omega,by simp only;omega⟩⟩ ⟨⟨by simp only;omega,by simp only;omega⟩,⟨by simp only;omega,by simp only;omega⟩⟩
 by_cases hz:n'=0∧m'=0
 ·obtain ⟨rfl,rfl⟩:=hz
  refine qpts_walk op n m 0 0 _ _ _ _ _ _ _ _ _ _ _ _ _ _ _ b b' w (fun W=>Ga.add_good n m 0 0 W ha hb) (fun W=>Ga.sub_good n m 0 0 W ha hb) (fun W=>Ga.mul_good n m 0 0 W ha hb) (fun W=>Ga.div_zero n m W ha) D _ ?_
  show ptsR op _ _=_
  unfold ptsR ptR
  simp only [and_self,if_true]
  rfl
 ·have hn:=Ga.norm_pos hz
  refine qpts_walk op n m n' m' _ _ _ _ _ _ _ _ _ _ _ _ _ _ _ b b' w (fun W=>Ga.add_good n m n' m' W ha hb) (fun W=>Ga.sub_good n m n' m' W ha hb) (fun W=>Ga.mul_good n m n' m' W ha hb) (fun W=>Ga.div_good n m n' m' W ha hb hn) D _ ?_
  show ptsR op _ _=_
  unfold ptsR ptR
  rw [if_neg hz,if_neg hz]
  rfl
theorem qtxt_any (op:Int) (b b':List UInt8) (w:World) (hT:Tabs w) (hP:Pw w) (h1:b.length≤256) (h2:b'.length≤256) :
  Calls Tryz.prog 106 #[.int .i64 op,vv ⟨3,0,0,b⟩,vv ⟨3,0,0,b'⟩] w fun e w'=>e=.returned (rs (txtR op ⟨3,0,0,b⟩ ⟨3,0,0,b'⟩))∧Below w.heap.size w w':=by
 unfold txtR
 by_cases h:op=9
 ·subst h
  rw [if_pos rfl]
  by_cases ho:256<b.length+b'.length
  ·rw [if_pos ho]
   exact qtxt_over 0 0 0 0 b b' w h1 h2 ho
  ·rw [if_neg ho]
   exact qtxt_join 0 0 0 0 b b' w ho
 ·rw [if_neg h]
  exact qtxt_cmp op _ 0 0 0 0 b b' w (by simpa using h) (z8s ⟨3,0,0,b⟩ ⟨3,0,0,b'⟩ w hT hP ⟨⟨(by show (-9223372036854775808:Int)≤0;decide),(by show (0:Int)≤9223372036854775807;decide)⟩,⟨(by show (-9223372036854775808:Int)≤0;decide),(by show (0:Int)≤9223372036854775807;decide)⟩⟩ ⟨⟨(by show (-9223372036854775808:Int)≤0;decide),(by show (0:Int)≤9223372036854775807;decide)⟩,⟨(by show (-9223372036854775808:Int)≤0;decide),(by show (0:Int)≤9223372036854775807;decide)⟩⟩)
theorem qnum_tells (a:Va) (b:Bool) (h:(a.k==1 || a.k==2)=b) (w:World):z0n 102 #[vv a] w (.bool b):=by
 subst h
 exact fun W _=>(z2g a.k a.n a.m ⟨a.b.toArray⟩ W).mono fun _ _ h=>⟨h.1,h.2.below⟩
theorem qbin_any (op:Int) (a b:Va) (w:World) (hT:Tabs w) (hP:Pw w) (ia:vin a) (ib:vin b) :
  Calls Tryz.prog 56 #[.int .i64 op,vv a,vv b] w fun e w'=>e=.returned (rs (binR op a b))∧Below w.heap.size w w':=by
 have Ra:z0n 34 #[vv a] w (.bool (vr a)):=fun W h=>z3r a.k a.n a.m ⟨a.b.toArray⟩ W (hT.later h)
 have Rb:z0n 34 #[vv b] w (.bool (vr b)):=fun W h=>z3r b.k b.n b.m ⟨b.b.toArray⟩ W (hT.later h)
 unfold binR
 by_cases o1:op<6
 ·rw [if_pos (by omega)]
  exact qbin_low op a.k b.k a.n a.m b.n b.m a.b b.b w o1
 by_cases o2:op > 18
 ·rw [if_pos (by omega)]
  exact qbin_high op a.k b.k a.n a.m b.n b.m a.b b.b w o1 o2
 cases ha:vr a
 ·rw [ha] at Ra
  rw [if_pos (by simp)]
  exact qbin_badA op a.k b.k a.n a.m b.n b.m a.b b.b w o1 o2 Ra
 rw [ha] at Ra
 cases hb:vr b
 ·rw [hb] at Rb
  rw [if_pos (by simp)]
  exact qbin_badB op a.k b.k a.n a.m b.n b.m a.b b.b w o1 o2 Ra Rb
 rw [hb] at Rb
 rw [if_neg (by simp;omega)]
 by_cases h17:op=17
 ·subst h17
  rw [if_pos (.inl rfl)]
  exact qbin_t17 a.k b.k a.n a.m b.n b.m a.b b.b w _ _ _ _ _ Ra Rb (fun W _=>(qtru_any 17 a b W).mono fun _ _ h=>⟨h.1,h.2.below⟩)
 by_cases h18:op=18
 ·subst h18
  rw [if_pos (.inr rfl)]
  exact qbin_t18 a.k b.k a.n a.m b.n b.m a.b b.b w _ _ _ _ _ Ra Rb (fun W _=>(qtru_any 18 a b W).mono fun _ _ h=>⟨h.1,h.2.below⟩)
 rw [if_neg (by omega)]
 have e17:(op != 17)=true:=by simpa using h17
 have e18:(op != 18)=true:=by simpa using h18
 have va':=(z2f a).1 ha
 have vb':=(z2f b).1 hb
 obtain ⟨ak,an,am,ab⟩:=a
 obtain ⟨bk,bn,bm,bb⟩:=b
 simp only [vok] at va' vb'
 obtain ⟨⟨ia0,ia1⟩,-⟩:=id ia
 obtain ⟨⟨ib0,ib1⟩,-⟩:=id ib
 simp only at ia0 ia1 ib0 ib1
 simp only [isn]
 by_cases a0:ak=0
 ·subst a0
  rw [if_pos (.inl rfl)]
  exact qbin_nullA op bk an am bn bm ab bb w o1 o2 e17 e18 Ra Rb
 have ea:(ak != 0)=true:=by simpa using a0
 by_cases b0:bk=0
 ·subst b0
  rw [if_pos (.inr rfl)]
  exact qbin_nullB op ak an am bn bm ab bb w o1 o2 e17 e18 ea Ra Rb
 have eb:(bk != 0)=true:=by simpa using b0
 rw [if_neg (by omega)]
 have NT:=fun (k n m:Int) (l:List UInt8) (v:Bool) (h:(k==1 || k==2)=v)=>qnum_tells ⟨k,n,m,l⟩ v h w
 rcases (by omega:ak=1∨ak=2∨ak=3∨ak=4∨ak=5) with rfl|rfl|rfl|rfl|rfl
 ·by_cases h1:bk=1
  ·subst h1
   rw [if_pos ⟨rfl,rfl⟩]
   exact qbin_ints op an am bn bm ab bb w _ _ _ _ _ o1 o2 e17 e18 Ra Rb (fun W h=>(qints_any op an bn W (hP.below h) ia0 ia1 ib0 ib1).mono fun _ _ h=>⟨h.1,h.2.below⟩)
  by_cases h2:bk=2
  ·subst h2
   rw [if_neg (by omega),if_pos (by omega)]
   exact qbin_n12 op an am bn bm ab bb w _ _ _ _ _ o1 o2 e17 e18 Ra Rb (NT 1 an am ab true rfl) (NT 2 bn bm bb true rfl) (fun W h=>qnums_any op ⟨1,an,am,ab⟩ ⟨2,bn,bm,bb⟩ W (hP.below h) (by simp only;omega) (by simp only;omega) ia ib)
  ·rw [if_neg (by omega),if_neg (by omega),if_neg (by omega),if_neg (by omega),if_neg (by omega)]
   exact qbin_o1 op bk an am bn bm ab bb w o1 o2 e17 e18 eb (by simpa using h1) Ra Rb (NT 1 an am ab true rfl) (NT bk bn bm bb false (by simp [h1,h2]))
 ·by_cases h1:bk=1
  ·subst h1
   rw [if_neg (by omega),if_pos (by omega)]
   exact qbin_n21 op an am bn bm ab bb w _ _ _ _ _ o1 o2 e17 e18 Ra Rb (NT 2 an am ab true rfl) (NT 1 bn bm bb true rfl) (fun W h=>qnums_any op ⟨2,an,am,ab⟩ ⟨1,bn,bm,bb⟩ W (hP.below h) (by simp only;omega) (by simp only;omega) ia ib)
  by_cases h2:bk=2
  ·subst h2
   rw [if_neg (by omega),if_pos (by omega)]
   exact qbin_n22 op an am bn bm ab bb w _ _ _ _ _ o1 o2 e17 e18 Ra Rb (NT 2 an am ab true rfl) (NT 2 bn bm bb true rfl) (fun W h=>qnums_any op ⟨2,an,am,ab⟩ ⟨2,bn,bm,bb⟩ W (hP.below h) (by simp only;omega) (by simp only;omega) ia ib)
  ·rw [if_neg (by omega),if_neg (by omega),if_neg (by omega),if_neg (by omega),if_neg (by omega)]
   exact qbin_o2 op bk an am bn bm ab bb w o1 o2 e17 e18 eb Ra Rb (NT 2 an am ab true rfl) (NT bk bn bm bb false (by simp [h1,h2]))
 ·by_cases h3:bk=3
  ·subst h3
   rw [if_neg (by omega),if_neg (by omega),if_neg (by omega),if_pos ⟨rfl,rfl⟩]
   obtain ⟨rfl,rfl,la⟩:an=0∧am=0∧ab.length≤256:=by rcases va' with h|h|h|h|h|h <;> first|omega|exact ⟨h.2.1,h.2.2.1,h.2.2.2.1⟩
   obtain ⟨rfl,rfl,lb⟩:bn=0∧bm=0∧bb.length≤256:=by rcases vb' with h|h|h|h|h|h <;> first|omega|exact ⟨h.2.1,h.2.2.1,h.2.2.2.1⟩
   exact qbin_txt op 0 0 0 0 ab bb w _ _ _ _ _ o1 o2 e17 e18 Ra Rb (NT 3 0 0 ab false rfl) (fun W h=>qtxt_any op ab bb W (hT.later h) (hP.below h) la lb)
  ·rw [if_neg (by omega),if_neg (by omega),if_neg (by omega),if_neg (by omega),if_neg (by omega)]
   exact qbin_o3 op bk an am bn bm ab bb w o1 o2 e17 e18 eb (by simpa using h3) Ra Rb (NT 3 an am ab false rfl)
 ·by_cases h4:bk=4
  ·subst h4
   rw [if_neg (by omega),if_neg (by omega),if_neg (by omega),if_neg (by omega),if_pos ⟨rfl,rfl⟩]
   exact qbin_bools op an am bn bm ab bb w _ _ _ _ _ _ o1 o2 e17 e18 Ra Rb (NT 4 an am ab false rfl) (z8s ⟨4,an,am,ab⟩ ⟨4,bn,bm,bb⟩ w hT hP ia ib) (qcompared_tells op _ w)
  ·rw [if_neg (by omega),if_neg (by omega),if_neg (by omega),if_neg (by omega),if_neg (by omega)]
   exact qbin_o4 op bk an am bn bm ab bb w o1 o2 e17 e18 eb (by simpa using h4) Ra Rb (NT 4 an am ab false rfl)
 ·by_cases h5:bk=5
  ·subst h5
   rw [if_neg (by omega),if_neg (by omega),if_pos ⟨rfl,rfl⟩]
   have pa:Ga.ok2 an am=true:=(Ga.ok2_iff an am).2 (by omega)
   have pb:Ga.ok2 bn bm=true:=(Ga.ok2_iff bn bm).2 (by omega)
   exact qbin_pts op an am bn bm ab bb w _ _ _ _ _ o1 o2 e17 e18 Ra Rb (NT 5 an am ab false rfl) (fun W h=>qpts_any op an am bn bm ab bb W (hT.later h) (hP.below h) pa pb)
  ·rw [if_neg (by omega),if_neg (by omega),if_neg (by omega),if_neg (by omega),if_neg (by omega)]
   exact qbin_o5 op bk an am bn bm ab bb w o1 o2 e17 e18 eb (by simpa using h5) Ra Rb (NT 5 an am ab false rfl)
end Go.Proofs.YtibbenhplmmmiaaGreatDoor

namespace Go.Proofs.YtibbenhplmmmiaaGreatDoor
open Go.RowKit
def drawTo (w:World) (d:Nat):World:={ w with drawn:=d }
theorem z1n (w:World) (d:Nat) (a:Addr):(drawTo w d).cell? a=w.cell? a:=rfl
theorem z1e (w:World) (d:Nat) (a:Addr):(drawTo w d).frozen? a=w.frozen? a:=rfl
theorem z1x (w:World) (d:Nat):(drawTo w d).heap=w.heap:=rfl
theorem z1d (w:World) (d:Nat) (a:Addr) (v:Value):(drawTo w d).setCell a v=drawTo (w.setCell a v) d:=by
 unfold World.setCell drawTo
 split <;> rfl
theorem z1r (w:World) (d:Nat) (o:Obj):(drawTo w d).alloc o=drawTo (w.alloc o) d:=rfl
theorem z1s (w:World) (d n:Nat):(drawTo w d).drewN n=drawTo w (d+n):=rfl
theorem z1z (w:World) (d:Nat):(drawTo w d).drew=drawTo w (d+1):=rfl
theorem z1p (w:World) (d n:Nat):drawTo (w.drewN n) d=drawTo w d:=rfl
theorem z1y (w:World) (d:Nat):drawTo w.drew d=drawTo w d:=rfl
theorem z1k (w:World) (d n:Nat):drawTo (drawTo w d) n=drawTo w n:=rfl
theorem z1v (os:List Obj) (d:Nat):∀ w:World,more (drawTo w d) os=drawTo (more w os) d:=by
 induction os with
 | nil=>intro w;rfl
 | cons p a ih=>intro w;exact ih (w.alloc p)
theorem more_heap (os:List Obj):∀ w:World,(more w os).heap=w.heap++os.toArray:=by
 induction os with
 | nil=>intro w;simp [more]
 | cons p a ih =>
  intro w
  show (more (w.alloc p) a).heap=_
  rw [ih,World.alloc]
  simp
theorem more_rest (os:List Obj):∀ w:World,(more w os).tape=w.tape∧(more w os).os=w.os∧(more w os).output=w.output:=by
 induction os with
 | nil=>intro w;exact ⟨rfl,rfl,rfl⟩
 | cons p a ih=>intro w;exact ih (w.alloc p)
theorem wide {w w':World} (h:Below w.heap.size w w'):∃ (os:List Obj) (d:Nat),w'=drawTo (more w os) d:=by
 refine ⟨w'.heap.toList.drop w.heap.size,w'.drawn,?_⟩
 have e1:w'.heap=(more w (w'.heap.toList.drop w.heap.size)).heap:=by
  rw [more_heap]
  apply Array.ext'
  have:w.heap.toList=w'.heap.toList.take w.heap.size:=by
   apply List.ext_getElem?
   intro i
   rw [List.getElem?_take]
   by_cases hi:i<w.heap.size
   ·rw [if_pos hi]
    have:=h.block i hi
    simpa using this.symm
   ·rw [if_neg hi]
    simp
    omega
  simp only [Array.toList_append]
  rw [this,List.take_append_drop]
 obtain ⟨t,o,p⟩:=more_rest (w'.heap.toList.drop w.heap.size) w
 generalize more w (w'.heap.toList.drop w.heap.size)=m at *
 obtain ⟨h',t',d',o',p'⟩:=w'
 obtain ⟨hm,tm,dm,om,pm⟩:=m
 simp only [drawTo,World.mk.injEq] at *
 exact ⟨e1,h.tape.trans t.symm,trivial,h.os.trans o.symm,h.output.trans p.symm⟩
def z0z (w w':World):Prop:=∃ (os:List Obj) (d:Nat),w'=drawTo (more w os) d
theorem z0z.refl (w:World):z0z w w:=⟨[],w.drawn,rfl⟩
theorem z0z.alloc {a w:World} (h:z0z a w) (o:Obj):z0z a (w.alloc o):=by
 obtain ⟨os,n,rfl⟩:=h
 exact ⟨os++[o],n,by rw [more_snoc];rfl⟩
theorem z0z.drawTo {a w:World} (h:z0z a w) (m:Nat):z0z a (drawTo w m):=by
 obtain ⟨os,n,rfl⟩:=h
 exact ⟨os,m,rfl⟩
theorem z0z.drewN {a w:World} (h:z0z a w) (m:Nat):z0z a (w.drewN m):=by
 obtain ⟨os,n,rfl⟩:=h
 exact ⟨os,n+m,rfl⟩
theorem z0z.drew {a w:World} (h:z0z a w):z0z a w.drew:=h.drewN 1
theorem z0z.trans {a b c:World} (h:z0z a b) (k:z0z b c):z0z a c:=by
 obtain ⟨os,n,rfl⟩:=h
 obtain ⟨ps,m,rfl⟩:=k
 exact ⟨os++ps,m,by rw [z1v,z0m];rfl⟩
theorem z0z.more {a w:World} (h:z0z a w) (os:List Obj):z0z a (more w os):=h.trans ⟨os,(Proofs.YtibbenhplmmmiaaGreatDoor.more w os).drawn,rfl⟩
theorem z0z.below {w w':World} (h:z0z w w'):Below w.heap.size w w':=by
 obtain ⟨os,n,rfl⟩:=h
 have:=more_below os w w _ (Below.refl _ _) (Nat.le_refl _)
 exact ⟨this.os,this.tape,this.output,this.size,this.block⟩
theorem gC {p:Prop} (h:p:=by repeat (first|assumption|exact z0z.refl _|apply z0z.drew|apply z0z.drewN|apply z0z.alloc|apply z0z.more|apply z0z.drawTo)):p:=h
end Go.Proofs.YtibbenhplmmmiaaGreatDoor

namespace Go.Proofs.YtibbenhplmmmiaaGreatDoor
open Go.RowKit Go.Shelf
attribute [local go_sem] z0e z0b z0c z0f z0m z0k z0h z0d z0g
theorem y0a (ao:Option Addr) (cap:Nat) (l:List Va) (w:World) (hT:Tabs w) (hv:Vs w ao l) (hl:l.length≤9223372036854775807) :
  Calls Tryz.prog 60 #[.slice ao l.length cap] w fun e w'=>e=.returned (.bool (l.all vr))∧Below w.heap.size w w':=by
 obtain ⟨E,hE⟩:∃ E,E=l.all vr:=⟨_,rfl⟩
 rw [← hE]
 have HE:Hid (E=l.all vr):=hE
 obtain ⟨n,hn⟩:∃ n,l.length=n:=⟨_,rfl⟩
 rw [hn] at hl ⊢
 have HN:Hid (l.length=n):=hn
 clear hE hn
 go_enter Tryz.func60,Tryz.ntmps60
 go_wp2
 go_loopw [7] (fun r wr=>∃ k:Nat,r=.int .i64 (k:Int)∧k≤n∧Below w.heap.size w wr∧Hid (∀ i (h:i<l.length),i<k→vr l[i]=true)) (fun r _=>n - (intOf r).toNat)
 case atStart=>exact ⟨0,rfl,Nat.zero_le _,Below.refl _ _,fun i _ h=>by omega⟩
 case round =>
  obtain ⟨k,rfl,hk,hB,hA⟩:=hrel
  have sB:=hB.size
  by_cases hlt:k<n
  ·have hlt':(k:Int)<(n:Int):=by omega
   have hkl:k<l.length:=by rw [HN.out];exact hlt
   obtain ⟨b,off,rfl,hc⟩:=hv (by omega)
   obtain ⟨c0,c1,c2,c3⟩:=((hc k (by omega)).later hB)
   have hg:=(hc k (by omega)).lt
   have hg':b<wr.heap.size:=by omega
   have hT':=hT.later hB
   have R:∀ W,Grew wr W→Calls Tryz.prog 34 #[vv l[k]] W fun e w'=>e=.returned (.bool (vr l[k]))∧Below W.heap.size W w':=fun W h=>z3r _ _ _ _ W (hT'.later h.below)
   obtain ⟨⟨vk,vn,vm,vb⟩,he⟩:∃ v:Va,v=l[k]:=⟨_,rfl⟩
   rw [← he] at c0 c1 c2 c3 R
   have HV:Hid (Va.mk vk vn vm vb=l[k]):=he
   clear hc hT' hT he
   cases hvr:vr ⟨vk,vn,vm,vb⟩
   ·rw [hvr] at R
    go_wp2_with (go_at_call 34;refine (R _ gA).mono ?_;rintro e w2 ⟨rfl,hb2⟩)
    go_ret
    have hall:(l.all vr)=false:=by
     rw [List.all_eq_false]
     exact ⟨l[k]'(by have:=HN.out;omega),List.getElem_mem _,by rw [← HV.out,hvr];simp⟩
    refine ⟨by rw [HE.out,hall];rfl,?_⟩
    exact hB.trans ((Below.mono (z0a (Grew.below gA) hb2)) sB)
   ·rw [hvr] at R
    go_wp2_with (go_at_call 34;refine (R _ gA).mono ?_;rintro e w2 ⟨rfl,hb2⟩)
    go_roundw
    case rel =>
     refine ⟨k+1,by go_num,by omega,hB.trans ((Below.mono (z0a (Grew.below gA) hb2)) sB),fun i hi hik=>?_⟩
     by_cases h:i<k
     ·exact hA.out i hi h
     ·have:i=k:=by omega
      subst this
      rw [← HV.out,hvr]
    case measure=>simp [intOf];omega
  ·have hlt':¬ (k:Int)<(n:Int):=by omega
   go_wp2
   go_ret
   have hall:(l.all vr)=true:=by
    rw [List.all_eq_true]
    intro v hv'
    obtain ⟨i,hi,rfl⟩:=List.getElem_of_mem hv'
    exact hA.out i hi (by have:=HN.out;omega)
   exact ⟨by rw [HE.out,hall];rfl,hB⟩
def zq (x:Va):Bool:=eqv 0 0 0 ⟨#[]⟩ x.k x.n x.m ⟨x.b.toArray⟩
theorem cstq (k:Nat):((k+1:Nat):Int)=(k:Int)+1:=by omega
theorem qidx_any (ao:Option Addr) (cap:Nat) (l:List Va) (w:World) (hv:Vs w ao l) (hn:l.length≤140737488351232) :
  Calls Tryz.prog 177 #[.slice ao l.length cap,va 0 0 0 ⟨#[]⟩] w fun e w'=>(∃ i:Int,e=.returned (.int .i64 i)∧decide (0≤i)=l.any zq)∧Below w.heap.size w w':=by
 obtain ⟨R,hR⟩:∃ R,R=l.any zq:=⟨_,rfl⟩
 rw [← hR]
 have HR:Hid (R=(l.drop 0).any zq):=hR
 clear hR
 obtain ⟨n,hnn⟩:∃ n,l.length=n:=⟨_,rfl⟩
 rw [hnn] at hn ⊢
 have HN:Hid (l.length=n):=hnn
 clear hnn
 go_enter Tryz.func177,Tryz.ntmps177
 go_wp2
 go_loopw [8] (fun r wr=>∃ k:Nat,r=.int .i64 (k:Int)∧k≤n∧Box wr w.heap.size nul∧Below w.heap.size w wr∧Hid (R=(l.drop k).any zq)) (fun r _=>n - (intOf r).toNat)
 case atStart=>exact ⟨0,rfl,Nat.zero_le _,Box.new w 0 0 0 [],(Below.refl _ w).alloc (Nat.le_refl _) _,HR⟩
 case round =>
  obtain ⟨k,rfl,hk,hc,hb,hH⟩:=hrel
  have sB:=hb.size
  by_cases hlt:k<n
  ·have hlt':(k:Int)<(n:Int):=by omega
   have k0:(0:Int)≤(k:Int):=by omega
   have hkl:k<l.length:=by rw [HN.out];exact hlt
   obtain ⟨b,off,rfl,hcl⟩:=hv (by omega)
   obtain ⟨c0,c1,c2,c3⟩:=((hcl k hkl).later hb)
   have hg:=(hcl k hkl).lt
   have hg':b<wr.heap.size:=by omega
   have hdr:l.drop k=l[k]::l.drop (k+1):=List.drop_eq_getElem_cons hkl
   obtain ⟨x,he⟩:∃ x:Va,x=l[k]:=⟨_,rfl⟩
   rw [← he] at c0 c1 c2 c3 hdr
   have HST:Hid (R=(zq x || (l.drop (k+1)).any zq)):=by
    show R=_
    rw [hH.out,hdr];rfl
   obtain ⟨xk,xn,xm,xb⟩:=x
   have eqx:∀ W,(Op.equalIn 10000 23 (va 0 0 0 ⟨#[]⟩) (va xk xn xm ⟨xb.toArray⟩)).run Tryz.prog W=.ok (zq ⟨xk,xn,xm,xb⟩) W:=fun W=>eqVb 0 0 0 xk xn xm ⟨#[]⟩ ⟨xb.toArray⟩ W
   generalize zq ⟨xk,xn,xm,xb⟩=q at eqx HST
   obtain ⟨z0,z1,z2,z3⟩:=hc.at4
   have zl:=hc.lt
   have HC:Hid (Box wr w.heap.size nul):=hc
   dsimp only [nul] at z0 z1 z2 z3
   simp only [Nat.zero_add] at z1 z2 z3
   clear hdr he hcl hH HR hc
   cases q with
   | true =>
    go_wp2
    go_region
    all_goals go_wp2
    all_goals go_ret
    all_goals exact ⟨⟨(k:Int),rfl,by rw [HST.out];simp⟩,by first|exact hb|exact hb.drew⟩
   | false =>
    have HF:Hid (R=(l.drop (k+1)).any zq):=by show R=_;rw [HST.out,Bool.false_or]
    go_wp2
    go_region
    all_goals go_wp2
    all_goals exact ⟨⟨k+1,by rw [cstq],by omega,HC.out,by first|exact hb|exact hb.drew,HF⟩,by simp [intOf];omega⟩
  ·have hlt':¬ (k:Int)<(n:Int):=by omega
   have HF:Hid (R=false):=by
    show R=false
    rw [hH.out,List.drop_eq_nil_of_le (by rw [HN.out];omega)];rfl
   clear hH HR hc
   go_wp2
   go_ret
   exact ⟨⟨-1,rfl,by rw [HF.out];rfl⟩,hb⟩
theorem qcont_any (ao:Option Addr) (cap:Nat) (l:List Va) (w:World) (hv:Vs w ao l) (hn:l.length≤140737488351232) :
  Calls Tryz.prog 111 #[.slice ao l.length cap,va 0 0 0 ⟨#[]⟩] w fun e w'=>e=.returned (.bool (l.any zq))∧Below w.heap.size w w':=by
 have I:∀ W,Below w.heap.size w W→_:=fun W h=>qidx_any ao cap l W (hv.later h) hn
 have A0:=(Below.refl w.heap.size w).alloc (Nat.le_refl _) (.cells #[.int .i64 0,.int .i64 0,.int .i64 0,.string ⟨#[]⟩] 23)
 clear hv
 generalize l.any zq=q at *
 generalize l.length=n at *
 go_enter Tryz.func111,Tryz.ntmps111
 go_wp2_with fail
 refine (I _ (by first|exact A0|exact Below.refl _ _)).mono ?_
 rintro e w1 ⟨⟨i,rfl,hi⟩,b1⟩
 have HI:Hid (decide (0≤i)=q):=hi
 clear hi I
 go_wp2
 go_ret
 exact ⟨by rw [← HI.out];rfl,by first|exact A0.trans (b1.mono A0.size)|exact b1⟩
theorem z2p (w:World):∃ w0,w0=w.alloc (.cells #[.int .i64 0,.int .i64 0,.int .i64 0,.string ⟨#[]⟩] 23)∧Box w0 w.heap.size nul∧Below w.heap.size w w0 :=
 ⟨_,rfl,Box.new w 0 0 0 [],(Below.refl _ w).alloc (Nat.le_refl _) _⟩
def qcO0:Oper:=⟨some 8,.move (.tmp 1),34, "function.go:57",#[],none⟩
def qcO1:Oper:=⟨some 9,.indexAddr 34 (.tmp 8) (.const (Value.int IntKind.i64 0)),0, "function.go:57",#[⟨0,.data⟩],none⟩
def qcO2:Oper:=⟨some 10,.load 23 (.tmp 9),23, "function.go:57",#[⟨1,.data⟩],none⟩
def qcO3:Oper:=⟨some 11,.move (.tmp 1),34, "function.go:57",#[⟨11,.gcOnly .lateStores⟩],none⟩
def qcO4:Oper:=⟨some 12,.move (.tmp 1),34, "function.go:57",#[],none⟩
def qcO5:Oper:=⟨some 13,.call { callee:=Callee.builtin Builtin.len,args:=#[.tmp 12],argTypes:=#[34] },3, "function.go:57",#[⟨4,.data⟩],none⟩
def qcO6:Oper:=⟨some 14,.binOp BinOp.sub 3 (.tmp 13) (.const (Value.int IntKind.i64 1)) 3,3, "function.go:57",#[⟨5,.data⟩,⟨11,.gcOnly .lateStores⟩],none⟩
def qcO7:Oper:=⟨some 15,.indexAddr 34 (.tmp 11) (.tmp 14),0, "function.go:57",#[⟨3,.data⟩,⟨6,.data⟩,⟨11,.gcOnly .lateStores⟩],none⟩
def qcO8:Oper:=⟨some 16,.load 23 (.tmp 15),23, "function.go:57",#[⟨7,.data⟩,⟨11,.gcOnly .lateStores⟩],none⟩
def qcO9:Oper:=⟨some 6,.alloc 23,0, "function.go:57",#[],none⟩
def z9u:Oper:=⟨some 7,.alloc 23,0, "function.go:57",#[],none⟩
def z9q:Oper:=⟨none,.store 23 (.tmp 6) (.tmp 10),0, "function.go:57",#[⟨9,.data⟩,⟨2,.data⟩,⟨0,.phase⟩,⟨1,.phase⟩,⟨2,.phase⟩,⟨3,.textOnly .lateStores⟩,⟨4,.textOnly .lateStores⟩,⟨5,.textOnly .lateStoresUnsure⟩,⟨6,.textOnly .lateStores⟩,⟨7,.textOnly .lateStores⟩,⟨8,.textOnly .lateStores⟩,⟨9,.phase⟩,⟨10,.phase⟩],none⟩
def z9t:Oper:=⟨none,.store 23 (.tmp 7) (.tmp 16),0, "function.go:57",#[⟨10,.data⟩,⟨8,.data⟩,⟨11,.chain⟩,⟨0,.phase⟩,⟨1,.phase⟩,⟨2,.phase⟩,⟨3,.phase⟩,⟨4,.phase⟩,⟨5,.phase⟩,⟨6,.phase⟩,⟨7,.phase⟩,⟨8,.phase⟩,⟨9,.phase⟩,⟨10,.phase⟩,⟨11,.phase⟩],none⟩
theorem called_length (bl off cap:Nat) (an am:Int) (ab:List UInt8) (w:World) (hg:bl<w.heap.size) (c0:w.cell? ⟨bl,off,none⟩=some (.int .i64 3)) (c1:w.cell? ⟨bl,off+1,none⟩=some (.int .i64 an)) (c2:w.cell? ⟨bl,off+2,none⟩=some (.int .i64 am)) (c3:w.cell? ⟨bl,off+3,none⟩=some (.string ⟨ab.toArray⟩))
  :
  Calls Tryz.prog 112 #[.string ⟨#[108,101,110,103,116,104]⟩,.slice (some ⟨bl,off,none⟩) 1 cap] w fun e w'=>e=.returned (rs (z0v (ab.length:Int) 0))∧Below w.heap.size w w':=by
 obtain ⟨w0,hw0,bxr,Bw⟩:=z2p w
 have z0:IntKind.i64.wrap 0=0:=by rw [IntKind.wrap_i64];rfl
 go_enter Tryz.func112,Tryz.ntmps112
 go_wp2_with fail
 rw [← hw0]
 clear hw0
 rw [← Bw.cell (p:=⟨bl,off,none⟩) hg] at c0
 rw [← Bw.cell (p:=⟨bl,off+1,none⟩) hg] at c1
 rw [← Bw.cell (p:=⟨bl,off+2,none⟩) hg] at c2
 rw [← Bw.cell (p:=⟨bl,off+3,none⟩) hg] at c3
 replace hg:bl<w0.heap.size:=Nat.lt_of_lt_of_le hg Bw.size
 go_cut [6,7] from 8 (fun s0 s1 wx=>∃ p q:Nat,s0=.pointer (some ⟨p,0,none⟩)∧s1=.pointer (some ⟨q,0,none⟩)∧(wx.cell? ⟨p,0,none⟩=some (.int .i64 3)∧wx.cell? ⟨p,1,none⟩=some (.int .i64 an)∧wx.cell? ⟨p,2,none⟩=some (.int .i64 am)∧wx.cell? ⟨p,3,none⟩=some (.string ⟨ab.toArray⟩))∧(wx.cell? ⟨q,0,none⟩=some (.int .i64 3)∧wx.cell? ⟨q,1,none⟩=some (.int .i64 an)∧wx.cell? ⟨q,2,none⟩=some (.int .i64 am)∧wx.cell? ⟨q,3,none⟩=some (.string ⟨ab.toArray⟩))∧w0.heap.size≤p∧w0.heap.size≤q∧Grew w0 wx)
 case first =>
  refine wp_region_held_drew (S:=(fun W=>W.cell? ⟨bl,off,none⟩=some (.int .i64 3)∧W.cell? ⟨bl,off+1,none⟩=some (.int .i64 an)∧W.cell? ⟨bl,off+2,none⟩=some (.int .i64 am)∧W.cell? ⟨bl,off+3,none⟩=some (.string ⟨ab.toArray⟩))) gK ?_ (fun hHeld=>?_)
  ·((try dsimp only);(simp (maxDischargeDepth:=12) [go_sem,c0,c1,c2,c3]))
  refine wpAnyH_take (i:=0) (oi:=qcO0) (v:=?_) rfl gK gK gK (fun _ _ _ h=>h) (Or.inl ⟨by rfl,?_⟩) (by assumption) ?_
  rotate_left
  ·(intro W hSw;(try dsimp only at hSw);try simp only [qcO0];first|(go_simp;done)|(go_simp;with_reducible rfl))
  try simp only [qcO0,Act.put,List.setIfInBounds_toArray,List.set_cons_zero,List.set_cons_succ]
  refine wpAnyH_take (i:=1) (oi:=qcO1) (v:=?_) rfl gK gK gK (fun _ _ _ h=>h) (Or.inl ⟨by rfl,?_⟩) (by assumption) ?_
  rotate_left
  ·(intro W hSw;(try dsimp only at hSw);try simp only [qcO1];first|(go_simp;done)|(go_simp;with_reducible rfl))
  try simp only [qcO1,Act.put,List.setIfInBounds_toArray,List.set_cons_zero,List.set_cons_succ]
  refine wpAnyH_take (i:=2) (oi:=qcO2) (v:=?_) rfl gK gK gK (fun _ _ _ h=>h) (Or.inl ⟨by rfl,?_⟩) (by assumption) ?_
  rotate_left
  ·(intro W hSw;(try dsimp only at hSw);try simp only [qcO2];first|(go_simp;done)|(go_simp;with_reducible rfl))
  try simp only [qcO2,Act.put,List.setIfInBounds_toArray,List.set_cons_zero,List.set_cons_succ]
  refine wpAnyH_take (i:=3) (oi:=qcO3) (v:=?_) rfl gK gK gK (fun _ _ _ h=>h) (Or.inl ⟨by rfl,?_⟩) (by assumption) ?_
  rotate_left
  ·(intro W hSw;(try dsimp only at hSw);try simp only [qcO3];first|(go_simp;done)|(go_simp;with_reducible rfl))
  try simp only [qcO3,Act.put,List.setIfInBounds_toArray,List.set_cons_zero,List.set_cons_succ]
  refine wpAnyH_take (i:=4) (oi:=qcO4) (v:=?_) rfl gK gK gK (fun _ _ _ h=>h) (Or.inl ⟨by rfl,?_⟩) (by assumption) ?_
  rotate_left
  ·(intro W hSw;(try dsimp only at hSw);try simp only [qcO4];first|(go_simp;done)|(go_simp;with_reducible rfl))
  try simp only [qcO4,Act.put,List.setIfInBounds_toArray,List.set_cons_zero,List.set_cons_succ]
  refine wpAnyH_take (i:=5) (oi:=qcO5) (v:=?_) rfl gK gK gK (fun _ _ _ h=>h) (Or.inl ⟨by rfl,?_⟩) (by assumption) ?_
  rotate_left
  ·(intro W hSw;(try dsimp only at hSw);try simp only [qcO5];first|(go_simp;done)|(go_simp;with_reducible rfl))
  try simp only [qcO5,Act.put,List.setIfInBounds_toArray,List.set_cons_zero,List.set_cons_succ]
  refine wpAnyH_take (i:=6) (oi:=qcO6) (v:=?_) rfl gK gK gK (fun _ _ _ h=>h) (Or.inl ⟨by rfl,?_⟩) (by assumption) ?_
  rotate_left
  ·(intro W hSw;(try dsimp only at hSw);try simp only [qcO6];first|(go_simp;done)|(go_simp;with_reducible rfl))
  try simp only [qcO6,Act.put,List.setIfInBounds_toArray,List.set_cons_zero,List.set_cons_succ]
  refine wpAnyH_take (i:=7) (oi:=qcO7) (v:=?_) rfl gK gK gK (fun _ _ _ h=>h) (Or.inl ⟨by rfl,?_⟩) (by assumption) ?_
  rotate_left
  ·(intro W hSw;(try dsimp only at hSw);try simp only [qcO7];first|(go_simp;done)|(go_simp;with_reducible rfl))
  try simp only [qcO7,Act.put,List.setIfInBounds_toArray,List.set_cons_zero,List.set_cons_succ]
  refine wpAnyH_take (i:=8) (oi:=qcO8) (v:=?_) rfl gK gK gK (fun _ _ _ h=>h) (Or.inl ⟨by rfl,?_⟩) (by assumption) ?_
  rotate_left
  ·(intro W hSw;(try dsimp only at hSw);try simp only [qcO8];first|(go_simp;done)|(go_simp;with_reducible rfl))
  try simp only [qcO8,Act.put,List.setIfInBounds_toArray,List.set_cons_zero,List.set_cons_succ]
  refine wpAnyH_ready (rs:=[9,10]) gK (by simp) ?_
  refine AllReadyH.cons (o:=qcO9) rfl (fun K hK=>?_) (AllReadyH.cons (o:=z9u) rfl (fun K hK=>?_) AllReadyH.nil)
  ·
   try simp only [qcO9]
   go_simp
   refine hK.out _ _ ?_ (fun hHeld=>?_)
   ·((try dsimp only);(simp (maxDischargeDepth:=12) [go_sem,c0,c1,c2,c3,hg]))
   clear hK K
   try simp only [Act.put,sA,sB,sC]
   refine wpAnyH_ready (rs:=[10]) gK (by simp) ?_
   refine AllReadyH.cons (o:=z9u) rfl (fun K hK=>?_) AllReadyH.nil
   try simp only [z9u]
   go_simp
   refine hK.out _ _ ?_ (fun hHeld=>?_)
   ·((try dsimp only);(simp (maxDischargeDepth:=12) [go_sem,c0,c1,c2,c3,hg]))
   clear hK K
   try simp only [Act.put,sA,sB,sC]
   refine wpAnyH_ready (rs:=[11]) gK (by simp) ?_
   refine AllReadyH.cons (o:=z9q) rfl (fun K hK=>?_) AllReadyH.nil
   try simp only [z9q]
   go_simp
   refine hK.out _ _ ?_ (fun hHeld=>?_)
   ·((try dsimp only);(simp (maxDischargeDepth:=12) [go_sem,c0,c1,c2,c3,hg]))
   clear hK K
   try simp only [Act.put,sA,sB,sC]
   refine wpAnyH_ready (rs:=[12]) gK (by simp) ?_
   refine AllReadyH.cons (o:=z9t) rfl (fun K hK=>?_) AllReadyH.nil
   try simp only [z9t]
   go_simp
   refine hK.out _ _ ?_ (fun hHeld=>?_)
   ·((try dsimp only);(simp (maxDischargeDepth:=12) [go_sem,c0,c1,c2,c3,hg]))
   clear hK K
   try simp only [Act.put,sA,sB,sC]
   refine wpAnyH_done gK ?_ _
   go_wp2_with fail
   go_meet
   exact ⟨_,_,rfl,rfl,⟨gD,gD,gD,gD⟩,⟨gD,gD,gD,gD⟩,by simp,by simp,gB⟩
  ·
   try simp only [z9u]
   go_simp
   refine hK.out _ _ ?_ (fun hHeld=>?_)
   ·((try dsimp only);(simp (maxDischargeDepth:=12) [go_sem,c0,c1,c2,c3,hg]))
   clear hK K
   try simp only [Act.put,sA,sB,sC]
   refine wpAnyH_ready (rs:=[9]) gK (by simp) ?_
   refine AllReadyH.cons (o:=qcO9) rfl (fun K hK=>?_) AllReadyH.nil
   try simp only [qcO9]
   go_simp
   refine hK.out _ _ ?_ (fun hHeld=>?_)
   ·((try dsimp only);(simp (maxDischargeDepth:=12) [go_sem,c0,c1,c2,c3,hg]))
   clear hK K
   try simp only [Act.put,sA,sB,sC]
   refine wpAnyH_ready (rs:=[11]) gK (by simp) ?_
   refine AllReadyH.cons (o:=z9q) rfl (fun K hK=>?_) AllReadyH.nil
   try simp only [z9q]
   go_simp
   refine hK.out _ _ ?_ (fun hHeld=>?_)
   ·((try dsimp only);(simp (maxDischargeDepth:=12) [go_sem,c0,c1,c2,c3,hg]))
   clear hK K
   try simp only [Act.put,sA,sB,sC]
   refine wpAnyH_ready (rs:=[12]) gK (by simp) ?_
   refine AllReadyH.cons (o:=z9t) rfl (fun K hK=>?_) AllReadyH.nil
   try simp only [z9t]
   go_simp
   refine hK.out _ _ ?_ (fun hHeld=>?_)
   ·((try dsimp only);(simp (maxDischargeDepth:=12) [go_sem,c0,c1,c2,c3,hg]))
   clear hK K
   try simp only [Act.put,sA,sB,sC]
   refine wpAnyH_done gK ?_ _
   go_wp2_with fail
   go_meet
   exact ⟨_,_,rfl,rfl,⟨gD,gD,gD,gD⟩,⟨gD,gD,gD,gD⟩,by simp,by simp,gB⟩
 rename World=>w1
 obtain ⟨p,q,rfl,rfl,⟨p0,p1,p2,p3⟩,⟨q0,q1,q2,q3⟩,gp,gq,g⟩:=hcut
 have lp:=World.block_lt_of_cell? w1 _ p0
 have lq:=World.block_lt_of_cell? w1 _ q0
 have B1:=g.below
 have br:=bxr.later B1
 obtain ⟨r0,r1,r2,r3⟩:=br.at4
 dsimp only [nul] at r0 r1 r2 r3
 simp only [Nat.zero_add] at r1 r2 r3
 have f0:=br.free 0
 have f1:=br.free 1
 have f2:=br.free 2
 have f3:=br.free 3
 have lt1:=br.lt
 have Be:=z0a Bw B1
 have lr:=bxr.lt
 have np:¬ w.heap.size=p:=by omega
 have nq:¬ w.heap.size=q:=by omega
 clear gp gq lr
 clear br bxr g c0 c1 c2 c3 hg
 go_wp2_with (first
  | (go_at_call 155;refine (z2e _ _ _).mono ?_;rintro e w2 ⟨rfl,os2,n2,rfl⟩))
 refine bodyPost_ret_by (v:=rs (z0v (ab.length:Int) 0)) ?_ rfl ⟨rfl,?_⟩
 ·simp [results,Tryz.results112,go_sem,r0,r1,r2,r3,lt1]
 ·refine z0a (Be.setCell (p:=⟨w.heap.size,0,none⟩) (Nat.le_refl _) (.int .i64 (z0v (ab.length:Int) 0).1.k) |>.setCell (p:=⟨w.heap.size,1,none⟩) (Nat.le_refl _) (.int .i64 (z0v (ab.length:Int) 0).1.n) |>.setCell (p:=⟨w.heap.size,2,none⟩) (Nat.le_refl _) (.int .i64 (z0v (ab.length:Int) 0).1.m) |>.setCell (p:=⟨w.heap.size,3,none⟩) (Nat.le_refl _) (.string ⟨(z0v (ab.length:Int) 0).1.b.toArray⟩)) (Grew.below ?_)
  repeat exact gB
end Go.Proofs.YtibbenhplmmmiaaGreatDoor
