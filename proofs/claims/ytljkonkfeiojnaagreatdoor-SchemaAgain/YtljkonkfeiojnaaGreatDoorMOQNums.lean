/-
  eval.Binary, path by path: from kind to kind.
  Ops of two Ints: eval.difference, quotient, rest, ofInts.
  Ops of two numbers: eval.ofNumbers.
-/
import Derived.Test.YtljkonkfeiojnaaGreatDoorMNQBinC
import Derived.Test.YtljkonkfeiojnaaGreatDoorDInt0
import Derived.Test.YtljkonkfeiojnaaGreatDoorDSub
import Derived.Test.YtljkonkfeiojnaaGreatDoorDAdd
import Derived.Test.YtljkonkfeiojnaaGreatDoorDMul
import Derived.Test.YtljkonkfeiojnaaGreatDoorDDivz
set_option maxHeartbeats 4000000
set_option maxRecDepth 20000
namespace Go.Proofs.YtljkonkfeiojnaaGreatDoor
open Go.RowKit Go.Shelf
attribute [local go_sem] z0f z0b z0c z0e z0m z0k z0h z0d z0g
theorem qbin_badB (op:Int) (ak:Int) (bk:Int) (an am bn bm:Int) (ab bb:List UInt8) (w:World) (o1:¬ op<6) (o2:¬ op > 18) (Ra:z0s 22 #[va ak an am ⟨ab.toArray⟩] w (.bool true)) (Rb:z0s 22 #[va bk bn bm ⟨bb.toArray⟩] w (.bool false)) :
  Calls Tryz.prog 84 #[.int .i64 op,va ak an am ⟨ab.toArray⟩,va bk bn bm ⟨bb.toArray⟩] w fun e w'=>e=.returned (.tuple #[va 0 0 0 ⟨#[]⟩,.int .i64 1])∧Below w.heap.size w w':=by
 obtain ⟨w0,hw0,bxa,bxb,bxr,Bw⟩:=z0w w ⟨ak,an,am,ab⟩ ⟨bk,bn,bm,bb⟩
 dsimp only at hw0
 go_enter Tryz.func84,Tryz.ntmps84
 go_wp2_with fail
 rw [← hw0]
 clear hw0
 refine z0t 9 ?_
 have B0:Below w0.heap.size w0 w0:=Below.refl _ _
 obtain ⟨a0,a1,a2,a3⟩:=(bxa.later B0).at4
 obtain ⟨b0,b1,b2,b3⟩:=(bxb.later B0).at4
 dsimp only at a0 a1 a2 a3 b0 b1 b2 b3
 go_wp2_with fail
 refine (Ra _ (z0a Bw B0)).mono ?_
 rintro e w1 ⟨rfl,c⟩
 have B1:=z0a B0 c
 clear a0 a1 a2 a3 b0 b1 b2 b3 c
 obtain ⟨a0,a1,a2,a3⟩:=(bxa.later B1).at4
 obtain ⟨b0,b1,b2,b3⟩:=(bxb.later B1).at4
 dsimp only at a0 a1 a2 a3 b0 b1 b2 b3
 go_wp2_with fail
 refine (Rb _ (z0a Bw B1)).mono ?_
 rintro e w2 ⟨rfl,c⟩
 have B2:=z0a B1 c
 clear a0 a1 a2 a3 b0 b1 b2 b3 c
 obtain ⟨a0,a1,a2,a3⟩:=(bxa.later B2).at4
 obtain ⟨b0,b1,b2,b3⟩:=(bxb.later B2).at4
 dsimp only at a0 a1 a2 a3 b0 b1 b2 b3
 have br:=bxr.later B2
 obtain ⟨r0,r1,r2,r3⟩:=br.at4
 have f0:=br.free 0
 have f1:=br.free 1
 have f2:=br.free 2
 have f3:=br.free 3
 have lt1:=br.lt
 have Be:=z0a Bw B2
 go_wp2
 refine z0x (by intro l h;cases h) ?_
 refine bodyPost_ret_by (v:=.tuple #[va 0 0 0 ⟨#[]⟩,.int .i64 1]) ?_ rfl ⟨rfl,?_⟩
 ·simp [results,Tryz.results84,go_sem,r0,r1,r2,r3,nul]
 ·exact (((Be.setCell (p:=⟨w.heap.size+1+1,0,none⟩) (by simp;omega) _).setCell (p:=⟨w.heap.size+1+1,1,none⟩) (by simp;omega) _).setCell (p:=⟨w.heap.size+1+1,2,none⟩) (by simp;omega) _).setCell (p:=⟨w.heap.size+1+1,3,none⟩) (by simp;omega) _
theorem qbin_nullB (op:Int) (ak:Int) (an am bn bm:Int) (ab bb:List UInt8) (w:World) (o1:¬ op<6) (o2:¬ op > 18) (e17:(op != 17)=true) (e18:(op != 18)=true) (ea:(ak != 0)=true) (Ra:z0s 22 #[va ak an am ⟨ab.toArray⟩] w (.bool true)) (Rb:z0s 22 #[va 0 bn bm ⟨bb.toArray⟩] w (.bool true)) :
  Calls Tryz.prog 84 #[.int .i64 op,va ak an am ⟨ab.toArray⟩,va 0 bn bm ⟨bb.toArray⟩] w fun e w'=>e=.returned (.tuple #[va 0 0 0 ⟨#[]⟩,.int .i64 0])∧Below w.heap.size w w':=by
 obtain ⟨w0,hw0,bxa,bxb,bxr,Bw⟩:=z0w w ⟨ak,an,am,ab⟩ ⟨0,bn,bm,bb⟩
 dsimp only at hw0
 go_enter Tryz.func84,Tryz.ntmps84
 go_wp2_with fail
 rw [← hw0]
 clear hw0
 refine z0t 9 ?_
 have B0:Below w0.heap.size w0 w0:=Below.refl _ _
 obtain ⟨a0,a1,a2,a3⟩:=(bxa.later B0).at4
 obtain ⟨b0,b1,b2,b3⟩:=(bxb.later B0).at4
 dsimp only at a0 a1 a2 a3 b0 b1 b2 b3
 go_wp2_with fail
 refine (Ra _ (z0a Bw B0)).mono ?_
 rintro e w1 ⟨rfl,c⟩
 have B1:=z0a B0 c
 clear a0 a1 a2 a3 b0 b1 b2 b3 c
 obtain ⟨a0,a1,a2,a3⟩:=(bxa.later B1).at4
 obtain ⟨b0,b1,b2,b3⟩:=(bxb.later B1).at4
 dsimp only at a0 a1 a2 a3 b0 b1 b2 b3
 go_wp2_with fail
 refine (Rb _ (z0a Bw B1)).mono ?_
 rintro e w2 ⟨rfl,c⟩
 have B2:=z0a B1 c
 clear a0 a1 a2 a3 b0 b1 b2 b3 c
 obtain ⟨a0,a1,a2,a3⟩:=(bxa.later B2).at4
 obtain ⟨b0,b1,b2,b3⟩:=(bxb.later B2).at4
 dsimp only at a0 a1 a2 a3 b0 b1 b2 b3
 go_wp2_with fail
 refine z0p (n:=8) rfl ?_
 have br:=bxr.later B2
 obtain ⟨r0,r1,r2,r3⟩:=br.at4
 have f0:=br.free 0
 have f1:=br.free 1
 have f2:=br.free 2
 have f3:=br.free 3
 have lt1:=br.lt
 have Be:=z0a Bw B2
 go_wp2
 refine z0x (by intro l h;cases h) ?_
 refine bodyPost_ret_by (v:=.tuple #[va 0 0 0 ⟨#[]⟩,.int .i64 0]) ?_ rfl ⟨rfl,?_⟩
 ·simp [results,Tryz.results84,go_sem,r0,r1,r2,r3,nul]
 ·exact (((Be.setCell (p:=⟨w.heap.size+1+1,0,none⟩) (by simp;omega) _).setCell (p:=⟨w.heap.size+1+1,1,none⟩) (by simp;omega) _).setCell (p:=⟨w.heap.size+1+1,2,none⟩) (by simp;omega) _).setCell (p:=⟨w.heap.size+1+1,3,none⟩) (by simp;omega) _
theorem qbin_n22 (op:Int) (an am bn bm:Int) (ab bb:List UInt8) (w:World) (rk rn rm re:Int) (rb:ByteArray) (o1:¬ op<6) (o2:¬ op > 18) (e17:(op != 17)=true) (e18:(op != 18)=true) (Ra:z0s 22 #[va 2 an am ⟨ab.toArray⟩] w (.bool true)) (Rb:z0s 22 #[va 2 bn bm ⟨bb.toArray⟩] w (.bool true)) (Na:z0s 119 #[va 2 an am ⟨ab.toArray⟩] w (.bool true)) (Nb:z0s 119 #[va 2 bn bm ⟨bb.toArray⟩] w (.bool true))  (F:∀ W,Below w.heap.size w W→Calls Tryz.prog 120 #[.int .i64 op,dv an am,dv bn bm] W fun e w'=>e=.returned (.tuple #[va rk rn rm rb,.int .i64 re])∧Grew W w') :
  Calls Tryz.prog 84 #[.int .i64 op,va 2 an am ⟨ab.toArray⟩,va 2 bn bm ⟨bb.toArray⟩] w fun e w'=>e=.returned (.tuple #[va rk rn rm rb,.int .i64 re])∧Below w.heap.size w w':=by
 obtain ⟨w0,hw0,bxa,bxb,bxr,Bw⟩:=z0w w ⟨2,an,am,ab⟩ ⟨2,bn,bm,bb⟩
 dsimp only at hw0
 go_enter Tryz.func84,Tryz.ntmps84
 go_wp2_with fail
 rw [← hw0]
 clear hw0
 refine z0t 9 ?_
 have B0:Below w0.heap.size w0 w0:=Below.refl _ _
 obtain ⟨a0,a1,a2,a3⟩:=(bxa.later B0).at4
 obtain ⟨b0,b1,b2,b3⟩:=(bxb.later B0).at4
 dsimp only at a0 a1 a2 a3 b0 b1 b2 b3
 go_wp2_with fail
 refine (Ra _ (z0a Bw B0)).mono ?_
 rintro e w1 ⟨rfl,c⟩
 have B1:=z0a B0 c
 clear a0 a1 a2 a3 b0 b1 b2 b3 c
 obtain ⟨a0,a1,a2,a3⟩:=(bxa.later B1).at4
 obtain ⟨b0,b1,b2,b3⟩:=(bxb.later B1).at4
 dsimp only at a0 a1 a2 a3 b0 b1 b2 b3
 go_wp2_with fail
 refine (Rb _ (z0a Bw B1)).mono ?_
 rintro e w2 ⟨rfl,c⟩
 have B2:=z0a B1 c
 clear a0 a1 a2 a3 b0 b1 b2 b3 c
 obtain ⟨a0,a1,a2,a3⟩:=(bxa.later B2).at4
 obtain ⟨b0,b1,b2,b3⟩:=(bxb.later B2).at4
 dsimp only at a0 a1 a2 a3 b0 b1 b2 b3
 go_wp2_with fail
 refine z0p (n:=8) rfl ?_
 go_wp2_with fail
 refine z0p (n:=7) rfl ?_
 go_wp2_with fail
 refine z0p (n:=6) rfl ?_
 go_wp2_with fail
 refine (Na _ (z0a Bw B2)).mono ?_
 rintro e w3 ⟨rfl,c⟩
 have B3:=z0a B2 c
 clear a0 a1 a2 a3 b0 b1 b2 b3 c
 obtain ⟨a0,a1,a2,a3⟩:=(bxa.later B3).at4
 obtain ⟨b0,b1,b2,b3⟩:=(bxb.later B3).at4
 dsimp only at a0 a1 a2 a3 b0 b1 b2 b3
 go_wp2_with fail
 refine (Nb _ (z0a Bw B3)).mono ?_
 rintro e w4 ⟨rfl,c⟩
 have B4:=z0a B3 c
 clear a0 a1 a2 a3 b0 b1 b2 b3 c
 obtain ⟨a0,a1,a2,a3⟩:=(bxa.later B4).at4
 obtain ⟨b0,b1,b2,b3⟩:=(bxb.later B4).at4
 dsimp only at a0 a1 a2 a3 b0 b1 b2 b3
 simp only [Nat.zero_add] at a1 a2 a3 b1 b2 b3
 have lta:=(bxa.later B4).lt
 have ltb:=(bxb.later B4).lt
 have U:=fun k n m b W=>z3y k n m b W
 have F4:∀ W,Grew w4 W→Calls Tryz.prog 120 #[.int .i64 op,dv an am,dv bn bm] W fun e w'=>e=.returned (.tuple #[va rk rn rm rb,.int .i64 re])∧Grew W w':=fun W h=>F W (z0a (z0a Bw B4) h.below)
 have br:=bxr.later B4
 obtain ⟨r0,r1,r2,r3⟩:=br.at4
 have f0:=br.free 0
 have f1:=br.free 1
 have f2:=br.free 2
 have f3:=br.free 3
 have lt1:=br.lt
 have Be:=z0a Bw B4
 dsimp only [nul] at r0 r1 r2 r3
 simp only [Nat.zero_add] at r1 r2 r3
 clear Ra Rb Na Nb F bxa bxb bxr br B0 B1 B2 B3 B4 Bw
 go_wp2_with fail
 go_region_held2 (fun W=>W.cell? ⟨w.heap.size,0,none⟩=some (.int .i64 2)∧W.cell? ⟨w.heap.size,1,none⟩=some (.int .i64 an)∧W.cell? ⟨w.heap.size,2,none⟩=some (.int .i64 am)∧W.cell? ⟨w.heap.size,3,none⟩=some (.string ⟨ab.toArray⟩) ∧
   W.cell? ⟨w.heap.size+1,0,none⟩=some (.int .i64 2)∧W.cell? ⟨w.heap.size+1,1,none⟩=some (.int .i64 bn)∧W.cell? ⟨w.heap.size+1,2,none⟩=some (.int .i64 bm)∧W.cell? ⟨w.heap.size+1,3,none⟩=some (.string ⟨bb.toArray⟩)) (simp (maxDischargeDepth:=12) [go_sem,a0,a1,a2,a3,b0,b1,b2,b3,lta,ltb]) (first
  | (go_at_call 121;refine (U _ _ _ _ _).mono ?_;rintro e w1 ⟨rfl,os1,n1,rfl⟩)
  | (go_at_call 120;refine (F4 _ gB).mono ?_;rintro e w2 ⟨rfl,os2,n2,rfl⟩))
 go_wp2
 refine z0x (by intro l h;cases h) ?_
 refine bodyPost_ret_by (v:=.tuple #[va rk rn rm rb,.int .i64 re]) ?_ rfl ⟨rfl,?_⟩
 ·simp [results,Tryz.results84,go_sem,r0,r1,r2,r3,lt1]
 ·refine z0a (Be.setCell (p:=⟨w.heap.size+1+1,0,none⟩) (by simp;omega) (.int .i64 rk) |>.setCell (p:=⟨w.heap.size+1+1,1,none⟩) (by simp;omega) (.int .i64 rn) |>.setCell (p:=⟨w.heap.size+1+1,2,none⟩) (by simp;omega) (.int .i64 rm) |>.setCell (p:=⟨w.heap.size+1+1,3,none⟩) (by simp;omega) (.string rb)) (Grew.below ?_)
  repeat exact gB
theorem qbin_o1 (op:Int) (bk:Int) (an am bn bm:Int) (ab bb:List UInt8) (w:World) (o1:¬ op<6) (o2:¬ op > 18) (e17:(op != 17)=true) (e18:(op != 18)=true) (eb:(bk != 0)=true) (eb1:(bk != 1)=true) (Ra:z0s 22 #[va 1 an am ⟨ab.toArray⟩] w (.bool true)) (Rb:z0s 22 #[va bk bn bm ⟨bb.toArray⟩] w (.bool true)) (Na:z0s 119 #[va 1 an am ⟨ab.toArray⟩] w (.bool true)) (Nb:z0s 119 #[va bk bn bm ⟨bb.toArray⟩] w (.bool false)) :
  Calls Tryz.prog 84 #[.int .i64 op,va 1 an am ⟨ab.toArray⟩,va bk bn bm ⟨bb.toArray⟩] w fun e w'=>e=.returned (.tuple #[va 0 0 0 ⟨#[]⟩,.int .i64 31])∧Below w.heap.size w w':=by
 obtain ⟨w0,hw0,bxa,bxb,bxr,Bw⟩:=z0w w ⟨1,an,am,ab⟩ ⟨bk,bn,bm,bb⟩
 dsimp only at hw0
 go_enter Tryz.func84,Tryz.ntmps84
 go_wp2_with fail
 rw [← hw0]
 clear hw0
 refine z0t 9 ?_
 have B0:Below w0.heap.size w0 w0:=Below.refl _ _
 obtain ⟨a0,a1,a2,a3⟩:=(bxa.later B0).at4
 obtain ⟨b0,b1,b2,b3⟩:=(bxb.later B0).at4
 dsimp only at a0 a1 a2 a3 b0 b1 b2 b3
 go_wp2_with fail
 refine (Ra _ (z0a Bw B0)).mono ?_
 rintro e w1 ⟨rfl,c⟩
 have B1:=z0a B0 c
 clear a0 a1 a2 a3 b0 b1 b2 b3 c
 obtain ⟨a0,a1,a2,a3⟩:=(bxa.later B1).at4
 obtain ⟨b0,b1,b2,b3⟩:=(bxb.later B1).at4
 dsimp only at a0 a1 a2 a3 b0 b1 b2 b3
 go_wp2_with fail
 refine (Rb _ (z0a Bw B1)).mono ?_
 rintro e w2 ⟨rfl,c⟩
 have B2:=z0a B1 c
 clear a0 a1 a2 a3 b0 b1 b2 b3 c
 obtain ⟨a0,a1,a2,a3⟩:=(bxa.later B2).at4
 obtain ⟨b0,b1,b2,b3⟩:=(bxb.later B2).at4
 dsimp only at a0 a1 a2 a3 b0 b1 b2 b3
 go_wp2_with fail
 refine z0p (n:=8) rfl ?_
 go_wp2_with fail
 refine z0p (n:=7) rfl ?_
 go_wp2_with fail
 refine z0p (n:=6) rfl ?_
 go_wp2_with fail
 refine (Na _ (z0a Bw B2)).mono ?_
 rintro e w3 ⟨rfl,c⟩
 have B3:=z0a B2 c
 clear a0 a1 a2 a3 b0 b1 b2 b3 c
 obtain ⟨a0,a1,a2,a3⟩:=(bxa.later B3).at4
 obtain ⟨b0,b1,b2,b3⟩:=(bxb.later B3).at4
 dsimp only at a0 a1 a2 a3 b0 b1 b2 b3
 go_wp2_with fail
 refine (Nb _ (z0a Bw B3)).mono ?_
 rintro e w4 ⟨rfl,c⟩
 have B4:=z0a B3 c
 clear a0 a1 a2 a3 b0 b1 b2 b3 c
 obtain ⟨a0,a1,a2,a3⟩:=(bxa.later B4).at4
 obtain ⟨b0,b1,b2,b3⟩:=(bxb.later B4).at4
 dsimp only at a0 a1 a2 a3 b0 b1 b2 b3
 go_wp2_with fail
 refine z0p (n:=5) rfl ?_
 go_wp2_with fail
 refine z0p (n:=4) rfl ?_
 go_wp2_with fail
 refine z0p (n:=3) rfl ?_
 go_wp2_with fail
 refine z0p (n:=2) rfl ?_
 have br:=bxr.later B4
 obtain ⟨r0,r1,r2,r3⟩:=br.at4
 have f0:=br.free 0
 have f1:=br.free 1
 have f2:=br.free 2
 have f3:=br.free 3
 have lt1:=br.lt
 have Be:=z0a Bw B4
 go_wp2
 refine z0x (by intro l h;cases h) ?_
 refine bodyPost_ret_by (v:=.tuple #[va 0 0 0 ⟨#[]⟩,.int .i64 31]) ?_ rfl ⟨rfl,?_⟩
 ·simp [results,Tryz.results84,go_sem,r0,r1,r2,r3,nul]
 ·exact (((Be.setCell (p:=⟨w.heap.size+1+1,0,none⟩) (by simp;omega) _).setCell (p:=⟨w.heap.size+1+1,1,none⟩) (by simp;omega) _).setCell (p:=⟨w.heap.size+1+1,2,none⟩) (by simp;omega) _).setCell (p:=⟨w.heap.size+1+1,3,none⟩) (by simp;omega) _
theorem qbin_o4 (op:Int) (bk:Int) (an am bn bm:Int) (ab bb:List UInt8) (w:World) (o1:¬ op<6) (o2:¬ op > 18) (e17:(op != 17)=true) (e18:(op != 18)=true) (eb:(bk != 0)=true) (eb1:(bk != 4)=true) (Ra:z0s 22 #[va 4 an am ⟨ab.toArray⟩] w (.bool true)) (Rb:z0s 22 #[va bk bn bm ⟨bb.toArray⟩] w (.bool true)) (Na:z0s 119 #[va 4 an am ⟨ab.toArray⟩] w (.bool false)) :
  Calls Tryz.prog 84 #[.int .i64 op,va 4 an am ⟨ab.toArray⟩,va bk bn bm ⟨bb.toArray⟩] w fun e w'=>e=.returned (.tuple #[va 0 0 0 ⟨#[]⟩,.int .i64 31])∧Below w.heap.size w w':=by
 obtain ⟨w0,hw0,bxa,bxb,bxr,Bw⟩:=z0w w ⟨4,an,am,ab⟩ ⟨bk,bn,bm,bb⟩
 dsimp only at hw0
 go_enter Tryz.func84,Tryz.ntmps84
 go_wp2_with fail
 rw [← hw0]
 clear hw0
 refine z0t 9 ?_
 have B0:Below w0.heap.size w0 w0:=Below.refl _ _
 obtain ⟨a0,a1,a2,a3⟩:=(bxa.later B0).at4
 obtain ⟨b0,b1,b2,b3⟩:=(bxb.later B0).at4
 dsimp only at a0 a1 a2 a3 b0 b1 b2 b3
 go_wp2_with fail
 refine (Ra _ (z0a Bw B0)).mono ?_
 rintro e w1 ⟨rfl,c⟩
 have B1:=z0a B0 c
 clear a0 a1 a2 a3 b0 b1 b2 b3 c
 obtain ⟨a0,a1,a2,a3⟩:=(bxa.later B1).at4
 obtain ⟨b0,b1,b2,b3⟩:=(bxb.later B1).at4
 dsimp only at a0 a1 a2 a3 b0 b1 b2 b3
 go_wp2_with fail
 refine (Rb _ (z0a Bw B1)).mono ?_
 rintro e w2 ⟨rfl,c⟩
 have B2:=z0a B1 c
 clear a0 a1 a2 a3 b0 b1 b2 b3 c
 obtain ⟨a0,a1,a2,a3⟩:=(bxa.later B2).at4
 obtain ⟨b0,b1,b2,b3⟩:=(bxb.later B2).at4
 dsimp only at a0 a1 a2 a3 b0 b1 b2 b3
 go_wp2_with fail
 refine z0p (n:=8) rfl ?_
 go_wp2_with fail
 refine z0p (n:=7) rfl ?_
 go_wp2_with fail
 refine z0p (n:=6) rfl ?_
 go_wp2_with fail
 refine (Na _ (z0a Bw B2)).mono ?_
 rintro e w3 ⟨rfl,c⟩
 have B3:=z0a B2 c
 clear a0 a1 a2 a3 b0 b1 b2 b3 c
 obtain ⟨a0,a1,a2,a3⟩:=(bxa.later B3).at4
 obtain ⟨b0,b1,b2,b3⟩:=(bxb.later B3).at4
 dsimp only at a0 a1 a2 a3 b0 b1 b2 b3
 go_wp2_with fail
 refine z0p (n:=5) rfl ?_
 go_wp2_with fail
 refine z0p (n:=4) rfl ?_
 go_wp2_with fail
 refine z0p (n:=3) rfl ?_
 go_wp2_with fail
 refine z0p (n:=2) rfl ?_
 have br:=bxr.later B3
 obtain ⟨r0,r1,r2,r3⟩:=br.at4
 have f0:=br.free 0
 have f1:=br.free 1
 have f2:=br.free 2
 have f3:=br.free 3
 have lt1:=br.lt
 have Be:=z0a Bw B3
 go_wp2
 refine z0x (by intro l h;cases h) ?_
 refine bodyPost_ret_by (v:=.tuple #[va 0 0 0 ⟨#[]⟩,.int .i64 31]) ?_ rfl ⟨rfl,?_⟩
 ·simp [results,Tryz.results84,go_sem,r0,r1,r2,r3,nul]
 ·exact (((Be.setCell (p:=⟨w.heap.size+1+1,0,none⟩) (by simp;omega) _).setCell (p:=⟨w.heap.size+1+1,1,none⟩) (by simp;omega) _).setCell (p:=⟨w.heap.size+1+1,2,none⟩) (by simp;omega) _).setCell (p:=⟨w.heap.size+1+1,3,none⟩) (by simp;omega) _
theorem at10_zero (u:Int):at10 u 0 0=u:=by simp [at10]
theorem qdiff_any (a b:Int) (w:World) (hP:Pw w) (a0:-9223372036854775808≤a) (a1:a≤9223372036854775807) (b0:-9223372036854775808≤b) (b1:b≤9223372036854775807) :
  Calls Tryz.prog 151 #[.int .i64 a,.int .i64 b] w fun e w'=>e=.returned (ires (a - b))∧Grew w w':=by
 have S:∀ W,Grew w W→Calls Tryz.prog 164 #[dv a 0,dv b 0] W fun e w'=>e=.returned (dres (a - b) 0)∧Grew W w':=by
  intro W h
  have:=sub_good a 0 b 0 0 W (hP.later h) rfl rfl (.inl ⟨rfl,Int.le_refl _⟩) a0 a1 b0 b1
  rwa [at10_zero,at10_zero] at this
 clear hP a0 a1 b0 b1
 generalize a - b=z at *
 go_enter Tryz.func151,Tryz.ntmps151
 go_wp2_with (go_at_call 164;refine (S _ gB).mono ?_;rintro e w1 ⟨rfl,os1,n1,rfl⟩)
 refine bodyPost_ret_by (v:=ires z) ?_ rfl ⟨rfl,?_⟩
 ·simp [results,Tryz.results151,go_sem]
 ·exact gB
theorem tdiv_in (a b:Int) (b2:b≠-1) (a0:-9223372036854775808≤a) (a1:a≤9223372036854775807) (b0:-9223372036854775808≤b) (b1:b≤9223372036854775807):-9223372036854775808≤a.tdiv b∧a.tdiv b≤9223372036854775807:=by
 have h:(a.tdiv b).natAbs=a.natAbs / b.natAbs:=Int.natAbs_tdiv a b
 rcases Nat.lt_or_ge b.natAbs 2 with h2|h2
 ·have:b=0∨b=1:=by omega
  rcases this with rfl|rfl
  ·simp
  ·simp;omega
 ·have:a.natAbs / b.natAbs≤a.natAbs / 2:=Nat.div_le_div_left h2 (by decide)
  omega
theorem tmod_in (a b:Int) (a0:-9223372036854775808≤a) (a1:a≤9223372036854775807):-9223372036854775808≤a.tmod b∧a.tmod b≤9223372036854775807:=by
 have h:(a.tmod b).natAbs=a.natAbs%b.natAbs:=Int.natAbs_tmod a b
 have:=Nat.mod_le a.natAbs b.natAbs
 have h1:=Int.tmod_nonneg (a:=a) b
 have h2:a≤0→a.tmod b≤0:=fun h=>by have:=Int.tmod_nonneg (a:=-a) b (by omega);rw [Int.neg_tmod] at this;omega
 omega
theorem qquo_any (a b:Int) (w:World) (a0:-9223372036854775808≤a) (a1:a≤9223372036854775807) (b0:-9223372036854775808≤b) (b1:b≤9223372036854775807) :
  Calls Tryz.prog 160 #[.int .i64 a,.int .i64 b] w fun e w'=>e=.returned (.tuple #[.int .i64 (quoR a b).1,.int .i64 (quoR a b).2])∧Grew w w':=by
 unfold quoR
 by_cases h0:b=0
 ·subst h0
  rw [if_pos rfl]
  go_enter Tryz.func160,Tryz.ntmps160
  go_wp2
  go_ret2
  exact ⟨rfl,gB⟩
 rw [if_neg h0]
 have c0:(b==0)=false:=by simpa using h0
 by_cases h1:b=-1
 ·subst h1
  rw [if_pos rfl]
  have M:=fun W=>mulInt_any a (-1) W a0 a1 b0 b1
  rw [Int.mul_neg,Int.mul_one] at M
  clear a0 a1 b0 b1
  go_enter Tryz.func160,Tryz.ntmps160
  go_wp2_with (go_at_call 159;refine (M _).mono ?_;rintro e w1 ⟨rfl,os1,n1,rfl⟩)
  go_ret2
  exact ⟨rfl,gB⟩
 rw [if_neg h1]
 have c1:(b==-1)=false:=by simpa using h1
 obtain ⟨l0,l1⟩:=tdiv_in a b h1 a0 a1 b0 b1
 go_enter Tryz.func160,Tryz.ntmps160
 go_wp2
 go_ret2
 exact ⟨rfl,gB⟩
theorem qrem_any (a b:Int) (w:World) (a0:-9223372036854775808≤a) (a1:a≤9223372036854775807) (b0:-9223372036854775808≤b) (b1:b≤9223372036854775807) :
  Calls Tryz.prog 161 #[.int .i64 a,.int .i64 b] w fun e w'=>e=.returned (.tuple #[.int .i64 (remR a b).1,.int .i64 (remR a b).2])∧Grew w w':=by
 unfold remR
 by_cases h0:b=0
 ·subst h0
  rw [if_pos rfl]
  go_enter Tryz.func161,Tryz.ntmps161
  go_wp2
  go_ret2
  exact ⟨rfl,gB⟩
 rw [if_neg h0]
 have c0:(b==0)=false:=by simpa using h0
 obtain ⟨l0,l1⟩:=tmod_in a b a0 a1
 go_enter Tryz.func161,Tryz.ntmps161
 go_wp2
 go_ret2
 exact ⟨rfl,gB⟩
theorem qints_any (op a b:Int) (w:World) (hP:Pw w) (a0:-9223372036854775808≤a) (a1:a≤9223372036854775807) (b0:-9223372036854775808≤b) (b1:b≤9223372036854775807) :
  Calls Tryz.prog 118 #[.int .i64 op,.int .i64 a,.int .i64 b] w fun e w'=>e=.returned (rs (intsR op a b))∧Grew w w':=by
 unfold intsR
 by_cases h9:op=9
 ·subst h9
  rw [if_pos rfl]
  have C:∀ W,Grew w W→Calls Tryz.prog 158 #[.int .i64 a,.int .i64 b] W fun e w'=>e=.returned (.tuple #[.int .i64 _,.int .i64 _])∧Grew W w':=fun W h=>addInt_any a b W a0 a1 b0 b1
  have H:=fun n x W=>z2h n x W
  clear hP a0 a1 b0 b1
  go_enter Tryz.func118,Tryz.ntmps118
  go_wp2_with (first
   | (go_at_call 158;refine (C _ gB).mono ?_;rintro e w1 ⟨rfl,os1,n1,rfl⟩)
   | (go_at_call 144;refine (H _ _ _).mono ?_;rintro e w1 ⟨rfl,os2,n2,rfl⟩))
  refine bodyPost_ret_by (v:=rs _) ?_ rfl ⟨rfl,?_⟩
  ·simp [results,Tryz.results118,go_sem]
  ·exact gB
 have c9:(op==9)=false:=by simpa using h9
 by_cases h10:op=10
 ·subst h10
  rw [if_neg (by decide),if_pos rfl]
  have C:∀ W,Grew w W→Calls Tryz.prog 151 #[.int .i64 a,.int .i64 b] W fun e w'=>e=.returned (.tuple #[.int .i64 _,.int .i64 _])∧Grew W w':=fun W h=>qdiff_any a b W (hP.later h) a0 a1 b0 b1
  have H:=fun n x W=>z2h n x W
  clear hP a0 a1 b0 b1
  go_enter Tryz.func118,Tryz.ntmps118
  go_wp2_with (first
   | (go_at_call 151;refine (C _ gB).mono ?_;rintro e w1 ⟨rfl,os1,n1,rfl⟩)
   | (go_at_call 144;refine (H _ _ _).mono ?_;rintro e w1 ⟨rfl,os2,n2,rfl⟩))
  refine bodyPost_ret_by (v:=rs _) ?_ rfl ⟨rfl,?_⟩
  ·simp [results,Tryz.results118,go_sem]
  ·exact gB
 have c10:(op==10)=false:=by simpa using h10
 by_cases h6:op=6
 ·subst h6
  rw [if_neg (by decide),if_neg (by decide),if_pos rfl]
  have C:∀ W,Grew w W→Calls Tryz.prog 159 #[.int .i64 a,.int .i64 b] W fun e w'=>e=.returned (.tuple #[.int .i64 _,.int .i64 _])∧Grew W w':=fun W h=>mulInt_any a b W a0 a1 b0 b1
  have H:=fun n x W=>z2h n x W
  clear hP a0 a1 b0 b1
  go_enter Tryz.func118,Tryz.ntmps118
  go_wp2_with (first
   | (go_at_call 159;refine (C _ gB).mono ?_;rintro e w1 ⟨rfl,os1,n1,rfl⟩)
   | (go_at_call 144;refine (H _ _ _).mono ?_;rintro e w1 ⟨rfl,os2,n2,rfl⟩))
  refine bodyPost_ret_by (v:=rs _) ?_ rfl ⟨rfl,?_⟩
  ·simp [results,Tryz.results118,go_sem]
  ·exact gB
 have c6:(op==6)=false:=by simpa using h6
 by_cases h7:op=7
 ·subst h7
  rw [if_neg (by decide),if_neg (by decide),if_neg (by decide),if_pos rfl]
  have C:∀ W,Grew w W→Calls Tryz.prog 160 #[.int .i64 a,.int .i64 b] W fun e w'=>e=.returned (.tuple #[.int .i64 _,.int .i64 _])∧Grew W w':=fun W h=>qquo_any a b W a0 a1 b0 b1
  have H:=fun n x W=>z2h n x W
  clear hP a0 a1 b0 b1
  go_enter Tryz.func118,Tryz.ntmps118
  go_wp2_with (first
   | (go_at_call 160;refine (C _ gB).mono ?_;rintro e w1 ⟨rfl,os1,n1,rfl⟩)
   | (go_at_call 144;refine (H _ _ _).mono ?_;rintro e w1 ⟨rfl,os2,n2,rfl⟩))
  refine bodyPost_ret_by (v:=rs _) ?_ rfl ⟨rfl,?_⟩
  ·simp [results,Tryz.results118,go_sem]
  ·exact gB
 have c7:(op==7)=false:=by simpa using h7
 by_cases h8:op=8
 ·subst h8
  rw [if_neg (by decide),if_neg (by decide),if_neg (by decide),if_neg (by decide),if_pos rfl]
  have C:∀ W,Grew w W→Calls Tryz.prog 161 #[.int .i64 a,.int .i64 b] W fun e w'=>e=.returned (.tuple #[.int .i64 _,.int .i64 _])∧Grew W w':=fun W h=>qrem_any a b W a0 a1 b0 b1
  have H:=fun n x W=>z2h n x W
  clear hP a0 a1 b0 b1
  go_enter Tryz.func118,Tryz.ntmps118
  go_wp2_with (first
   | (go_at_call 161;refine (C _ gB).mono ?_;rintro e w1 ⟨rfl,os1,n1,rfl⟩)
   | (go_at_call 144;refine (H _ _ _).mono ?_;rintro e w1 ⟨rfl,os2,n2,rfl⟩))
  refine bodyPost_ret_by (v:=rs _) ?_ rfl ⟨rfl,?_⟩
  ·simp [results,Tryz.results118,go_sem]
  ·exact gB
 have c8:(op==8)=false:=by simpa using h8
 rw [if_neg h9,if_neg h10,if_neg h6,if_neg h7,if_neg h8]
 have C:=fun W=>cmpI_any a b W
 have H:=fun c W=>z3t op c W
 clear hP a0 a1 b0 b1
 go_enter Tryz.func118,Tryz.ntmps118
 go_wp2_with (first
  | (go_at_call 162;refine (C _).mono ?_;rintro e w1 ⟨rfl,rfl⟩)
  | (go_at_call 124;refine (H _ _).mono ?_;rintro e w1 ⟨rfl,os2,n2,rfl⟩))
 refine bodyPost_ret_by (v:=rs _) ?_ rfl ⟨rfl,?_⟩
 ·simp [results,Tryz.results118,go_sem]
 ·exact gB
theorem gsc_or (s t:Int):(gsc s t=s∧t≤s)∨(gsc s t=t∧s<t):=by unfold gsc;split <;> omega
theorem psc_or (s t:Int):(psc s t=s+t∧s+t≤6)∨(psc s t=6∧6<s+t):=by unfold psc;split <;> omega
theorem qnums_any (op:Int) (a b:Va) (w:World) (hP:Pw w) (ha:0≤a.m∧a.m≤6) (hb:0≤b.m∧b.m≤6) (va:vin a) (vb:vin b) :
  Calls Tryz.prog 120 #[.int .i64 op,dv a.n a.m,dv b.n b.m] w fun e w'=>e=.returned (rs (numsR op a b))∧Grew w w':=by
 have ra:=(z1f a.m).2 ha
 have rb:=(z1f b.m).2 hb
 unfold numsR decR
 by_cases h9:op=9
 ·subst h9
  rw [if_pos rfl]
  have C:∀ W,Grew w W→Calls Tryz.prog 163 #[dv a.n a.m,dv b.n b.m] W fun e w'=>e=.returned (.tuple #[dv _ _,.int .i64 _])∧Grew W w':=fun W h=>add_good a.n a.m b.n b.m _ W (hP.later h) ra rb (gsc_or a.m b.m) va.1.1 va.1.2 vb.1.1 vb.1.2
  have H:=fun u s x W=>z3x u s x W
  clear hP ha hb ra rb va vb
  go_enter Tryz.func120,Tryz.ntmps120
  go_wp2_with (first
   | (go_at_call 163;refine (C _ gB).mono ?_;rintro e w1 ⟨rfl,os1,n1,rfl⟩)
   | (go_at_call 152;refine (H _ _ _ _).mono ?_;rintro e w1 ⟨rfl,os2,n2,rfl⟩))
  refine bodyPost_ret_by (v:=rs _) ?_ rfl ⟨rfl,?_⟩
  ·simp [results,Tryz.results120,go_sem]
  ·exact gB
 have c9:(op==9)=false:=by simpa using h9
 by_cases h10:op=10
 ·subst h10
  rw [if_neg (by decide),if_pos rfl]
  have C:∀ W,Grew w W→Calls Tryz.prog 164 #[dv a.n a.m,dv b.n b.m] W fun e w'=>e=.returned (.tuple #[dv _ _,.int .i64 _])∧Grew W w':=fun W h=>sub_good a.n a.m b.n b.m _ W (hP.later h) ra rb (gsc_or a.m b.m) va.1.1 va.1.2 vb.1.1 vb.1.2
  have H:=fun u s x W=>z3x u s x W
  clear hP ha hb ra rb va vb
  go_enter Tryz.func120,Tryz.ntmps120
  go_wp2_with (first
   | (go_at_call 164;refine (C _ gB).mono ?_;rintro e w1 ⟨rfl,os1,n1,rfl⟩)
   | (go_at_call 152;refine (H _ _ _ _).mono ?_;rintro e w1 ⟨rfl,os2,n2,rfl⟩))
  refine bodyPost_ret_by (v:=rs _) ?_ rfl ⟨rfl,?_⟩
  ·simp [results,Tryz.results120,go_sem]
  ·exact gB
 have c10:(op==10)=false:=by simpa using h10
 by_cases h6:op=6
 ·subst h6
  rw [if_neg (by decide),if_neg (by decide),if_pos rfl]
  have C:∀ W,Grew w W→Calls Tryz.prog 165 #[dv a.n a.m,dv b.n b.m] W fun e w'=>e=.returned (.tuple #[dv _ _,.int .i64 _])∧Grew W w':=fun W h=>mul_good a.n a.m b.n b.m _ (a.m+b.m - psc a.m b.m).toNat W (hP.later h) ra rb (psc_or a.m b.m) (by have:=psc_or a.m b.m;omega) va.1.1 va.1.2 vb.1.1 vb.1.2
  have H:=fun u s x W=>z3x u s x W
  clear hP ha hb ra rb va vb
  go_enter Tryz.func120,Tryz.ntmps120
  go_wp2_with (first
   | (go_at_call 165;refine (C _ gB).mono ?_;rintro e w1 ⟨rfl,os1,n1,rfl⟩)
   | (go_at_call 152;refine (H _ _ _ _).mono ?_;rintro e w1 ⟨rfl,os2,n2,rfl⟩))
  refine bodyPost_ret_by (v:=rs _) ?_ rfl ⟨rfl,?_⟩
  ·simp [results,Tryz.results120,go_sem]
  ·exact gB
 have c6:(op==6)=false:=by simpa using h6
 by_cases h7:op=7
 ·subst h7
  rw [if_neg (by decide),if_neg (by decide),if_neg (by decide),if_pos rfl]
  by_cases hz:b.n=0
  ·rw [if_pos hz,hz]
   show Calls _ _ _ _ fun e w'=>e=.returned (rs (z5g 0 0 33))∧_
   have C:∀ W,Grew w W→Calls Tryz.prog 80 #[dv a.n a.m,dv 0 b.m,.int .i64 6] W fun e w'=>e=.returned (.tuple #[dv _ _,.int .i64 _])∧Grew W w':=fun W h=>div_zero a.n a.m b.m 6 W ra rb rfl
   have H:=fun u s x W=>z3x u s x W
   clear hP ha hb ra rb va vb
   go_enter Tryz.func120,Tryz.ntmps120
   go_wp2_with (first
    | (go_at_call 80;refine (C _ gB).mono ?_;rintro e w1 ⟨rfl,os1,n1,rfl⟩)
    | (go_at_call 152;refine (H _ _ _ _).mono ?_;rintro e w1 ⟨rfl,os2,n2,rfl⟩))
   refine bodyPost_ret_by (v:=rs _) ?_ rfl ⟨rfl,?_⟩
   ·simp [results,Tryz.results120,go_sem]
   ·exact gB
  ·rw [if_neg hz]
   have C:∀ W,Grew w W→Calls Tryz.prog 80 #[dv a.n a.m,dv b.n b.m,.int .i64 6] W fun e w'=>e=.returned (.tuple #[dv _ _,.int .i64 _])∧Grew W w':=fun W h=>div_good a.n a.m b.n b.m 6 W (hP.later h) ra rb rfl va.1.1 va.1.2 vb.1.1 vb.1.2 hz
   have H:=fun u s x W=>z3x u s x W
   clear hP ha hb ra rb va vb
   go_enter Tryz.func120,Tryz.ntmps120
   go_wp2_with (first
    | (go_at_call 80;refine (C _ gB).mono ?_;rintro e w1 ⟨rfl,os1,n1,rfl⟩)
    | (go_at_call 152;refine (H _ _ _ _).mono ?_;rintro e w1 ⟨rfl,os2,n2,rfl⟩))
   refine bodyPost_ret_by (v:=rs _) ?_ rfl ⟨rfl,?_⟩
   ·simp [results,Tryz.results120,go_sem]
   ·exact gB
 have c7:(op==7)=false:=by simpa using h7
 rw [if_neg h9,if_neg h10,if_neg h6,if_neg h7]
 have C:∀ W,Grew w W→Calls Tryz.prog 166 #[dv a.n a.m,dv b.n b.m] W fun e w'=>e=.returned (.int .i64 _)∧Grew W w':=fun W h=>dcmp_six a b W (hP.later h) ha hb va vb
 have H:=fun c W=>z3t op c W
 clear hP ha hb ra rb va vb
 go_enter Tryz.func120,Tryz.ntmps120
 go_wp2_with (first
  | (go_at_call 166;refine (C _ gB).mono ?_;rintro e w1 ⟨rfl,os1,n1,rfl⟩)
  | (go_at_call 124;refine (H _ _).mono ?_;rintro e w1 ⟨rfl,os2,n2,rfl⟩))
 refine bodyPost_ret_by (v:=rs _) ?_ rfl ⟨rfl,?_⟩
 ·simp [results,Tryz.results120,go_sem]
 ·exact gB
end Go.Proofs.YtljkonkfeiojnaaGreatDoor
