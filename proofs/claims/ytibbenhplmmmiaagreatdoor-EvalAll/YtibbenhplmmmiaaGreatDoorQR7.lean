/-
  The document's answers for eval: Unary.
-/
import Derived.Test.YtibbenhplmmmiaaGreatDoorMEQRF0
import Derived.Test.YtibbenhplmmmiaaGreatDoorMDQFun2
import Derived.Test.YtibbenhplmmmiaaGreatDoorDRef8
import Derived.Test.YtibbenhplmmmiaaGreatDoorMAHRef4
set_option maxHeartbeats 2000000
namespace Go.Proofs.YtibbenhplmmmiaaGreatDoor
open Go.RowKit Go.Shelf
attribute [local go_sem] z0e z0b z0c z0f z0m z0k z0h z0d z0g
attribute [local go_sem high] Ga.cellMA Ga.frozenMA Ga.setMA Ga.cellMAM Ga.frozenMAM Ga.setMAM Ga.cellMAA Ga.frozenMAA Ga.setMAA Ga.cellMAAM Ga.frozenMAAM Ga.setMAAM Ga.cellMAMA Ga.frozenMAMA Ga.setMAMA Ga.cellMAMAM Ga.frozenMAMAM Ga.setMAMAM Ga.cellMAMAMA Ga.frozenMAMAMA Ga.setMAMAMA Ga.cellMAMAMAM Ga.frozenMAMAMAM Ga.setMAMAMAM Ga.size_blank
theorem run_low (op:Int) (ak:Int) (an am:Int) (ab:List UInt8) (w:World) (o1:op<3)  :
  Calls Tryz.prog 67 #[.int .i64 op,va ak an am ⟨ab.toArray⟩] w fun e w'=>e=.returned (.tuple #[va 0 0 0 ⟨#[]⟩,.int .i64 1])∧Below w.heap.size w w':=by
 obtain ⟨w0,hw0,bxa,bxr,Bw⟩:=z1n w ⟨ak,an,am,ab⟩
 dsimp only at hw0
 have B0:Below w0.heap.size w0 w0:=Below.refl _ _
 go_enter Tryz.func67,Tryz.ntmps67
 go_upto_region 1 with fail
 rw [← hw0]
 clear hw0
 obtain ⟨a0,a1,a2,a3⟩:=bxa.at4
 dsimp only at a0 a1 a2 a3
 have br:=bxr.later B0
 obtain ⟨r0,r1,r2,r3⟩:=br.at4
 dsimp only [nul] at r0 r1 r2 r3
 simp only [Nat.zero_add] at r1 r2 r3
 have f0:=br.free 0
 have f1:=br.free 1
 have f2:=br.free 2
 have f3:=br.free 3
 have lt1:=br.lt
 have Be:=z0a Bw B0
 go_wp2
 refine bodyPost_ret_by (v:=.tuple #[va 0 0 0 ⟨#[]⟩,.int .i64 1]) ?_ rfl ⟨rfl,?_⟩
 ·simp [results,Tryz.results67,go_sem,r0,r1,r2,r3]
 ·refine z0a (Be.setCell (p:=⟨w.heap.size+1,0,none⟩) (by dsimp only;omega) (.int .i64 0) |>.setCell (p:=⟨w.heap.size+1,1,none⟩) (by dsimp only;omega) (.int .i64 0) |>.setCell (p:=⟨w.heap.size+1,2,none⟩) (by dsimp only;omega) (.int .i64 0) |>.setCell (p:=⟨w.heap.size+1,3,none⟩) (by dsimp only;omega) (.string ⟨#[]⟩)) (Grew.below ?_)
  repeat exact gB
theorem run_high (op:Int) (ak:Int) (an am:Int) (ab:List UInt8) (w:World) (o1:¬ op<3) (o2:op > 5)  :
  Calls Tryz.prog 67 #[.int .i64 op,va ak an am ⟨ab.toArray⟩] w fun e w'=>e=.returned (.tuple #[va 0 0 0 ⟨#[]⟩,.int .i64 1])∧Below w.heap.size w w':=by
 obtain ⟨w0,hw0,bxa,bxr,Bw⟩:=z1n w ⟨ak,an,am,ab⟩
 dsimp only at hw0
 have B0:Below w0.heap.size w0 w0:=Below.refl _ _
 go_enter Tryz.func67,Tryz.ntmps67
 go_upto_region 1 with fail
 rw [← hw0]
 clear hw0
 obtain ⟨a0,a1,a2,a3⟩:=bxa.at4
 dsimp only at a0 a1 a2 a3
 have br:=bxr.later B0
 obtain ⟨r0,r1,r2,r3⟩:=br.at4
 dsimp only [nul] at r0 r1 r2 r3
 simp only [Nat.zero_add] at r1 r2 r3
 have f0:=br.free 0
 have f1:=br.free 1
 have f2:=br.free 2
 have f3:=br.free 3
 have lt1:=br.lt
 have Be:=z0a Bw B0
 go_wp2
 refine bodyPost_ret_by (v:=.tuple #[va 0 0 0 ⟨#[]⟩,.int .i64 1]) ?_ rfl ⟨rfl,?_⟩
 ·simp [results,Tryz.results67,go_sem,r0,r1,r2,r3]
 ·refine z0a (Be.setCell (p:=⟨w.heap.size+1,0,none⟩) (by dsimp only;omega) (.int .i64 0) |>.setCell (p:=⟨w.heap.size+1,1,none⟩) (by dsimp only;omega) (.int .i64 0) |>.setCell (p:=⟨w.heap.size+1,2,none⟩) (by dsimp only;omega) (.int .i64 0) |>.setCell (p:=⟨w.heap.size+1,3,none⟩) (by dsimp only;omega) (.string ⟨#[]⟩)) (Grew.below ?_)
  repeat exact gB
theorem run_bad (op:Int) (ak:Int) (an am:Int) (ab:List UInt8) (w:World) (o1:¬ op<3) (o2:¬ op > 5) (Ra:z0n 13 #[va ak an am ⟨ab.toArray⟩] w (.bool false)) :
  Calls Tryz.prog 67 #[.int .i64 op,va ak an am ⟨ab.toArray⟩] w fun e w'=>e=.returned (.tuple #[va 0 0 0 ⟨#[]⟩,.int .i64 1])∧Below w.heap.size w w':=by
 obtain ⟨w0,hw0,bxa,bxr,Bw⟩:=z1n w ⟨ak,an,am,ab⟩
 dsimp only at hw0
 have B0:Below w0.heap.size w0 w0:=Below.refl _ _
 go_enter Tryz.func67,Tryz.ntmps67
 go_upto_region 1 with fail
 rw [← hw0]
 clear hw0
 obtain ⟨a0,a1,a2,a3⟩:=bxa.at4
 dsimp only at a0 a1 a2 a3
 go_wp2_with fail
 refine (Ra _ (z0a Bw B0)).mono ?_
 rintro e w1 ⟨rfl,cc⟩
 have B1:=z0a B0 cc
 clear a0 a1 a2 a3 cc
 obtain ⟨a0,a1,a2,a3⟩:=(bxa.later B1).at4
 dsimp only at a0 a1 a2 a3
 have br:=bxr.later B1
 obtain ⟨r0,r1,r2,r3⟩:=br.at4
 dsimp only [nul] at r0 r1 r2 r3
 simp only [Nat.zero_add] at r1 r2 r3
 have f0:=br.free 0
 have f1:=br.free 1
 have f2:=br.free 2
 have f3:=br.free 3
 have lt1:=br.lt
 have Be:=z0a Bw B1
 go_wp2
 refine bodyPost_ret_by (v:=.tuple #[va 0 0 0 ⟨#[]⟩,.int .i64 1]) ?_ rfl ⟨rfl,?_⟩
 ·simp [results,Tryz.results67,go_sem,r0,r1,r2,r3]
 ·refine z0a (Be.setCell (p:=⟨w.heap.size+1,0,none⟩) (by dsimp only;omega) (.int .i64 0) |>.setCell (p:=⟨w.heap.size+1,1,none⟩) (by dsimp only;omega) (.int .i64 0) |>.setCell (p:=⟨w.heap.size+1,2,none⟩) (by dsimp only;omega) (.int .i64 0) |>.setCell (p:=⟨w.heap.size+1,3,none⟩) (by dsimp only;omega) (.string ⟨#[]⟩)) (Grew.below ?_)
  repeat exact gB
theorem run_nullT (ak:Int) (an am:Int) (ab:List UInt8) (w:World) (rk rn rm:Int) (rb:ByteArray) (Ra:z0n 13 #[va ak an am ⟨ab.toArray⟩] w (.bool true)) (Na:z0n 119 #[va ak an am ⟨ab.toArray⟩] w (.bool true)) (O:z0n 128 #[.int .i64 1] w (va rk rn rm rb)) :
  Calls Tryz.prog 67 #[.int .i64 5,va ak an am ⟨ab.toArray⟩] w fun e w'=>e=.returned (.tuple #[va rk rn rm rb,.int .i64 0])∧Below w.heap.size w w':=by
 obtain ⟨w0,hw0,bxa,bxr,Bw⟩:=z1n w ⟨ak,an,am,ab⟩
 dsimp only at hw0
 have B0:Below w0.heap.size w0 w0:=Below.refl _ _
 go_enter Tryz.func67,Tryz.ntmps67
 go_upto_region 1 with fail
 rw [← hw0]
 clear hw0
 obtain ⟨a0,a1,a2,a3⟩:=bxa.at4
 dsimp only at a0 a1 a2 a3
 go_wp2_with fail
 refine (Ra _ (z0a Bw B0)).mono ?_
 rintro e w1 ⟨rfl,cc⟩
 have B1:=z0a B0 cc
 clear a0 a1 a2 a3 cc
 obtain ⟨a0,a1,a2,a3⟩:=(bxa.later B1).at4
 dsimp only at a0 a1 a2 a3
 go_wp2_with fail
 refine (Na _ (z0a Bw B1)).mono ?_
 rintro e w2 ⟨rfl,cc⟩
 have B2:=z0a B1 cc
 clear a0 a1 a2 a3 cc
 obtain ⟨a0,a1,a2,a3⟩:=(bxa.later B2).at4
 dsimp only at a0 a1 a2 a3
 go_wp2_with fail
 refine (O _ (z0a Bw B2)).mono ?_
 rintro e w3 ⟨rfl,cc⟩
 have B3:=z0a B2 cc
 clear a0 a1 a2 a3 cc
 obtain ⟨a0,a1,a2,a3⟩:=(bxa.later B3).at4
 dsimp only at a0 a1 a2 a3
 have br:=bxr.later B3
 obtain ⟨r0,r1,r2,r3⟩:=br.at4
 dsimp only [nul] at r0 r1 r2 r3
 simp only [Nat.zero_add] at r1 r2 r3
 have f0:=br.free 0
 have f1:=br.free 1
 have f2:=br.free 2
 have f3:=br.free 3
 have lt1:=br.lt
 have Be:=z0a Bw B3
 go_wp2
 refine bodyPost_ret_by (v:=.tuple #[va rk rn rm rb,.int .i64 0]) ?_ rfl ⟨rfl,?_⟩
 ·simp [results,Tryz.results67,go_sem,r0,r1,r2,r3]
 ·refine z0a (Be.setCell (p:=⟨w.heap.size+1,0,none⟩) (by dsimp only;omega) (.int .i64 rk) |>.setCell (p:=⟨w.heap.size+1,1,none⟩) (by dsimp only;omega) (.int .i64 rn) |>.setCell (p:=⟨w.heap.size+1,2,none⟩) (by dsimp only;omega) (.int .i64 rm) |>.setCell (p:=⟨w.heap.size+1,3,none⟩) (by dsimp only;omega) (.string rb)) (Grew.below ?_)
  repeat exact gB
theorem run_nullF (ak:Int) (an am:Int) (ab:List UInt8) (w:World) (rk rn rm:Int) (rb:ByteArray) (Ra:z0n 13 #[va ak an am ⟨ab.toArray⟩] w (.bool true)) (Na:z0n 119 #[va ak an am ⟨ab.toArray⟩] w (.bool false)) (O:z0n 128 #[.int .i64 0] w (va rk rn rm rb)) :
  Calls Tryz.prog 67 #[.int .i64 5,va ak an am ⟨ab.toArray⟩] w fun e w'=>e=.returned (.tuple #[va rk rn rm rb,.int .i64 0])∧Below w.heap.size w w':=by
 obtain ⟨w0,hw0,bxa,bxr,Bw⟩:=z1n w ⟨ak,an,am,ab⟩
 dsimp only at hw0
 have B0:Below w0.heap.size w0 w0:=Below.refl _ _
 go_enter Tryz.func67,Tryz.ntmps67
 go_upto_region 1 with fail
 rw [← hw0]
 clear hw0
 obtain ⟨a0,a1,a2,a3⟩:=bxa.at4
 dsimp only at a0 a1 a2 a3
 go_wp2_with fail
 refine (Ra _ (z0a Bw B0)).mono ?_
 rintro e w1 ⟨rfl,cc⟩
 have B1:=z0a B0 cc
 clear a0 a1 a2 a3 cc
 obtain ⟨a0,a1,a2,a3⟩:=(bxa.later B1).at4
 dsimp only at a0 a1 a2 a3
 go_wp2_with fail
 refine (Na _ (z0a Bw B1)).mono ?_
 rintro e w2 ⟨rfl,cc⟩
 have B2:=z0a B1 cc
 clear a0 a1 a2 a3 cc
 obtain ⟨a0,a1,a2,a3⟩:=(bxa.later B2).at4
 dsimp only at a0 a1 a2 a3
 go_wp2_with fail
 refine (O _ (z0a Bw B2)).mono ?_
 rintro e w3 ⟨rfl,cc⟩
 have B3:=z0a B2 cc
 clear a0 a1 a2 a3 cc
 obtain ⟨a0,a1,a2,a3⟩:=(bxa.later B3).at4
 dsimp only at a0 a1 a2 a3
 have br:=bxr.later B3
 obtain ⟨r0,r1,r2,r3⟩:=br.at4
 dsimp only [nul] at r0 r1 r2 r3
 simp only [Nat.zero_add] at r1 r2 r3
 have f0:=br.free 0
 have f1:=br.free 1
 have f2:=br.free 2
 have f3:=br.free 3
 have lt1:=br.lt
 have Be:=z0a Bw B3
 go_wp2
 refine bodyPost_ret_by (v:=.tuple #[va rk rn rm rb,.int .i64 0]) ?_ rfl ⟨rfl,?_⟩
 ·simp [results,Tryz.results67,go_sem,r0,r1,r2,r3]
 ·refine z0a (Be.setCell (p:=⟨w.heap.size+1,0,none⟩) (by dsimp only;omega) (.int .i64 rk) |>.setCell (p:=⟨w.heap.size+1,1,none⟩) (by dsimp only;omega) (.int .i64 rn) |>.setCell (p:=⟨w.heap.size+1,2,none⟩) (by dsimp only;omega) (.int .i64 rm) |>.setCell (p:=⟨w.heap.size+1,3,none⟩) (by dsimp only;omega) (.string rb)) (Grew.below ?_)
  repeat exact gB
theorem run_notT (ak:Int) (an am:Int) (ab:List UInt8) (w:World) (rk rn rm:Int) (rb:ByteArray) (t v:Int) (Ra:z0n 13 #[va ak an am ⟨ab.toArray⟩] w (.bool true)) (T:z0n 71 #[va ak an am ⟨ab.toArray⟩] w (.tuple #[.int .i64 t,.bool true])) (C:z0n 129 #[.int .i64 t] w (.int .i64 v)) (O:z0n 128 #[.int .i64 v] w (va rk rn rm rb)) :
  Calls Tryz.prog 67 #[.int .i64 4,va ak an am ⟨ab.toArray⟩] w fun e w'=>e=.returned (.tuple #[va rk rn rm rb,.int .i64 0])∧Below w.heap.size w w':=by
 obtain ⟨w0,hw0,bxa,bxr,Bw⟩:=z1n w ⟨ak,an,am,ab⟩
 dsimp only at hw0
 have B0:Below w0.heap.size w0 w0:=Below.refl _ _
 go_enter Tryz.func67,Tryz.ntmps67
 go_upto_region 1 with fail
 rw [← hw0]
 clear hw0
 obtain ⟨a0,a1,a2,a3⟩:=bxa.at4
 dsimp only at a0 a1 a2 a3
 go_wp2_with fail
 refine (Ra _ (z0a Bw B0)).mono ?_
 rintro e w1 ⟨rfl,cc⟩
 have B1:=z0a B0 cc
 clear a0 a1 a2 a3 cc
 obtain ⟨a0,a1,a2,a3⟩:=(bxa.later B1).at4
 dsimp only at a0 a1 a2 a3
 go_wp2_with fail
 refine (T _ (z0a Bw B1)).mono ?_
 rintro e w2 ⟨rfl,cc⟩
 have B2:=z0a B1 cc
 clear a0 a1 a2 a3 cc
 obtain ⟨a0,a1,a2,a3⟩:=(bxa.later B2).at4
 dsimp only at a0 a1 a2 a3
 go_wp2_with fail
 refine (C _ (z0a Bw B2)).mono ?_
 rintro e w3 ⟨rfl,cc⟩
 have B3:=z0a B2 cc
 clear a0 a1 a2 a3 cc
 obtain ⟨a0,a1,a2,a3⟩:=(bxa.later B3).at4
 dsimp only at a0 a1 a2 a3
 go_wp2_with fail
 refine (O _ (z0a Bw B3)).mono ?_
 rintro e w4 ⟨rfl,cc⟩
 have B4:=z0a B3 cc
 clear a0 a1 a2 a3 cc
 obtain ⟨a0,a1,a2,a3⟩:=(bxa.later B4).at4
 dsimp only at a0 a1 a2 a3
 have br:=bxr.later B4
 obtain ⟨r0,r1,r2,r3⟩:=br.at4
 dsimp only [nul] at r0 r1 r2 r3
 simp only [Nat.zero_add] at r1 r2 r3
 have f0:=br.free 0
 have f1:=br.free 1
 have f2:=br.free 2
 have f3:=br.free 3
 have lt1:=br.lt
 have Be:=z0a Bw B4
 go_wp2
 refine bodyPost_ret_by (v:=.tuple #[va rk rn rm rb,.int .i64 0]) ?_ rfl ⟨rfl,?_⟩
 ·simp [results,Tryz.results67,go_sem,r0,r1,r2,r3]
 ·refine z0a (Be.setCell (p:=⟨w.heap.size+1,0,none⟩) (by dsimp only;omega) (.int .i64 rk) |>.setCell (p:=⟨w.heap.size+1,1,none⟩) (by dsimp only;omega) (.int .i64 rn) |>.setCell (p:=⟨w.heap.size+1,2,none⟩) (by dsimp only;omega) (.int .i64 rm) |>.setCell (p:=⟨w.heap.size+1,3,none⟩) (by dsimp only;omega) (.string rb)) (Grew.below ?_)
  repeat exact gB
theorem run_notF (ak:Int) (an am:Int) (ab:List UInt8) (w:World) (t:Int) (Ra:z0n 13 #[va ak an am ⟨ab.toArray⟩] w (.bool true)) (T:z0n 71 #[va ak an am ⟨ab.toArray⟩] w (.tuple #[.int .i64 t,.bool false])) :
  Calls Tryz.prog 67 #[.int .i64 4,va ak an am ⟨ab.toArray⟩] w fun e w'=>e=.returned (.tuple #[va 0 0 0 ⟨#[]⟩,.int .i64 31])∧Below w.heap.size w w':=by
 obtain ⟨w0,hw0,bxa,bxr,Bw⟩:=z1n w ⟨ak,an,am,ab⟩
 dsimp only at hw0
 have B0:Below w0.heap.size w0 w0:=Below.refl _ _
 go_enter Tryz.func67,Tryz.ntmps67
 go_upto_region 1 with fail
 rw [← hw0]
 clear hw0
 obtain ⟨a0,a1,a2,a3⟩:=bxa.at4
 dsimp only at a0 a1 a2 a3
 go_wp2_with fail
 refine (Ra _ (z0a Bw B0)).mono ?_
 rintro e w1 ⟨rfl,cc⟩
 have B1:=z0a B0 cc
 clear a0 a1 a2 a3 cc
 obtain ⟨a0,a1,a2,a3⟩:=(bxa.later B1).at4
 dsimp only at a0 a1 a2 a3
 go_wp2_with fail
 refine (T _ (z0a Bw B1)).mono ?_
 rintro e w2 ⟨rfl,cc⟩
 have B2:=z0a B1 cc
 clear a0 a1 a2 a3 cc
 obtain ⟨a0,a1,a2,a3⟩:=(bxa.later B2).at4
 dsimp only at a0 a1 a2 a3
 have br:=bxr.later B2
 obtain ⟨r0,r1,r2,r3⟩:=br.at4
 dsimp only [nul] at r0 r1 r2 r3
 simp only [Nat.zero_add] at r1 r2 r3
 have f0:=br.free 0
 have f1:=br.free 1
 have f2:=br.free 2
 have f3:=br.free 3
 have lt1:=br.lt
 have Be:=z0a Bw B2
 go_wp2
 refine bodyPost_ret_by (v:=.tuple #[va 0 0 0 ⟨#[]⟩,.int .i64 31]) ?_ rfl ⟨rfl,?_⟩
 ·simp [results,Tryz.results67,go_sem,r0,r1,r2,r3]
 ·refine z0a (Be.setCell (p:=⟨w.heap.size+1,0,none⟩) (by dsimp only;omega) (.int .i64 0) |>.setCell (p:=⟨w.heap.size+1,1,none⟩) (by dsimp only;omega) (.int .i64 0) |>.setCell (p:=⟨w.heap.size+1,2,none⟩) (by dsimp only;omega) (.int .i64 0) |>.setCell (p:=⟨w.heap.size+1,3,none⟩) (by dsimp only;omega) (.string ⟨#[]⟩)) (Grew.below ?_)
  repeat exact gB
theorem run_neg0 (ak:Int) (an am:Int) (ab:List UInt8) (w:World)  (Ra:z0n 13 #[va ak an am ⟨ab.toArray⟩] w (.bool true)) (Na:z0n 119 #[va ak an am ⟨ab.toArray⟩] w (.bool true)) :
  Calls Tryz.prog 67 #[.int .i64 3,va ak an am ⟨ab.toArray⟩] w fun e w'=>e=.returned (.tuple #[va 0 0 0 ⟨#[]⟩,.int .i64 0])∧Below w.heap.size w w':=by
 obtain ⟨w0,hw0,bxa,bxr,Bw⟩:=z1n w ⟨ak,an,am,ab⟩
 dsimp only at hw0
 have B0:Below w0.heap.size w0 w0:=Below.refl _ _
 go_enter Tryz.func67,Tryz.ntmps67
 go_upto_region 1 with fail
 rw [← hw0]
 clear hw0
 obtain ⟨a0,a1,a2,a3⟩:=bxa.at4
 dsimp only at a0 a1 a2 a3
 go_wp2_with fail
 refine (Ra _ (z0a Bw B0)).mono ?_
 rintro e w1 ⟨rfl,cc⟩
 have B1:=z0a B0 cc
 clear a0 a1 a2 a3 cc
 obtain ⟨a0,a1,a2,a3⟩:=(bxa.later B1).at4
 dsimp only at a0 a1 a2 a3
 go_wp2_with fail
 refine (Na _ (z0a Bw B1)).mono ?_
 rintro e w2 ⟨rfl,cc⟩
 have B2:=z0a B1 cc
 clear a0 a1 a2 a3 cc
 obtain ⟨a0,a1,a2,a3⟩:=(bxa.later B2).at4
 dsimp only at a0 a1 a2 a3
 have br:=bxr.later B2
 obtain ⟨r0,r1,r2,r3⟩:=br.at4
 dsimp only [nul] at r0 r1 r2 r3
 simp only [Nat.zero_add] at r1 r2 r3
 have f0:=br.free 0
 have f1:=br.free 1
 have f2:=br.free 2
 have f3:=br.free 3
 have lt1:=br.lt
 have Be:=z0a Bw B2
 go_wp2
 refine bodyPost_ret_by (v:=.tuple #[va 0 0 0 ⟨#[]⟩,.int .i64 0]) ?_ rfl ⟨rfl,?_⟩
 ·simp [results,Tryz.results67,go_sem,r0,r1,r2,r3]
 ·refine z0a (Be.setCell (p:=⟨w.heap.size+1,0,none⟩) (by dsimp only;omega) (.int .i64 0) |>.setCell (p:=⟨w.heap.size+1,1,none⟩) (by dsimp only;omega) (.int .i64 0) |>.setCell (p:=⟨w.heap.size+1,2,none⟩) (by dsimp only;omega) (.int .i64 0) |>.setCell (p:=⟨w.heap.size+1,3,none⟩) (by dsimp only;omega) (.string ⟨#[]⟩)) (Grew.below ?_)
  repeat exact gB
theorem run_neg1 (an am:Int) (ab:List UInt8) (w:World) (z s x:Int) (D:∀ W,Calls Tryz.prog 130 #[dv an am] W fun e w'=>e=.returned (.tuple #[dv z s,.int .i64 x])∧Grew W w') (Ra:z0n 13 #[va 1 an am ⟨ab.toArray⟩] w (.bool true)) (Na:z0n 119 #[va 1 an am ⟨ab.toArray⟩] w (.bool false)) :
  Calls Tryz.prog 67 #[.int .i64 3,va 1 an am ⟨ab.toArray⟩] w fun e w'=>e=.returned (rs (z0v z x))∧Below w.heap.size w w':=by
 obtain ⟨w0,hw0,bxa,bxr,Bw⟩:=z1n w ⟨1,an,am,ab⟩
 dsimp only at hw0
 have B0:Below w0.heap.size w0 w0:=Below.refl _ _
 go_enter Tryz.func67,Tryz.ntmps67
 go_upto_region 1 with fail
 rw [← hw0]
 clear hw0
 obtain ⟨a0,a1,a2,a3⟩:=bxa.at4
 dsimp only at a0 a1 a2 a3
 go_wp2_with fail
 refine (Ra _ (z0a Bw B0)).mono ?_
 rintro e w1 ⟨rfl,cc⟩
 have B1:=z0a B0 cc
 clear a0 a1 a2 a3 cc
 obtain ⟨a0,a1,a2,a3⟩:=(bxa.later B1).at4
 dsimp only at a0 a1 a2 a3
 go_wp2_with fail
 refine (Na _ (z0a Bw B1)).mono ?_
 rintro e w2 ⟨rfl,cc⟩
 have B2:=z0a B1 cc
 clear a0 a1 a2 a3 cc
 obtain ⟨a0,a1,a2,a3⟩:=(bxa.later B2).at4
 dsimp only at a0 a1 a2 a3
 have br:=bxr.later B2
 obtain ⟨r0,r1,r2,r3⟩:=br.at4
 dsimp only [nul] at r0 r1 r2 r3
 simp only [Nat.zero_add] at r1 r2 r3
 have f0:=br.free 0
 have f1:=br.free 1
 have f2:=br.free 2
 have f3:=br.free 3
 have lt1:=br.lt
 have Be:=z0a Bw B2
 have lta:=(bxa.later B2).lt
 simp only [Nat.zero_add] at a1 a2 a3
 clear br
 go_wp2_with (first
  | (go_at_call 127;refine (z3z _ _ _ _ _).mono ?_;rintro e wc ⟨rfl,os0,n0,rfl⟩)
  | (go_at_call 130;refine (D _).mono ?_;rintro e wc ⟨rfl,os1,n1,rfl⟩)
  | (go_at_call 120;refine (z4m _ _ _).mono ?_;rintro e wc ⟨rfl,os2,n2,rfl⟩))
 refine bodyPost_ret_by (v:=rs (z0v z x)) ?_ rfl ⟨rfl,?_⟩
 ·simp [results,Tryz.results67,go_sem,r0,r1,r2,r3,lt1]
 ·refine z0a (Be.setCell (p:=⟨w.heap.size+1,0,none⟩) (by dsimp only;omega) (.int .i64 (z0v z x).1.k) |>.setCell (p:=⟨w.heap.size+1,1,none⟩) (by dsimp only;omega) (.int .i64 (z0v z x).1.n) |>.setCell (p:=⟨w.heap.size+1,2,none⟩) (by dsimp only;omega) (.int .i64 (z0v z x).1.m) |>.setCell (p:=⟨w.heap.size+1,3,none⟩) (by dsimp only;omega) (.string ⟨(z0v z x).1.b.toArray⟩)) (Grew.below ?_)
  repeat exact gB
theorem run_neg2 (an am:Int) (ab:List UInt8) (w:World) (z s x:Int) (D:∀ W,Calls Tryz.prog 130 #[dv an am] W fun e w'=>e=.returned (.tuple #[dv z s,.int .i64 x])∧Grew W w') (Ra:z0n 13 #[va 2 an am ⟨ab.toArray⟩] w (.bool true)) (Na:z0n 119 #[va 2 an am ⟨ab.toArray⟩] w (.bool false)) :
  Calls Tryz.prog 67 #[.int .i64 3,va 2 an am ⟨ab.toArray⟩] w fun e w'=>e=.returned (rs (z2a z s x))∧Below w.heap.size w w':=by
 obtain ⟨w0,hw0,bxa,bxr,Bw⟩:=z1n w ⟨2,an,am,ab⟩
 dsimp only at hw0
 have B0:Below w0.heap.size w0 w0:=Below.refl _ _
 go_enter Tryz.func67,Tryz.ntmps67
 go_upto_region 1 with fail
 rw [← hw0]
 clear hw0
 obtain ⟨a0,a1,a2,a3⟩:=bxa.at4
 dsimp only at a0 a1 a2 a3
 go_wp2_with fail
 refine (Ra _ (z0a Bw B0)).mono ?_
 rintro e w1 ⟨rfl,cc⟩
 have B1:=z0a B0 cc
 clear a0 a1 a2 a3 cc
 obtain ⟨a0,a1,a2,a3⟩:=(bxa.later B1).at4
 dsimp only at a0 a1 a2 a3
 go_wp2_with fail
 refine (Na _ (z0a Bw B1)).mono ?_
 rintro e w2 ⟨rfl,cc⟩
 have B2:=z0a B1 cc
 clear a0 a1 a2 a3 cc
 obtain ⟨a0,a1,a2,a3⟩:=(bxa.later B2).at4
 dsimp only at a0 a1 a2 a3
 have br:=bxr.later B2
 obtain ⟨r0,r1,r2,r3⟩:=br.at4
 dsimp only [nul] at r0 r1 r2 r3
 simp only [Nat.zero_add] at r1 r2 r3
 have f0:=br.free 0
 have f1:=br.free 1
 have f2:=br.free 2
 have f3:=br.free 3
 have lt1:=br.lt
 have Be:=z0a Bw B2
 have lta:=(bxa.later B2).lt
 simp only [Nat.zero_add] at a1 a2 a3
 clear br
 go_wp2_with (first
  | (go_at_call 127;refine (z3z _ _ _ _ _).mono ?_;rintro e wc ⟨rfl,os0,n0,rfl⟩)
  | (go_at_call 130;refine (D _).mono ?_;rintro e wc ⟨rfl,os1,n1,rfl⟩)
  | (go_at_call 125;refine (z3e _ _ _ _).mono ?_;rintro e wc ⟨rfl,os2,n2,rfl⟩))
 refine bodyPost_ret_by (v:=rs (z2a z s x)) ?_ rfl ⟨rfl,?_⟩
 ·simp [results,Tryz.results67,go_sem,r0,r1,r2,r3,lt1]
 ·refine z0a (Be.setCell (p:=⟨w.heap.size+1,0,none⟩) (by dsimp only;omega) (.int .i64 (z2a z s x).1.k) |>.setCell (p:=⟨w.heap.size+1,1,none⟩) (by dsimp only;omega) (.int .i64 (z2a z s x).1.n) |>.setCell (p:=⟨w.heap.size+1,2,none⟩) (by dsimp only;omega) (.int .i64 (z2a z s x).1.m) |>.setCell (p:=⟨w.heap.size+1,3,none⟩) (by dsimp only;omega) (.string ⟨(z2a z s x).1.b.toArray⟩)) (Grew.below ?_)
  repeat exact gB
theorem run_neg5 (an am:Int) (ab:List UInt8) (w:World) (x y:Int) (D:∀ W,Calls Tryz.prog 131 #[dv an am,.int .i64 2] W fun e w'=>e=.returned (dv x y)∧Grew W w') (Ra:z0n 13 #[va 5 an am ⟨ab.toArray⟩] w (.bool true)) (Na:z0n 119 #[va 5 an am ⟨ab.toArray⟩] w (.bool false)) :
  Calls Tryz.prog 67 #[.int .i64 3,va 5 an am ⟨ab.toArray⟩] w fun e w'=>e=.returned (rs (z0u x y 0))∧Below w.heap.size w w':=by
 obtain ⟨w0,hw0,bxa,bxr,Bw⟩:=z1n w ⟨5,an,am,ab⟩
 dsimp only at hw0
 have B0:Below w0.heap.size w0 w0:=Below.refl _ _
 go_enter Tryz.func67,Tryz.ntmps67
 go_upto_region 1 with fail
 rw [← hw0]
 clear hw0
 obtain ⟨a0,a1,a2,a3⟩:=bxa.at4
 dsimp only at a0 a1 a2 a3
 go_wp2_with fail
 refine (Ra _ (z0a Bw B0)).mono ?_
 rintro e w1 ⟨rfl,cc⟩
 have B1:=z0a B0 cc
 clear a0 a1 a2 a3 cc
 obtain ⟨a0,a1,a2,a3⟩:=(bxa.later B1).at4
 dsimp only at a0 a1 a2 a3
 go_wp2_with fail
 refine (Na _ (z0a Bw B1)).mono ?_
 rintro e w2 ⟨rfl,cc⟩
 have B2:=z0a B1 cc
 clear a0 a1 a2 a3 cc
 obtain ⟨a0,a1,a2,a3⟩:=(bxa.later B2).at4
 dsimp only at a0 a1 a2 a3
 have br:=bxr.later B2
 obtain ⟨r0,r1,r2,r3⟩:=br.at4
 dsimp only [nul] at r0 r1 r2 r3
 simp only [Nat.zero_add] at r1 r2 r3
 have f0:=br.free 0
 have f1:=br.free 1
 have f2:=br.free 2
 have f3:=br.free 3
 have lt1:=br.lt
 have Be:=z0a Bw B2
 have lta:=(bxa.later B2).lt
 simp only [Nat.zero_add] at a1 a2 a3
 clear br
 go_wp2_with (first
  | (go_at_call 123;refine (z7f _ _ _ _ _).mono ?_;rintro e wc ⟨rfl,os0,n0,rfl⟩)
  | (go_at_call 131;refine (D _).mono ?_;rintro e wc ⟨rfl,os1,n1,rfl⟩)
  | (go_at_call 124;refine (z2c _ _ _ _).mono ?_;rintro e wc ⟨rfl,os2,n2,rfl⟩))
 refine bodyPost_ret_by (v:=rs (z0u x y 0)) ?_ rfl ⟨rfl,?_⟩
 ·simp [results,Tryz.results67,go_sem,r0,r1,r2,r3,lt1]
 ·refine z0a (Be.setCell (p:=⟨w.heap.size+1,0,none⟩) (by dsimp only;omega) (.int .i64 (z0u x y 0).1.k) |>.setCell (p:=⟨w.heap.size+1,1,none⟩) (by dsimp only;omega) (.int .i64 (z0u x y 0).1.n) |>.setCell (p:=⟨w.heap.size+1,2,none⟩) (by dsimp only;omega) (.int .i64 (z0u x y 0).1.m) |>.setCell (p:=⟨w.heap.size+1,3,none⟩) (by dsimp only;omega) (.string ⟨(z0u x y 0).1.b.toArray⟩)) (Grew.below ?_)
  repeat exact gB
theorem run_negO (ak:Int) (an am:Int) (ab:List UInt8) (w:World) (e1:(ak==1)=false) (e2:(ak==2)=false) (e5:(ak==5)=false) (Ra:z0n 13 #[va ak an am ⟨ab.toArray⟩] w (.bool true)) (Na:z0n 119 #[va ak an am ⟨ab.toArray⟩] w (.bool false)) :
  Calls Tryz.prog 67 #[.int .i64 3,va ak an am ⟨ab.toArray⟩] w fun e w'=>e=.returned (.tuple #[va 0 0 0 ⟨#[]⟩,.int .i64 31])∧Below w.heap.size w w':=by
 obtain ⟨w0,hw0,bxa,bxr,Bw⟩:=z1n w ⟨ak,an,am,ab⟩
 dsimp only at hw0
 have B0:Below w0.heap.size w0 w0:=Below.refl _ _
 go_enter Tryz.func67,Tryz.ntmps67
 go_upto_region 1 with fail
 rw [← hw0]
 clear hw0
 obtain ⟨a0,a1,a2,a3⟩:=bxa.at4
 dsimp only at a0 a1 a2 a3
 go_wp2_with fail
 refine (Ra _ (z0a Bw B0)).mono ?_
 rintro e w1 ⟨rfl,cc⟩
 have B1:=z0a B0 cc
 clear a0 a1 a2 a3 cc
 obtain ⟨a0,a1,a2,a3⟩:=(bxa.later B1).at4
 dsimp only at a0 a1 a2 a3
 go_wp2_with fail
 refine (Na _ (z0a Bw B1)).mono ?_
 rintro e w2 ⟨rfl,cc⟩
 have B2:=z0a B1 cc
 clear a0 a1 a2 a3 cc
 obtain ⟨a0,a1,a2,a3⟩:=(bxa.later B2).at4
 dsimp only at a0 a1 a2 a3
 have br:=bxr.later B2
 obtain ⟨r0,r1,r2,r3⟩:=br.at4
 dsimp only [nul] at r0 r1 r2 r3
 simp only [Nat.zero_add] at r1 r2 r3
 have f0:=br.free 0
 have f1:=br.free 1
 have f2:=br.free 2
 have f3:=br.free 3
 have lt1:=br.lt
 have Be:=z0a Bw B2
 go_wp2
 refine bodyPost_ret_by (v:=.tuple #[va 0 0 0 ⟨#[]⟩,.int .i64 31]) ?_ rfl ⟨rfl,?_⟩
 ·simp [results,Tryz.results67,go_sem,r0,r1,r2,r3]
 ·refine z0a (Be.setCell (p:=⟨w.heap.size+1,0,none⟩) (by dsimp only;omega) (.int .i64 0) |>.setCell (p:=⟨w.heap.size+1,1,none⟩) (by dsimp only;omega) (.int .i64 0) |>.setCell (p:=⟨w.heap.size+1,2,none⟩) (by dsimp only;omega) (.int .i64 0) |>.setCell (p:=⟨w.heap.size+1,3,none⟩) (by dsimp only;omega) (.string ⟨#[]⟩)) (Grew.below ?_)
  repeat exact gB
theorem runary_any (op:Int) (a:Va) (w:World) (ia:vin a) :
  Calls Tryz.prog 67 #[.int .i64 op,vv a] w fun e w'=>e=.returned (rs (unR op a))∧Below w.heap.size w w':=by
 have Ra:z0n 13 #[vv a] w (.bool (vr a)):=fun W _=>rright_any a.k a.n a.m ⟨a.b.toArray⟩ W
 have Na:z0n 119 #[vv a] w (.bool (a.k==0)):=fun W _=>(z2k a.k a.n a.m ⟨a.b.toArray⟩ W).mono fun _ _ h=>⟨h.1,h.2.below⟩
 have Of:∀ t,z0n 128 #[.int .i64 t] w (vv (vO t)):=fun t W _=>by
  have:=rof_any t W
  rw [vof_vO] at this
  exact this.mono fun _ _ h=>⟨h.1,h.2.below⟩
 unfold unR
 by_cases o1:op<3
 ·rw [if_pos (by omega)]
  exact run_low op a.k a.n a.m a.b w o1
 by_cases o2:op > 5
 ·rw [if_pos (by omega)]
  exact run_high op a.k a.n a.m a.b w o1 o2
 cases hr:vr a
 ·rw [hr] at Ra
  rw [if_pos (by simp)]
  exact run_bad op a.k a.n a.m a.b w o1 o2 Ra
 rw [hr] at Ra
 rw [if_neg (by simp;omega)]
 by_cases h5:op=5
 ·subst h5
  rw [if_pos rfl]
  cases hz:(a.k==0)
  ·rw [hz] at Na
   exact run_nullF a.k a.n a.m a.b w _ _ _ _ Ra Na (Of 0)
  ·rw [hz] at Na
   exact run_nullT a.k a.n a.m a.b w _ _ _ _ Ra Na (Of 1)
 rw [if_neg h5]
 by_cases h4:op=4
 ·subst h4
  rw [if_pos rfl]
  have T:z0n 71 #[vv a] w (.tuple #[.int .i64 (tN a),.bool (tB a)]):=fun W _=>(z6t a.k a.n a.m ⟨a.b.toArray⟩ W).mono fun _ _ h=>⟨h.1,h.2⟩
  unfold notR
  cases ht:tB a
  ·rw [ht] at T
   rw [if_neg (by simp)]
   exact run_notF a.k a.n a.m a.b w _ Ra T
  ·rw [ht] at T
   rw [if_pos rfl]
   exact run_notT a.k a.n a.m a.b w _ _ _ _ _ _ Ra T (fun W _=>(rnot_any (tN a) W).mono fun _ _ h=>⟨h.1,h.2▸Below.refl _ _⟩) (Of _)
 rw [if_neg h4]
 obtain rfl:op=3:=by omega
 obtain ⟨k,n,m,b⟩:=a
 have hv:=(z2f _).1 hr
 simp only [vok] at hv
 obtain ⟨⟨a0,a1⟩,-⟩:=ia
 simp only at a0 a1
 unfold negR
 by_cases h0:k=0
 ·subst h0
  exact run_neg0 0 n m b w Ra Na
 have z0:(k==0)=false:=by simpa using h0
 simp only [z0] at Na
 by_cases h1:k=1
 ·subst h1
  have hm:m=0:=by omega
  subst hm
  have:=run_neg1 n 0 b w _ _ _ (fun W=>rneg_any n 0 W a0 a1) Ra Na
  simp only [negU,negE,show z0s 0=true from rfl,if_true] at this
  simp only [h0,if_false,if_true]
  rw [Int.zero_sub]
  exact this
 by_cases h2:k=2
 ·subst h2
  have hs:z0s m=true:=(z0w m).2 (by omega)
  have:=run_neg2 n m b w _ _ _ (fun W=>rneg_any n m W a0 a1) Ra Na
  simp only [negU,negS,negE,hs,if_true] at this
  exact this
 by_cases h5':k=5
 ·subst h5'
  have hp:Ga.ok2 n m=true:=(Ga.ok2_iff n m).2 (by omega)
  exact run_neg5 n m b w _ _ (fun W=>Ga.rturn_good n m 2 W hp) Ra Na
 simp only [h0,h1,h2,h5',if_false]
 exact run_negO k n m b w (by simpa using h1) (by simpa using h2) (by simpa using h5') Ra Na
end Go.Proofs.YtibbenhplmmmiaaGreatDoor
