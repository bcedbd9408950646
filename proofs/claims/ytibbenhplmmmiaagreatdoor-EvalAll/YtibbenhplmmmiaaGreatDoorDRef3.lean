/-
  The document's wide numbers: less, zero.
-/
import Derived.Test.YtibbenhplmmmiaaGreatDoorDRef1
set_option maxHeartbeats 4000000
set_option maxRecDepth 5000
namespace Go.Proofs.YtibbenhplmmmiaaGreatDoor
open Go.RowKit
theorem y0a (a0 a1 a2 a3 a4 a5 b0 b1 b2 b3 b4 b5:Nat) (sa sb:Bool) (w:World) (ha:Low6 a0 a1 a2 a3 a4 a5) (hb:Low6 b0 b1 b2 b3 b4 b5) :
  Calls Tryz.prog 246 #[wv a0 a1 a2 a3 a4 a5 sa,wv b0 b1 b2 b3 b4 b5 sb] w fun e w'=>e=.returned (.bool (decide (val6 a0 a1 a2 a3 a4 a5<val6 b0 b1 b2 b3 b4 b5)))∧Grew w w':=by
 have HA:Hid (Low6 a0 a1 a2 a3 a4 a5):=ha
 have HB:Hid (Low6 b0 b1 b2 b3 b4 b5):=hb
 clear ha hb
 by_cases h5:a5=b5
 ·subst h5
  by_cases h4:a4=b4
  ·subst h4
   by_cases h3:a3=b3
   ·subst h3
    by_cases h2:a2=b2
    ·subst h2
     by_cases h1:a1=b1
     ·subst h1
      by_cases h0:a0=b0
      ·subst h0
       go_enter Tryz.func246,Tryz.ntmps246
       go_wp2_with fail
       refine wp_loop_rounds 7 ?_
       rw [rounds_succ]
       go_wp2_with fail
       go_region_held2 (fun W=>W.cell? ⟨w.heap.size,5,none⟩=some (.int .u64 (a5:Int))∧W.cell? ⟨w.heap.size+1,5,none⟩=some (.int .u64 (a5:Int))) (simp [go_sem]) (fail)
       go_wp2_with fail
       rw [rounds_succ]
       go_wp2_with fail
       go_region_held2 (fun W=>W.cell? ⟨w.heap.size,4,none⟩=some (.int .u64 (a4:Int))∧W.cell? ⟨w.heap.size+1,4,none⟩=some (.int .u64 (a4:Int))) (simp [go_sem]) (fail)
       go_wp2_with fail
       rw [rounds_succ]
       go_wp2_with fail
       go_region_held2 (fun W=>W.cell? ⟨w.heap.size,3,none⟩=some (.int .u64 (a3:Int))∧W.cell? ⟨w.heap.size+1,3,none⟩=some (.int .u64 (a3:Int))) (simp [go_sem]) (fail)
       go_wp2_with fail
       rw [rounds_succ]
       go_wp2_with fail
       go_region_held2 (fun W=>W.cell? ⟨w.heap.size,2,none⟩=some (.int .u64 (a2:Int))∧W.cell? ⟨w.heap.size+1,2,none⟩=some (.int .u64 (a2:Int))) (simp [go_sem]) (fail)
       go_wp2_with fail
       rw [rounds_succ]
       go_wp2_with fail
       go_region_held2 (fun W=>W.cell? ⟨w.heap.size,1,none⟩=some (.int .u64 (a1:Int))∧W.cell? ⟨w.heap.size+1,1,none⟩=some (.int .u64 (a1:Int))) (simp [go_sem]) (fail)
       go_wp2_with fail
       rw [rounds_succ]
       go_wp2_with fail
       go_region_held2 (fun W=>W.cell? ⟨w.heap.size,0,none⟩=some (.int .u64 (a0:Int))∧W.cell? ⟨w.heap.size+1,0,none⟩=some (.int .u64 (a0:Int))) (simp [go_sem]) (fail)
       go_wp2_with fail
       rw [rounds_succ]
       go_wp2_with fail
       go_ret
       exact ⟨z1t (by simp),gA⟩
      ·have hi0:¬ (a0:Int)=(b0:Int):=by omega
       go_enter Tryz.func246,Tryz.ntmps246
       go_wp2_with fail
       refine wp_loop_rounds 7 ?_
       rw [rounds_succ]
       go_wp2_with fail
       go_region_held2 (fun W=>W.cell? ⟨w.heap.size,5,none⟩=some (.int .u64 (a5:Int))∧W.cell? ⟨w.heap.size+1,5,none⟩=some (.int .u64 (a5:Int))) (simp [go_sem]) (fail)
       go_wp2_with fail
       rw [rounds_succ]
       go_wp2_with fail
       go_region_held2 (fun W=>W.cell? ⟨w.heap.size,4,none⟩=some (.int .u64 (a4:Int))∧W.cell? ⟨w.heap.size+1,4,none⟩=some (.int .u64 (a4:Int))) (simp [go_sem]) (fail)
       go_wp2_with fail
       rw [rounds_succ]
       go_wp2_with fail
       go_region_held2 (fun W=>W.cell? ⟨w.heap.size,3,none⟩=some (.int .u64 (a3:Int))∧W.cell? ⟨w.heap.size+1,3,none⟩=some (.int .u64 (a3:Int))) (simp [go_sem]) (fail)
       go_wp2_with fail
       rw [rounds_succ]
       go_wp2_with fail
       go_region_held2 (fun W=>W.cell? ⟨w.heap.size,2,none⟩=some (.int .u64 (a2:Int))∧W.cell? ⟨w.heap.size+1,2,none⟩=some (.int .u64 (a2:Int))) (simp [go_sem]) (fail)
       go_wp2_with fail
       rw [rounds_succ]
       go_wp2_with fail
       go_region_held2 (fun W=>W.cell? ⟨w.heap.size,1,none⟩=some (.int .u64 (a1:Int))∧W.cell? ⟨w.heap.size+1,1,none⟩=some (.int .u64 (a1:Int))) (simp [go_sem]) (fail)
       go_wp2_with fail
       rw [rounds_succ]
       go_wp2_with fail
       go_region_held2 (fun W=>W.cell? ⟨w.heap.size,0,none⟩=some (.int .u64 (a0:Int))∧W.cell? ⟨w.heap.size+1,0,none⟩=some (.int .u64 (b0:Int))) (simp [go_sem]) (fail)
       go_wp2_with fail
       go_region_held2 (fun W=>W.cell? ⟨w.heap.size,0,none⟩=some (.int .u64 (a0:Int))∧W.cell? ⟨w.heap.size+1,0,none⟩=some (.int .u64 (b0:Int))) (simp [go_sem]) (fail)
       go_wp2_with fail
       go_ret
       refine ⟨z1t ?_,gA⟩
       obtain ⟨l0,l1,l2,l3,l4,l5⟩:=HA.out
       obtain ⟨m0,m1,m2,m3,m4,m5⟩:=HB.out
       rw [decide_eq_decide];unfold val6;omega
     ·have hi1:¬ (a1:Int)=(b1:Int):=by omega
      go_enter Tryz.func246,Tryz.ntmps246
      go_wp2_with fail
      refine wp_loop_rounds 7 ?_
      rw [rounds_succ]
      go_wp2_with fail
      go_region_held2 (fun W=>W.cell? ⟨w.heap.size,5,none⟩=some (.int .u64 (a5:Int))∧W.cell? ⟨w.heap.size+1,5,none⟩=some (.int .u64 (a5:Int))) (simp [go_sem]) (fail)
      go_wp2_with fail
      rw [rounds_succ]
      go_wp2_with fail
      go_region_held2 (fun W=>W.cell? ⟨w.heap.size,4,none⟩=some (.int .u64 (a4:Int))∧W.cell? ⟨w.heap.size+1,4,none⟩=some (.int .u64 (a4:Int))) (simp [go_sem]) (fail)
      go_wp2_with fail
      rw [rounds_succ]
      go_wp2_with fail
      go_region_held2 (fun W=>W.cell? ⟨w.heap.size,3,none⟩=some (.int .u64 (a3:Int))∧W.cell? ⟨w.heap.size+1,3,none⟩=some (.int .u64 (a3:Int))) (simp [go_sem]) (fail)
      go_wp2_with fail
      rw [rounds_succ]
      go_wp2_with fail
      go_region_held2 (fun W=>W.cell? ⟨w.heap.size,2,none⟩=some (.int .u64 (a2:Int))∧W.cell? ⟨w.heap.size+1,2,none⟩=some (.int .u64 (a2:Int))) (simp [go_sem]) (fail)
      go_wp2_with fail
      rw [rounds_succ]
      go_wp2_with fail
      go_region_held2 (fun W=>W.cell? ⟨w.heap.size,1,none⟩=some (.int .u64 (a1:Int))∧W.cell? ⟨w.heap.size+1,1,none⟩=some (.int .u64 (b1:Int))) (simp [go_sem]) (fail)
      go_wp2_with fail
      go_region_held2 (fun W=>W.cell? ⟨w.heap.size,1,none⟩=some (.int .u64 (a1:Int))∧W.cell? ⟨w.heap.size+1,1,none⟩=some (.int .u64 (b1:Int))) (simp [go_sem]) (fail)
      go_wp2_with fail
      go_ret
      refine ⟨z1t ?_,gA⟩
      obtain ⟨l0,l1,l2,l3,l4,l5⟩:=HA.out
      obtain ⟨m0,m1,m2,m3,m4,m5⟩:=HB.out
      rw [decide_eq_decide];unfold val6;omega
    ·have hi2:¬ (a2:Int)=(b2:Int):=by omega
     go_enter Tryz.func246,Tryz.ntmps246
     go_wp2_with fail
     refine wp_loop_rounds 7 ?_
     rw [rounds_succ]
     go_wp2_with fail
     go_region_held2 (fun W=>W.cell? ⟨w.heap.size,5,none⟩=some (.int .u64 (a5:Int))∧W.cell? ⟨w.heap.size+1,5,none⟩=some (.int .u64 (a5:Int))) (simp [go_sem]) (fail)
     go_wp2_with fail
     rw [rounds_succ]
     go_wp2_with fail
     go_region_held2 (fun W=>W.cell? ⟨w.heap.size,4,none⟩=some (.int .u64 (a4:Int))∧W.cell? ⟨w.heap.size+1,4,none⟩=some (.int .u64 (a4:Int))) (simp [go_sem]) (fail)
     go_wp2_with fail
     rw [rounds_succ]
     go_wp2_with fail
     go_region_held2 (fun W=>W.cell? ⟨w.heap.size,3,none⟩=some (.int .u64 (a3:Int))∧W.cell? ⟨w.heap.size+1,3,none⟩=some (.int .u64 (a3:Int))) (simp [go_sem]) (fail)
     go_wp2_with fail
     rw [rounds_succ]
     go_wp2_with fail
     go_region_held2 (fun W=>W.cell? ⟨w.heap.size,2,none⟩=some (.int .u64 (a2:Int))∧W.cell? ⟨w.heap.size+1,2,none⟩=some (.int .u64 (b2:Int))) (simp [go_sem]) (fail)
     go_wp2_with fail
     go_region_held2 (fun W=>W.cell? ⟨w.heap.size,2,none⟩=some (.int .u64 (a2:Int))∧W.cell? ⟨w.heap.size+1,2,none⟩=some (.int .u64 (b2:Int))) (simp [go_sem]) (fail)
     go_wp2_with fail
     go_ret
     refine ⟨z1t ?_,gA⟩
     obtain ⟨l0,l1,l2,l3,l4,l5⟩:=HA.out
     obtain ⟨m0,m1,m2,m3,m4,m5⟩:=HB.out
     rw [decide_eq_decide];unfold val6;omega
   ·have hi3:¬ (a3:Int)=(b3:Int):=by omega
    go_enter Tryz.func246,Tryz.ntmps246
    go_wp2_with fail
    refine wp_loop_rounds 7 ?_
    rw [rounds_succ]
    go_wp2_with fail
    go_region_held2 (fun W=>W.cell? ⟨w.heap.size,5,none⟩=some (.int .u64 (a5:Int))∧W.cell? ⟨w.heap.size+1,5,none⟩=some (.int .u64 (a5:Int))) (simp [go_sem]) (fail)
    go_wp2_with fail
    rw [rounds_succ]
    go_wp2_with fail
    go_region_held2 (fun W=>W.cell? ⟨w.heap.size,4,none⟩=some (.int .u64 (a4:Int))∧W.cell? ⟨w.heap.size+1,4,none⟩=some (.int .u64 (a4:Int))) (simp [go_sem]) (fail)
    go_wp2_with fail
    rw [rounds_succ]
    go_wp2_with fail
    go_region_held2 (fun W=>W.cell? ⟨w.heap.size,3,none⟩=some (.int .u64 (a3:Int))∧W.cell? ⟨w.heap.size+1,3,none⟩=some (.int .u64 (b3:Int))) (simp [go_sem]) (fail)
    go_wp2_with fail
    go_region_held2 (fun W=>W.cell? ⟨w.heap.size,3,none⟩=some (.int .u64 (a3:Int))∧W.cell? ⟨w.heap.size+1,3,none⟩=some (.int .u64 (b3:Int))) (simp [go_sem]) (fail)
    go_wp2_with fail
    go_ret
    refine ⟨z1t ?_,gA⟩
    obtain ⟨l0,l1,l2,l3,l4,l5⟩:=HA.out
    obtain ⟨m0,m1,m2,m3,m4,m5⟩:=HB.out
    rw [decide_eq_decide];unfold val6;omega
  ·have hi4:¬ (a4:Int)=(b4:Int):=by omega
   go_enter Tryz.func246,Tryz.ntmps246
   go_wp2_with fail
   refine wp_loop_rounds 7 ?_
   rw [rounds_succ]
   go_wp2_with fail
   go_region_held2 (fun W=>W.cell? ⟨w.heap.size,5,none⟩=some (.int .u64 (a5:Int))∧W.cell? ⟨w.heap.size+1,5,none⟩=some (.int .u64 (a5:Int))) (simp [go_sem]) (fail)
   go_wp2_with fail
   rw [rounds_succ]
   go_wp2_with fail
   go_region_held2 (fun W=>W.cell? ⟨w.heap.size,4,none⟩=some (.int .u64 (a4:Int))∧W.cell? ⟨w.heap.size+1,4,none⟩=some (.int .u64 (b4:Int))) (simp [go_sem]) (fail)
   go_wp2_with fail
   go_region_held2 (fun W=>W.cell? ⟨w.heap.size,4,none⟩=some (.int .u64 (a4:Int))∧W.cell? ⟨w.heap.size+1,4,none⟩=some (.int .u64 (b4:Int))) (simp [go_sem]) (fail)
   go_wp2_with fail
   go_ret
   refine ⟨z1t ?_,gA⟩
   obtain ⟨l0,l1,l2,l3,l4,l5⟩:=HA.out
   obtain ⟨m0,m1,m2,m3,m4,m5⟩:=HB.out
   rw [decide_eq_decide];unfold val6;omega
 ·have hi5:¬ (a5:Int)=(b5:Int):=by omega
  go_enter Tryz.func246,Tryz.ntmps246
  go_wp2_with fail
  refine wp_loop_rounds 7 ?_
  rw [rounds_succ]
  go_wp2_with fail
  go_region_held2 (fun W=>W.cell? ⟨w.heap.size,5,none⟩=some (.int .u64 (a5:Int))∧W.cell? ⟨w.heap.size+1,5,none⟩=some (.int .u64 (b5:Int))) (simp [go_sem]) (fail)
  go_wp2_with fail
  go_region_held2 (fun W=>W.cell? ⟨w.heap.size,5,none⟩=some (.int .u64 (a5:Int))∧W.cell? ⟨w.heap.size+1,5,none⟩=some (.int .u64 (b5:Int))) (simp [go_sem]) (fail)
  go_wp2_with fail
  go_ret
  refine ⟨z1t ?_,gA⟩
  obtain ⟨l0,l1,l2,l3,l4,l5⟩:=HA.out
  obtain ⟨m0,m1,m2,m3,m4,m5⟩:=HB.out
  rw [decide_eq_decide];unfold val6;omega
theorem zero_any (a0 a1 a2 a3 a4 a5:Nat) (sa:Bool) (w:World) :
  Calls Tryz.prog 81 #[wv a0 a1 a2 a3 a4 a5 sa] w fun e w'=>e=.returned (.bool (decide (val6 a0 a1 a2 a3 a4 a5=0)))∧Grew w w':=by
 by_cases h0:a0=0
 ·subst h0
  by_cases h1:a1=0
  ·subst h1
   by_cases h2:a2=0
   ·subst h2
    by_cases h3:a3=0
    ·subst h3
     by_cases h4:a4=0
     ·subst h4
      by_cases h5:a5=0
      ·subst h5
       go_enter Tryz.func81,Tryz.ntmps81
       go_wp2_with fail
       refine wp_loop_rounds 7 ?_
       rw [rounds_succ]
       go_wp2_with fail
       rw [rounds_succ]
       go_wp2_with fail
       rw [rounds_succ]
       go_wp2_with fail
       rw [rounds_succ]
       go_wp2_with fail
       rw [rounds_succ]
       go_wp2_with fail
       rw [rounds_succ]
       go_wp2_with fail
       rw [rounds_succ]
       go_wp2_with fail
       go_ret
       exact ⟨z1t (by simp [val6]),gA⟩
      ·have hi5:¬ (a5:Int)=0:=by omega
       go_enter Tryz.func81,Tryz.ntmps81
       go_wp2_with fail
       refine wp_loop_rounds 7 ?_
       rw [rounds_succ]
       go_wp2_with fail
       rw [rounds_succ]
       go_wp2_with fail
       rw [rounds_succ]
       go_wp2_with fail
       rw [rounds_succ]
       go_wp2_with fail
       rw [rounds_succ]
       go_wp2_with fail
       rw [rounds_succ]
       go_wp2_with fail
       go_ret
       exact ⟨z1t (by symm;rw [decide_eq_false_iff_not];unfold val6;omega),gA⟩
     ·have hi4:¬ (a4:Int)=0:=by omega
      go_enter Tryz.func81,Tryz.ntmps81
      go_wp2_with fail
      refine wp_loop_rounds 7 ?_
      rw [rounds_succ]
      go_wp2_with fail
      rw [rounds_succ]
      go_wp2_with fail
      rw [rounds_succ]
      go_wp2_with fail
      rw [rounds_succ]
      go_wp2_with fail
      rw [rounds_succ]
      go_wp2_with fail
      go_ret
      exact ⟨z1t (by symm;rw [decide_eq_false_iff_not];unfold val6;omega),gA⟩
    ·have hi3:¬ (a3:Int)=0:=by omega
     go_enter Tryz.func81,Tryz.ntmps81
     go_wp2_with fail
     refine wp_loop_rounds 7 ?_
     rw [rounds_succ]
     go_wp2_with fail
     rw [rounds_succ]
     go_wp2_with fail
     rw [rounds_succ]
     go_wp2_with fail
     rw [rounds_succ]
     go_wp2_with fail
     go_ret
     exact ⟨z1t (by symm;rw [decide_eq_false_iff_not];unfold val6;omega),gA⟩
   ·have hi2:¬ (a2:Int)=0:=by omega
    go_enter Tryz.func81,Tryz.ntmps81
    go_wp2_with fail
    refine wp_loop_rounds 7 ?_
    rw [rounds_succ]
    go_wp2_with fail
    rw [rounds_succ]
    go_wp2_with fail
    rw [rounds_succ]
    go_wp2_with fail
    go_ret
    exact ⟨z1t (by symm;rw [decide_eq_false_iff_not];unfold val6;omega),gA⟩
  ·have hi1:¬ (a1:Int)=0:=by omega
   go_enter Tryz.func81,Tryz.ntmps81
   go_wp2_with fail
   refine wp_loop_rounds 7 ?_
   rw [rounds_succ]
   go_wp2_with fail
   rw [rounds_succ]
   go_wp2_with fail
   go_ret
   exact ⟨z1t (by symm;rw [decide_eq_false_iff_not];unfold val6;omega),gA⟩
 ·have hi0:¬ (a0:Int)=0:=by omega
  go_enter Tryz.func81,Tryz.ntmps81
  go_wp2_with fail
  refine wp_loop_rounds 7 ?_
  rw [rounds_succ]
  go_wp2_with fail
  go_ret
  exact ⟨z1t (by symm;rw [decide_eq_false_iff_not];unfold val6;omega),gA⟩
end Go.Proofs.YtibbenhplmmmiaaGreatDoor
