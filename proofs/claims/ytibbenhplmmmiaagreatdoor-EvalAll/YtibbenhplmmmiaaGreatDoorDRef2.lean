/-
  The document's wide numbers: minus, less, zero.
-/
import Derived.Test.YtibbenhplmmmiaaGreatDoorDRef1
set_option maxHeartbeats 4000000
set_option maxRecDepth 5000
namespace Go.Proofs.YtibbenhplmmmiaaGreatDoor
open Go.RowKit
theorem z3p (c a b:Nat) (hc:c≤1) (ha:a<4294967296) (hb:b<4294967296):∃ t t2 s o q c':Nat,IntKind.u64.wrap ((a:Int)+4294967296)=(t:Int)∧IntKind.u64.wrap ((t:Int) - (b:Int))=(t2:Int)∧IntKind.u64.wrap ((t2:Int) - (c:Int))=(s:Int)∧(s:Int)%4294967296=(o:Int)∧(s:Int) / 4294967296=(q:Int)∧IntKind.u64.wrap (q:Int)=(q:Int)∧IntKind.u64.wrap (1 - (q:Int))=(c':Int)∧o<4294967296∧c'≤1∧a+c'*4294967296=o+b+c:=by
 refine ⟨a+4294967296,a+4294967296 - b,a+4294967296 - b - c,(a+4294967296 - b - c)%4294967296,(a+4294967296 - b - c) / 4294967296,1 - (a+4294967296 - b - c) / 4294967296,?_,?_,?_,?_,?_,?_,?_,?_,?_,?_⟩
 all_goals first|(rw [IntKind.wrap_u64];omega)|omega
theorem minus_any (a0 a1 a2 a3 a4 a5 b0 b1 b2 b3 b4 b5:Nat) (sa sb:Bool) (w:World) (ha:Low6 a0 a1 a2 a3 a4 a5) (hb:Low6 b0 b1 b2 b3 b4 b5) (hle:val6 b0 b1 b2 b3 b4 b5≤val6 a0 a1 a2 a3 a4 a5) :
  Calls Tryz.prog 256 #[wv a0 a1 a2 a3 a4 a5 sa,wv b0 b1 b2 b3 b4 b5 sb] w fun e w'=>∃ o0 o1 o2 o3 o4 o5:Nat,e=.returned (wv o0 o1 o2 o3 o4 o5 false)∧Low6 o0 o1 o2 o3 o4 o5∧val6 o0 o1 o2 o3 o4 o5=val6 a0 a1 a2 a3 a4 a5 - val6 b0 b1 b2 b3 b4 b5∧Grew w w':=by
 have HLE:Hid (val6 b0 b1 b2 b3 b4 b5≤val6 a0 a1 a2 a3 a4 a5):=hle
 clear hle
 obtain ⟨ha0,ha1,ha2,ha3,ha4,ha5⟩:=ha
 obtain ⟨hb0,hb1,hb2,hb3,hb4,hb5⟩:=hb
 obtain ⟨t0,k0,s0,o0,q0,c1,x0,y0,x10,m0,d0,z0,z10,lo0,lc1,v0⟩:=z3p 0 a0 b0 (by decide) ha0 hb0
 obtain ⟨t1,k1,s1,o1,q1,c2,x1,y1,x11,m1,d1,z1,z11,lo1,lc2,v1⟩:=z3p c1 a1 b1 lc1 ha1 hb1
 obtain ⟨t2,k2,s2,o2,q2,c3,x2,y2,x12,m2,d2,z2,z12,lo2,lc3,v2⟩:=z3p c2 a2 b2 lc2 ha2 hb2
 obtain ⟨t3,k3,s3,o3,q3,c4,x3,y3,x13,m3,d3,z3,z13,lo3,lc4,v3⟩:=z3p c3 a3 b3 lc3 ha3 hb3
 obtain ⟨t4,k4,s4,o4,q4,c5,x4,y4,x14,m4,d4,z4,z14,lo4,lc5,v4⟩:=z3p c4 a4 b4 lc4 ha4 hb4
 obtain ⟨t5,k5,s5,o5,q5,c6,x5,y5,x15,m5,d5,z5,z15,lo5,lc6,v5⟩:=z3p c5 a5 b5 lc5 ha5 hb5
 rw [Int.natCast_zero,Int.sub_zero] at x10
 have V0:Hid (a0+c1*4294967296=o0+b0+0):=v0
 have V1:Hid (a1+c2*4294967296=o1+b1+c1):=v1
 have V2:Hid (a2+c3*4294967296=o2+b2+c2):=v2
 have V3:Hid (a3+c4*4294967296=o3+b3+c3):=v3
 have V4:Hid (a4+c5*4294967296=o4+b4+c4):=v4
 have V5:Hid (a5+c6*4294967296=o5+b5+c5):=v5
 have LO:Hid (Low6 o0 o1 o2 o3 o4 o5∧c6≤1):=⟨⟨lo0,lo1,lo2,lo3,lo4,lo5⟩,lc6⟩
 clear v0 lo0 lc1 ha0 hb0 v1 lo1 lc2 ha1 hb1 v2 lo2 lc3 ha2 hb2 v3 lo3 lc4 ha3 hb3 v4 lo4 lc5 ha4 hb4 v5 lo5 lc6 ha5 hb5
 go_enter Tryz.func256,Tryz.ntmps256
 go_wp2_with fail
 refine wp_loop_rounds 7 ?_
 rw [rounds_succ]
 go_wp2_with fail
 go_region_held2 (fun W=>W.cell? ⟨w.heap.size,0,none⟩=some (.int .u64 (a0:Int))∧W.cell? ⟨w.heap.size+1,0,none⟩=some (.int .u64 (b0:Int))) (simp [go_sem]) (fail)
 go_wp2_with fail
 rw [rounds_succ]
 go_wp2_with fail
 go_region_held2 (fun W=>W.cell? ⟨w.heap.size,1,none⟩=some (.int .u64 (a1:Int))∧W.cell? ⟨w.heap.size+1,1,none⟩=some (.int .u64 (b1:Int))) (simp [go_sem]) (fail)
 go_wp2_with fail
 rw [rounds_succ]
 go_wp2_with fail
 go_region_held2 (fun W=>W.cell? ⟨w.heap.size,2,none⟩=some (.int .u64 (a2:Int))∧W.cell? ⟨w.heap.size+1,2,none⟩=some (.int .u64 (b2:Int))) (simp [go_sem]) (fail)
 go_wp2_with fail
 rw [rounds_succ]
 go_wp2_with fail
 go_region_held2 (fun W=>W.cell? ⟨w.heap.size,3,none⟩=some (.int .u64 (a3:Int))∧W.cell? ⟨w.heap.size+1,3,none⟩=some (.int .u64 (b3:Int))) (simp [go_sem]) (fail)
 go_wp2_with fail
 rw [rounds_succ]
 go_wp2_with fail
 go_region_held2 (fun W=>W.cell? ⟨w.heap.size,4,none⟩=some (.int .u64 (a4:Int))∧W.cell? ⟨w.heap.size+1,4,none⟩=some (.int .u64 (b4:Int))) (simp [go_sem]) (fail)
 go_wp2_with fail
 rw [rounds_succ]
 go_wp2_with fail
 go_region_held2 (fun W=>W.cell? ⟨w.heap.size,5,none⟩=some (.int .u64 (a5:Int))∧W.cell? ⟨w.heap.size+1,5,none⟩=some (.int .u64 (b5:Int))) (simp [go_sem]) (fail)
 go_wp2_with fail
 rw [rounds_succ]
 go_wp2_with fail
 refine bodyPost_ret_by (v:=wv o0 o1 o2 o3 o4 o5 false) ?_ rfl ⟨o0,o1,o2,o3,o4,o5,rfl,LO.out.1,?_,?_⟩
 ·simp [results,Tryz.results256,go_sem]
 ·have h0:=V0.out;have h1:=V1.out;have h2:=V2.out;have h3:=V3.out;have h4:=V4.out;have h5:=V5.out
  obtain ⟨⟨l0,l1,l2,l3,l4,l5⟩,l6⟩:=LO.out
  have h6:=HLE.out
  unfold val6 at h6 ⊢;omega
 ·exact gA
end Go.Proofs.YtibbenhplmmmiaaGreatDoor
