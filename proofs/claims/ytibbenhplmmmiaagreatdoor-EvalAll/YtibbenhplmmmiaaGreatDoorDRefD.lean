/-
  The document's answers: Div, of right decimals.
-/
import Derived.Test.YtibbenhplmmmiaaGreatDoorMSDRefC
import Derived.Deep.Cut
import Derived.Test.YtibbenhplmmmiaaGreatDoorMMDRef6
import Derived.Test.YtibbenhplmmmiaaGreatDoorDNeg
import Derived.Deep.RegionHeld2
import Derived.Deep.RegionWith
set_option maxHeartbeats 8000000
set_option maxRecDepth 5000
namespace Go.Proofs.YtibbenhplmmmiaaGreatDoor
open Go.RowKit
attribute [local go_sem] z0e z0b z0c z0f z0m z0k z0h z0d z0g
attribute [local go_sem high] cellMA frozenMA setMA cellMAM frozenMAM setMAM zc0 zf0 zs0 zcB0 zfB0 zsB0 zc zfD zs zcB zfB zsB
theorem z3r (os:List Obj):∀ w:World,(more w os).heap.size=w.heap.size+os.length:=by
 induction os with
 | nil=>intro w;rfl
 | cons o os ih=>intro w;show (more (w.alloc o) os).heap.size=_;rw [ih];simp;omega
theorem ptr_same (A:World) (o o':Obj) (l:List Obj):Value.pointer (some ⟨(more (A.alloc o) l).heap.size,0,none⟩)=Value.pointer (some ⟨(more (A.alloc o') l).heap.size,0,none⟩):=by
 rw [z3r,z3r];simp
theorem rdiv_good (ua sa ub sb s:Int) (w:World) (ha:z0s sa=true) (hb:z0s sb=true) (hs:z0s s=true) (a0:-9223372036854775808≤ua) (a1:ua≤9223372036854775807) (b0:-9223372036854775808≤ub) (b1:ub≤9223372036854775807) (hu:¬ ub=0) :
  Calls Tryz.prog 250 #[dv ua sa,dv ub sb,.int .i64 s] w fun e w'=>e=.returned (dres (dq ua sa ub sb s) s)∧Grew w w':=by
 have Ra:=fun W=>qz1cB ua sa W
 have Rb:=fun W=>qz1cB ub sb W
 rw [ha] at Ra
 rw [hb] at Rb
 rw [z0w] at ha hb hs
 have s0:¬ s<0:=by omega
 have s6:¬ 6<s:=by omega
 obtain ⟨k,rfl⟩:∃ k:Nat,sa=(k:Int):=⟨sa.toNat,by omega⟩
 obtain ⟨m,hm⟩:∃ m:Nat,sb+s=(m:Int):=⟨(sb+s).toNat,by omega⟩
 have wm:IntKind.i64.wrap (sb+s)=(m:Int):=by rw [IntKind.wrap_i64];omega
 have hds:=div_same ua (k:Int) ub sb s m k hm rfl hu
 have hp1:10^m≤10^12:=Nat.pow_le_pow_right (by decide) (by omega)
 have hp2:10^k≤10^6:=Nat.pow_le_pow_right (by decide) (by omega)
 have hq1:0<10^m:=Nat.pow_pos (by decide)
 have hq2:0<10^k:=Nat.pow_pos (by decide)
 have Pm:=fun W=>qz6cB m W (by omega)
 have Pk:=fun W=>qz6cB k W (by omega)
 obtain ⟨P,hP⟩:∃ P:Nat,P=10^m:=⟨_,rfl⟩
 obtain ⟨Q,hQ⟩:∃ Q:Nat,Q=10^k:=⟨_,rfl⟩
 rw [← hP] at Pm hp1 hq1 hds
 rw [← hQ] at Pk hp2 hq2 hds
 have A:=fun W=>z2m ua _ _ _ W a0 a1 rfl rfl rfl
 have B:=fun W=>z2m ub _ _ _ W b0 b1 rfl rfl rfl
 have OP:=fun W=>z2m (P:Int) P _ _ W (by omega) (by omega) rfl rfl rfl
 have OQ:=fun W=>z2m (Q:Int) Q _ _ W (by omega) (by omega) rfl rfl rfl
 have eP:decide ((P:Int)<0)=false:=by simp
 have eQ:decide ((Q:Int)<0)=false:=by simp
 rw [eP] at OP
 rw [eQ] at OQ
 have la:=z3x ua.natAbs _ _ (by omega) rfl rfl
 have lb:=z3x ub.natAbs _ _ (by omega) rfl rfl
 have lp:=z3x P _ _ (by omega) rfl rfl
 have lq:=z3x Q _ _ (by omega) rfl rfl
 have S1:=fun W=>z5b _ _ _ _ _ _ _ _ _ _ _ _ (decide (ua<0)) false W la.1 lp.1 (show Hid (0=0∧0=0∧0=0∧0=0) from ⟨rfl,rfl,rfl,rfl⟩) (show Hid (0=0∧0=0∧0=0∧0=0) from ⟨rfl,rfl,rfl,rfl⟩)
 have S2:=fun W=>z5b _ _ _ _ _ _ _ _ _ _ _ _ (decide (ub<0)) false W lb.1 lq.1 (show Hid (0=0∧0=0∧0=0∧0=0) from ⟨rfl,rfl,rfl,rfl⟩) (show Hid (0=0∧0=0∧0=0∧0=0) from ⟨rfl,rfl,rfl,rfl⟩)
 have ea:ua.natAbs%4294967296+4294967296*(ua.natAbs / 4294967296)=ua.natAbs:=by omega
 have eb:ub.natAbs%4294967296+4294967296*(ub.natAbs / 4294967296)=ub.natAbs:=by omega
 have ep:P%4294967296+4294967296*(P / 4294967296)=P:=by omega
 have eq:Q%4294967296+4294967296*(Q / 4294967296)=Q:=by omega
 rw [ea,ep] at S1
 rw [eb,eq] at S2
 have hv1:ua.natAbs*P≤9223372036854775808*1000000000000:=Nat.mul_le_mul (by omega) (by omega)
 have hv2:ub.natAbs*Q≤9223372036854775808*1000000:=Nat.mul_le_mul (by omega) (by omega)
 have hv3:0<ub.natAbs*Q:=Nat.mul_pos (by omega) hq2
 generalize ua.natAbs*P=vu at *
 generalize ub.natAbs*Q=vd at *
 have HV:Hid (sval (!(decide (ua<0)==decide (ub<0))) (rnd vu vd)=dq ua (k:Int) ub sb s):=hds
 have HB:Hid (vu<340282366920938463463374607431768211456∧vd<340282366920938463463374607431768211456∧0<vd):=⟨by omega,by omega,hv3⟩
 generalize dq ua (k:Int) ub sb s=z at *
 generalize ua.natAbs%4294967296=ra at *
 generalize ua.natAbs / 4294967296=qa at *
 generalize ub.natAbs%4294967296=rb at *
 generalize ub.natAbs / 4294967296=qb at *
 generalize P%4294967296=rp at *
 generalize P / 4294967296=qp at *
 generalize Q%4294967296=rc at *
 generalize Q / 4294967296=qc at *
 clear la lb lp lq ea eb ep eq eP eQ hp1 hp2 hq1 hq2 hP hQ hds hv1 hv2 hv3 ha hb hs hm a0 a1 b0 b1
 generalize (P:Int)=p at *
 generalize (Q:Int)=q at *
 go_enter Tryz.func250,Tryz.ntmps250
 go_wp2_with fail
 refine (Ra _).mono ?_
 rintro e w' ⟨rfl,os,n,rfl⟩
 go_wp2_with fail
 refine (Rb _).mono ?_
 rintro e w' ⟨rfl,os',n',rfl⟩
 clear Ra Rb
 go_upto_region 5 with fail
 go_cut [8] from 10 (fun s8 wx=>∃ (l1 l2:List Obj) (n:Nat) (p0 p1 p2 p3 p4 p5:Nat),s8=.pointer (some ⟨(more (((w.alloc (Obj.cells #[Value.int IntKind.i64 ua,Value.int IntKind.i64 (k:Int)] 72)).alloc (Obj.cells #[Value.int IntKind.i64 ub,Value.int IntKind.i64 sb] 72)).alloc (Obj.cells #[Value.int IntKind.i64 0,Value.int IntKind.i64 0] 72)) l1).heap.size,0,none⟩)∧wx=(more ((more (((w.alloc (Obj.cells #[Value.int IntKind.i64 ua,Value.int IntKind.i64 (k:Int)] 72)).alloc (Obj.cells #[Value.int IntKind.i64 ub,Value.int IntKind.i64 sb] 72)).alloc (Obj.cells #[Value.int IntKind.i64 0,Value.int IntKind.i64 0] 72)) l1).alloc (Obj.cells #[Value.int IntKind.u64 (p0:Int),Value.int IntKind.u64 (p1:Int),Value.int IntKind.u64 (p2:Int),Value.int IntKind.u64 (p3:Int),Value.int IntKind.u64 (p4:Int),Value.int IntKind.u64 (p5:Int),Value.bool false] 120)) l2).drewN n∧Low6 p0 p1 p2 p3 p4 p5∧Hid (val6 p0 p1 p2 p3 p4 p5=vu))
 case first =>
  clear B OQ S2 Pk
  go_region_held2 (fun W=>W.cell? ⟨w.heap.size,0,none⟩=some (.int .i64 ua)∧W.cell? ⟨w.heap.size,1,none⟩=some (.int .i64 (k:Int))∧W.cell? ⟨w.heap.size+1,0,none⟩=some (.int .i64 ub)∧W.cell? ⟨w.heap.size+1,1,none⟩=some (.int .i64 sb)) (simp (maxDischargeDepth:=12) [go_sem])
   ((first
    | (go_at_call_of 80 (Value.int IntKind.i64 ua);refine (A _).mono ?_;rintro e w' ⟨rfl,os1,n1,rfl⟩)
    | (go_at_call_of 80 (Value.int IntKind.i64 p);refine (OP _).mono ?_;rintro e w' ⟨rfl,os2,n2,rfl⟩)
    | (go_at_call 190;refine (Pm _).mono ?_;rintro e w' ⟨rfl,rfl⟩)
    | (go_at_call 79;refine (S1 _).mono ?_;rintro e w' ⟨h0,h1,h2,h3,h4,h5,rfl,lo,hv,os3,n3,rfl⟩)))
  all_goals go_wp2_with fail
  all_goals go_meet
  all_goals first
   | exact ⟨_,_,_,h0,h1,h2,h3,h4,h5,by with_reducible rfl,by with_reducible rfl,lo,hv⟩
   | exact ⟨_,[],_,h0,h1,h2,h3,h4,h5,by with_reducible rfl,rfl,lo,hv⟩
 obtain ⟨l1,l2,n3,p0,p1,p2,p3,p4,p5,rfl,rfl,lo1,hw1⟩:=hcut
 clear A OP S1 Pm wm
 go_upto_region 6 with fail
 go_cut [9] from 10 (fun s9 wx=>∃ (l4 l3:List Obj) (n:Nat) (q0 q1 q2 q3 q4 q5:Nat),s9=.pointer (some ⟨(more ((more (((w.alloc (Obj.cells #[Value.int IntKind.i64 ua,Value.int IntKind.i64 (k:Int)] 72)).alloc (Obj.cells #[Value.int IntKind.i64 ub,Value.int IntKind.i64 sb] 72)).alloc (Obj.cells #[Value.int IntKind.i64 0,Value.int IntKind.i64 0] 72)) l1).alloc (Obj.cells #[Value.int IntKind.u64 (p0:Int),Value.int IntKind.u64 (p1:Int),Value.int IntKind.u64 (p2:Int),Value.int IntKind.u64 (p3:Int),Value.int IntKind.u64 (p4:Int),Value.int IntKind.u64 (p5:Int),Value.bool (!(decide (ua<0)==decide (ub<0)))] 120)) l4).heap.size,0,none⟩)∧wx=(more ((more ((more (((w.alloc (Obj.cells #[Value.int IntKind.i64 ua,Value.int IntKind.i64 (k:Int)] 72)).alloc (Obj.cells #[Value.int IntKind.i64 ub,Value.int IntKind.i64 sb] 72)).alloc (Obj.cells #[Value.int IntKind.i64 0,Value.int IntKind.i64 0] 72)) l1).alloc (Obj.cells #[Value.int IntKind.u64 (p0:Int),Value.int IntKind.u64 (p1:Int),Value.int IntKind.u64 (p2:Int),Value.int IntKind.u64 (p3:Int),Value.int IntKind.u64 (p4:Int),Value.int IntKind.u64 (p5:Int),Value.bool false] 120)) l4).alloc (Obj.cells #[Value.int IntKind.u64 (q0:Int),Value.int IntKind.u64 (q1:Int),Value.int IntKind.u64 (q2:Int),Value.int IntKind.u64 (q3:Int),Value.int IntKind.u64 (q4:Int),Value.int IntKind.u64 (q5:Int),Value.bool false] 120)) l3).drewN n∧Low6 q0 q1 q2 q3 q4 q5∧Hid (val6 q0 q1 q2 q3 q4 q5=vd))
 case first =>
  go_region_held2 (fun W=>W.cell? ⟨w.heap.size,0,none⟩=some (.int .i64 ua)∧W.cell? ⟨w.heap.size,1,none⟩=some (.int .i64 (k:Int))∧W.cell? ⟨w.heap.size+1,0,none⟩=some (.int .i64 ub)∧W.cell? ⟨w.heap.size+1,1,none⟩=some (.int .i64 sb)) (simp (maxDischargeDepth:=12) [go_sem])
   ((first
    | (go_at_call_of 80 (Value.int IntKind.i64 ub);refine (B _).mono ?_;rintro e w' ⟨rfl,os1,n1,rfl⟩)
    | (go_at_call_of 80 (Value.int IntKind.i64 q);refine (OQ _).mono ?_;rintro e w' ⟨rfl,os2,n2,rfl⟩)
    | (go_at_call 190;refine (Pk _).mono ?_;rintro e w' ⟨rfl,rfl⟩)
    | (go_at_call 79;refine (S2 _).mono ?_;rintro e w' ⟨h0,h1,h2,h3,h4,h5,rfl,lo,hv,os3,n3,rfl⟩)))
  all_goals go_wp2_with fail
  all_goals go_meet
  all_goals first
   | exact ⟨_,_,_,h0,h1,h2,h3,h4,h5,ptr_same _ _ _ _,by with_reducible rfl,lo,hv⟩
   | exact ⟨_,[],_,h0,h1,h2,h3,h4,h5,ptr_same _ _ _ _,rfl,lo,hv⟩
 obtain ⟨l4,l3,n4,q0,q1,q2,q3,q4,q5,rfl,rfl,lo2,hw2⟩:=hcut
 clear B OQ S2 Pk
 have R:=fun W=>z6q p0 p1 p2 p3 p4 p5 q0 q1 q2 q3 q4 q5 (!(decide (ua<0)==decide (ub<0))) false W lo1 lo2 (by rw [hw1.out];exact HB.out.1) (by rw [hw2.out];exact HB.out.2.1) (by rw [hw2.out];exact HB.out.2.2)
 rw [hw1.out,hw2.out] at R
 generalize rnd vu vd=rv at *
 clear hw1 hw2 HB lo1 lo2
 go_wp2_with (first
  | (go_at_call 189;refine (R _).mono ?_;rintro e w' ⟨h0,h1,h2,h3,h4,h5,rfl,lh,hh,os6,n6,rfl⟩)
  | (go_at_call 82;refine (z2q h0 h1 h2 h3 h4 h5 _ _ _ lh).mono ?_;rw [hh.out,HV.out];rintro e w4 ⟨rfl,os4,n5,rfl⟩))
 refine bodyPost_ret_by (v:=dres z s) ?_ rfl ⟨rfl,gA⟩
 simp [results,Tryz.results250,go_sem]
end Go.Proofs.YtibbenhplmmmiaaGreatDoor
