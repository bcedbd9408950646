/-
  The document's answers: Mul.
  The document's answers: Div.
-/
import Derived.Test.YtibbenhplmmmiaaGreatDoorDRefA
import Derived.Deep.Cut
import Derived.Deep.RegionWith
import Derived.Test.YtibbenhplmmmiaaGreatDoorMMDRef6
import Derived.Test.YtibbenhplmmmiaaGreatDoorDNeg
import Derived.Deep.RegionHeld2
import Derived.Test.YtibbenhplmmmiaaGreatDoorDDivz
set_option maxHeartbeats 4000000
set_option maxRecDepth 5000
namespace Go.Proofs.YtibbenhplmmmiaaGreatDoor
open Go.RowKit
attribute [local go_sem] z0e z0b z0c z0f z0m z0k z0h z0d z0g
attribute [local go_sem high] cellMA frozenMA setMA cellMAM frozenMAM setMAM
theorem rmul_low (ua sa ub sb:Int) (w:World) (ha:z0s sa=true) (hb:z0s sb=true) (hle:sa+sb≤6) (a0:-9223372036854775808≤ua) (a1:ua≤9223372036854775807) (b0:-9223372036854775808≤ub) (b1:ub≤9223372036854775807) :
  Calls Tryz.prog 249 #[dv ua sa,dv ub sb] w fun e w'=>e=.returned (dres (ua*ub) (sa+sb))∧Grew w w':=by
 have Ra:=fun W=>qz1cB ua sa W
 have Rb:=fun W=>qz1cB ub sb W
 rw [ha] at Ra
 rw [hb] at Rb
 rw [z0w] at ha hb
 have A:=fun W=>z2m ua _ _ _ W a0 a1 rfl rfl rfl
 have B:=fun W=>z2m ub _ _ _ W b0 b1 rfl rfl rfl
 have la:=z3x ua.natAbs _ _ (by omega) rfl rfl
 have lb:=z3x ub.natAbs _ _ (by omega) rfl rfl
 have S:=fun W=>z5b _ _ _ _ _ _ _ _ _ _ _ _ (decide (ua<0)) (decide (ub<0)) W la.1 lb.1 (show Hid (0=0∧0=0∧0=0∧0=0) from ⟨rfl,rfl,rfl,rfl⟩) (show Hid (0=0∧0=0∧0=0∧0=0) from ⟨rfl,rfl,rfl,rfl⟩)
 have ea:ua.natAbs%4294967296+4294967296*(ua.natAbs / 4294967296)=ua.natAbs:=by omega
 have eb:ub.natAbs%4294967296+4294967296*(ub.natAbs / 4294967296)=ub.natAbs:=by omega
 rw [ea,eb] at S
 have hm:=y0d ua ub
 have hmb:ua.natAbs*ub.natAbs≤9223372036854775808*9223372036854775808:=Nat.mul_le_mul (by omega) (by omega)
 have HSG:Hid ((decide (ua<0) != decide (ub<0))=!(decide (ua<0)==decide (ub<0))):=rfl
 generalize ua.natAbs*ub.natAbs=vm at *
 generalize ua.natAbs%4294967296=ra at *
 generalize ua.natAbs / 4294967296=qa at *
 generalize ub.natAbs%4294967296=rb at *
 generalize ub.natAbs / 4294967296=qb at *
 clear la lb ea eb a0 a1 b0 b1
 have HM:Hid (sval (!(decide (ua<0)==decide (ub<0))) vm=ua*ub):=(by show sval _ vm=_;rw [← HSG.out];exact hm)
 obtain ⟨t,ht⟩:∃ t,t=sa+sb:=⟨_,rfl⟩
 have ws:IntKind.i64.wrap (sa+sb)=t:=by rw [IntKind.wrap_i64];omega
 have h6:¬ 6<t:=by omega
 rw [← ht]
 clear ht
 generalize ua*ub=z at *
 clear hm hmb HSG ha hb hle
 go_enter Tryz.func249,Tryz.ntmps249
 go_wp2_with fail
 refine (Ra _).mono ?_
 rintro e w' ⟨rfl,os,n,rfl⟩
 go_wp2_with fail
 refine (Rb _).mono ?_
 rintro e w' ⟨rfl,os',n',rfl⟩
 clear Ra Rb
 go_upto_region 3 with fail
 go_cut [6] from 8 (fun s6 wx=>∃ (l1 l2:List Obj) (n:Nat) (o0 o1 o2 o3 o4 o5:Nat),s6=.pointer (some ⟨(more (((w.alloc (Obj.cells #[Value.int IntKind.i64 ua,Value.int IntKind.i64 sa] 72)).alloc (Obj.cells #[Value.int IntKind.i64 ub,Value.int IntKind.i64 sb] 72)).alloc (Obj.cells #[Value.int IntKind.i64 0,Value.int IntKind.i64 0] 72)) l1).heap.size,0,none⟩)∧wx=(more ((more (((w.alloc (Obj.cells #[Value.int IntKind.i64 ua,Value.int IntKind.i64 sa] 72)).alloc (Obj.cells #[Value.int IntKind.i64 ub,Value.int IntKind.i64 sb] 72)).alloc (Obj.cells #[Value.int IntKind.i64 0,Value.int IntKind.i64 0] 72)) l1).alloc (Obj.cells #[Value.int IntKind.u64 (o0:Int),Value.int IntKind.u64 (o1:Int),Value.int IntKind.u64 (o2:Int),Value.int IntKind.u64 (o3:Int),Value.int IntKind.u64 (o4:Int),Value.int IntKind.u64 (o5:Int),Value.bool false] 120)) l2).drewN n∧Low6 o0 o1 o2 o3 o4 o5∧Hid (val6 o0 o1 o2 o3 o4 o5=vm))
 case first =>
  go_region_held2 (fun W=>W.cell? ⟨w.heap.size,0,none⟩=some (.int .i64 ua)∧W.cell? ⟨w.heap.size,1,none⟩=some (.int .i64 sa)∧W.cell? ⟨w.heap.size+1,0,none⟩=some (.int .i64 ub)∧W.cell? ⟨w.heap.size+1,1,none⟩=some (.int .i64 sb)) (simp (maxDischargeDepth:=12) [go_sem])
   ((first
    | (go_at_call_of 80 (Value.int IntKind.i64 ua);refine (A _).mono ?_;rintro e w' ⟨rfl,os1,n1,rfl⟩)
    | (go_at_call_of 80 (Value.int IntKind.i64 ub);refine (B _).mono ?_;rintro e w' ⟨rfl,os2,n2,rfl⟩)
    | (go_at_call 79;refine (S _).mono ?_;rintro e w' ⟨p0,p1,p2,p3,p4,p5,rfl,lo,hv,os3,n3,rfl⟩)))
  all_goals go_wp2_with fail
  all_goals go_meet
  all_goals first
   | exact ⟨_,_,_,p0,p1,p2,p3,p4,p5,by with_reducible rfl,by with_reducible rfl,lo,hv⟩
   | exact ⟨_,[],_,p0,p1,p2,p3,p4,p5,by with_reducible rfl,rfl,lo,hv⟩
 obtain ⟨l1,l2,n3,o0,o1,o2,o3,o4,o5,rfl,rfl,lo,hv⟩:=hcut
 clear A B S
 have N:=fun W=>z2q o0 o1 o2 o3 o4 o5 (!(decide (ua<0)==decide (ub<0))) t W lo
 rw [hv.out,HM.out] at N
 go_wp2_with (go_at_call 82;refine (N _).mono ?_;rintro e w4 ⟨rfl,os4,n4,rfl⟩)
 refine bodyPost_ret_by (v:=dres z t) ?_ rfl ⟨rfl,gA⟩
 simp [results,Tryz.results249,go_sem]
theorem rmul_high (ua sa ub sb:Int) (k:Nat) (w:World) (ha:z0s sa=true) (hb:z0s sb=true) (hgt:6<sa+sb) (hk:sa+sb - 6=(k:Int)) (a0:-9223372036854775808≤ua) (a1:ua≤9223372036854775807) (b0:-9223372036854775808≤ub) (b1:ub≤9223372036854775807) :
  Calls Tryz.prog 249 #[dv ua sa,dv ub sb] w fun e w'=>e=.returned (dres (rq (ua*ub) (10^k:Nat)) 6)∧Grew w w':=by
 have Ra:=fun W=>qz1cB ua sa W
 have Rb:=fun W=>qz1cB ub sb W
 rw [ha] at Ra
 rw [hb] at Rb
 rw [z0w] at ha hb
 have A:=fun W=>z2m ua _ _ _ W a0 a1 rfl rfl rfl
 have B:=fun W=>z2m ub _ _ _ W b0 b1 rfl rfl rfl
 have la:=z3x ua.natAbs _ _ (by omega) rfl rfl
 have lb:=z3x ub.natAbs _ _ (by omega) rfl rfl
 have S:=fun W=>z5b _ _ _ _ _ _ _ _ _ _ _ _ (decide (ua<0)) (decide (ub<0)) W la.1 lb.1 (show Hid (0=0∧0=0∧0=0∧0=0) from ⟨rfl,rfl,rfl,rfl⟩) (show Hid (0=0∧0=0∧0=0∧0=0) from ⟨rfl,rfl,rfl,rfl⟩)
 have ea:ua.natAbs%4294967296+4294967296*(ua.natAbs / 4294967296)=ua.natAbs:=by omega
 have eb:ub.natAbs%4294967296+4294967296*(ub.natAbs / 4294967296)=ub.natAbs:=by omega
 rw [ea,eb] at S
 have hm:=y0d ua ub
 have hmb:ua.natAbs*ub.natAbs≤9223372036854775808*9223372036854775808:=Nat.mul_le_mul (by omega) (by omega)
 have HSG:Hid ((decide (ua<0) != decide (ub<0))=!(decide (ua<0)==decide (ub<0))):=rfl
 generalize ua.natAbs*ub.natAbs=vm at *
 generalize ua.natAbs%4294967296=ra at *
 generalize ua.natAbs / 4294967296=qa at *
 generalize ub.natAbs%4294967296=rb at *
 generalize ub.natAbs / 4294967296=qb at *
 clear la lb ea eb a0 a1 b0 b1
 obtain ⟨t,ht⟩:∃ t,t=sa+sb:=⟨_,rfl⟩
 have ws:IntKind.i64.wrap (sa+sb)=t:=by rw [IntKind.wrap_i64];omega
 have ws2:IntKind.i64.wrap (t - 6)=(k:Int):=by rw [IntKind.wrap_i64];omega
 have h6:6<t:=by omega
 have hp1:10^k≤10^6:=Nat.pow_le_pow_right (by decide) (by omega)
 have hp0:0<10^k:=Nat.pow_pos (by decide)
 have Pk:=fun W=>qz6cB k W (by omega)
 obtain ⟨P,hP⟩:∃ P:Nat,P=10^k:=⟨_,rfl⟩
 rw [← hP] at Pk hp1 hp0
 rw [← hP]
 have hrq:=rq_sval (decide (ua<0) != decide (ub<0)) false vm P hp0
 rw [hm,z5k] at hrq
 have HV:Hid (sval (!(decide (ua<0)==decide (ub<0))) (rnd vm P)=rq (ua*ub) (P:Int)):=(by
  show sval _ _=_
  rw [hrq]
  cases decide (ua<0) <;> cases decide (ub<0) <;> rfl)
 have Q:=fun W=>z2m (P:Int) P _ _ W (by omega) (by omega) rfl rfl rfl
 have eP:decide ((P:Int)<0)=false:=by simp
 rw [eP] at Q
 have lp:=z3x P _ _ (by omega) rfl rfl
 have HP:Hid (Low6 (P%4294967296) (P / 4294967296) 0 0 0 0∧val6 (P%4294967296) (P / 4294967296) 0 0 0 0=P∧0<P∧P≤1000000∧vm≤9223372036854775808*9223372036854775808):=⟨lp.1,lp.2,hp0,by omega,hmb⟩
 generalize rq (ua*ub) (P:Int)=z at *
 generalize P%4294967296=rp at *
 generalize P / 4294967296=qp at *
 clear hm hmb HSG ha hb hrq eP lp hp0 hp1 hP hk ht hgt
 obtain ⟨p,hp⟩:∃ p:Int,p=(P:Int):=⟨_,rfl⟩
 rw [← hp] at Pk Q
 clear hp
 go_enter Tryz.func249,Tryz.ntmps249
 go_wp2_with fail
 refine (Ra _).mono ?_
 rintro e w' ⟨rfl,os,n,rfl⟩
 go_wp2_with fail
 refine (Rb _).mono ?_
 rintro e w' ⟨rfl,os',n',rfl⟩
 clear Ra Rb
 go_upto_region 3 with fail
 go_cut [6] from 8 (fun s6 wx=>∃ (l1 l2:List Obj) (n:Nat) (o0 o1 o2 o3 o4 o5:Nat),s6=.pointer (some ⟨(more (((w.alloc (Obj.cells #[Value.int IntKind.i64 ua,Value.int IntKind.i64 sa] 72)).alloc (Obj.cells #[Value.int IntKind.i64 ub,Value.int IntKind.i64 sb] 72)).alloc (Obj.cells #[Value.int IntKind.i64 0,Value.int IntKind.i64 0] 72)) l1).heap.size,0,none⟩)∧wx=(more ((more (((w.alloc (Obj.cells #[Value.int IntKind.i64 ua,Value.int IntKind.i64 sa] 72)).alloc (Obj.cells #[Value.int IntKind.i64 ub,Value.int IntKind.i64 sb] 72)).alloc (Obj.cells #[Value.int IntKind.i64 0,Value.int IntKind.i64 0] 72)) l1).alloc (Obj.cells #[Value.int IntKind.u64 (o0:Int),Value.int IntKind.u64 (o1:Int),Value.int IntKind.u64 (o2:Int),Value.int IntKind.u64 (o3:Int),Value.int IntKind.u64 (o4:Int),Value.int IntKind.u64 (o5:Int),Value.bool false] 120)) l2).drewN n∧Low6 o0 o1 o2 o3 o4 o5∧Hid (val6 o0 o1 o2 o3 o4 o5=vm))
 case first =>
  go_region_held2 (fun W=>W.cell? ⟨w.heap.size,0,none⟩=some (.int .i64 ua)∧W.cell? ⟨w.heap.size,1,none⟩=some (.int .i64 sa)∧W.cell? ⟨w.heap.size+1,0,none⟩=some (.int .i64 ub)∧W.cell? ⟨w.heap.size+1,1,none⟩=some (.int .i64 sb)) (simp (maxDischargeDepth:=12) [go_sem])
   ((first
    | (go_at_call_of 80 (Value.int IntKind.i64 ua);refine (A _).mono ?_;rintro e w' ⟨rfl,os1,n1,rfl⟩)
    | (go_at_call_of 80 (Value.int IntKind.i64 ub);refine (B _).mono ?_;rintro e w' ⟨rfl,os2,n2,rfl⟩)
    | (go_at_call 79;refine (S _).mono ?_;rintro e w' ⟨p0,p1,p2,p3,p4,p5,rfl,lo,hv,os3,n3,rfl⟩)))
  all_goals go_wp2_with fail
  all_goals go_meet
  all_goals first
   | exact ⟨_,_,_,p0,p1,p2,p3,p4,p5,by with_reducible rfl,by with_reducible rfl,lo,hv⟩
   | exact ⟨_,[],_,p0,p1,p2,p3,p4,p5,by with_reducible rfl,rfl,lo,hv⟩
 obtain ⟨l1,l2,n3,o0,o1,o2,o3,o4,o5,rfl,rfl,lo,hv⟩:=hcut
 clear A B S
 have R:=fun W=>z6q o0 o1 o2 o3 o4 o5 rp qp 0 0 0 0 (!(decide (ua<0)==decide (ub<0))) false W lo HP.out.1 (by rw [hv.out];have:=HP.out.2.2.2.2;omega) (by rw [HP.out.2.1];have:=HP.out.2.2.2.1;omega) (by rw [HP.out.2.1];exact HP.out.2.2.1)
 rw [hv.out,HP.out.2.1] at R
 clear lo hv HP
 generalize rnd vm P=rv at *
 go_upto_region 7 with fail
 go_region_with (first
  | (go_at_call 190;refine (Pk _).mono ?_;rintro e w' ⟨rfl,rfl⟩)
  | (go_at_call 80;refine (Q _).mono ?_;rintro e w' ⟨rfl,os5,n5,rfl⟩)
  | (go_at_call 189;refine (R _).mono ?_;rintro e w' ⟨h0,h1,h2,h3,h4,h5,rfl,lh,hh,os6,n6,rfl⟩))
 all_goals
  have N:=fun W=>z2q h0 h1 h2 h3 h4 h5 (!(decide (ua<0)==decide (ub<0))) 6 W lh
  rw [hh.out,HV.out] at N
  go_wp2_with (go_at_call 82;refine (N _).mono ?_;rintro e w4 ⟨rfl,os4,n4,rfl⟩)
  refine bodyPost_ret_by (v:=dres z 6) ?_ rfl ⟨rfl,gA⟩
  simp [results,Tryz.results249,go_sem]
end Go.Proofs.YtibbenhplmmmiaaGreatDoor

namespace Go.Proofs.YtibbenhplmmmiaaGreatDoor
open Go.RowKit
attribute [local go_sem] z0e z0b z0c z0f z0m z0k z0h z0d z0g
attribute [local go_sem high] cellMA frozenMA setMA cellMAM frozenMAM setMAM
theorem sval_scale (u:Int) (P:Nat):sval (decide (u<0)) (u.natAbs*P)=u*(P:Int):=by
 have h:=z3n u
 cases hd:decide (u<0)
 ·rw [hd] at h;simp only [sval] at h ⊢;rw [Int.natCast_mul];simp at h ⊢;rw [h]
 ·rw [hd] at h;simp only [sval] at h ⊢;rw [Int.natCast_mul,← Int.neg_mul];simp at h ⊢;rw [h]
section
variable (W:World) (l1 l2 l3:List Obj) (o1 o2:Obj) (n i:Nat) (v:Value)
theorem ltP (h:n<W.heap.size):n<((more W l1).alloc o1).heap.size:=by have:=z0f h l1;simp;omega
theorem ltPB:(more W l1).heap.size<((more W l1).alloc o1).heap.size:=by simp
theorem zc0 (h:n<W.heap.size):((more ((more W l1).alloc o1) l2).alloc o2).cell? ⟨n,i,none⟩=W.cell? ⟨n,i,none⟩ :=
 (World.cell?_alloc_past o2 n i (z0f (ltP W l1 o1 n h) l2)).trans ((z0e l2 n i _ (ltP W l1 o1 n h)).trans (cellMA l1 o1 n i W h))
theorem zf0 (h:n<W.heap.size):((more ((more W l1).alloc o1) l2).alloc o2).frozen? ⟨n,i,none⟩=W.frozen? ⟨n,i,none⟩ :=
 (World.frozen?_alloc_past o2 n i (z0f (ltP W l1 o1 n h) l2)).trans ((z0b l2 n i _ (ltP W l1 o1 n h)).trans (frozenMA l1 o1 n i W h))
theorem zs0 (h:n<W.heap.size):((more ((more W l1).alloc o1) l2).alloc o2).setCell ⟨n,i,none⟩ v=(more ((more (W.setCell ⟨n,i,none⟩ v) l1).alloc o1) l2).alloc o2:=by
 rw [World.setCell_alloc_past o2 n i v (z0f (ltP W l1 o1 n h) l2),z0c l2 n i v _ (ltP W l1 o1 n h),setMA l1 o1 n i v W h]
theorem zcB0:((more ((more W l1).alloc o1) l2).alloc o2).cell? ⟨(more W l1).heap.size,i,none⟩=((more W l1).alloc o1).cell? ⟨(more W l1).heap.size,i,none⟩ :=
 (World.cell?_alloc_past o2 _ i (z0f (ltPB W l1 o1) l2)).trans (z0e l2 _ i _ (ltPB W l1 o1))
theorem zfB0:((more ((more W l1).alloc o1) l2).alloc o2).frozen? ⟨(more W l1).heap.size,i,none⟩=((more W l1).alloc o1).frozen? ⟨(more W l1).heap.size,i,none⟩ :=
 (World.frozen?_alloc_past o2 _ i (z0f (ltPB W l1 o1) l2)).trans (z0b l2 _ i _ (ltPB W l1 o1))
theorem zsB0:((more ((more W l1).alloc o1) l2).alloc o2).setCell ⟨(more W l1).heap.size,i,none⟩ v=(more (((more W l1).alloc o1).setCell ⟨(more W l1).heap.size,i,none⟩ v) l2).alloc o2:=by
 rw [World.setCell_alloc_past o2 _ i v (z0f (ltPB W l1 o1) l2),z0c l2 _ i v _ (ltPB W l1 o1)]
theorem ltZ (h:n<W.heap.size):n<((more ((more W l1).alloc o1) l2).alloc o2).heap.size:=by have:=z0f (ltP W l1 o1 n h) l2;simp;omega
theorem ltZB:(more W l1).heap.size<((more ((more W l1).alloc o1) l2).alloc o2).heap.size:=by have:=z0f (ltPB W l1 o1) l2;simp;omega
theorem zc (h:n<W.heap.size):(more ((more ((more W l1).alloc o1) l2).alloc o2) l3).cell? ⟨n,i,none⟩=W.cell? ⟨n,i,none⟩:=(z0e l3 n i _ (ltZ W l1 l2 o1 o2 n h)).trans (zc0 W l1 l2 o1 o2 n i h)
theorem zfD (h:n<W.heap.size):(more ((more ((more W l1).alloc o1) l2).alloc o2) l3).frozen? ⟨n,i,none⟩=W.frozen? ⟨n,i,none⟩:=(z0b l3 n i _ (ltZ W l1 l2 o1 o2 n h)).trans (zf0 W l1 l2 o1 o2 n i h)
theorem zs (h:n<W.heap.size):(more ((more ((more W l1).alloc o1) l2).alloc o2) l3).setCell ⟨n,i,none⟩ v=more ((more ((more (W.setCell ⟨n,i,none⟩ v) l1).alloc o1) l2).alloc o2) l3:=by
 rw [z0c l3 n i v _ (ltZ W l1 l2 o1 o2 n h),zs0 W l1 l2 o1 o2 n i v h]
theorem zcB:(more ((more ((more W l1).alloc o1) l2).alloc o2) l3).cell? ⟨(more W l1).heap.size,i,none⟩=((more W l1).alloc o1).cell? ⟨(more W l1).heap.size,i,none⟩:=(z0e l3 _ i _ (ltZB W l1 l2 o1 o2)).trans (zcB0 W l1 l2 o1 o2 i)
theorem zfB:(more ((more ((more W l1).alloc o1) l2).alloc o2) l3).frozen? ⟨(more W l1).heap.size,i,none⟩=((more W l1).alloc o1).frozen? ⟨(more W l1).heap.size,i,none⟩:=(z0b l3 _ i _ (ltZB W l1 l2 o1 o2)).trans (zfB0 W l1 l2 o1 o2 i)
theorem zsB:(more ((more ((more W l1).alloc o1) l2).alloc o2) l3).setCell ⟨(more W l1).heap.size,i,none⟩ v=more ((more (((more W l1).alloc o1).setCell ⟨(more W l1).heap.size,i,none⟩ v) l2).alloc o2) l3:=by
 rw [z0c l3 _ i v _ (ltZB W l1 l2 o1 o2),zsB0 W l1 l2 o1 o2 i v]
end
attribute [local go_sem high] zc0 zf0 zs0 zcB0 zfB0 zsB0 zc zfD zs zcB zfB zsB
theorem rnd_scale (x y k:Nat) (hk:0<k):rnd (x*k) (y*k)=rnd x y:=by
 unfold rnd
 rw [Nat.mul_mod_mul_right,Nat.mul_div_mul_right _ _ hk]
 have e1:(y*k<2*(x%y*k))↔(y<2*(x%y)):=by rw [← Nat.mul_assoc];exact Nat.mul_lt_mul_right hk
 have e2:(2*(x%y*k)=y*k)↔(2*(x%y)=y):=by rw [← Nat.mul_assoc];exact Nat.mul_right_cancel_iff hk
 simp only [e1,e2]
theorem div_same (ua sa ub sb s:Int) (m k:Nat) (hm:sb+s=(m:Int)) (hk:sa=(k:Int)) (hu:ub≠0) :
  sval (!(decide (ua<0)==decide (ub<0))) (rnd (ua.natAbs*10^m) (ub.natAbs*10^k))=dq ua sa ub sb s:=by
 have hb:0<ub.natAbs:=by omega
 unfold dq
 by_cases hle:sa≤s+sb
 ·rw [if_pos hle]
  obtain ⟨d,hd⟩:∃ d,m=k+d:=⟨m - k,by omega⟩
  have e1:(s+sb - sa).toNat=d:=by omega
  rw [e1,hd,Nat.pow_add,Nat.mul_comm (10^k),← Nat.mul_assoc,rnd_scale _ _ _ (Nat.pow_pos (by decide))]
  have h:=rq_sval (decide (ua<0)) (decide (ub<0)) (ua.natAbs*10^d) ub.natAbs hb
  have ea:sval (decide (ua<0)) (ua.natAbs*10^d)=ua*((10^d:Nat):Int):=sval_scale ua (10^d)
  rw [ea,z3n] at h
  exact h.symm
 ·rw [if_neg hle]
  obtain ⟨d,hd⟩:∃ d,k=m+d:=⟨k - m,by omega⟩
  have e1:(sa - (s+sb)).toNat=d:=by omega
  rw [e1,hd,Nat.pow_add,Nat.mul_comm (10^m),← Nat.mul_assoc,rnd_scale _ _ _ (Nat.pow_pos (by decide))]
  have h:=rq_sval (decide (ua<0)) (decide (ub<0)) ua.natAbs (ub.natAbs*10^d) (Nat.mul_pos hb (Nat.pow_pos (by decide)))
  have ea:sval (decide (ub<0)) (ub.natAbs*10^d)=ub*((10^d:Nat):Int):=sval_scale ub (10^d)
  rw [ea,z3n] at h
  exact h.symm
theorem rdiv_zero (ua sa sb s:Int) (w:World) (ha:z0s sa=true) (hb:z0s sb=true) (hs:z0s s=true) :
  Calls Tryz.prog 250 #[dv ua sa,dv 0 sb,.int .i64 s] w fun e w'=>e=.returned (dBad 33)∧Grew w w':=by
 have Ra:=fun W=>qz1cB ua sa W
 have Rb:=fun W=>qz1cB 0 sb W
 rw [ha] at Ra
 rw [hb] at Rb
 rw [z0w] at hs
 have s0:¬ s<0:=by omega
 have s6:¬ 6<s:=by omega
 clear ha hb hs
 go_enter Tryz.func250,Tryz.ntmps250
 go_wp2_with fail
 refine (Ra _).mono ?_
 rintro e w' ⟨rfl,os,n,rfl⟩
 go_wp2_with fail
 refine (Rb _).mono ?_
 rintro e w' ⟨rfl,os',n',rfl⟩
 go_wp2
 refine bodyPost_ret_by (v:=dBad 33) ?_ rfl ⟨rfl,gA⟩
 simp [results,Tryz.results250,go_sem]
end Go.Proofs.YtibbenhplmmmiaaGreatDoor
