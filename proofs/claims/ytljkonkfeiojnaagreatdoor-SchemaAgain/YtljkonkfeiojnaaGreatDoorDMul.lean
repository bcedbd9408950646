/-
  The contract of decimal.Mul: for every two decimals.
-/
import Derived.Test.YtljkonkfeiojnaaGreatDoorDDivs
set_option maxHeartbeats 2000000
namespace Go.Proofs.YtljkonkfeiojnaaGreatDoor
open Go.RowKit
attribute [local go_sem] z0f z0b z0c z0e z0m z0k z0h z0d z0g
theorem mul_good (ua sa ub sb t:Int) (k:Nat) (w:World) (hP:Pw w) (ha:z0u sa=true) (hb:z0u sb=true) (ht:(t=sa+sb∧sa+sb≤6)∨(t=6∧6<sa+sb)) (hk:sa+sb - t=(k:Int))
  (a0:-9223372036854775808≤ua) (a1:ua≤9223372036854775807) (b0:-9223372036854775808≤ub) (b1:ub≤9223372036854775807) :
  Calls Tryz.prog 165 #[dv ua sa,dv ub sb] w fun e w'=>e=.returned (dres (rq (ua*ub) (10^k:Nat)) t)∧Grew w w':=by
 have Ra:=fun W=>right_any ua sa W
 have Rb:=fun W=>right_any ub sb W
 rw [ha] at Ra
 rw [hb] at Rb
 rw [z1f] at ha hb
 obtain ⟨ex,hex⟩:∃ ex:Int,ex=sa+sb:=⟨_,rfl⟩
 have E1:IntKind.i64.wrap (sa+sb)=ex:=by rw [IntKind.wrap_i64];omega
 have E2:IntKind.i64.wrap (ex - t)=(k:Int):=by rw [IntKind.wrap_i64];omega
 have c:=hP k (by omega)
 have hpos:=hP.pos
 have hz2:0<w.heap.size:=by omega
 have d1:(k:Int)<13:=by omega
 have hpw:=pow10_bd k (by omega)
 generalize ((10^k:Nat):Int)=p at *
 have S1:=fun W=>z5h ua ub W a0 a1 b0 b1
 have S2:=fun W=>z5b p W (by omega) (by omega)
 have Hp0:Hid (p≠0):=(by omega:p≠0)
 have Hpb:Hid (p.natAbs<18446744073709551616):=(by omega:p.natAbs<18446744073709551616)
 have T:=fun b h l W (hl:l<18446744073709551616)=>z3w b h l t W hl
 have E3:min ex 6=t:=by omega
 clear hP a0 a1 b0 b1 ha hb hpw ht hk hex
 go_enter Tryz.func165,Tryz.ntmps165
 go_wp2_with fail
 refine (Ra _).mono ?_
 rintro e w' ⟨rfl,os,n,rfl⟩
 go_wp2_with fail
 refine (Rb _).mono ?_
 rintro e w' ⟨rfl,os',n',rfl⟩
 go_wp2_with fail
 go_region_held (fun W=>W.cell? ⟨w.heap.size,0,none⟩=some (.int .i64 ua)∧W.cell? ⟨w.heap.size+1,0,none⟩=some (.int .i64 ub)∧W.cell? ⟨2,k,none⟩=some (.int .i64 p)) (simp (maxDischargeDepth:=12) [go_sem,← more_snoc,hpos,hz2,c])
  ((first
   | (go_at_call 109;refine (S1 _).mono ?_;rintro e w1 ⟨c1,h1,l1,rfl,v1,kl1,kh1,os1,n1,rfl⟩)
   | (go_at_call 108;refine (S2 _).mono ?_;rintro e w2 ⟨rfl,os2,n2,rfl⟩)
   | (go_at_call 107;refine (z6r c1 (decide (p<0)) h1 l1 0 p.natAbs _ _ _ v1 (by rw [Nat.zero_mul,Nat.zero_add];exact z8u p) Hp0.out kl1 Hpb.out kh1 (.inl rfl)).mono ?_;rintro e w3 ⟨c3,h3,l3,rfl,v3,kl3,os3,n3,rfl⟩)))
 all_goals go_wp2_with (go_at_call 106;refine (T c3 h3 l3 _ kl3).mono ?_;rw [v3];rintro e w4 ⟨rfl,os4,n4,rfl⟩)
 all_goals refine bodyPost_ret_by (v:=dres _ _) ?_ rfl ⟨rfl,?_⟩
 all_goals first
  | (simp [results,Tryz.results165,go_sem];done)
  | (repeat exact gA)
end Go.Proofs.YtljkonkfeiojnaaGreatDoor
