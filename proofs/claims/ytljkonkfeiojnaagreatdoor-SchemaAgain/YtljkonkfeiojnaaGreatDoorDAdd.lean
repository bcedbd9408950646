/-
  The contract of decimal.Add: for every decimal.
-/
import Derived.Test.YtljkonkfeiojnaaGreatDoorDArith
set_option maxHeartbeats 2000000
namespace Go.Proofs.YtljkonkfeiojnaaGreatDoor
open Go.RowKit
attribute [local go_sem] z0f z0b z0c z0e z0m z0k z0h z0d z0g
theorem add_good (ua sa ub sb t:Int) (w:World) (hP:Pw w) (ha:z0u sa=true) (hb:z0u sb=true) (ht:(t=sa∧sb≤sa)∨(t=sb∧sa<sb)) (a0:-9223372036854775808≤ua) (a1:ua≤9223372036854775807) (b0:-9223372036854775808≤ub) (b1:ub≤9223372036854775807) :
  Calls Tryz.prog 163 #[dv ua sa,dv ub sb] w fun e w'=>e=.returned (dres (at10 ua sa t+at10 ub sb t) t)∧Grew w w':=by
 have Ra:=fun W=>right_any ua sa W
 have Rb:=fun W=>right_any ub sb W
 rw [ha] at Ra
 rw [hb] at Rb
 rw [z1f] at ha hb
 have Sa:∀ (W:World),Grew w W→_:=fun W (h:Grew w W)=>z4x ua sa t W (hP.later h) a0 a1 (by omega) (by omega) (by omega)
 have Sb:∀ (W:World),Grew w W→_:=fun W (h:Grew w W)=>z4x ub sb t W (hP.later h) b0 b1 (by omega) (by omega) (by omega)
 have T:=fun b h l W (hl:l<18446744073709551616)=>z3w b h l t W hl
 rw [show ua*(10^(t - sa).toNat:Nat)=at10 ua sa t from rfl] at Sa
 rw [show ub*(10^(t - sb).toNat:Nat)=at10 ub sb t from rfl] at Sb
 clear hP a0 a1 b0 b1 ha hb
 rcases ht with ⟨rfl,h⟩|⟨rfl,h⟩
 all_goals
  go_enter Tryz.func163,Tryz.ntmps163
  go_wp2_with fail
  refine (Ra _).mono ?_
  rintro e w' ⟨rfl,os,n,rfl⟩
  go_wp2_with fail
  refine (Rb _).mono ?_
  rintro e w' ⟨rfl,os',n',rfl⟩
  go_wp2_with fail
  go_region_with (first
   | (go_at_call_of 192 (Value.int IntKind.i64 ua);refine (Sa _ gA).mono ?_;rintro e w1 ⟨c1,h1,l1,rfl,v1,kl1,kh1,os1,n1,rfl⟩)
   | (go_at_call_of 192 (Value.int IntKind.i64 ub);refine (Sb _ gA).mono ?_;rintro e w2 ⟨c2,h2,l2,rfl,v2,kl2,kh2,os2,n2,rfl⟩)
   | (go_at_call 190;refine (sum_any c1 c2 h1 l1 h2 l2 _ kl1 kl2 kh1 kh2).mono ?_;rw [v1,v2];rintro e w3 ⟨c3,h3,l3,rfl,v3,kl3,kh3,os3,n3,rfl⟩)
   | (go_at_call 106;refine (T c3 h3 l3 _ kl3).mono ?_;rw [v3];rintro e w4 ⟨rfl,os4,n4,rfl⟩))
  all_goals go_wp2
  all_goals refine bodyPost_ret_by (v:=dres _ _) ?_ rfl ⟨rfl,?_⟩
  all_goals first
   | (simp [results,Tryz.results163,go_sem];done)
   | (repeat exact gA)
end Go.Proofs.YtljkonkfeiojnaaGreatDoor
