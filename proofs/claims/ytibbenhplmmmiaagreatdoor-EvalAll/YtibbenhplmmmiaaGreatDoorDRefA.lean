/-
  The document's answers: Rescale.
-/
import Derived.Test.YtibbenhplmmmiaaGreatDoorDRef7
import Derived.Test.YtibbenhplmmmiaaGreatDoorMODRound
import Derived.Test.YtibbenhplmmmiaaGreatDoorDResc
import Derived.Test.YtibbenhplmmmiaaGreatDoorMMDRef6
import Derived.Test.YtibbenhplmmmiaaGreatDoorDNeg
import Derived.Deep.RegionHeld2
import Derived.Deep.RegionWith
set_option maxHeartbeats 4000000
set_option maxRecDepth 5000
namespace Go.Proofs.YtibbenhplmmmiaaGreatDoor
open Go.RowKit
attribute [local go_sem] z0e z0b z0c z0f z0m z0k z0h z0d z0g
attribute [local go_sem high] cellMA frozenMA setMA cellMAM frozenMAM setMAM
theorem rq_pos (n:Int) (P:Nat) (h:0<P):sval (decide (n<0)) (rnd n.natAbs P)=rq n (P:Int):=by
 have h1:=rq_sval (decide (n<0)) false n.natAbs P h
 rw [z3n,z5k] at h1
 rw [h1]
 cases decide (n<0) <;> rfl
theorem rrescale_good (u s t:Int) (w:World) (hs:z0s s=true) (ht:z0s t=true) (u0:-9223372036854775808≤u) (u1:u≤9223372036854775807) :
  Calls Tryz.prog 126 #[dv u s,.int .i64 t] w fun e w'=>e=.returned (dres (dq u s 1 0 t) t)∧Grew w w':=by
 have Ra:=fun W=>qz1cB u s W
 rw [hs] at Ra
 rw [z0w] at hs ht
 have t0:¬ t<0:=by omega
 have t6:¬ 6<t:=by omega
 by_cases hle:s≤t
 ·have Sa:=fun W=>z3b u s t W u0 u1 (by omega) (by omega) (by omega)
  have hd:at10 u s t=dq u s 1 0 t:=by rw [dq_up _ _ _ hle];rfl
  rw [hd] at Sa
  generalize dq u s 1 0 t=z at *
  clear hs ht hd u0 u1
  go_enter Tryz.func126,Tryz.ntmps126
  go_wp2_with (first
   | (go_at_call 89;refine (Ra _).mono ?_;rintro e w' ⟨rfl,os,n,rfl⟩)
   | (go_at_call 188;refine (Sa _).mono ?_;rintro e w1 ⟨p0,p1,p2,p3,p4,p5,rfl,lo1,hv1,bd1,os1,n1,rfl⟩)
   | (go_at_call 82;refine (z2q p0 p1 p2 p3 p4 p5 _ _ _ lo1).mono ?_;rw [hv1.out];rintro e w4 ⟨rfl,os4,n4,rfl⟩))
  refine bodyPost_ret_by (v:=dres z t) ?_ rfl ⟨rfl,gA⟩
  simp [results,Tryz.results126,go_sem]
 ·obtain ⟨k,hk⟩:∃ k:Nat,s - t=(k:Int):=⟨(s - t).toNat,by omega⟩
  have d4:IntKind.i64.wrap (s - t)=(k:Int):=by rw [IntKind.wrap_i64];omega
  have hp1:10^k≤10^6:=Nat.pow_le_pow_right (by decide) (by omega)
  have hp0:0<10^k:=Nat.pow_pos (by decide)
  have hd:dq u s 1 0 t=rq u (10^k:Nat):=by rw [dq_down _ _ _ hle,hk,Int.toNat_natCast]
  have Pk:=fun W=>qz6cB k W (by omega)
  obtain ⟨P,hP⟩:∃ P:Nat,P=10^k:=⟨_,rfl⟩
  rw [← hP] at Pk hd hp1 hp0
  have hv:=rq_pos u P hp0
  rw [← hd] at hv
  have A:=fun W=>z2m u _ _ _ W u0 u1 rfl rfl rfl
  have B:=fun W=>z2m (P:Int) P _ _ W (by omega) (by omega) rfl rfl rfl
  have eP:decide ((P:Int)<0)=false:=by simp
  rw [eP] at B
  have la:=z3x u.natAbs _ _ (by omega) rfl rfl
  have lb:=z3x P _ _ (by omega) rfl rfl
  have R:=fun W=>z6q _ _ _ _ _ _ _ _ _ _ _ _ (decide (u<0)) false W la.1 lb.1 (by rw [la.2];omega) (by rw [lb.2];omega) (by rw [lb.2];omega)
  rw [la.2,lb.2] at R
  have HV:Hid (sval (decide (u<0)) (rnd u.natAbs P)=dq u s 1 0 t):=hv
  generalize dq u s 1 0 t=z at *
  generalize rnd u.natAbs P=rv at *
  generalize u.natAbs%4294967296=ra at *
  generalize u.natAbs / 4294967296=qa at *
  generalize P%4294967296=rb at *
  generalize P / 4294967296=qb at *
  clear la lb eP hp0 hp1 hP hk hs ht u0 u1 hd hv
  generalize (P:Int)=p at *
  have hlt:t<s:=by omega
  go_enter Tryz.func126,Tryz.ntmps126
  go_wp2_with (go_at_call 89;refine (Ra _).mono ?_;rintro e w' ⟨rfl,os,n,rfl⟩)
  go_region_held2 (fun W=>W.cell? ⟨w.heap.size,0,none⟩=some (.int .i64 u)∧W.cell? ⟨w.heap.size,1,none⟩=some (.int .i64 s)) (simp (maxDischargeDepth:=12) [go_sem])
   ((first
    | (go_at_call_of 80 (Value.int IntKind.i64 u);refine (A _).mono ?_;rintro e w' ⟨rfl,os1,n1,rfl⟩)
    | (go_at_call 80;refine (B _).mono ?_;rintro e w' ⟨rfl,os2,n2,rfl⟩)
    | (go_at_call 190;refine (Pk _).mono ?_;rintro e w' ⟨rfl,rfl⟩)
    | (go_at_call 189;refine (R _).mono ?_;rintro e w' ⟨o0,o1,o2,o3,o4,o5,rfl,lo,hv,os3,n3,rfl⟩)
    | (go_at_call 82;refine (z2q o0 o1 o2 o3 o4 o5 _ _ _ lo).mono ?_;rw [hv.out,HV.out];rintro e w4 ⟨rfl,os4,n4,rfl⟩)))
  all_goals go_wp2_with fail
  all_goals refine bodyPost_ret_by (v:=dres z t) ?_ rfl ⟨rfl,gA⟩
  all_goals simp [results,Tryz.results126,go_sem]
end Go.Proofs.YtibbenhplmmmiaaGreatDoor
