/-
  The document's wide numbers: scaled.
-/
import Derived.Test.YtibbenhplmmmiaaGreatDoorDRef4
import Derived.Test.YtibbenhplmmmiaaGreatDoorMMDRef6
import Derived.Test.YtibbenhplmmmiaaGreatDoorDInts
import Derived.Test.YtibbenhplmmmiaaGreatDoorDPowerB
import Derived.Deep.RegionHeld2
set_option maxHeartbeats 4000000
set_option maxRecDepth 5000
namespace Go.Proofs.YtibbenhplmmmiaaGreatDoor
open Go.RowKit
attribute [local go_sem] z0e z0b z0c z0f z0m z0k z0h z0d z0g
theorem cellMAM (l1 l2:List Obj) (o:Obj) (n i:Nat) (w:World) (h:n<w.heap.size):(more ((more w l1).alloc o) l2).cell? ⟨n,i,none⟩=w.cell? ⟨n,i,none⟩ :=
 (z0e l2 n i _ (by have:=z0f h l1;simp;omega)).trans (cellMA l1 o n i w h)
theorem frozenMAM (l1 l2:List Obj) (o:Obj) (n i:Nat) (w:World) (h:n<w.heap.size):(more ((more w l1).alloc o) l2).frozen? ⟨n,i,none⟩=w.frozen? ⟨n,i,none⟩ :=
 (z0b l2 n i _ (by have:=z0f h l1;simp;omega)).trans (frozenMA l1 o n i w h)
theorem setMAM (l1 l2:List Obj) (o:Obj) (n i:Nat) (v:Value) (w:World) (h:n<w.heap.size):(more ((more w l1).alloc o) l2).setCell ⟨n,i,none⟩ v=more ((more (w.setCell ⟨n,i,none⟩ v) l1).alloc o) l2:=by
 rw [z0c l2 n i v _ (by have:=z0f h l1;simp;omega),setMA l1 o n i v w h]
attribute [local go_sem high] cellMA frozenMA setMA cellMAM frozenMAM setMAM
theorem z3b (u s t:Int) (w:World) (u0:-9223372036854775808≤u) (u1:u≤9223372036854775807) (hs:0≤s) (hst:s≤t) (ht:t≤6) :
  Calls Tryz.prog 188 #[dv u s,.int .i64 t] w fun e w'=>∃ o0 o1 o2 o3 o4 o5:Nat,e=.returned (wv o0 o1 o2 o3 o4 o5 (decide (u<0)))∧Low6 o0 o1 o2 o3 o4 o5∧Hid (sval (decide (u<0)) (val6 o0 o1 o2 o3 o4 o5)=at10 u s t)∧Hid (val6 o0 o1 o2 o3 o4 o5<19342813113834066795298816)∧Grew w w':=by
 obtain ⟨k,hk⟩:∃ k:Nat,t - s=(k:Int):=⟨(t - s).toNat,by omega⟩
 have d4:IntKind.i64.wrap (t - s)=(k:Int):=by rw [IntKind.wrap_i64];omega
 have hp1:10^k≤10^6:=Nat.pow_le_pow_right (by decide) (by omega)
 have hp0:0<10^k:=Nat.pow_pos (by decide)
 have hat:at10 u s t=u*((10^k:Nat):Int):=by unfold at10;rw [hk,Int.toNat_natCast]
 have Pk:=fun W=>qz6cB k W (by omega)
 obtain ⟨P,hP⟩:∃ P:Nat,P=10^k:=⟨_,rfl⟩
 rw [← hP] at Pk hat hp1 hp0
 have A:=fun W=>z2m u _ _ _ W u0 u1 rfl rfl rfl
 have B:=fun W=>z2m (P:Int) P _ _ W (by omega) (by omega) rfl rfl rfl
 have eP:decide ((P:Int)<0)=false:=by simp
 rw [eP] at B
 have la:=z3x u.natAbs _ _ (by omega) rfl rfl
 have lb:=z3x P _ _ (by omega) rfl rfl
 have S:=fun W=>z5b _ _ _ _ _ _ _ _ _ _ _ _ (decide (u<0)) false W la.1 lb.1 (show Hid (0=0∧0=0∧0=0∧0=0) from ⟨rfl,rfl,rfl,rfl⟩) (show Hid (0=0∧0=0∧0=0∧0=0) from ⟨rfl,rfl,rfl,rfl⟩)
 have ea:u.natAbs%4294967296+4294967296*(u.natAbs / 4294967296)=u.natAbs:=by omega
 have eb:P%4294967296+4294967296*(P / 4294967296)=P:=by omega
 rw [ea,eb] at S
 have HM:Hid (sval (decide (u<0)) (u.natAbs*P)=at10 u s t):=(by
  show sval (decide (u<0)) (u.natAbs*P)=at10 u s t
  rw [hat]
  have h:=z3n u
  cases hd:decide (u<0)
  ·rw [hd] at h;simp only [sval] at h ⊢;rw [Int.natCast_mul];simp at h ⊢;rw [h]
  ·rw [hd] at h;simp only [sval] at h ⊢;rw [Int.natCast_mul,← Int.neg_mul];simp at h ⊢;rw [h])
 have HB:Hid (u.natAbs*P<19342813113834066795298816):=(by
  have h1:u.natAbs*P≤9223372036854775808*1000000:=Nat.mul_le_mul (by omega) (by omega)
  show u.natAbs*P<19342813113834066795298816
  omega)
 generalize u.natAbs%4294967296=ra at *
 generalize u.natAbs / 4294967296=qa at *
 generalize P%4294967296=rb at *
 generalize P / 4294967296=qb at *
 clear la lb ea eb eP hat hp0 hp1 hP hk hs hst ht u0 u1
 generalize (P:Int)=p at *
 go_enter Tryz.func188,Tryz.ntmps188
 go_wp2_with fail
 go_region_held2 (fun W=>W.cell? ⟨w.heap.size,0,none⟩=some (.int .i64 u)∧W.cell? ⟨w.heap.size,1,none⟩=some (.int .i64 s)) (simp (maxDischargeDepth:=12) [go_sem])
  ((first
   | (go_at_call_of 80 (Value.int IntKind.i64 u);refine (A _).mono ?_;rintro e w' ⟨rfl,os1,n1,rfl⟩)
   | (go_at_call 80;refine (B _).mono ?_;rintro e w' ⟨rfl,os2,n2,rfl⟩)
   | (go_at_call 190;refine (Pk _).mono ?_;rintro e w' ⟨rfl,rfl⟩)
   | (go_at_call 79;refine (S _).mono ?_;rintro e w' ⟨o0,o1,o2,o3,o4,o5,rfl,lo,hv,os3,n3,rfl⟩)))
 all_goals go_wp2_with fail
 all_goals refine bodyPost_ret_by (v:=wv o0 o1 o2 o3 o4 o5 (decide (u<0))) ?_ rfl ⟨o0,o1,o2,o3,o4,o5,rfl,lo,(show Hid (sval (decide (u<0)) (val6 o0 o1 o2 o3 o4 o5)=at10 u s t) from by show sval _ _=_;rw [hv.out];exact HM.out),(show Hid (val6 o0 o1 o2 o3 o4 o5<19342813113834066795298816) from by show _ < _;rw [hv.out];exact HB.out),gA⟩
 all_goals simp [results,Tryz.results188,go_sem]
end Go.Proofs.YtibbenhplmmmiaaGreatDoor
