/-
  The contracts of package decimal's sums and orders: rightScale, Right, raised, ofScale, Add, Sub, Neg, Compare: for every decimal.
-/
import Derived.Test.YtljkonkfeiojnaaGreatDoorMeDWide3
import Derived.Deep.RegionWith
import Derived.Deep.RegionHeld
import Derived.Deep.DrawnRows
set_option maxHeartbeats 1000000
namespace Go.Proofs.YtljkonkfeiojnaaGreatDoor
open Go.RowKit
attribute [local go_sem] z0f z0b z0c z0e z0k z0h z0d z0g
def Pw (w:World):Prop:=∀ k:Nat,k<13→w.cell? ⟨2,k,none⟩=some (.int .i64 (10^k:Nat))
theorem Pw.pos {w:World} (h:Pw w):2<w.heap.size:=World.block_lt_of_cell? w _ (h 0 (by decide))
theorem Pw.later {w w':World} (h:Pw w) (hb:Grew w w'):Pw w':=fun k hk=>by rw [hb.below.cell (p:=⟨2,k,none⟩) h.pos];exact h k hk
abbrev dv (u s:Int):Value:=.agg #[.int .i64 u,.int .i64 s]
def z0u (s:Int):Bool:=decide (0≤s∧s≤6)
theorem z1f (s:Int):z0u s=true↔(0≤s∧s≤6):=by simp [z0u]
theorem z3b (s:Int) (w:World):Calls Tryz.prog 94 #[.int .i64 s] w fun e w'=>e=.returned (.bool (z0u s))∧w=w':=by
 go_enter Tryz.func94,Tryz.ntmps94
 go_wp2
 all_goals go_ret
 all_goals refine ⟨ret_bool ?_,rfl⟩
 all_goals rw [Bool.eq_iff_iff,z1f]
 all_goals simp
 all_goals omega
theorem right_any (u s:Int) (w:World):Calls Tryz.prog 69 #[dv u s] w fun e w'=>e=.returned (.bool (z0u s))∧Grew w w':=by
 go_enter Tryz.func69,Tryz.ntmps69
 go_wp2_with (go_at_call 94;refine (z3b _ _).mono ?_;rintro e w' ⟨rfl,rfl⟩)
 go_ret
 exact ⟨rfl,(Grew.refl _).alloc _⟩
theorem z5h (a b:Int) (w:World) (a0:-9223372036854775808≤a) (a1:a≤9223372036854775807) (b0:-9223372036854775808≤b) (b1:b≤9223372036854775807) :
  Calls Tryz.prog 109 #[.int .i64 a,.int .i64 b] w fun e w'=>∃ (n:Bool) (h l:Nat),e=.returned (wd n h l)∧sval n (h*18446744073709551616+l)=a*b ∧
   l<18446744073709551616∧h<9223372036854775808∧Grew w w':=by
 refine (product_any a b w a0 a1 b0 b1).mono ?_
 rintro e w' ⟨rfl,G⟩
 have hm:a.natAbs*b.natAbs≤9223372036854775808*9223372036854775808:=Nat.mul_le_mul (by omega) (by omega)
 refine ⟨_,_,_,rfl,?_,by omega,by omega,G⟩
 rw [← sval_mul a b]
 congr 1
 omega
theorem z4x (u s t:Int) (w:World) (hP:Pw w) (u0:-9223372036854775808≤u) (u1:u≤9223372036854775807) (hs:0≤s) (hst:s≤t) (ht:t≤6) :
  Calls Tryz.prog 192 #[dv u s,.int .i64 t] w fun e w'=>∃ (b:Bool) (h l:Nat),e=.returned (wd b h l)∧sval b (h*18446744073709551616+l)=u*(10^(t - s).toNat:Nat) ∧
   l<18446744073709551616∧h<9223372036854775808∧Grew w w':=by
 obtain ⟨k,rfl⟩:∃ k:Nat,t=s+(k:Int):=⟨(t - s).toNat,by omega⟩
 have c:=hP k (by omega)
 have hpos:=hP.pos
 have hz0:¬ w.heap.size=0:=by omega
 have hz2:0<w.heap.size:=by omega
 have hz1:¬ 2=w.heap.size:=by omega
 have hp1:((10^k:Nat):Int)≤1000000:=by
  have:10^k≤10^6:=Nat.pow_le_pow_right (by decide) (by omega)
  omega
 have hp0:(0:Int)<((10^k:Nat):Int):=by
  have:0<10^k:=Nat.pow_pos (by decide)
  omega
 rw [show (s+(k:Int) - s).toNat=k by omega]
 generalize ((10^k:Nat):Int)=p at *
 have S:=fun W=>z5h u p W u0 u1 (by omega) (by omega)
 have d1:(k:Int)<13:=by omega
 have d4:IntKind.i64.wrap (s+(k:Int) - s)=(k:Int):=by rw [IntKind.wrap_i64];omega
 clear hst hP
 go_enter Tryz.func192,Tryz.ntmps192
 go_wp2_with fail
 go_region_with (go_at_call 109;refine (S _).mono ?_;rintro e w' ⟨b,h,l,rfl,hv,hl,hh,os,n,rfl⟩)
 all_goals go_wp2
 all_goals refine bodyPost_ret_by (v:=wd b h l) ?_ rfl ⟨b,h,l,rfl,hv,hl,hh,(((((Grew.refl _).alloc _).alloc _).more _).drewN _)⟩
 all_goals simp [results,Tryz.results192,go_sem]
def at10 (u s t:Int):Int:=u*(10^(t - s).toNat:Nat)
def fs (z s:Int):Int:=if fits z then s else 0
abbrev dres (z s:Int):Value:=.tuple #[dv (nz z) (fs z s),.int .i64 (nErr z)]
abbrev dBad (e:Int):Value:=.tuple #[dv 0 0,.int .i64 e]
theorem z3w (b:Bool) (h l:Nat) (s:Int) (w:World) (hl:l<18446744073709551616) :
  Calls Tryz.prog 106 #[wd b h l,.int .i64 s] w fun e w'=>e=.returned (dres (sval b (h*18446744073709551616+l)) s)∧Grew w w':=by
 have S:=fun W=>z6n b h l W hl
 generalize sval b (h*18446744073709551616+l)=z at *
 by_cases hf:fits z=true
 ·have e1:nErr z=0:=by simp [nErr,hf]
  have e3:fs z s=s:=by simp [fs,hf]
  rw [dres,e3,e1]
  rw [e1] at S
  clear e1 e3 hf
  go_enter Tryz.func106,Tryz.ntmps106
  go_wp2_with (go_at_call 140;refine (S _).mono ?_;rintro e w' ⟨rfl,os,n,rfl⟩)
  refine bodyPost_ret_by (v:=.tuple #[dv (nz z) s,.int .i64 0]) ?_ rfl ⟨rfl,(((((Grew.refl _).alloc _).alloc _).more _).drewN _)⟩
  simp [results,Tryz.results106,go_sem]
 ·have e1:nErr z=32:=by simp [nErr,hf]
  have e2:nz z=0:=by simp [nz,hf]
  have e3:fs z s=0:=by simp [fs,hf]
  rw [dres,e3,e1,e2]
  rw [e1,e2] at S
  clear e1 e2 e3 hf
  go_enter Tryz.func106,Tryz.ntmps106
  go_wp2_with (go_at_call 140;refine (S _).mono ?_;rintro e w' ⟨rfl,os,n,rfl⟩)
  refine bodyPost_ret_by (v:=.tuple #[dv 0 0,.int .i64 32]) ?_ rfl ⟨rfl,(((((Grew.refl _).alloc _).alloc _).more _).drewN _)⟩
  simp [results,Tryz.results106,go_sem]
end Go.Proofs.YtljkonkfeiojnaaGreatDoor
