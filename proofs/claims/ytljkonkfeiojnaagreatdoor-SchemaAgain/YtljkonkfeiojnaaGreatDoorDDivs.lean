/-
  The contracts of decimal.Div: for every two decimals and every scale.
-/
import Derived.Test.YtljkonkfeiojnaaGreatDoorDQuo
set_option maxHeartbeats 2000000
namespace Go.Proofs.YtljkonkfeiojnaaGreatDoor
open Go.RowKit
attribute [local go_sem] z0f z0b z0c z0e z0m z0k z0h z0d z0g
def rq (n d:Int):Int:=sval (!(decide (n<0)==decide (d<0))) (rnd n.natAbs d.natAbs)
theorem rq_sval (b1 b2:Bool) (m1 m2:Nat) (h:0<m2):rq (sval b1 m1) (sval b2 m2)=sval (!(b1==b2)) (rnd m1 m2):=by
 unfold rq
 rw [z3z,z3z]
 have e2:decide (sval b2 m2<0)=b2:=by cases b2 <;> simp [sval] <;> omega
 rw [e2]
 rcases Nat.eq_zero_or_pos m1 with h1|h1
 ·subst h1
  rw [rnd_zero,z6u,z6u]
 ·have e1:decide (sval b1 m1<0)=b1:=by cases b1 <;> simp [sval] <;> omega
  rw [e1]
theorem z6r (b1 b2:Bool) (h1 l1 h2 l2:Nat) (n d:Int) (w:World) (hn:sval b1 (h1*18446744073709551616+l1)=n) (hd:sval b2 (h2*18446744073709551616+l2)=d) (hd0:d≠0)
  (k1:l1<18446744073709551616) (k2:l2<18446744073709551616) (k3:h1<9223372036854775808) (hs:h2=0∨2*n.natAbs≤d.natAbs) :
  Calls Tryz.prog 107 #[wd b1 h1 l1,wd b2 h2 l2] w fun e w'=>∃ (b:Bool) (h l:Nat),e=.returned (wd b h l)∧sval b (h*18446744073709551616+l)=rq n d∧l<18446744073709551616∧Grew w w':=by
 subst hn;subst hd
 have hm:0<h2*18446744073709551616+l2:=by
  rcases Nat.eq_zero_or_pos (h2*18446744073709551616+l2) with h|h
  ·rw [h,z6u] at hd0;exact absurd rfl hd0
  ·exact h
 rw [rq_sval _ _ _ _ hm]
 rw [z3z,z3z] at hs
 rcases Nat.eq_zero_or_pos h2 with h|h
 ·subst h
  refine (quo_low b1 b2 h1 l1 l2 w (by omega) k2 k1 k3).mono ?_
  rintro e w' ⟨h,l,rfl,hr,hl,G⟩
  refine ⟨_,h,l,rfl,?_,hl,G⟩
  rw [hr,Nat.zero_mul,Nat.zero_add]
 ·refine (quo_high b1 b2 h1 l1 h2 l2 w h).mono ?_
  rintro e w' ⟨rfl,G⟩
  refine ⟨false,0,0,rfl,?_,by decide,G⟩
  rw [rnd_small _ _ (by omega) hm]
  exact (z6u _).trans (z6u _).symm
theorem wide_big (b:Bool) (h l:Nat) (n m:Int) (hv:sval b (h*18446744073709551616+l)=m) (h2:2*n.natAbs≤18446744073709551616):h=0∨2*n.natAbs≤m.natAbs:=by
 subst hv
 rw [z3z]
 generalize n.natAbs=x at *
 omega
def dq (ua sa ub sb s:Int):Int:=if sa≤s+sb then rq (ua*(10^(s+sb - sa).toNat:Nat)) ub else rq ua (ub*(10^(sa - (s+sb)).toNat:Nat))
theorem pow10_bd (k:Nat) (h:k<13):0<((10^k:Nat):Int)∧((10^k:Nat):Int)≤1000000000000:=by
 have h1:10^k≤10^12:=Nat.pow_le_pow_right (by decide) (by omega)
 have h2:0<10^k:=Nat.pow_pos (by decide)
 omega
theorem div_up (ua sa ub sb s:Int) (w:World) (hP:Pw w) (ha:z0u sa=true) (hb:z0u sb=true) (hs:z0u s=true) (a0:-9223372036854775808≤ua) (a1:ua≤9223372036854775807) (b0:-9223372036854775808≤ub) (b1:ub≤9223372036854775807)
  (hu:¬ ub=0) (hle:sa≤s+sb) :
  Calls Tryz.prog 80 #[dv ua sa,dv ub sb,.int .i64 s] w fun e w'=>e=.returned (dres (dq ua sa ub sb s) s)∧Grew w w':=by
 have Ra:=fun W=>right_any ua sa W
 have Rb:=fun W=>right_any ub sb W
 have Rs:=fun W=>z3b s W
 rw [ha] at Ra
 rw [hb] at Rb
 rw [hs] at Rs
 rw [z1f] at ha hb hs
 obtain ⟨k,hk⟩:∃ k:Nat,s+sb - sa=(k:Int):=⟨(s+sb - sa).toNat,by omega⟩
 have E1:IntKind.i64.wrap (s+sb)=s+sb:=by rw [IntKind.wrap_i64];omega
 have E2:IntKind.i64.wrap (s+sb - sa)=(k:Int):=by rw [IntKind.wrap_i64];omega
 have c:=hP k (by omega)
 have hpos:=hP.pos
 have hz2:0<w.heap.size:=by omega
 have d1:(k:Int)<13:=by omega
 unfold dq
 rw [if_pos hle,hk,Int.toNat_natCast]
 have hpw:=pow10_bd k (by omega)
 generalize ((10^k:Nat):Int)=p at *
 have S1:=fun W=>z5h ua p W a0 a1 (by omega) (by omega)
 have S2:=fun W=>z5b ub W b0 b1
 have hub:ub.natAbs<18446744073709551616:=by omega
 have Hub:Hid (ub.natAbs<18446744073709551616):=hub
 have T:=fun b h l W (hl:l<18446744073709551616)=>z3w b h l s W hl
 clear hk hP a0 a1 b0 b1 ha hb hs hle hpw hub
 go_enter Tryz.func80,Tryz.ntmps80
 go_wp2_with fail
 refine (Ra _).mono ?_
 rintro e w' ⟨rfl,os,n,rfl⟩
 go_wp2_with fail
 refine (Rb _).mono ?_
 rintro e w' ⟨rfl,os',n',rfl⟩
 go_wp2_with fail
 refine (Rs _).mono ?_
 rintro e w' ⟨rfl,rfl⟩
 go_wp2_with fail
 go_region_held (fun W=>W.cell? ⟨w.heap.size,0,none⟩=some (.int .i64 ua)∧W.cell? ⟨w.heap.size+1,0,none⟩=some (.int .i64 ub)∧W.cell? ⟨2,k,none⟩=some (.int .i64 p)) (simp (maxDischargeDepth:=12) [go_sem,hpos,hz2,c])
  ((first
   | (go_at_call 109;refine (S1 _).mono ?_;rintro e w1 ⟨c1,h1,l1,rfl,v1,kl1,kh1,os1,n1,rfl⟩)
   | (go_at_call 108;refine (S2 _).mono ?_;rintro e w2 ⟨rfl,os2,n2,rfl⟩)
   | (go_at_call 107;refine (z6r c1 (decide (ub<0)) h1 l1 0 ub.natAbs _ _ _ v1 (by rw [Nat.zero_mul,Nat.zero_add];exact z8u ub) hu kl1 Hub.out kh1 (.inl rfl)).mono ?_;rintro e w3 ⟨c3,h3,l3,rfl,v3,kl3,os3,n3,rfl⟩)
   | (go_at_call 106;refine (T c3 h3 l3 _ kl3).mono ?_;rw [v3];rintro e w4 ⟨rfl,os4,n4,rfl⟩)))
 all_goals go_wp2
 all_goals refine bodyPost_ret_by (v:=dres _ _) ?_ rfl ⟨rfl,?_⟩
 all_goals first
  | (simp [results,Tryz.results80,go_sem];done)
  | (repeat exact gA)
theorem div_down (ua sa ub sb s:Int) (w:World) (hP:Pw w) (ha:z0u sa=true) (hb:z0u sb=true) (hs:z0u s=true) (a0:-9223372036854775808≤ua) (a1:ua≤9223372036854775807) (b0:-9223372036854775808≤ub) (b1:ub≤9223372036854775807)
  (hu:¬ ub=0) (hle:¬ sa≤s+sb) :
  Calls Tryz.prog 80 #[dv ua sa,dv ub sb,.int .i64 s] w fun e w'=>e=.returned (dres (dq ua sa ub sb s) s)∧Grew w w':=by
 have Ra:=fun W=>right_any ua sa W
 have Rb:=fun W=>right_any ub sb W
 have Rs:=fun W=>z3b s W
 rw [ha] at Ra
 rw [hb] at Rb
 rw [hs] at Rs
 rw [z1f] at ha hb hs
 obtain ⟨k,hk⟩:∃ k:Nat,sa - (s+sb)=(k:Int):=⟨(sa - (s+sb)).toNat,by omega⟩
 obtain ⟨sh,hsh⟩:∃ sh:Int,sh=s+sb - sa:=⟨_,rfl⟩
 have hneg:sh<0:=by omega
 have E3:IntKind.i64.wrap (-sh)=(k:Int):=by rw [IntKind.wrap_i64];omega
 have E1:IntKind.i64.wrap (s+sb)=s+sb:=by rw [IntKind.wrap_i64];omega
 have E2:IntKind.i64.wrap (s+sb - sa)=sh:=by rw [IntKind.wrap_i64];omega
 have c:=hP k (by omega)
 have hpos:=hP.pos
 have hz2:0<w.heap.size:=by omega
 have d1:(k:Int)<13:=by omega
 unfold dq
 rw [if_neg hle,hk,Int.toNat_natCast]
 have hpw:=pow10_bd k (by omega)
 generalize ((10^k:Nat):Int)=p at *
 have S1:=fun W=>z5h ub p W b0 b1 (by omega) (by omega)
 have S2:=fun W=>z5b ua W a0 a1
 have hub:True:=trivial
 have Hua:Hid (ua.natAbs<18446744073709551616):=(by omega:ua.natAbs<18446744073709551616)
 have Hua2:Hid (2*ua.natAbs≤18446744073709551616):=(by omega:2*ua.natAbs≤18446744073709551616)
 have Hne:Hid (ub*p≠0):=Int.mul_ne_zero hu (by omega)
 have T:=fun b h l W (hl:l<18446744073709551616)=>z3w b h l s W hl
 clear hsh hk hP a0 a1 b0 b1 ha hb hs hle hpw hub
 go_enter Tryz.func80,Tryz.ntmps80
 go_wp2_with fail
 refine (Ra _).mono ?_
 rintro e w' ⟨rfl,os,n,rfl⟩
 go_wp2_with fail
 refine (Rb _).mono ?_
 rintro e w' ⟨rfl,os',n',rfl⟩
 go_wp2_with fail
 refine (Rs _).mono ?_
 rintro e w' ⟨rfl,rfl⟩
 go_wp2_with fail
 go_region_held (fun W=>W.cell? ⟨w.heap.size,0,none⟩=some (.int .i64 ua)∧W.cell? ⟨w.heap.size+1,0,none⟩=some (.int .i64 ub)∧W.cell? ⟨2,k,none⟩=some (.int .i64 p)) (simp (maxDischargeDepth:=12) [go_sem,hpos,hz2,c])
  ((first
   | (go_at_call 109;refine (S1 _).mono ?_;rintro e w1 ⟨c1,h1,l1,rfl,v1,kl1,kh1,os1,n1,rfl⟩)
   | (go_at_call 108;refine (S2 _).mono ?_;rintro e w2 ⟨rfl,os2,n2,rfl⟩)
   | (go_at_call 107;refine (z6r (decide (ua<0)) c1 0 ua.natAbs h1 l1 _ _ _ (by rw [Nat.zero_mul,Nat.zero_add];exact z8u ua) v1 Hne.out Hua.out kl1 (by decide) (wide_big c1 h1 l1 ua _ v1 Hua2.out)).mono ?_;rintro e w3 ⟨c3,h3,l3,rfl,v3,kl3,os3,n3,rfl⟩)
   | (go_at_call 106;refine (T c3 h3 l3 _ kl3).mono ?_;rw [v3];rintro e w4 ⟨rfl,os4,n4,rfl⟩)))
 all_goals go_wp2
 all_goals refine bodyPost_ret_by (v:=dres _ _) ?_ rfl ⟨rfl,?_⟩
 all_goals first
  | (simp [results,Tryz.results80,go_sem];done)
  | (repeat exact gA)
theorem div_bad (ua sa ub sb s:Int) (w:World) (hr:(z0u sa&&z0u sb&&z0u s)=false) :
  Calls Tryz.prog 80 #[dv ua sa,dv ub sb,.int .i64 s] w fun e w'=>e=.returned (dBad 1)∧Grew w w':=by
 have Ra:=fun W=>right_any ua sa W
 have Rb:=fun W=>right_any ub sb W
 have Rs:=fun W=>z3b s W
 generalize z0u sa=xa at *
 generalize z0u sb=xb at *
 generalize z0u s=xs at *
 go_enter Tryz.func80,Tryz.ntmps80
 cases xa
 ·go_wp2_with (go_at_call 69;refine (Ra _).mono ?_;rintro e w' ⟨rfl,os,n,rfl⟩)
  refine bodyPost_ret_by (v:=dBad 1) ?_ rfl ⟨rfl,?_⟩
  ·simp [results,Tryz.results80,go_sem]
  ·exact gA
 ·cases xb
  ·go_wp2_with fail
   refine (Ra _).mono ?_
   rintro e w' ⟨rfl,os,n,rfl⟩
   go_wp2_with (go_at_call 69;refine (Rb _).mono ?_;rintro e w' ⟨rfl,os',n',rfl⟩)
   refine bodyPost_ret_by (v:=dBad 1) ?_ rfl ⟨rfl,?_⟩
   ·simp [results,Tryz.results80,go_sem]
   ·exact gA
  ·obtain rfl:xs=false:=by simpa using hr
   go_wp2_with fail
   refine (Ra _).mono ?_
   rintro e w' ⟨rfl,os,n,rfl⟩
   go_wp2_with fail
   refine (Rb _).mono ?_
   rintro e w' ⟨rfl,os',n',rfl⟩
   go_wp2_with (go_at_call 94;refine (Rs _).mono ?_;rintro e w' ⟨rfl,rfl⟩)
   refine bodyPost_ret_by (v:=dBad 1) ?_ rfl ⟨rfl,?_⟩
   ·simp [results,Tryz.results80,go_sem]
   ·exact gA
theorem div_good (ua sa ub sb s:Int) (w:World) (hP:Pw w) (ha:z0u sa=true) (hb:z0u sb=true) (hs:z0u s=true) (a0:-9223372036854775808≤ua) (a1:ua≤9223372036854775807) (b0:-9223372036854775808≤ub) (b1:ub≤9223372036854775807) (hu:¬ ub=0) :
  Calls Tryz.prog 80 #[dv ua sa,dv ub sb,.int .i64 s] w fun e w'=>e=.returned (dres (dq ua sa ub sb s) s)∧Grew w w':=by
 by_cases hle:sa≤s+sb
 ·exact div_up ua sa ub sb s w hP ha hb hs a0 a1 b0 b1 hu hle
 ·exact div_down ua sa ub sb s w hP ha hb hs a0 a1 b0 b1 hu hle
theorem rescale_bad (u s t:Int) (w:World) (hr:(z0u s&&z0u t)=false) :
  Calls Tryz.prog 57 #[dv u s,.int .i64 t] w fun e w'=>e=.returned (dBad 1)∧Grew w w':=by
 have S:=fun W=>div_bad u s 1 0 t W (by have h10:z0u 0=true:=rfl;rw [h10,Bool.and_true];exact hr)
 go_enter Tryz.func57,Tryz.ntmps57
 go_wp2_with (go_at_call 80;refine (S _).mono ?_;rintro e w' ⟨rfl,os,n,rfl⟩)
 refine bodyPost_ret_by (v:=dBad 1) ?_ rfl ⟨rfl,?_⟩
 ·simp [results,Tryz.results57,go_sem]
 ·exact gA
theorem rescale_good (u s t:Int) (w:World) (hP:Pw w) (hs:z0u s=true) (ht:z0u t=true) (a0:-9223372036854775808≤u) (a1:u≤9223372036854775807) :
  Calls Tryz.prog 57 #[dv u s,.int .i64 t] w fun e w'=>e=.returned (dres (dq u s 1 0 t) t)∧Grew w w':=by
 have S:∀ (W:World),Grew w W→_:=fun W (h:Grew w W)=>div_good u s 1 0 t W (hP.later h) hs rfl ht a0 a1 (by decide) (by decide) (by decide)
 clear hP hs ht a0 a1
 go_enter Tryz.func57,Tryz.ntmps57
 go_wp2_with (go_at_call 80;refine (S _ gA).mono ?_;rintro e w' ⟨rfl,os,n,rfl⟩)
 refine bodyPost_ret_by (v:=dres _ _) ?_ rfl ⟨rfl,?_⟩
 ·simp [results,Tryz.results57,go_sem]
 ·exact gA
end Go.Proofs.YtljkonkfeiojnaaGreatDoor
