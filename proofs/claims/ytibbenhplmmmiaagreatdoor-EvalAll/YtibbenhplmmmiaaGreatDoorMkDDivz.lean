/-
  AddInt and MulInt of the program: the exact sum or product, if that is an int.
  The contract of decimal.Sub: for every decimal.
  The contract of decimal.Add: for every decimal.
  The contract of decimal.Mul: for every two decimals.
  decimal.Div by 0.
-/
import Derived.Test.YtibbenhplmmmiaaGreatDoorDArith
import Derived.Test.YtibbenhplmmmiaaGreatDoorDDivs
set_option maxHeartbeats 2000000
set_option maxRecDepth 4000
namespace Go.Proofs.YtibbenhplmmmiaaGreatDoor
open Go.RowKit
attribute [local go_sem] z0e z0b z0c z0f z0m z0k z0h z0d z0g
abbrev ires (z:Int):Value:=.tuple #[.int .i64 (nz z),.int .i64 (nErr z)]
theorem addInt_any (a b:Int) (w:World) (a0:-9223372036854775808≤a) (a1:a≤9223372036854775807) (b0:-9223372036854775808≤b) (b1:b≤9223372036854775807) :
  Calls Tryz.prog 156 #[.int .i64 a,.int .i64 b] w fun e w'=>e=.returned (ires (a+b))∧Grew w w':=by
 have S:=fun W=>sum_any (decide (a<0)) (decide (b<0)) 0 a.natAbs 0 b.natAbs W (by omega) (by omega) (by omega) (by omega)
 rw [Nat.zero_mul,Nat.zero_add,Nat.zero_add,z3p,z3p] at S
 generalize a+b=z at *
 go_enter Tryz.func156,Tryz.ntmps156
 go_wp2_with fail
 refine (z4t a _ a0 a1).mono ?_
 rintro e w1 ⟨rfl,os1,n1,rfl⟩
 go_wp2_with fail
 refine (z4t b _ b0 b1).mono ?_
 rintro e w2 ⟨rfl,os2,n2,rfl⟩
 clear a0 a1 b0 b1
 go_wp2_with fail
 refine (S _).mono ?_
 rintro e w3 ⟨s,h,l,rfl,hv,hl,hh,os3,n3,rfl⟩
 have N:=fun W=>z6d s h l W hl
 rw [hv] at N
 clear S hv hl hh
 go_wp2_with fail
 refine (N _).mono ?_
 rintro e w4 ⟨rfl,os4,n4,rfl⟩
 go_wp2
 refine bodyPost_ret_by (v:=ires z) ?_ (by rfl) ⟨rfl,gA⟩
 simp [results,Tryz.results156,go_sem]
theorem mulInt_any (a b:Int) (w:World) (a0:-9223372036854775808≤a) (a1:a≤9223372036854775807) (b0:-9223372036854775808≤b) (b1:b≤9223372036854775807) :
  Calls Tryz.prog 158 #[.int .i64 a,.int .i64 b] w fun e w'=>e=.returned (ires (a*b))∧Grew w w':=by
 have S:=fun W=>z5f a b W a0 a1 b0 b1
 generalize a*b=z at *
 clear a0 a1 b0 b1
 go_enter Tryz.func158,Tryz.ntmps158
 go_wp2_with fail
 refine (S _).mono ?_
 rintro e w3 ⟨s,h,l,rfl,hv,hl,hh,os3,n3,rfl⟩
 have N:=fun W=>z6d s h l W hl
 rw [hv] at N
 clear S hv hl hh
 go_wp2_with fail
 refine (N _).mono ?_
 rintro e w4 ⟨rfl,os4,n4,rfl⟩
 go_wp2
 refine bodyPost_ret_by (v:=ires z) ?_ (by rfl) ⟨rfl,gA⟩
 simp [results,Tryz.results158,go_sem]
theorem sub_bad (ua sa ub sb:Int) (w:World) (hr:(z0s sa&&z0s sb)=false) :
  Calls Tryz.prog 164 #[dv ua sa,dv ub sb] w fun e w'=>e=.returned (dBad 1)∧Grew w w':=by
 have Ra:=fun W=>right_any ua sa W
 have Rb:=fun W=>right_any ub sb W
 cases ha:z0s sa
 ·rw [ha] at Ra
  clear Rb hr ha
  go_enter Tryz.func164,Tryz.ntmps164
  go_wp2_with (go_at_call 146;refine (Ra _).mono ?_;rintro e w' ⟨rfl,os,n,rfl⟩)
  refine bodyPost_ret_by (v:=.tuple #[dv 0 0,.int .i64 1]) ?_ rfl ⟨rfl,?_⟩
  ·simp [results,Tryz.results164,go_sem]
  ·exact gA
 ·rw [ha] at Ra hr
  have hb:z0s sb=false:=by simpa using hr
  rw [hb] at Rb
  clear hb hr ha
  go_enter Tryz.func164,Tryz.ntmps164
  go_wp2_with fail
  refine (Ra _).mono ?_
  rintro e w' ⟨rfl,os,n,rfl⟩
  go_wp2_with fail
  refine (Rb _).mono ?_
  rintro e w' ⟨rfl,os',n',rfl⟩
  go_wp2
  refine bodyPost_ret_by (v:=.tuple #[dv 0 0,.int .i64 1]) ?_ rfl ⟨rfl,?_⟩
  ·simp [results,Tryz.results164,go_sem]
  ·exact gA
theorem sub_good (ua sa ub sb t:Int) (w:World) (hP:Pw w) (ha:z0s sa=true) (hb:z0s sb=true) (ht:(t=sa∧sb≤sa)∨(t=sb∧sa<sb)) (a0:-9223372036854775808≤ua) (a1:ua≤9223372036854775807) (b0:-9223372036854775808≤ub) (b1:ub≤9223372036854775807) :
  Calls Tryz.prog 164 #[dv ua sa,dv ub sb] w fun e w'=>e=.returned (dres (at10 ua sa t - at10 ub sb t) t)∧Grew w w':=by
 have Ra:=fun W=>right_any ua sa W
 have Rb:=fun W=>right_any ub sb W
 rw [ha] at Ra
 rw [hb] at Rb
 rw [z0w] at ha hb
 have Sa:∀ (W:World),Grew w W→_:=fun W (h:Grew w W)=>z4r ua sa t W (hP.later h) a0 a1 (by omega) (by omega) (by omega)
 have Sb:∀ (W:World),Grew w W→_:=fun W (h:Grew w W)=>z4r ub sb t W (hP.later h) b0 b1 (by omega) (by omega) (by omega)
 have T:=fun b h l W (hl:l<18446744073709551616)=>z4u b h l t W hl
 rw [show ua*(10^(t - sa).toNat:Nat)=at10 ua sa t from rfl] at Sa
 rw [show ub*(10^(t - sb).toNat:Nat)=at10 ub sb t from rfl] at Sb
 clear hP a0 a1 b0 b1 ha hb
 rcases ht with ⟨rfl,h⟩|⟨rfl,h⟩
 all_goals
  go_enter Tryz.func164,Tryz.ntmps164
  go_wp2_with fail
  refine (Ra _).mono ?_
  rintro e w' ⟨rfl,os,n,rfl⟩
  go_wp2_with fail
  refine (Rb _).mono ?_
  rintro e w' ⟨rfl,os',n',rfl⟩
  go_wp2_with fail
  go_region_with (first
   | (go_at_call_of 227 (Value.int IntKind.i64 ua);refine (Sa _ gA).mono ?_;rintro e w1 ⟨c1,h1,l1,rfl,v1,kl1,kh1,os1,n1,rfl⟩)
   | (go_at_call_of 227 (Value.int IntKind.i64 ub);refine (Sb _ gA).mono ?_;rintro e w2 ⟨c2,h2,l2,rfl,v2,kl2,kh2,os2,n2,rfl⟩)
   | (go_at_call 228;refine (z7c c1 c2 h1 l1 h2 l2 _ kl1 kl2 kh1 kh2).mono ?_;rw [v1,v2];rintro e w3 ⟨c3,h3,l3,rfl,v3,kl3,kh3,os3,n3,rfl⟩)
   | (go_at_call 212;refine (T c3 h3 l3 _ kl3).mono ?_;rw [v3];rintro e w4 ⟨rfl,os4,n4,rfl⟩))
  all_goals go_wp2
  all_goals refine bodyPost_ret_by (v:=dres _ _) ?_ rfl ⟨rfl,?_⟩
  all_goals first
   | (simp [results,Tryz.results164,go_sem];done)
   | (repeat exact gA)
theorem add_good (ua sa ub sb t:Int) (w:World) (hP:Pw w) (ha:z0s sa=true) (hb:z0s sb=true) (ht:(t=sa∧sb≤sa)∨(t=sb∧sa<sb)) (a0:-9223372036854775808≤ua) (a1:ua≤9223372036854775807) (b0:-9223372036854775808≤ub) (b1:ub≤9223372036854775807) :
  Calls Tryz.prog 163 #[dv ua sa,dv ub sb] w fun e w'=>e=.returned (dres (at10 ua sa t+at10 ub sb t) t)∧Grew w w':=by
 have Ra:=fun W=>right_any ua sa W
 have Rb:=fun W=>right_any ub sb W
 rw [ha] at Ra
 rw [hb] at Rb
 rw [z0w] at ha hb
 have Sa:∀ (W:World),Grew w W→_:=fun W (h:Grew w W)=>z4r ua sa t W (hP.later h) a0 a1 (by omega) (by omega) (by omega)
 have Sb:∀ (W:World),Grew w W→_:=fun W (h:Grew w W)=>z4r ub sb t W (hP.later h) b0 b1 (by omega) (by omega) (by omega)
 have T:=fun b h l W (hl:l<18446744073709551616)=>z4u b h l t W hl
 rw [show ua*(10^(t - sa).toNat:Nat)=at10 ua sa t from rfl] at Sa
 rw [show ub*(10^(t - sb).toNat:Nat)=at10 ub sb t from rfl] at Sb
 clear hP a0 a1 b0 b1 ha hb
 rcases ht with ⟨rfl,h⟩|⟨rfl,h⟩
 all_goals
  go_enter Tryz.func163,Tryz.ntmps163
  go_wp2_with fail
  refine (Ra _).mono ?_
  rintro e w' ⟨rfl,os,n,rfl⟩
  go_wp2_with fail
  refine (Rb _).mono ?_
  rintro e w' ⟨rfl,os',n',rfl⟩
  go_wp2_with fail
  go_region_with (first
   | (go_at_call_of 227 (Value.int IntKind.i64 ua);refine (Sa _ gA).mono ?_;rintro e w1 ⟨c1,h1,l1,rfl,v1,kl1,kh1,os1,n1,rfl⟩)
   | (go_at_call_of 227 (Value.int IntKind.i64 ub);refine (Sb _ gA).mono ?_;rintro e w2 ⟨c2,h2,l2,rfl,v2,kl2,kh2,os2,n2,rfl⟩)
   | (go_at_call 223;refine (sum_any c1 c2 h1 l1 h2 l2 _ kl1 kl2 kh1 kh2).mono ?_;rw [v1,v2];rintro e w3 ⟨c3,h3,l3,rfl,v3,kl3,kh3,os3,n3,rfl⟩)
   | (go_at_call 212;refine (T c3 h3 l3 _ kl3).mono ?_;rw [v3];rintro e w4 ⟨rfl,os4,n4,rfl⟩))
  all_goals go_wp2
  all_goals refine bodyPost_ret_by (v:=dres _ _) ?_ rfl ⟨rfl,?_⟩
  all_goals first
   | (simp [results,Tryz.results163,go_sem];done)
   | (repeat exact gA)
theorem mul_good (ua sa ub sb t:Int) (k:Nat) (w:World) (hP:Pw w) (ha:z0s sa=true) (hb:z0s sb=true) (ht:(t=sa+sb∧sa+sb≤6)∨(t=6∧6<sa+sb)) (hk:sa+sb - t=(k:Int))
  (a0:-9223372036854775808≤ua) (a1:ua≤9223372036854775807) (b0:-9223372036854775808≤ub) (b1:ub≤9223372036854775807) :
  Calls Tryz.prog 165 #[dv ua sa,dv ub sb] w fun e w'=>e=.returned (dres (rq (ua*ub) (10^k:Nat)) t)∧Grew w w':=by
 have Ra:=fun W=>right_any ua sa W
 have Rb:=fun W=>right_any ub sb W
 rw [ha] at Ra
 rw [hb] at Rb
 rw [z0w] at ha hb
 obtain ⟨ex,hex⟩:∃ ex:Int,ex=sa+sb:=⟨_,rfl⟩
 have E1:IntKind.i64.wrap (sa+sb)=ex:=by rw [IntKind.wrap_i64];omega
 have E2:IntKind.i64.wrap (ex - t)=(k:Int):=by rw [IntKind.wrap_i64];omega
 have c:=hP k (by omega)
 have hpos:=hP.pos
 have hz2:0<w.heap.size:=by omega
 have d1:(k:Int)<13:=by omega
 have hpw:=pow10_bd k (by omega)
 generalize ((10^k:Nat):Int)=p at *
 have S1:=fun W=>z5f ua ub W a0 a1 b0 b1
 have S2:=fun W=>z4t p W (by omega) (by omega)
 have Hp0:Hid (p≠0):=(by omega:p≠0)
 have Hpb:Hid (p.natAbs<18446744073709551616):=(by omega:p.natAbs<18446744073709551616)
 have T:=fun b h l W (hl:l<18446744073709551616)=>z4u b h l t W hl
 have E3:min ex 6=t:=by omega
 clear hP a0 a1 b0 b1 ha hb hpw ht hk hex
 go_enter Tryz.func165,Tryz.ntmps165
 go_wp2_with fail
 refine (Ra _).mono ?_
 rintro e w' ⟨rfl,os,n,rfl⟩
 go_wp2_with fail
 refine (Rb _).mono ?_
 rintro e w' ⟨rfl,os',n',rfl⟩
 go_wp2_with fail
 go_region_held (fun W=>W.cell? ⟨w.heap.size,0,none⟩=some (.int .i64 ua)∧W.cell? ⟨w.heap.size+1,0,none⟩=some (.int .i64 ub)∧W.cell? ⟨2,k,none⟩=some (.int .i64 p)) (simp [go_sem,← more_snoc,hpos,hz2,c])
  ((first
   | (go_at_call 225;refine (S1 _).mono ?_;rintro e w1 ⟨c1,h1,l1,rfl,v1,kl1,kh1,os1,n1,rfl⟩)
   | (go_at_call 224;refine (S2 _).mono ?_;rintro e w2 ⟨rfl,os2,n2,rfl⟩)
   | (go_at_call 229;refine (z6c c1 (decide (p<0)) h1 l1 0 p.natAbs _ _ _ v1 (by rw [Nat.zero_mul,Nat.zero_add];exact z3p p) Hp0.out kl1 Hpb.out kh1 (.inl rfl)).mono ?_;rintro e w3 ⟨c3,h3,l3,rfl,v3,kl3,os3,n3,rfl⟩)))
 all_goals go_wp2_with (go_at_call 212;refine (T c3 h3 l3 _ kl3).mono ?_;rw [v3];rintro e w4 ⟨rfl,os4,n4,rfl⟩)
 all_goals refine bodyPost_ret_by (v:=dres _ _) ?_ rfl ⟨rfl,?_⟩
 all_goals first
  | (simp [results,Tryz.results165,go_sem];done)
  | (repeat exact gA)
theorem div_zero (ua sa sb s:Int) (w:World) (ha:z0s sa=true) (hb:z0s sb=true) (hs:z0s s=true) :
  Calls Tryz.prog 166 #[dv ua sa,dv 0 sb,.int .i64 s] w fun e w'=>e=.returned (dBad 33)∧Grew w w':=by
 have Ra:=fun W=>right_any ua sa W
 have Rb:=fun W=>right_any 0 sb W
 have Rs:=fun W=>z2y s W
 rw [ha] at Ra
 rw [hb] at Rb
 rw [hs] at Rs
 clear ha hb hs
 go_enter Tryz.func166,Tryz.ntmps166
 go_wp2_with fail
 refine (Ra _).mono ?_
 rintro e w' ⟨rfl,os,n,rfl⟩
 go_wp2_with fail
 refine (Rb _).mono ?_
 rintro e w' ⟨rfl,os',n',rfl⟩
 go_wp2_with (go_at_call 215;refine (Rs _).mono ?_;rintro e w' ⟨rfl,rfl⟩)
 refine bodyPost_ret_by (v:=dBad 33) ?_ rfl ⟨rfl,gA⟩
 simp [results,Tryz.results166,go_sem]
end Go.Proofs.YtibbenhplmmmiaaGreatDoor
