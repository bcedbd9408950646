/-
  The contract of decimal.quotient: a wide number by another, rounded to the nearest, of two as near to the even one.
-/
import Derived.Test.YtljkonkfeiojnaaGreatDoorDArith
import Derived.Test.YtljkonkfeiojnaaGreatDoorDDiv
set_option maxHeartbeats 4000000
namespace Go.Proofs.YtljkonkfeiojnaaGreatDoor
open Go.RowKit
attribute [local go_sem] z0f z0b z0c z0e z0m z0k z0h z0d z0g
theorem quo_high (b1 b2:Bool) (h1 l1 h2 l2:Nat) (w:World) (hh:0<h2) :
  Calls Tryz.prog 107 #[wd b1 h1 l1,wd b2 h2 l2] w fun e w'=>e=.returned (wd false 0 0)∧Grew w w':=by
 have c:(0:Int)<(h2:Int):=by omega
 go_enter Tryz.func107,Tryz.ntmps107
 go_wp2
 refine bodyPost_ret_by (v:=wd false 0 0) ?_ rfl ⟨rfl,?_⟩
 ·simp [results,Tryz.results107,go_sem]
 ·exact gA
theorem quo_split (h l D:Nat) (hD:0<D):(h*18446744073709551616+l) / D=h / D*18446744073709551616+(h%D*18446744073709551616+l) / D∧(h*18446744073709551616+l)%D=(h%D*18446744073709551616+l)%D:=by
 have e:=Nat.div_add_mod h D
 have hN:h*18446744073709551616+l=D*(h / D*18446744073709551616)+(h%D*18446744073709551616+l):=by
  rw [← Nat.mul_assoc]
  generalize D*(h / D)=A at *
  omega
 rw [hN,Nat.mul_add_div hD,Nat.mul_add_mod]
 exact ⟨rfl,rfl⟩
theorem quo_word (h l D:Nat) (hD:0<D) (hl:l<18446744073709551616):(h%D*18446744073709551616+l) / D<18446744073709551616:=by
 have:=Nat.mod_lt h hD
 rw [Nat.div_lt_iff_lt_mul hD]
 omega
theorem rnd_of (n d q r:Nat) (hq:n / d=q) (hr:n%d=r):rnd n d=if d<2*r∨(2*r=d∧q%2=1) then q+1 else q:=by
 subst hq;subst hr;rfl
theorem quo_names (h l D:Nat) (hD:0<D) (hD2:D<18446744073709551616) (hl:l<18446744073709551616) (hh:h<9223372036854775808) :
  ∃ hd hm lo rs:Nat,IntKind.u64.wrap ((h:Int) / (D:Int))=(hd:Int)∧(h:Int)%(D:Int)=(hm:Int)∧lo<18446744073709551616∧hd<9223372036854775808∧rs<D ∧
   (∀ W,Calls Tryz.prog 141 #[.int .u64 (hm:Int),.int .u64 (l:Int),.int .u64 (D:Int)] W fun e w'=>e=.returned (.tuple #[.int .u64 (lo:Int),.int .u64 (rs:Int)])∧Grew W w') ∧
   rnd (h*18446744073709551616+l) D=if D<2*rs∨(2*rs=D∧(hd*18446744073709551616+lo)%2=1) then hd*18446744073709551616+lo+1 else hd*18446744073709551616+lo:=by
 obtain ⟨q1,q2⟩:=quo_split h l D hD
 have q4:h / D≤h:=Nat.div_le_self _ _
 refine ⟨h / D,h%D,_,_,?_,by simp,quo_word h l D hD hl,by omega,Nat.mod_lt _ hD,fun W=>div64_any (h%D) l D W (Nat.mod_lt h hD) hl hD2,rnd_of _ _ _ _ q1 q2⟩
 rw [← Int.natCast_ediv,IntKind.wrap_u64]
 generalize h / D=m at q4 ⊢
 omega
theorem quo_low (b1 b2:Bool) (h l D:Nat) (w:World) (hD:0<D) (hD2:D<18446744073709551616) (hl:l<18446744073709551616) (hh:h<9223372036854775808) :
  Calls Tryz.prog 107 #[wd b1 h l,wd b2 0 D] w fun e w'=>∃ h' l':Nat,e=.returned (wd (!(b1==b2)) h' l')∧h'*18446744073709551616+l'=rnd (h*18446744073709551616+l) D∧l'<18446744073709551616∧Grew w w':=by
 have e0:¬ (D:Int)=0:=by omega
 obtain ⟨hd,hm,lo,rs,x0,x1,q3,q4,q6,S,hrnd⟩:=quo_names h l D hD hD2 hl hh
 rw [hrnd]
 have x2:IntKind.u64.wrap ((D:Int) - (rs:Int))=((D - rs:Nat):Int):=by rw [IntKind.wrap_u64];omega
 have x3:IntKind.u64.wrap (hd:Int)=(hd:Int):=by rw [IntKind.wrap_u64];omega
 have x4:(lo:Int)%2=((lo%2:Nat):Int):=by simp
 obtain ⟨gp,hgp⟩:∃ gp,gp=D - rs:=⟨_,rfl⟩
 rw [← hgp] at x2
 obtain ⟨L2,C2,H2,A0,y3,y4⟩:∃ L2 C2 H2:Nat,(∀ W,(callFunc 142 #[.int .u64 (lo:Int),.int .u64 1,.int .u64 0]).run Tryz.prog W=.ok (.value (.tuple #[.int .u64 (L2:Int),.int .u64 (C2:Int)])) W) ∧
   IntKind.u64.wrap ((hd:Int)+(C2:Int))=(H2:Int)∧(H2*18446744073709551616+L2=hd*18446744073709551616+lo+1∧L2<18446744073709551616):=by
  refine ⟨(lo+1)%18446744073709551616,(lo+1) / 18446744073709551616,hd+(lo+1) / 18446744073709551616,?_,?_,?_⟩
  ·intro W
   rw [add64_0 (lo:Int) 1 (by omega) (by omega)]
   congr 5
  ·rw [IntKind.wrap_u64];omega
  ·omega
 have Hy4:Hid (H2*18446744073709551616+L2=hd*18446744073709551616+lo+1∧L2<18446744073709551616):=y4
 have Hlo:Hid (lo<18446744073709551616):=q3
 have key:(gp<rs)∨(rs=gp∧lo%2=1)∨(rs=gp∧lo%2=0)∨(rs<gp):=by omega
 have hup:Hid ((D<2*rs∨2*rs=D∧(hd*18446744073709551616+lo)%2=1)↔((gp<rs)∨(rs=gp∧lo%2=1))):=(by omega:_↔_)
 clear y4 q3 q4 q6 hD hD2 hl hh hgp hrnd
 rcases key with k|⟨rfl,k⟩|⟨rfl,k⟩|k
 ·refine Calls.mono (R:=fun e w'=>e=.returned (wd (!(b1==b2)) H2 L2)∧Grew w w') ?_ fun e w' hp=>⟨H2,L2,hp.1,by rw [if_pos (hup.out.2 (.inl k))];exact Hy4.out.1,Hy4.out.2,hp.2⟩
  go_enter Tryz.func107,Tryz.ntmps107
  go_wp2_with fail
  go_region_held (fun W=>W.cell? ⟨w.heap.size,1,none⟩=some (.int .u64 (h:Int))∧W.cell? ⟨w.heap.size,2,none⟩=some (.int .u64 (l:Int))∧W.cell? ⟨w.heap.size+1,2,none⟩=some (.int .u64 (D:Int))) (simp [go_sem])
   ((go_at_call 141;refine (S _).mono ?_;rintro e w' ⟨rfl,os,n,rfl⟩))
  all_goals go_wp2_with (simp only [A0])
  all_goals refine bodyPost_ret_by (v:=wd (!(b1==b2)) H2 L2) ?_ rfl ⟨rfl,?_⟩
  all_goals first
   | (simp [results,Tryz.results107,go_sem];done)
   | (repeat exact gA)
 ·refine Calls.mono (R:=fun e w'=>e=.returned (wd (!(b1==b2)) H2 L2)∧Grew w w') ?_ fun e w' hp=>⟨H2,L2,hp.1,by rw [if_pos (hup.out.2 (.inr ⟨rfl,k⟩))];exact Hy4.out.1,Hy4.out.2,hp.2⟩
  rw [k] at x4
  go_enter Tryz.func107,Tryz.ntmps107
  go_wp2_with fail
  go_region_held (fun W=>W.cell? ⟨w.heap.size,1,none⟩=some (.int .u64 (h:Int))∧W.cell? ⟨w.heap.size,2,none⟩=some (.int .u64 (l:Int))∧W.cell? ⟨w.heap.size+1,2,none⟩=some (.int .u64 (D:Int))) (simp [go_sem])
   ((go_at_call 141;refine (S _).mono ?_;rintro e w' ⟨rfl,os,n,rfl⟩))
  all_goals go_wp2_with (simp only [A0])
  all_goals refine bodyPost_ret_by (v:=wd (!(b1==b2)) H2 L2) ?_ rfl ⟨rfl,?_⟩
  all_goals first
   | (simp [results,Tryz.results107,go_sem];done)
   | (repeat exact gA)
 ·refine Calls.mono (R:=fun e w'=>e=.returned (wd (!(b1==b2)) hd lo)∧Grew w w') ?_ fun e w' hp=>⟨hd,lo,hp.1,by rw [if_neg (fun hc=>by have:=hup.out.1 hc;omega)],Hlo.out,hp.2⟩
  rw [k] at x4
  go_enter Tryz.func107,Tryz.ntmps107
  go_wp2_with fail
  go_region_held (fun W=>W.cell? ⟨w.heap.size,1,none⟩=some (.int .u64 (h:Int))∧W.cell? ⟨w.heap.size,2,none⟩=some (.int .u64 (l:Int))∧W.cell? ⟨w.heap.size+1,2,none⟩=some (.int .u64 (D:Int))) (simp [go_sem])
   ((go_at_call 141;refine (S _).mono ?_;rintro e w' ⟨rfl,os,n,rfl⟩))
  all_goals go_wp2
  all_goals refine bodyPost_ret_by (v:=wd (!(b1==b2)) hd lo) ?_ rfl ⟨rfl,?_⟩
  all_goals first
   | (simp [results,Tryz.results107,go_sem];done)
   | (repeat exact gA)
 ·refine Calls.mono (R:=fun e w'=>e=.returned (wd (!(b1==b2)) hd lo)∧Grew w w') ?_ fun e w' hp=>⟨hd,lo,hp.1,by rw [if_neg (fun hc=>by have:=hup.out.1 hc;omega)],Hlo.out,hp.2⟩
  go_enter Tryz.func107,Tryz.ntmps107
  go_wp2_with fail
  go_region_held (fun W=>W.cell? ⟨w.heap.size,1,none⟩=some (.int .u64 (h:Int))∧W.cell? ⟨w.heap.size,2,none⟩=some (.int .u64 (l:Int))∧W.cell? ⟨w.heap.size+1,2,none⟩=some (.int .u64 (D:Int))) (simp [go_sem])
   ((go_at_call 141;refine (S _).mono ?_;rintro e w' ⟨rfl,os,n,rfl⟩))
  all_goals go_wp2
  all_goals refine bodyPost_ret_by (v:=wd (!(b1==b2)) hd lo) ?_ rfl ⟨rfl,?_⟩
  all_goals first
   | (simp [results,Tryz.results107,go_sem];done)
   | (repeat exact gA)
end Go.Proofs.YtljkonkfeiojnaaGreatDoor
