/-
  The document's wide numbers: sum, back.
  The document's wide numbers: back.
-/
import Derived.Test.YtibbenhplmmmiaaGreatDoorDRef2
import Derived.Test.YtibbenhplmmmiaaGreatDoorDRef3
import Derived.Test.YtibbenhplmmmiaaGreatDoorDRef1
set_option maxHeartbeats 4000000
set_option maxRecDepth 5000
namespace Go.Proofs.YtibbenhplmmmiaaGreatDoor
open Go.RowKit
attribute [local go_sem] z0e z0b z0c z0f z0m z0k z0h z0d z0g
theorem cellMA (l:List Obj) (o:Obj) (n i:Nat) (w:World) (h:n<w.heap.size):((more w l).alloc o).cell? ⟨n,i,none⟩=w.cell? ⟨n,i,none⟩ :=
 (World.cell?_alloc_past o n i (z0f h l)).trans (z0e l n i w h)
theorem frozenMA (l:List Obj) (o:Obj) (n i:Nat) (w:World) (h:n<w.heap.size):((more w l).alloc o).frozen? ⟨n,i,none⟩=w.frozen? ⟨n,i,none⟩ :=
 (World.frozen?_alloc_past o n i (z0f h l)).trans (z0b l n i w h)
theorem setMA (l:List Obj) (o:Obj) (n i:Nat) (v:Value) (w:World) (h:n<w.heap.size):((more w l).alloc o).setCell ⟨n,i,none⟩ v=(more (w.setCell ⟨n,i,none⟩ v) l).alloc o:=by
 rw [World.setCell_alloc_past o n i v (z0f h l),z0c l n i v w h]
attribute [local go_sem high] cellMA frozenMA setMA
theorem z6w (a0 a1 a2 a3 a4 a5 b0 b1 b2 b3 b4 b5:Nat) (sa sb:Bool) (w:World) (ha:Low6 a0 a1 a2 a3 a4 a5) (hb:Low6 b0 b1 b2 b3 b4 b5) (hf:val6 a0 a1 a2 a3 a4 a5+val6 b0 b1 b2 b3 b4 b5<6277101735386680763835789423207666416102355444464034512896) :
  Calls Tryz.prog 195 #[wv a0 a1 a2 a3 a4 a5 sa,wv b0 b1 b2 b3 b4 b5 sb] w fun e w'=>∃ (o0 o1 o2 o3 o4 o5:Nat) (s:Bool),e=.returned (wv o0 o1 o2 o3 o4 o5 s)∧Low6 o0 o1 o2 o3 o4 o5∧sval s (val6 o0 o1 o2 o3 o4 o5)=sval sa (val6 a0 a1 a2 a3 a4 a5)+sval sb (val6 b0 b1 b2 b3 b4 b5)∧Grew w w':=by
 have P:=fun W=>z7r a0 a1 a2 a3 a4 a5 b0 b1 b2 b3 b4 b5 sa sb W ha hb
 have L:=fun W=>y0a a0 a1 a2 a3 a4 a5 b0 b1 b2 b3 b4 b5 sa sb W ha hb
 have M1:=fun h W=>minus_any b0 b1 b2 b3 b4 b5 a0 a1 a2 a3 a4 a5 sb sa W hb ha h
 have M2:=fun h W=>minus_any a0 a1 a2 a3 a4 a5 b0 b1 b2 b3 b4 b5 sa sb W ha hb h
 obtain ⟨va,hva⟩:∃ v,v=val6 a0 a1 a2 a3 a4 a5:=⟨_,rfl⟩
 obtain ⟨vb,hvb⟩:∃ v,v=val6 b0 b1 b2 b3 b4 b5:=⟨_,rfl⟩
 rw [← hva,← hvb] at P L M1 M2 hf
 rw [← hva,← hvb]
 have HF:Hid (va+vb<6277101735386680763835789423207666416102355444464034512896):=hf
 clear hva hvb ha hb hf
 by_cases hs:sa=sb
 ·subst hs
  clear L M1 M2
  go_enter Tryz.func195,Tryz.ntmps195
  go_wp2_with (go_at_call 78;refine (P _).mono ?_;rintro e w' ⟨o0,o1,o2,o3,o4,o5,c,rfl,lo,hv,os,n,rfl⟩)
  refine bodyPost_ret_by (v:=wv o0 o1 o2 o3 o4 o5 sa) ?_ rfl ⟨o0,o1,o2,o3,o4,o5,sa,rfl,lo,?_,gA⟩
  ·simp [results,Tryz.results195,go_sem]
  ·have h1:=HF.out
   have h2:val6 o0 o1 o2 o3 o4 o5=va+vb:=by omega
   rw [h2]
   cases sa <;> simp [sval] <;> omega
 ·have hsb:(sa==sb)=false:=by simpa using hs
  clear P
  by_cases hlt:va<vb
  ·have hd:decide (va<vb)=true:=by simp [hlt]
   rw [hd] at L
   have M:=M1 (by omega)
   clear M1 M2 hd
   go_enter Tryz.func195,Tryz.ntmps195
   go_wp2_with (first
    | (go_at_call 246;refine (L _).mono ?_;rintro e w' ⟨rfl,os1,n1,rfl⟩)
    | (go_at_call 256;refine (M _).mono ?_;rintro e w' ⟨o0,o1,o2,o3,o4,o5,rfl,lo,hv,os,n,rfl⟩))
   refine bodyPost_ret_by (v:=wv o0 o1 o2 o3 o4 o5 sb) ?_ rfl ⟨o0,o1,o2,o3,o4,o5,sb,rfl,lo,?_,gA⟩
   ·simp [results,Tryz.results195,go_sem]
   ·rw [hv]
    cases sa <;> cases sb <;> simp [sval] at hs ⊢ <;> omega
  ·have hd:decide (va<vb)=false:=by simp;omega
   rw [hd] at L
   have M:=M2 (by omega)
   clear M1 M2 hd
   go_enter Tryz.func195,Tryz.ntmps195
   go_wp2_with (first
    | (go_at_call 246;refine (L _).mono ?_;rintro e w' ⟨rfl,os1,n1,rfl⟩)
    | (go_at_call 256;refine (M _).mono ?_;rintro e w' ⟨o0,o1,o2,o3,o4,o5,rfl,lo,hv,os,n,rfl⟩))
   refine bodyPost_ret_by (v:=wv o0 o1 o2 o3 o4 o5 sa) ?_ rfl ⟨o0,o1,o2,o3,o4,o5,sa,rfl,lo,?_,gA⟩
   ·simp [results,Tryz.results195,go_sem]
   ·rw [hv]
    cases sa <;> cases sb <;> simp [sval] at hs ⊢ <;> omega
end Go.Proofs.YtibbenhplmmmiaaGreatDoor

namespace Go.Proofs.YtibbenhplmmmiaaGreatDoor
open Go.RowKit
theorem z9z (s:Bool) (v:Nat) (h:18446744073709551616≤v):nz (sval s v)=0∧(∀ t,fs (sval s v) t=0)∧nErr (sval s v)=32:=by
 have hf:fits (sval s v)=false:=by rw [Bool.eq_false_iff];intro h2;have:=(z4k _).1 h2;cases s <;> simp [sval] at this <;> omega
 simp [nz,fs,nErr,hf]
theorem z2q (a0 a1 a2 a3 a4 a5:Nat) (s:Bool) (t:Int) (w:World) (ha:Low6 a0 a1 a2 a3 a4 a5) :
  Calls Tryz.prog 82 #[wv a0 a1 a2 a3 a4 a5 s,.int .i64 t] w fun e w'=>e=.returned (dres (sval s (val6 a0 a1 a2 a3 a4 a5)) t)∧Grew w w':=by
 have HA:Hid (Low6 a0 a1 a2 a3 a4 a5):=ha
 clear ha
 by_cases h2:a2=0
 ·subst h2
  by_cases h3:a3=0
  ·subst h3
   by_cases h4:a4=0
   ·subst h4
    by_cases h5:a5=0
    ·subst h5
     obtain ⟨l0,l1,_⟩:=HA.out
     have e1:val6 a0 a1 0 0 0 0=a1*4294967296+a0:=by unfold val6;omega
     obtain ⟨u,m,x1,x2,x3,lu⟩:∃ u m:Nat,u=a1*4294967296+a0∧IntKind.u64.wrap ((a1:Int)*4294967296)=(m:Int)∧IntKind.u64.wrap ((m:Int)+(a0:Int))=(u:Int)∧u<18446744073709551616 :=
      ⟨a1*4294967296+a0,a1*4294967296,rfl,by rw [IntKind.wrap_u64];omega,by rw [IntKind.wrap_u64];omega,by omega⟩
     rw [e1,← x1]
     have HU:Hid (u<18446744073709551616):=lu
     clear e1 x1 l0 l1 HA lu
     cases s
     ·by_cases hb:9223372036854775808≤u
      ·have hbi:(9223372036854775808:Int)≤(u:Int):=by omega
       have hz:nz (sval false u)=0∧fs (sval false u) t=0∧nErr (sval false u)=32:=by
        have hf:fits (sval false u)=false:=by rw [Bool.eq_false_iff];intro h;have:=(z4k _).1 h;simp [sval] at this;omega
        simp [nz,fs,nErr,hf]
       rw [dres,hz.1,hz.2.1,hz.2.2]
       clear hz hb
       go_enter Tryz.func82,Tryz.ntmps82
       go_wp2_with fail
       refine wp_loop_rounds 5 ?_
       rw [rounds_succ]
       go_wp2_with fail
       rw [rounds_succ]
       go_wp2_with fail
       rw [rounds_succ]
       go_wp2_with fail
       rw [rounds_succ]
       go_wp2_with fail
       rw [rounds_succ]
       go_wp2_with fail
       refine bodyPost_ret_by (v:=dBad 32) ?_ rfl ⟨rfl,gA⟩
       simp [results,Tryz.results82,go_sem]
      ·have hbi:(u:Int)<(9223372036854775808:Int):=by omega
       have hz:nz (sval false u)=u∧fs (sval false u) t=t∧nErr (sval false u)=0:=by
        have hf:fits (sval false u)=true:=(z4k _).2 (by simp [sval];omega)
        simp [nz,fs,nErr,hf];rfl
       have ew:IntKind.i64.wrap (u:Int)=(u:Int):=by rw [IntKind.wrap_i64];omega
       rw [dres,hz.1,hz.2.1,hz.2.2]
       clear hz hb HU
       generalize (u:Int)=U at *
       go_enter Tryz.func82,Tryz.ntmps82
       go_wp2_with fail
       refine wp_loop_rounds 5 ?_
       rw [rounds_succ]
       go_wp2_with fail
       rw [rounds_succ]
       go_wp2_with fail
       rw [rounds_succ]
       go_wp2_with fail
       rw [rounds_succ]
       go_wp2_with fail
       rw [rounds_succ]
       go_wp2_with fail
       refine bodyPost_ret_by (v:=.tuple #[dv U t,.int .i64 0]) ?_ (by rfl) ⟨by rfl,gA⟩
       simp [results,Tryz.results82,go_sem]
     ·by_cases hb:u≤9223372036854775808
      ·have hbi:(u:Int)≤(9223372036854775808:Int):=by omega
       have hz:nz (sval true u)=-(u:Int)∧fs (sval true u) t=t∧nErr (sval true u)=0:=by
        have hf:fits (sval true u)=true:=(z4k _).2 (by simp [sval];omega)
        simp [nz,fs,nErr,hf];rfl
       have ew:IntKind.i64.wrap (IntKind.u64.wrap (-(u:Int)))=-(u:Int):=by rw [IntKind.wrap_u64,IntKind.wrap_i64];omega
       rw [dres,hz.1,hz.2.1,hz.2.2]
       clear hz hb
       go_enter Tryz.func82,Tryz.ntmps82
       go_wp2_with fail
       refine wp_loop_rounds 5 ?_
       rw [rounds_succ]
       go_wp2_with fail
       rw [rounds_succ]
       go_wp2_with fail
       rw [rounds_succ]
       go_wp2_with fail
       rw [rounds_succ]
       go_wp2_with fail
       rw [rounds_succ]
       go_wp2_with fail
       refine bodyPost_ret_by (v:=.tuple #[dv (-(u:Int)) t,.int .i64 0]) ?_ rfl ⟨rfl,gA⟩
       simp [results,Tryz.results82,go_sem]
      ·have hbi:¬ (u:Int)≤(9223372036854775808:Int):=by omega
       have hbj:(9223372036854775808:Int)≤(u:Int):=by omega
       have hz:nz (sval true u)=0∧fs (sval true u) t=0∧nErr (sval true u)=32:=by
        have hf:fits (sval true u)=false:=by rw [Bool.eq_false_iff];intro h;have:=(z4k _).1 h;simp [sval] at this;omega
        simp [nz,fs,nErr,hf]
       rw [dres,hz.1,hz.2.1,hz.2.2]
       clear hz hb
       go_enter Tryz.func82,Tryz.ntmps82
       go_wp2_with fail
       refine wp_loop_rounds 5 ?_
       rw [rounds_succ]
       go_wp2_with fail
       rw [rounds_succ]
       go_wp2_with fail
       rw [rounds_succ]
       go_wp2_with fail
       rw [rounds_succ]
       go_wp2_with fail
       rw [rounds_succ]
       go_wp2_with fail
       refine bodyPost_ret_by (v:=dBad 32) ?_ rfl ⟨rfl,gA⟩
       simp [results,Tryz.results82,go_sem]
    ·have HV:Hid (18446744073709551616≤val6 a0 a1 0 0 0 a5):=(show 18446744073709551616≤val6 a0 a1 0 0 0 a5 by unfold val6;omega)
     have hi:¬ (a5:Int)=0:=by omega
     obtain ⟨va,hva⟩:∃ v,v=val6 a0 a1 0 0 0 a5:=⟨_,rfl⟩
     rw [← hva] at HV ⊢
     clear hva
     have hz:=z9z s va HV.out
     rw [dres,hz.1,hz.2.1,hz.2.2]
     go_enter Tryz.func82,Tryz.ntmps82
     go_wp2_with fail
     refine wp_loop_rounds 5 ?_
     rw [rounds_succ]
     go_wp2_with fail
     rw [rounds_succ]
     go_wp2_with fail
     rw [rounds_succ]
     go_wp2_with fail
     rw [rounds_succ]
     go_wp2_with fail
     refine bodyPost_ret_by (v:=dBad 32) ?_ rfl ⟨rfl,gA⟩
     simp [results,Tryz.results82,go_sem]
   ·have HV:Hid (18446744073709551616≤val6 a0 a1 0 0 a4 a5):=(show 18446744073709551616≤val6 a0 a1 0 0 a4 a5 by unfold val6;omega)
    have hi:¬ (a4:Int)=0:=by omega
    obtain ⟨va,hva⟩:∃ v,v=val6 a0 a1 0 0 a4 a5:=⟨_,rfl⟩
    rw [← hva] at HV ⊢
    clear hva
    have hz:=z9z s va HV.out
    rw [dres,hz.1,hz.2.1,hz.2.2]
    go_enter Tryz.func82,Tryz.ntmps82
    go_wp2_with fail
    refine wp_loop_rounds 5 ?_
    rw [rounds_succ]
    go_wp2_with fail
    rw [rounds_succ]
    go_wp2_with fail
    rw [rounds_succ]
    go_wp2_with fail
    refine bodyPost_ret_by (v:=dBad 32) ?_ rfl ⟨rfl,gA⟩
    simp [results,Tryz.results82,go_sem]
  ·have HV:Hid (18446744073709551616≤val6 a0 a1 0 a3 a4 a5):=(show 18446744073709551616≤val6 a0 a1 0 a3 a4 a5 by unfold val6;omega)
   have hi:¬ (a3:Int)=0:=by omega
   obtain ⟨va,hva⟩:∃ v,v=val6 a0 a1 0 a3 a4 a5:=⟨_,rfl⟩
   rw [← hva] at HV ⊢
   clear hva
   have hz:=z9z s va HV.out
   rw [dres,hz.1,hz.2.1,hz.2.2]
   go_enter Tryz.func82,Tryz.ntmps82
   go_wp2_with fail
   refine wp_loop_rounds 5 ?_
   rw [rounds_succ]
   go_wp2_with fail
   rw [rounds_succ]
   go_wp2_with fail
   refine bodyPost_ret_by (v:=dBad 32) ?_ rfl ⟨rfl,gA⟩
   simp [results,Tryz.results82,go_sem]
 ·have HV:Hid (18446744073709551616≤val6 a0 a1 a2 a3 a4 a5):=(show 18446744073709551616≤val6 a0 a1 a2 a3 a4 a5 by unfold val6;omega)
  have hi:¬ (a2:Int)=0:=by omega
  obtain ⟨va,hva⟩:∃ v,v=val6 a0 a1 a2 a3 a4 a5:=⟨_,rfl⟩
  rw [← hva] at HV ⊢
  clear hva
  have hz:=z9z s va HV.out
  rw [dres,hz.1,hz.2.1,hz.2.2]
  go_enter Tryz.func82,Tryz.ntmps82
  go_wp2_with fail
  refine wp_loop_rounds 5 ?_
  rw [rounds_succ]
  go_wp2_with fail
  refine bodyPost_ret_by (v:=dBad 32) ?_ rfl ⟨rfl,gA⟩
  simp [results,Tryz.results82,go_sem]
end Go.Proofs.YtibbenhplmmmiaaGreatDoor
