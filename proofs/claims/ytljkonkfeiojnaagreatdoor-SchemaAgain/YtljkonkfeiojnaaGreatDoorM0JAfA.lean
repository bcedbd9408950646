/-
  The contract of longstoplaw08.knows.
  A row that was made to fit fits as it is.
  The walk of SchemaAgain.
  SchemaAgain: the row's frame.
-/
import Derived.Test.YtljkonkfeiojnaaGreatDoorMZJKn2
import Derived.Test.YtljkonkfeiojnaaGreatDoorMWJFitM
import Derived.BigRegion
import Derived.Test.YtljkonkfeiojnaaGreatDoorMBVKeyB
import Derived.Test.YtljkonkfeiojnaaGreatDoorMKJAfB
import Derived.ChangeMaps5
import Derived.SizedLaws
import Derived.Carry
set_option maxHeartbeats 8000000
set_option maxRecDepth 100000
namespace Go.Proofs.YtljkonkfeiojnaaGreatDoor
open Go.RowKit Go.Shelf
attribute [local go_sem] z0f z0b z0c z0e z0m z0k z0h z0d z0g
abbrev RW1:List Va:=[⟨1,1,0,[]⟩,⟨1,3,0,[]⟩]
abbrev RW2:List Va:=[⟨1,1,0,[]⟩,⟨0,0,0,[]⟩]
theorem tbP_TK:tbP TK:=by
 have:decide (tbP TK)=true:=by kernel_rfl
 exact of_decide_eq_true this
theorem fit_RW1:fitR TK RW1=([⟨1,1,0,[]⟩,⟨2,300,2,[]⟩],0):=by kernel_rfl
theorem z8h:fitR TK RW2=(RW2,0):=by kernel_rfl
theorem vin_TK:∀ x∈TK.ck,vin x.v:=by
 intro x hx
 simp at hx
 rcases hx with rfl|rfl|rfl <;> exact ⟨⟨by decide,by decide⟩,by decide,by decide⟩
theorem vin_RW1:∀ v∈RW1,vin v:=by
 intro x hx
 simp at hx
 rcases hx with rfl|rfl <;> exact ⟨⟨by decide,by decide⟩,by decide,by decide⟩
theorem vin_RW2:∀ v∈RW2,vin v:=by
 intro x hx
 simp at hx
 rcases hx with rfl|rfl <;> exact ⟨⟨by decide,by decide⟩,by decide,by decide⟩
theorem vr_RW2:∀ v∈RW2,vr v=true:=by
 intro x hx
 simp at hx
 rcases hx with rfl|rfl <;> decide +kernel
theorem pv_300:pv ⟨2,300,2,[]⟩=[51,46,48,48]:=by
 have hPR:PR [51,46,48,48]=some (false,300,2):=by decide +kernel
 have hb:=(PR_back [51,46,48,48] false 300 2 hPR (by decide +kernel)).2
 have hvr:vr ⟨2,300,2,[]⟩=true:=by decide +kernel
 unfold pv
 rw [if_pos hvr]
 show z2z 300 (2:Int).toNat++(if (2:Int)=0 then [46] else [])=_
 rw [show (2:Int).toNat=2 from rfl,if_neg (by decide),List.append_nil]
 exact hb
theorem vs2 {w:World} {g:Nat} {a b:Va} (h:Cbox w g #[.int .i64 a.k,.int .i64 a.n,.int .i64 a.m,.string ⟨a.b.toArray⟩,.int .i64 b.k,.int .i64 b.n,.int .i64 b.m,.string ⟨b.b.toArray⟩] 44):Vs w (some ⟨g,0,none⟩) [a,b]:=fun _=>⟨g,0,rfl,fun i hi=>by
 match i,hi with
 | 0,_=>exact ⟨h.at 0,h.at 1,h.at 2,h.at 3⟩
 | 1,_=>exact ⟨h.at 4,h.at 5,h.at 6,h.at 7⟩⟩
theorem lnum8_any (n:Int) (w:World):Calls Tryz.prog 8 #[.int .i64 n] w fun e w'=>e=.returned (.int .i64 n)∧w=w':=by
 go_enter Tryz.func8,Tryz.ntmps8
 go_wp2
 go_ret
 exact ⟨rfl,rfl⟩
theorem knows8_any (w:World) (hT:Tabs w) (hP:Ptab w) (hS:Sg w) (hPw:Pw w) :
  Calls Tryz.prog 4 #[] w fun e w'=>e=.returned (.bool true)∧Below w.heap.size w w':=by
 have hPl:∀ W,Below w.heap.size w W→Pw W:=fun W h k hk=>by rw [h.cell (p:=⟨2,k,none⟩) hPw.pos];exact hPw k hk
 have NU:=lnum8_any
 have TA:∀ W,Below w.heap.size w W→Calls Tryz.prog 10 #[] W fun e w'=>(∃ tv,e=.returned tv∧Hid (∃ q:Tp,tv=.agg (tbcs TK q)∧TbW w' TK q))∧Below W.heap.size W w':=fun W h=>by
  refine (table_any W (hT.later h) (hP.later h) (hS.later h)).mono ?_
  rintro e w' ⟨⟨q,rfl,h2⟩,b⟩
  exact ⟨⟨_,rfl,⟨q,rfl,h2⟩⟩,b⟩
 have FI:∀ W tv g,Below w.heap.size w W→(∃ q:Tp,tv=.agg (tbcs TK q)∧TbW W TK q)→Vs W (some ⟨g,0,none⟩) RW1→Calls Tryz.prog 6 #[tv,.slice (some ⟨g,0,none⟩) 2 2] W fun e w'=>(∃ ao cap,e=.returned (.tuple #[.slice ao 2 cap,.int .i64 0])∧Vs w' ao [⟨1,1,0,[]⟩,⟨2,300,2,[]⟩])∧Below W.heap.size W w':=fun W tv g h hq hv=>by
  obtain ⟨q,rfl,hW⟩:=hq
  refine (fit_any TK q (some ⟨g,0,none⟩) 2 RW1 W hW (hT.later h) (hPl W h) hv vin_TK vin_RW1 (by simp)).mono ?_
  rintro e w' ⟨h2,b⟩
  rw [fit_RW1] at h2
  obtain ⟨ao,cap,rfl,hV,_⟩:=h2
  exact ⟨⟨ao,cap,rfl,hV⟩,b⟩
 obtain ⟨KB,hKB⟩:∃ KB:ByteArray,KB=⟨(keyL RW2 TK.key).toArray⟩:=⟨_,rfl⟩
 have hKe:KB.toList.isEmpty=false:=by rw [hKB,ByteArray.toList_eq];kernel_rfl
 have KE:∀ W tv g,Below w.heap.size w W→(∃ q:Tp,tv=.agg (tbcs TK q)∧TbW W TK q)→Vs W (some ⟨g,0,none⟩) RW2→Calls Tryz.prog 11 #[tv,.slice (some ⟨g,0,none⟩) 2 2] W fun e w'=>(∃ g2,e=.returned (.tuple #[.slice (some ⟨g2,0,none⟩) 1 1,.int .i64 0])∧w'.cell? ⟨g2,0,none⟩=some (.string KB))∧Below W.heap.size W w':=fun W tv g h hq hv=>by
  obtain ⟨q,rfl,hW⟩:=hq
  have:=keys0_any TK q (some ⟨g,0,none⟩) 2 RW2 W hW (hT.later h) (hPl W h) hv vin_TK vin_RW2 (by simp) (by rw [z8h]) rfl (by rw [z8h];simp) (by rw [z8h];intro p hp;simp at hp;subst hp;simp) (by simp) (by rw [z8h];exact vr_RW2) (by rw [z8h];exact vin_RW2)
  rw [z8h] at this
  rw [hKB]
  exact this
 have PR3:∀ W,Below w.heap.size w W→Calls Tryz.prog 12 #[va 2 300 2 ⟨#[]⟩] W fun e w'=>e=.returned (.string ⟨#[51,46,48,48]⟩)∧Below W.heap.size W w':=fun W h=>by
  have:=vprint_any ⟨2,300,2,[]⟩ W (hT.later h) (hP.later h) (.inr (.inl rfl)) ⟨by decide,by decide⟩
  rw [pv_300] at this
  exact this
 have RI:∀ W tv,Below w.heap.size w W→(∃ q:Tp,tv=.agg (tbcs TK q)∧TbW W TK q)→Calls Tryz.prog 13 #[tv] W fun e w'=>e=.returned (.bool true)∧Below W.heap.size W w':=fun W tv h hq=>by
  obtain ⟨q,rfl,hW⟩:=hq
  have:=z8s TK q W hW (hT.later h)
  rwa [decide_eq_true tbP_TK] at this
 clear hT hP hS hPw hPl hKB
 go_enter Tryz.func4,Tryz.ntmps4
 go_wp2_with fail
 refine (TA _ (Below.refl _ _)).mono ?_
 rintro e w1 ⟨⟨tv1,rfl,q1⟩,b1⟩
 have u1:Below w1.heap.size w1 (w1.alloc (.cells #[.int .i64 1,.int .i64 1,.int .i64 0,.string ⟨#[]⟩,.int .i64 1,.int .i64 3,.int .i64 0,.string ⟨#[]⟩] 44)):=(Below.refl _ _).alloc (Nat.le_refl _) _
 have c1:Cbox (w1.alloc (.cells #[.int .i64 1,.int .i64 1,.int .i64 0,.string ⟨#[]⟩,.int .i64 1,.int .i64 3,.int .i64 0,.string ⟨#[]⟩] 44)) w1.heap.size #[.int .i64 1,.int .i64 1,.int .i64 0,.string ⟨#[]⟩,.int .i64 1,.int .i64 3,.int .i64 0,.string ⟨#[]⟩] 44:=Cbox.new w1 _ _
 have B1:=z0a b1 u1
 have F1:=FI _ tv1 w1.heap.size B1 (by obtain ⟨q,h1,h2⟩:=q1.out;exact ⟨q,h1,h2.later u1⟩) (vs2 (a:=⟨1,1,0,[]⟩) (b:=⟨1,3,0,[]⟩) c1)
 clear FI c1 u1 q1
 go_wp2_with fail
 refine F1.mono ?_
 rintro e w2 ⟨⟨ao,cap,rfl,hV⟩,b2⟩
 have B2:=z0a B1 b2
 obtain ⟨mb,mo,rfl,hc⟩:=hV (by simp)
 have a1:=hc 1 (by simp)
 clear F1 hc hV
 go_wp2_with fail
 refine (TA _ B2).mono ?_
 rintro e w3 ⟨⟨tv3,rfl,q3⟩,b3⟩
 have u3:Below w3.heap.size w3 (w3.alloc (.cells #[.int .i64 1,.int .i64 1,.int .i64 0,.string ⟨#[]⟩,.int .i64 0,.int .i64 0,.int .i64 0,.string ⟨#[]⟩] 44)):=(Below.refl _ _).alloc (Nat.le_refl _) _
 have c3:Cbox (w3.alloc (.cells #[.int .i64 1,.int .i64 1,.int .i64 0,.string ⟨#[]⟩,.int .i64 0,.int .i64 0,.int .i64 0,.string ⟨#[]⟩] 44)) w3.heap.size #[.int .i64 1,.int .i64 1,.int .i64 0,.string ⟨#[]⟩,.int .i64 0,.int .i64 0,.int .i64 0,.string ⟨#[]⟩] 44:=Cbox.new w3 _ _
 have B3:=z0a (z0a B2 b3) u3
 have K3:=KE _ tv3 w3.heap.size B3 (by obtain ⟨q,h1,h2⟩:=q3.out;exact ⟨q,h1,h2.later u3⟩) (vs2 (a:=⟨1,1,0,[]⟩) (b:=⟨0,0,0,[]⟩) c3)
 have a3:=(a1.later b3).later u3
 clear KE c3 u3 q3 a1
 go_wp2_with fail
 refine K3.mono ?_
 rintro e w4 ⟨⟨g4,rfl,k4⟩,b4⟩
 have B4:=z0a B3 b4
 have a4:=a3.later b4
 clear K3 a3
 go_wp2_with fail
 refine (NU _ _).mono ?_
 rintro e w5 ⟨rfl,rfl⟩
 go_wp2_with fail
 refine (NU _ _).mono ?_
 rintro e w5 ⟨rfl,rfl⟩
 obtain ⟨x0,x1,x2,x3⟩:=a4
 simp at x0 x1 x2 x3
 go_wp2_with fail
 refine (PR3 _ B4).mono ?_
 rintro e w6 ⟨rfl,b6⟩
 have B6:=z0a B4 b6
 have k6:=hb_cell k4 b6
 clear x0 x1 x2 x3 k4
 go_wp2_with fail
 refine (TA _ B6).mono ?_
 rintro e w7 ⟨⟨tv7,rfl,q7⟩,b7⟩
 have B7:=z0a B6 b7
 have R7:=RI _ tv7 B7 q7.out
 go_wp2_with fail
 refine R7.mono ?_
 rintro e w8 ⟨rfl,b8⟩
 go_wp2
 go_ret
 exact ⟨rfl,z0a B7 b8⟩
end Go.Proofs.YtljkonkfeiojnaaGreatDoor

namespace Go.Proofs.YtljkonkfeiojnaaGreatDoor
open Go.RowKit Go.Shelf
theorem rsc_again {n m s:Int} (h:(rscR n m s).2=0):rscR (rscR n m s).1.n (rscR n m s).1.m s=((rscR n m s).1,0)∧(rscR n m s).1.k=2∧(rscR n m s).1.m=s∧(rscR n m s).1.b=[]∧vr (rscR n m s).1=true:=by
 unfold rscR at *
 by_cases hE:rE n m s=0
 ·rw [if_pos hE]
  simp only
  have hs:(z0u m&&z0u s)=true:=by
   by_cases hs:(z0u m&&z0u s)=true
   ·exact hs
   ·unfold rE at hE;rw [if_neg hs] at hE;cases hE
  have hm:=(Bool.and_eq_true_iff.1 hs).1
  have hss:=(Bool.and_eq_true_iff.1 hs).2
  have h3:=(z1f s).1 hss
  have hf:fits (dq n m 1 0 s)=true:=by
   unfold rE nErr at hE
   rw [if_pos hs] at hE
   by_cases hf:fits (dq n m 1 0 s)=true
   ·exact hf
   ·rw [if_neg hf] at hE;cases hE
  have eU:rU n m s=dq n m 1 0 s:=by unfold rU nz;rw [if_pos hs,if_pos hf]
  have eS:rS n m s=s:=by unfold rS fs;rw [if_pos hs,if_pos hf]
  rw [eU,eS]
  have e2:(z0u s&&z0u s)=true:=by rw [hss];rfl
  have ed0:∀ z,dq z s 1 0 s=z:=fun z=>by
   unfold dq
   rw [if_pos (by omega),show (s+0 - s).toNat=0 by omega]
   simp [rq_one]
  have ed:=ed0 (dq n m 1 0 s)
  have e3:rE (dq n m 1 0 s) s s=0:=by unfold rE nErr;rw [if_pos e2,ed,if_pos hf]
  have e4:rU (dq n m 1 0 s) s s=dq n m 1 0 s:=by unfold rU nz;rw [if_pos e2,ed,if_pos hf]
  have e5:rS (dq n m 1 0 s) s s=s:=by unfold rS fs;rw [if_pos e2,ed,if_pos hf]
  refine ⟨by rw [if_pos e3,e4,e5],by first|rfl|trivial,by first|rfl|trivial,by first|rfl|trivial,?_⟩
  refine (z3u _).2 ?_
  unfold vok
  simp
  omega
 ·rw [if_neg hE] at h
  exact absurd h hE
theorem fit_again {v:Va} {c:Co} {key:Bool} (hv:vr v=true) (h:(fitV v c key).2=0):fitV (fitV v c key).1 c key=((fitV v c key).1,0)∧vr (fitV v c key).1=true∧((fitV v c key).1.k=0∨(fitV v c key).1.k=c.k)∧((fitV v c key).1.k=0→c.m=false)∧((fitV v c key).1.k=2→c.k=2→(fitV v c key).1.m=c.s):=by
 have hd:∀ u:Va,u=v→True:=fun _ _=>trivial
 by_cases h0:v.k=0
 ·have e:fitV v c key=if (c.m || key)=true then (nul,35) else (v,0):=by unfold fitV;rw [if_pos h0]
  by_cases hk:(c.m || key)=true
  ·rw [e,if_pos hk] at h;cases h
  ·have e1:fitV v c key=(v,0):=by rw [e,if_neg hk]
   rw [e1]
   simp only
   rw [e1]
   refine ⟨rfl,hv,.inl h0,fun _=>?_,fun h2=>by omega⟩
   cases hm:c.m with
   | false=>rfl
   | true=>rw [hm] at hk;simp at hk
 ·by_cases h2:c.k=2∧(v.k=1∨v.k=2)
  ·have e:fitV v c key=rscR v.n v.m c.s:=by unfold fitV;rw [if_neg h0,if_pos h2]
   rw [e] at h ⊢
   obtain ⟨a1,a2,a3,a4,a5⟩:=rsc_again h
   refine ⟨?_,a5,.inr (by rw [a2,h2.1]),fun h3=>by omega,fun _ _=>a3⟩
   unfold fitV
   rw [if_neg (by omega),if_pos ⟨h2.1,.inr a2⟩]
   exact a1
  ·by_cases h3:v.k=c.k
   ·have e:fitV v c key=(v,0):=by unfold fitV;rw [if_neg h0,if_neg h2,if_pos h3]
    rw [e]
    simp only
    rw [e]
    exact ⟨rfl,hv,.inr h3,fun h4=>absurd h4 h0,fun h4 h5=>absurd ⟨h5,.inr h4⟩ h2⟩
   ·have e:fitV v c key=(nul,31):=by unfold fitV;rw [if_neg h0,if_neg h2,if_neg h3]
    rw [e] at h;cases h
theorem fitG_zero {t:Tb} {row:List Va} (h:(fitG t row).2=0):(∀ i,i<row.length→(z2a t row i).2=0)∧chdR t (z2f t row)=0∧(fitG t row).1=z2f t row:=by
 have hz:∀ i,i<row.length→(z2a t row i).2=0:=by
  intro i
  induction i using Nat.strongRecOn with
  | ind i ih =>
   intro hi
   by_cases he:(z2a t row i).2=0
   ·exact he
   ·rw [fitG_err t row i hi (fun j hj=>ih j hj (by omega)) he] at h
    exact absurd h he
 rw [fitG_ok t row hz] at h ⊢
 by_cases hc:chdR t (z2f t row)=0
 ·rw [if_pos hc];exact ⟨hz,hc,rfl⟩
 ·rw [if_neg hc] at h;exact absurd h hc
theorem z8g {t:Tb} {row:List Va} (h:(fitR t row).2=0):fitR t (fitR t row).1=((fitR t row).1,0)∧(fitR t row).1.length=t.cs.length ∧
  ∀ i (h1:i<(fitR t row).1.length) (h2:i<t.cs.length),((fitR t row).1[i].k=0∨(fitR t row).1[i].k=t.cs[i].k)∧((fitR t row).1[i].k=0→t.cs[i].m=false)∧((fitR t row).1[i].k=2→(fitR t row).1[i].m=t.cs[i].s):=by
 have hC:tbP t∧row.length=t.cs.length∧ckE row=0:=by
  by_cases hC:tbP t∧row.length=t.cs.length∧ckE row=0
  ·exact hC
  ·unfold fitR at h;rw [if_neg hC] at h;cases h
 have e:fitR t row=fitG t row:=by unfold fitR;rw [if_pos hC]
 rw [e] at h ⊢
 obtain ⟨hz,hc,hm⟩:=fitG_zero h
 rw [hm]
 have hvr:=ck_all8 hC.2.2
 have hlen:(z2f t row).length=t.cs.length:=(z2g t row).trans hC.2.1
 have hA:∀ i (h1:i<row.length) (h2:i<t.cs.length),fitV (z2a t row i).1 t.cs[i] (t.key.contains (i:Int))=((z2a t row i).1,0)∧vr (z2a t row i).1=true∧((z2a t row i).1.k=0∨(z2a t row i).1.k=t.cs[i].k)∧((z2a t row i).1.k=0→t.cs[i].m=false)∧((z2a t row i).1.k=2→t.cs[i].k=2→(z2a t row i).1.m=t.cs[i].s):=fun i h1 h2=>by
  have hz1:=hz i h1
  rw [fitAt_eq t row i h1 h2] at hz1 ⊢
  exact fit_again (hvr _ (List.getElem_mem h1)) hz1
 have hat:∀ i,i<row.length→z2a t (z2f t row) i=((z2a t row i).1,0):=fun i h1=>by
  have h2:i<t.cs.length:=by rw [← hC.2.1];exact h1
  rw [fitAt_eq t (z2f t row) i (by rw [z2g];exact h1) h2,z6k]
  exact (hA i h1 h2).1
 have hmm:z2f t (z2f t row)=z2f t row:=by
  apply List.ext_getElem
  ·rw [z2g]
  ·intro i h1 h2
   rw [z6k,z6k]
   rw [z2g] at h2
   rw [hat i h2]
 have hck:ckE (z2f t row)=0:=by
  have h64:row.length≤16:=by rw [hC.2.1];exact hC.1.2.1.2.1
  unfold ckE
  rw [z2g,if_neg (by omega),if_pos]
  apply List.all_eq_true.2
  intro v hv
  simp only [z2f,List.mem_map,List.mem_range] at hv
  obtain ⟨i,hi,rfl⟩:=hv
  exact (hA i hi (by rw [← hC.2.1];exact hi)).2.1
 refine ⟨?_,hlen,fun i h1 h2=>?_⟩
 ·unfold fitR
  rw [if_pos ⟨hC.1,hlen,hck⟩,fitG_ok t (z2f t row) (fun i hi=>by rw [z2g] at hi;rw [hat i hi]),hmm,if_pos hc]
 ·have h3:i<row.length:=by rw [z2g] at h1;exact h1
  obtain ⟨_,_,a3,a4,a5⟩:=hA i h3 h2
  rw [z6k]
  refine ⟨a3,a4,fun h4=>a5 h4 ?_⟩
  rcases a3 with a3|a3 <;> omega
theorem fitR_vin {t:Tb} {row:List Va} (h:∀ v∈row,vin v):∀ v∈(fitR t row).1,vin v:=by
 unfold fitR
 split
 ·unfold fitG
  split
  ·split
   ·exact made_vin t row h
   ·intro v hv;simp at hv
  ·intro v hv;simp at hv
 ·intro v hv;simp at hv
theorem fitR_len {t:Tb} {row:List Va}:(fitR t row).1.length≤row.length:=by
 unfold fitR
 split
 ·unfold fitG
  split
  ·split
   ·exact Nat.le_of_eq (z2g t row)
   ·simp
  ·simp
 ·simp
theorem fitR_none {t:Tb} {row:List Va} (h:(fitR t row).2≠0):(fitR t row).1=[]:=by
 unfold fitR at *
 split
 ·rename_i hC
  rw [if_pos hC] at h
  unfold fitG at *
  split
  ·rename_i h1
   rw [if_pos h1] at h
   split
   ·rename_i h2;rw [if_pos h2] at h;exact absurd rfl h
   ·rfl
  ·rfl
 ·rfl
end Go.Proofs.YtljkonkfeiojnaaGreatDoor

namespace Go.Proofs.YtljkonkfeiojnaaGreatDoor
open Go.RowKit Go.Shelf
attribute [local go_sem] z0f z0b z0c z0e z0m z0k z0h z0d z0g undef
theorem again8_any (t:Tb) (q:Tp) (ro:Option Addr) (rc:Nat) (row:List Va) (w:World) (hW:TbW w t q) (hz:TbZ t) (hr:Vs w ro row) (h0r:ro=none→row=[]) (hrz:row.length*40≤140737488351232) (hi6:∀ x∈t.ck,vin x.v) (hir:∀ v∈row,vin v) (hT:Tabs w) (hP:Ptab w) (hS:Sg w) (hPw:Pw w) :
  Calls Tryz.prog 3 #[.agg (tbcs t q),.slice ro row.length rc] w fun e w'=>e=.returned (.bool true)∧Below w.heap.size w w':=by
 have hPl:∀ W,Below w.heap.size w W→Pw W:=fun W h k hk=>by rw [h.cell (p:=⟨2,k,none⟩) hPw.pos];exact hPw k hk
 have NU:=lnum8_any
 have KN:∀ W,Below w.heap.size w W→_:=fun W h=>knows8_any W (hT.later h) (hP.later h) (hS.later h) (hPl W h)
 have OW8:∀ W,Below w.heap.size w W→Calls Tryz.prog 5 #[.agg (tbcs t q)] W fun e w'=>(∃ q':Tp,e=.returned (.agg (tbcs t q'))∧TbW w' t q')∧Below W.heap.size W w':=fun W h=>own8_any t q W (hW.later h) hz
 have OWN:∀ W,Below w.heap.size w W→Calls Tryz.prog 7 #[.slice ro row.length rc] W fun e w'=>(∃ yo yc,e=.returned (.slice yo row.length yc)∧Vs w' yo row)∧Below W.heap.size W w':=fun W h=>(vown_any ro rc row W (hr.later h) h0r hrz).mono fun e w' ⟨ao,cap,h1,h2,h3⟩=>⟨⟨ao,cap,h1,h2⟩,h3⟩
 have FIT:∀ (q':Tp) yo yc W,Below w.heap.size w W→TbW W t q'→Vs W yo row→Calls Tryz.prog 6 #[.agg (tbcs t q'),.slice yo row.length yc] W fun e w'=>(∃ ao cap,e=.returned (.tuple #[.slice ao (fitR t row).1.length cap,.int .i64 (fitR t row).2])∧Vs w' ao (fitR t row).1)∧Below W.heap.size W w':=fun q' yo yc W h h1 h2=>(fit_any t q' yo yc row W h1 (hT.later h) (hPl W h) h2 hi6 hir (by omega)).mono fun e w' ⟨⟨ao,cap,h3,h4,_⟩,b⟩=>⟨⟨ao,cap,h3,h4⟩,b⟩
 have FIT2:(fitR t row).2=0→∀ (q':Tp) yo yc W,Below w.heap.size w W→TbW W t q'→Vs W yo (fitR t row).1→Calls Tryz.prog 6 #[.agg (tbcs t q'),.slice yo (fitR t row).1.length yc] W fun e w'=>(∃ ao cap,e=.returned (.tuple #[.slice ao (fitR t row).1.length cap,.int .i64 0])∧Vs w' ao (fitR t row).1)∧Below W.heap.size W w':=fun h0 q' yo yc W h h1 h2=>by
  refine (fit_any t q' yo yc (fitR t row).1 W h1 (hT.later h) (hPl W h) h2 hi6 (fitR_vin hir) (by have:=fitR_len (t:=t) (row:=row);omega)).mono ?_
  rintro e w' ⟨h3,b⟩
  rw [(z8g h0).1] at h3
  obtain ⟨ao,cap,h4,h5,_⟩:=h3
  exact ⟨⟨ao,cap,h4,h5⟩,b⟩
 have SAM:∀ ao' bo' c d W,Vs W ao' (fitR t row).1→Vs W bo' (fitR t row).1→Calls Tryz.prog 9 #[.slice ao' (fitR t row).1.length c,.slice bo' (fitR t row).1.length d] W fun e w'=>e=.returned (.bool true)∧Below W.heap.size W w':=fun ao' bo' c d W h1 h2=>by
  have hl:=fitR_len (t:=t) (row:=row)
  have:=vsame_any ao' bo' c d (fitR t row).1 (fitR t row).1 W h1 h2 (by omega) (by omega)
  rwa [decide_eq_true rfl] at this
 have HN:Hid ((fitR t row).2≠0→(fitR t row).1.length=0):=fun h=>by rw [fitR_none h];rfl
 have HL:Hid ((fitR t row).2=0→(fitR t row).1.length=t.cs.length):=fun h=>(z8g h).2.1
 have HK:Hid ((fitR t row).2=0→∀ i (h1:i<(fitR t row).1.length) (h2:i<t.cs.length),((fitR t row).1[i].k=0∨(fitR t row).1[i].k=t.cs[i].k)∧((fitR t row).1[i].k=0→t.cs[i].m=false)∧((fitR t row).1[i].k=2→(fitR t row).1[i].m=t.cs[i].s)):=fun h=>(z8g h).2.2
 have HAl:Hid ((fitR t row).1.length≤140737488351232):=by show _≤_;have:=fitR_len (t:=t) (row:=row);omega
 have HCw:Hid (Cw w q.co t.cs):=hW.c
 generalize (fitR t row).2=E at *
 generalize (fitR t row).1=A at *
 clear hW hz hr h0r hi6 hir hT hP hS hPw hPl
 unfold tbcs at *
 obtain ⟨co,ko,uo,xo,cc,kc,uc,xc⟩:=q
 simp only at *
 obtain ⟨m,hm⟩:∃ m,t.cs.length=m:=⟨_,rfl⟩
 have HM:Hid (t.cs.length=m):=hm
 simp only [hm] at FIT FIT2 OW8 ⊢
 clear hm
 generalize ByteArray.mk t.n.toArray=NB at *
 generalize t.key.length=kn at *
 generalize t.us.length=un at *
 generalize t.ck.length=xn at *
 generalize row.length=rl at *
 have B1:Below w.heap.size w (w.alloc (.cells #[.string NB,.slice co m cc,.slice ko kn kc,.slice uo un uc,.slice xo xn xc] 27)):=(Below.refl _ _).alloc (Nat.le_refl _) _
 have A1:Cbox (w.alloc (.cells #[.string NB,.slice co m cc,.slice ko kn kc,.slice uo un uc,.slice xo xn xc] 27)) w.heap.size #[.string NB,.slice co m cc,.slice ko kn kc,.slice uo un uc,.slice xo xn xc] 27:=Cbox.new w _ _
 by_cases h300:300<xn
 ·have h3':(300:Int)<(xn:Int):=by omega
  have K1:=KN _ B1
  clear KN OW8 OWN FIT FIT2 SAM
  go_enter Tryz.func3,Tryz.ntmps3
  go_wp2_with (go_at_call 4;refine K1.mono ?_;rintro e w2 ⟨rfl,b2⟩;have B2:=z0a B1 b2)
  go_ret
  exact ⟨rfl,B2⟩
 have h3':¬ (300:Int)<(xn:Int):=by omega
 go_enter Tryz.func3,Tryz.ntmps3
 go_upto_region 1 with fail
 generalize w.alloc (.cells #[.string NB,.slice co m cc,.slice ko kn kc,.slice uo un uc,.slice xo xn xc] 27)=w1 at *
 have z0:=A1.at 0
 have z1:=A1.at 1
 have z2:=A1.at 2
 have z3:=A1.at 3
 have z4:=A1.at 4
 go_wp2_with fail
 refine (OW8 _ B1).mono ?_
 rintro e w2 ⟨⟨q2,rfl,T2⟩,b2⟩
 have FITx:=fun yo yc W h1 h2 h3=>FIT q2 yo yc W h1 h2 h3
 have FITy:=fun hE yo yc W h1 h2 h3=>FIT2 hE q2 yo yc W h1 h2 h3
 clear FIT FIT2 OW8 z0 z1 z2 z3 z4
 obtain ⟨co2,ko2,uo2,xo2,cc2,kc2,uc2,xc2⟩:=q2
 simp only at *
 have B2:=z0a B1 b2
 have A2:=A1.later b2
 have u3:Below w2.heap.size w2 (w2.alloc (.cells #[.string NB,.slice co2 m cc2,.slice ko2 kn kc2,.slice uo2 un uc2,.slice xo2 xn xc2] 33)):=(Below.refl _ _).alloc (Nat.le_refl _) _
 have X3:Cbox (w2.alloc (.cells #[.string NB,.slice co2 m cc2,.slice ko2 kn kc2,.slice uo2 un uc2,.slice xo2 xn xc2] 33)) w2.heap.size #[.string NB,.slice co2 m cc2,.slice ko2 kn kc2,.slice uo2 un uc2,.slice xo2 xn xc2] 33:=Cbox.new w2 _ _
 have T3:Hid (TbW (w2.alloc (.cells #[.string NB,.slice co2 m cc2,.slice ko2 kn kc2,.slice uo2 un uc2,.slice xo2 xn xc2] 33)) t ⟨co2,ko2,uo2,xo2,cc2,kc2,uc2,xc2⟩):=T2.later u3
 have A3:=A2.later u3
 have B3:=z0a B2 u3
 go_upto_region 4 with fail
 generalize w2.alloc (.cells #[.string NB,.slice co2 m cc2,.slice ko2 kn kc2,.slice uo2 un uc2,.slice xo2 xn xc2] 33)=w3 at *
 generalize w2.heap.size=px at *
 clear T2 u3 b2 A1 A2
 refine wp_region_held_drew (S:=(fun W=>Cbox W px #[.string NB,.slice co2 m cc2,.slice ko2 kn kc2,.slice uo2 un uc2,.slice xo2 xn xc2] 33)) gK ?_ (fun hHeld=>?_)
 ·((try dsimp only);exact X3.later ((Below.refl _ w3).drew))
 refine wpAnyH_take (i:=0) (oi:=⟨some 20,.load 33 (.tmp 5),33, "law.go:122",#[],none⟩) (v:=?_) rfl gK gK gK (fun _ _ _ h=>h) (Or.inl ⟨by rfl,?_⟩) (by assumption) ?_
 rotate_left
 ·(intro W hSw;(try dsimp only at hSw);have e0:=hSw.at 0;have e1:=hSw.at 1;have e2:=hSw.at 2;have e3:=hSw.at 3;have e4:=hSw.at 4;first|(go_simp;done)|(go_simp;with_reducible rfl))
 try simp only [Act.put,sA,sB,sC]
 refine wpAnyH_take (i:=1) (oi:=⟨some 21,.move (.tmp 1),28, "law.go:122",#[],none⟩) (v:=?_) rfl gK gK gK (fun _ _ _ h=>h) (Or.inl ⟨by rfl,?_⟩) (by assumption) ?_
 rotate_left
 ·(intro W hSw;(try dsimp only at hSw);have e0:=hSw.at 0;have e1:=hSw.at 1;have e2:=hSw.at 2;have e3:=hSw.at 3;have e4:=hSw.at 4;first|(go_simp;done)|(go_simp;with_reducible rfl))
 try simp only [Act.put,sA,sB,sC]
 refine wpAnyH_ready (rs:=[2]) gK (by simp) ?_
 refine AllReadyH.cons (o:=⟨some 22,.call { callee:=Callee.value (Operand.func 7),args:=#[.tmp 21],argTypes:=#[28] },28, "law.go:122",#[⟨1,.data⟩],none⟩) rfl (fun K hK=>?_) AllReadyH.nil
 go_simp
 (refine (OWN _ (z0a B3 (Below.refl _ w3).drew)).mono ?_;rintro e w4 ⟨⟨yo,yc,rfl,Y4⟩,b4⟩;have d4:Below w3.heap.size w3 w4:=z0a ((Below.refl _ w3).drew) b4;have B4:=z0a B3 d4;have X4:=X3.later d4)
 refine hK.out _ _ ?_ (fun hHeld=>?_)
 ·((try dsimp only);first|exact X5|exact X4)
 clear hK K
 try simp only [Act.put,sA,sB,sC]
 refine wpAnyH_ready (rs:=[3]) gK (by simp) ?_
 refine AllReadyH.cons (o:=⟨some 23,.call { callee:=Callee.value (Operand.func 6),args:=#[.tmp 20,.tmp 22],argTypes:=#[33,28] },36, "law.go:122",#[⟨0,.data⟩,⟨2,.data⟩,⟨2,.chain⟩],none⟩) rfl (fun K hK=>?_) AllReadyH.nil
 go_simp
 (refine (FITx _ _ _ B4 (T3.out.later d4) Y4).mono ?_;rintro e w5 ⟨⟨ao,ac,rfl,V5⟩,b5⟩;have B5:=z0a B4 b5;have X5:=X4.later b5)
 refine hK.out _ _ ?_ (fun hHeld=>?_)
 ·((try dsimp only);first|exact X5|exact X4)
 clear hK K
 try simp only [Act.put,sA,sB,sC]
 refine wpAnyH_take (i:=4) (oi:=⟨some 19,.move (.tmp 23),36, "law.go:122",#[⟨3,.data⟩],none⟩) (v:=?_) rfl gK gK gK (fun _ _ _ h=>h) (Or.inl ⟨by rfl,?_⟩) (by assumption) ?_
 rotate_left
 ·(intro W hSw;(try dsimp only at hSw);have e0:=hSw.at 0;have e1:=hSw.at 1;have e2:=hSw.at 2;have e3:=hSw.at 3;have e4:=hSw.at 4;first|(go_simp;done)|(go_simp;with_reducible rfl))
 try simp only [Act.put,sA,sB,sC]
 refine wpAnyH_take (i:=5) (oi:=⟨some 24,.extract (.tmp 19) 0,28, "law.go:122",#[⟨4,.data⟩],none⟩) (v:=?_) rfl gK gK gK (fun _ _ _ h=>h) (Or.inl ⟨by rfl,?_⟩) (by assumption) ?_
 rotate_left
 ·(intro W hSw;(try dsimp only at hSw);have e0:=hSw.at 0;have e1:=hSw.at 1;have e2:=hSw.at 2;have e3:=hSw.at 3;have e4:=hSw.at 4;first|(go_simp;done)|(go_simp;with_reducible rfl))
 try simp only [Act.put,sA,sB,sC]
 refine wpAnyH_take (i:=6) (oi:=⟨some 25,.extract (.tmp 19) 1,35, "law.go:122",#[⟨4,.data⟩,⟨7,.gcOnly .lateStores⟩],none⟩) (v:=?_) rfl gK gK gK (fun _ _ _ h=>h) (Or.inl ⟨by rfl,?_⟩) (by assumption) ?_
 rotate_left
 ·(intro W hSw;(try dsimp only at hSw);have e0:=hSw.at 0;have e1:=hSw.at 1;have e2:=hSw.at 2;have e3:=hSw.at 3;have e4:=hSw.at 4;first|(go_simp;done)|(go_simp;with_reducible rfl))
 try simp only [Act.put,sA,sB,sC]
 refine wpAnyH_take (i:=7) (oi:=⟨some 6,.assign (.tmp 24),28, "law.go:122",#[⟨5,.data⟩,⟨3,.chain⟩,⟨0,.phase⟩,⟨1,.phase⟩,⟨2,.phase⟩,⟨3,.phase⟩,⟨4,.phase⟩,⟨5,.phase⟩,⟨6,.textOnly .lateStores⟩],none⟩) (v:=?_) rfl gK gK gK (fun _ _ _ h=>h) (Or.inl ⟨by rfl,?_⟩) (by assumption) ?_
 rotate_left
 ·(intro W hSw;(try dsimp only at hSw);have e0:=hSw.at 0;have e1:=hSw.at 1;have e2:=hSw.at 2;have e3:=hSw.at 3;have e4:=hSw.at 4;first|(go_simp;done)|(go_simp;with_reducible rfl))
 try simp only [Act.put,sA,sB,sC]
 refine wpAnyH_take (i:=8) (oi:=⟨some 7,.assign (.tmp 25),35, "law.go:122",#[⟨6,.data⟩,⟨7,.chain⟩,⟨0,.phase⟩,⟨1,.phase⟩,⟨2,.phase⟩,⟨3,.phase⟩,⟨4,.phase⟩,⟨5,.phase⟩,⟨6,.phase⟩,⟨7,.phase⟩],none⟩) (v:=?_) rfl gK gK gK (fun _ _ _ h=>h) (Or.inl ⟨by rfl,?_⟩) (by assumption) ?_
 rotate_left
 ·(intro W hSw;(try dsimp only at hSw);have e0:=hSw.at 0;have e1:=hSw.at 1;have e2:=hSw.at 2;have e3:=hSw.at 3;have e4:=hSw.at 4;first|(go_simp;done)|(go_simp;with_reducible rfl))
 try simp only [Act.put,sA,sB,sC]
 refine wpAnyH_done gK ?_ _
 have d5:=z0a d4 b5
 have A5:=A3.later d5
 have T5:Hid (TbW w5 t ⟨co2,ko2,uo2,xo2,cc2,kc2,uc2,xc2⟩):=T3.out.later d5
 clear OWN FITx
 by_cases hE:E=0
 case neg =>
  have hA0:=HN.out hE
  rw [hA0]
  have hE':(E != 0)=true:=by simpa using hE
  clear hE
  go_wp2_with fail
  refine (NU _ _).mono ?_
  rintro e w6 ⟨rfl,rfl⟩
  go_wp2_with fail
  refine (KN _ B5).mono ?_
  rintro e w7 ⟨rfl,b7⟩
  go_wp2
  go_ret
  exact ⟨rfl,z0a B5 b7⟩
 have hAl:=HL.out hE
 rw [HM.out] at hAl
 have HKi:=HK.out hE
 have FITz:=FITy hE
 subst hE
 rw [hAl] at FITz SAM ⊢
 have HAm:Hid (A.length=m):=hAl
 have hm47:m≤140737488351232:=by have:=HAl.out;omega
 clear hAl FITy HL HN HK
 have z0:=X5.at 0
 have z1:=X5.at 1
 have z2:=X5.at 2
 have z3:=X5.at 3
 have z4:=X5.at 4
 go_wp2_with fail
 refine (NU _ _).mono ?_
 rintro e w6 ⟨rfl,rfl⟩
 go_wp2_with fail
 refine (FITz _ _ _ B5 T5.out V5).mono ?_
 rintro e w7 ⟨⟨bo,bc,rfl,V7⟩,b7⟩
 have B7:=z0a B5 b7
 have A7:=A5.later b7
 have V5b:=V5.later b7
 clear z0 z1 z2 z3 z4 FITz
 go_wp2_with fail
 refine (NU _ _).mono ?_
 rintro e w8 ⟨rfl,rfl⟩
 go_wp2_with fail
 refine (SAM _ _ _ _ _ V5b V7).mono ?_
 rintro e w8 ⟨rfl,b8⟩
 have B8:=z0a B7 b8
 have A8:=A7.later b8
 have HV8:Hid (Vs w8 ao A):=V5b.later b8
 have z1:=A8.at 1
 clear V7 V5b V5 X5 A5 A7 SAM
 go_wp2_with fail
 go_loopw [10] (fun r wr=>∃ i:Nat,r=.int .i64 (i:Int)∧i≤m∧Below w8.heap.size w8 wr) (fun r _=>m - (intOf r).toNat)
 case atStart=>exact ⟨0,rfl,Nat.zero_le _,Below.refl _ _⟩
 case round =>
  clear z1
  obtain ⟨i,rfl,hi,B9a⟩:=hrel
  have A9:=A8.later B9a
  have z1:=A9.at 1
  by_cases hlt:i<m
  ·have hlt':(i:Int)<(m:Int):=by omega
   have i0:(0:Int)≤(i:Int):=by omega
   have hil:i<A.length:=by rw [HAm.out];exact hlt
   have hic:i<t.cs.length:=by rw [HM.out];exact hlt
   have hki:=HKi i hil hic
   obtain ⟨ab,af,rfl,hav⟩:=HV8.out (by omega)
   have AV:=(hav i hil).later B9a
   obtain ⟨cb,cf,rfl,hcv⟩:=HCw.out (by omega)
   obtain ⟨c0,c1,c2,c3⟩:=((hcv i hic).later B8).later B9a
   clear hav hcv
   generalize A[i]=a at *
   generalize t.cs[i]=c at *
   obtain ⟨ak,an,am,aB⟩:=a
   obtain ⟨cn,ck,cs,cm⟩:=c
   simp only at hki c0 c1 c2 c3 z1
   generalize ByteArray.mk cn.toArray=CB at *
   have u9:Below wr.heap.size wr (wr.alloc (.cells #[.string CB,.int .i64 ck,.int .i64 cs,.bool cm] 42)):=(Below.refl _ _).alloc (Nat.le_refl _) _
   have C9:Cbox (wr.alloc (.cells #[.string CB,.int .i64 ck,.int .i64 cs,.bool cm] 42)) wr.heap.size #[.string CB,.int .i64 ck,.int .i64 cs,.bool cm] 42:=Cbox.new wr _ _
   have B9:=z0a B9a u9
   have AV9:=AV.later u9
   go_upto_region 14 with fail
   generalize wr.alloc (.cells #[.string CB,.int .i64 ck,.int .i64 cs,.bool cm] 42)=w9 at *
   generalize wr.heap.size=pc at *
   have KR:Hid (∀ W,Below w9.heap.size w9 W→At4 W ab (af+i*4) ⟨ak,an,am,aB⟩∧Cbox W pc #[.string CB,.int .i64 ck,.int .i64 cs,.bool cm] 42):=fun W h=>⟨AV9.later h,C9.later h⟩
   clear c0 c1 c2 c3 z1 u9 AV AV9 C9
   by_cases hk0:ak=0
   ·have hcm:=hki.2.1 hk0
    subst hk0 hcm
    clear hki
    obtain ⟨g1,g2⟩:=KR.out w9 (Below.refl _ _)
    obtain ⟨h0,h1,h2,h3⟩:=g1
    have x0:=g2.at 0
    have x1:=g2.at 1
    have x2:=g2.at 2
    have x3:=g2.at 3
    simp only at h0 h1 h2 h3
    simp at x0 x1 x2 x3
    clear g2 KR
    go_region
    go_wp2
    go_roundw
    case rel=>exact ⟨i+1,by go_num,by omega,by first|exact B9.drew|exact B9⟩
    case measure=>simp [intOf];omega
   ·by_cases hk2:ak=2
    ·have hcs:=hki.2.2 hk2
     have hck:ck=2:=by rcases hki.1 with h|h <;> omega
     subst hk2 hcs hck
     clear hki hk0
     obtain ⟨g1,g2⟩:=KR.out w9 (Below.refl _ _)
     obtain ⟨h0,h1,h2,h3⟩:=g1
     have x0:=g2.at 0
     have x1:=g2.at 1
     have x2:=g2.at 2
     have x3:=g2.at 3
     simp only at h0 h1 h2 h3
     simp at x0 x1 x2 x3
     clear g2 KR
     go_region
     go_wp2
     go_roundw
     case rel=>exact ⟨i+1,by go_num,by omega,by first|exact B9.drew|exact B9⟩
     case measure=>simp [intOf];omega
    ·have hck:ck=ak:=by rcases hki.1 with h|h <;> omega
     subst hck
     have e1:(ck != 0)=true:=by simpa using hk0
     have e2:(ck==0)=false:=by simpa using hk0
     have e3:(ck==2)=false:=by simpa using hk2
     clear hki hk0 hk2
     obtain ⟨g1,g2⟩:=KR.out w9 (Below.refl _ _)
     obtain ⟨h0,h1,h2,h3⟩:=g1
     have x0:=g2.at 0
     have x1:=g2.at 1
     have x2:=g2.at 2
     have x3:=g2.at 3
     simp only at h0 h1 h2 h3
     simp at x0 x1 x2 x3
     clear g2 KR
     go_region
     go_wp2
     go_roundw
     case rel=>exact ⟨i+1,by go_num,by omega,by first|exact B9.drew|exact B9⟩
     case measure=>simp [intOf];omega
  ·have hlt':¬ (i:Int)<(m:Int):=by omega
   have K9:=KN _ (z0a B8 B9a)
   go_wp2_with fail
   refine K9.mono ?_
   rintro e w10 ⟨rfl,b10⟩
   go_wp2
   go_ret
   exact ⟨rfl,z0a (z0a B8 B9a) b10⟩
end Go.Proofs.YtljkonkfeiojnaaGreatDoor

namespace Go.Proofs.YtljkonkfeiojnaaGreatDoor
open Go.ChangeShapes Go.WideShapes Go.ChangeAt Go.WideMaps Go.WideElems Go.RowKit Go.Shelf Go.Lib
open Go.ChangeMaps (open_string shut_string)
theorem sag_lifted (os:Os) (started:os.Started) (H:Type) (enc:TypeId × Value→H) :
  ReturnsInHanded {} Tryz.checked os 3 .any (fun w args=>(Rows.schemaAgainSpec.pre enc Tryz.prog Tryz.f3 [] false w args∧laidMetH Tryz.prog Rows.schemaAgainRow.laid w)∧sizedMet enc Tryz.prog Tryz.f3 (OpenSpec.ofChange Rows.schemaAgainSpec) false w args)
   (Rows.schemaAgainSpec.post enc Tryz.prog Tryz.f3 false true false false):=by
 refine returnsInHanded_of_change_and (C:=Tryz.checked) (X:=fun w _=>laidMetH Tryz.prog Rows.schemaAgainRow.laid w) (fun _ _ _ hh h=>h.of_heap hh) own started gK Tryz.func3
  (ChangeSpec.witness_shaped (enc:=enc) (C:=Tryz.checked) (os:=os) (X:=fun w _=>laidMetH Tryz.prog Rows.schemaAgainRow.laid w) false (World.laidAll Tryz.prog os Rows.schemaAgainRow.laid) #[.agg #[.string ⟨#[]⟩,.slice none 0 0,.slice none 0 0,.slice none 0 0,.slice none 0 0],.slice none 0 0] 8 (World.laidAll_os _ _ _)
   (World.shaped_of_ZipB gK gK) gK gK gK
   (by rw [MakeChecks.laidMetH_plain _ _ _ gK];exact laidMet_laidAll _ gK gK)) ?_
 intro W base args ds gs before hval0 hW _ hsz0 hL _
 have hval:∀ (j:Nat) t v,Tryz.f3.params[j]?=some t→args[j]?=some v→Value.okWide Tryz.prog W .any base t v:=hval0
 have hsz:(DataW.weightsEach Tryz.prog (Tryz.f3.params.toList++Rows.schemaAgainSpec.plain.varTypes Tryz.prog) (ds++gs)).all (·≤reachBytes)=true:=hsz0
 have hW':=hW
 obtain ⟨p,q,hA0,hV,rfl,hfz,hnd⟩:=hW
 have hA:DataW.TrodAll enc Tryz.prog W 0 (fun _=>true) true Tryz.f3.params.toList args.toList ds p:=hA0
 rw [Tryz.params3] at hA hval hsz
 obtain ⟨v0,v1,d0,d1,p0,p1,rfl,rfl,rfl,h0,h1⟩:=trodAll_two hA
 obtain ⟨rfl,rfl⟩:=trodVars_none hV
 obtain ⟨cs0,rfl,_⟩:=okWide_struct Tryz.underlying27 (hval 0 27 v0 rfl rfl)
 have k0:=h0
 have lt0:∀ x∈p0,x.block<W.heap.size:=by obtain ⟨m,hm⟩:=k0;exact DataW.trod_lt m _ _ _ hm
 obtain ⟨f0,hf0⟩:=h0
 obtain ⟨t0,q0,ex0,tb0⟩:=table_open hf0
 obtain rfl:cs0=tbcs t0 q0:=by obtain ⟨l⟩:=cs0;exact congrArg List.toArray ex0
 have tw0:=table_sized hsz (j:=0) rfl rfl tb0
 obtain ⟨x1,n1,c1,rfl⟩:=okWide_slice Tryz.underlying28 (hval 1 28 v1 rfl rfl)
 have k1:=h1
 have lt1:∀ x∈p1,x.block<W.heap.size:=by obtain ⟨m,hm⟩:=k1;exact DataW.trod_lt m _ _ _ hm
 obtain ⟨f1,hf1⟩:=h1
 obtain ⟨g1,r1,e1⟩:=vals_open (a:=x1) (len:=n1) (cap:=c1) hf1 (by simp [Value.cells])
 have z1:c1*Tryz.prog.bytesOf 44≤140737488351232:=by
  rcases e1 with h|⟨es,sp,hd,hl⟩
  ·rw [h];simp
  ·have hd0:d1=.slice es sp:=hd
   rw [← hl];exact sized_slice hsz (j:=1) (t:=28) (e:=44) rfl (by simp [hd0]) Tryz.underlying28
 obtain ⟨r1v,r1z,rfl,r1c,r1i⟩:=r1
 rw [bytes40] at z1
 clear hA0 hval0 hsz0
 rw [MakeChecks.laidMetH_plain _ _ _ gK] at hL
 have hT:Tabs W:=tabs_of (Lib.laidMet.reads hL (.tail _ (.tail _ (.tail _ (.tail _ (.tail _ (.tail _ (.tail _ (.tail _ (.head _)))))))))) (Lib.laidMet.reads hL (.tail _ (.tail _ (.tail _ (.head _)))))
 have hP:Ptab W:=ptab8_of (Lib.laidMet.reads hL (.tail _ (.tail _ (.head _))))
 have hPw:Pw W:=pw_of (Lib.laidMet.reads hL (.tail _ (.tail _ (.tail _ (.tail _ (.tail _ (.tail _ (.head _))))))))
 have hS:Sg W:=sg8_of (Lib.laidMet.reads hL (.tail _ (.tail _ (.tail _ (.tail _ (.tail _ (.tail _ (.tail _ (.head _)))))))))
 refine (again8_any t0 q0 x1 c1 g1 W tw0.1 tw0.2.1 r1v r1z (by omega) tw0.2.2 r1i hT hP hS hPw).mono fun e W' ⟨he,bel⟩=>?_
 subst he
 exact ⟨_,rfl,_,_,_,[],_,[],hW',trodAll_mk1 (shut_bool Tryz.underlying4 _),trodAll_mk2 (Below.trod laidOut gK (of_decide_eq_true gK) k0 bel lt0) (Below.trod laidOut gK (of_decide_eq_true gK) k1 bel lt1),rfl,bel.frame _,fun h=>by cases h⟩
end Go.Proofs.YtljkonkfeiojnaaGreatDoor
