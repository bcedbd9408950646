/-
  The row that a table makes of a row.
  A table that is being copied.
-/
import Derived.Test.YtljkonkfeiojnaaGreatDoorMWJFitM
import Derived.Test.YtljkonkfeiojnaaGreatDoorMBVKeyB
import Derived.Deep.CutRange
import Derived.Test.YtljkonkfeiojnaaGreatDoorMKJAfB
import Derived.Deep.AppendLies
set_option maxHeartbeats 8000000
set_option maxRecDepth 20000
namespace Go.Proofs.YtljkonkfeiojnaaGreatDoor
open Go.RowKit Go.Shelf
attribute [local go_sem] z0f z0b z0c z0e z0m z0k z0h z0d z0g
def fiO0:Oper:=⟨some 39,.load 44 (.tmp 8),44, "row.go:20",#[],none⟩
def fiO1:Oper:=⟨some 40,.fieldAddr 33 (.tmp 2) 1,0, "row.go:20",#[],none⟩
def fiO2:Oper:=⟨some 41,.load 30 (.tmp 40),30, "row.go:20",#[⟨1,.data⟩],none⟩
def fiO3:Oper:=⟨some 42,.move (.tmp 7),3, "row.go:20",#[],none⟩
def fiO4:Oper:=⟨some 43,.indexAddr 30 (.tmp 41) (.tmp 42),0, "row.go:20",#[⟨2,.data⟩,⟨3,.data⟩],none⟩
def fiO5:Oper:=⟨some 44,.load 53 (.tmp 43),53, "row.go:20",#[⟨4,.data⟩],none⟩
def fiO6:Oper:=⟨some 45,.fieldAddr 33 (.tmp 2) 2,0, "row.go:20",#[],none⟩
def fiO7:Oper:=⟨some 46,.load 23 (.tmp 45),23, "row.go:20",#[⟨6,.data⟩],none⟩
def fiO8:Oper:=⟨some 47,.move (.tmp 7),3, "row.go:20",#[],none⟩
def fiO9:Oper:=⟨some 48,.call { callee:=Callee.value (Operand.func 17),args:=#[.tmp 46,.tmp 47],argTypes:=#[23,3] },4, "row.go:20",#[⟨7,.data⟩,⟨8,.data⟩],none⟩
def fiO10:Oper:=⟨some 49,.call { callee:=Callee.value (Operand.func 16),args:=#[.tmp 39,.tmp 44,.tmp 48],argTypes:=#[44,53,4] },55, "row.go:20",#[⟨0,.data⟩,⟨5,.data⟩,⟨9,.data⟩,⟨9,.chain⟩],none⟩
def fiO11:Oper:=⟨some 38,.move (.tmp 49),55, "row.go:20",#[⟨10,.data⟩],none⟩
def fiO12:Oper:=⟨some 50,.extract (.tmp 38) 0,44, "row.go:20",#[⟨11,.data⟩],none⟩
def fiO13:Oper:=⟨some 51,.extract (.tmp 38) 1,35, "row.go:20",#[⟨11,.data⟩,⟨15,.gcOnly .lateStores⟩],none⟩
def fiO14:Oper:=⟨some 9,.alloc 44,0, "row.go:20",#[],none⟩
def fiO15:Oper:=⟨none,.store 44 (.tmp 9) (.tmp 50),0, "row.go:20",#[⟨14,.data⟩,⟨12,.data⟩,⟨10,.chain⟩,⟨0,.phase⟩,⟨1,.phase⟩,⟨2,.phase⟩,⟨3,.phase⟩,⟨4,.phase⟩,⟨5,.phase⟩,⟨6,.phase⟩,⟨7,.phase⟩,⟨8,.phase⟩,⟨9,.phase⟩,⟨10,.phase⟩,⟨11,.phase⟩,⟨12,.phase⟩,⟨13,.textOnly .lateStores⟩,⟨14,.phase⟩],none⟩
def fiO16:Oper:=⟨some 10,.assign (.tmp 51),35, "row.go:20",#[⟨13,.data⟩,⟨15,.chain⟩,⟨0,.phase⟩,⟨1,.phase⟩,⟨2,.phase⟩,⟨3,.phase⟩,⟨4,.phase⟩,⟨5,.phase⟩,⟨6,.phase⟩,⟨7,.phase⟩,⟨8,.phase⟩,⟨9,.phase⟩,⟨10,.phase⟩,⟨11,.phase⟩,⟨12,.phase⟩,⟨13,.phase⟩,⟨14,.phase⟩,⟨15,.phase⟩],none⟩
def FitR (w:World) (R:List Va × Int) (e:Ending) (w':World):Prop:=∃ ao cap,e=.returned (.tuple #[.slice ao R.1.length cap,.int .i64 R.2])∧Vs w' ao R.1∧(R.2=0→∃ g,ao=some ⟨g,0,none⟩∧w.heap.size≤g)
theorem fitr_none (w w':World) (E:Int) (h:E≠0):FitR w ([],E) (.returned (.tuple #[.slice none 0 0,.int .i64 E])) w':=⟨none,0,rfl,fun h=>by simp at h,fun h2=>absurd h2 h⟩
theorem fit_bad (t:Tb) (q:Tp) (ro:Option Addr) (rc:Nat) (row:List Va) (w:World) (hW:TbW w t q) (hT:Tabs w) (hr:Vs w ro row) (hrl:row.length≤140737488351232) (hno:¬ (tbP t∧row.length=t.cs.length∧ckE row=0)) :
  Calls Tryz.prog 6 #[.agg (tbcs t q),.slice ro row.length rc] w fun e w'=>e=.returned (.tuple #[.slice none 0 0,.int .i64 1])∧Below w.heap.size w w':=by
 have SR:∀ W,Below w.heap.size w W→_:=fun W h=>z8s t q W (hW.later h) (hT.later h)
 have RW:∀ W,Below w.heap.size w W→_:=fun W h=>row_any ro rc row W (hT.later h) (hr.later h) (by omega)
 have HN:Hid (decide (tbP t)=true→row.length=t.cs.length→(ckE row==0)=false):=fun h1 h2=>by
  rw [beq_eq_false_iff_ne]
  exact fun h3=>hno ⟨of_decide_eq_true h1,h2,h3⟩
 unfold tbcs at *
 generalize decide (tbP t)=P at *
 generalize (ckE row==0)=E at *
 clear hW hT hr hno
 obtain ⟨n,cs,key,us,ck⟩:=t
 obtain ⟨co,ko,uo,xo,cc,kc,uc,xc⟩:=q
 simp only at *
 generalize ByteArray.mk n.toArray=NB at *
 generalize cs.length=m at *
 generalize key.length=kn at *
 generalize us.length=un at *
 generalize ck.length=xn at *
 generalize row.length=rl at *
 have B1:Below w.heap.size w (w.alloc (.cells #[.string NB,.slice co m cc,.slice ko kn kc,.slice uo un uc,.slice xo xn xc] 33)):=(Below.refl _ _).alloc (Nat.le_refl _) _
 have A1:Cbox (w.alloc (.cells #[.string NB,.slice co m cc,.slice ko kn kc,.slice uo un uc,.slice xo xn xc] 33)) w.heap.size #[.string NB,.slice co m cc,.slice ko kn kc,.slice uo un uc,.slice xo xn xc] 33:=Cbox.new w _ _
 cases P with
 | false =>
  clear HN RW
  go_enter Tryz.func6,Tryz.ntmps6
  go_wp2_with (go_at_call 13;refine (SR _ B1).mono ?_;rintro e w2 ⟨rfl,b2⟩;have B2:=z0a B1 b2)
  go_ret2
  exact ⟨rfl,B2⟩
 | true =>
  by_cases hl:rl=m
  ·have hE:=HN.out rfl hl
   subst hl hE
   go_enter Tryz.func6,Tryz.ntmps6
   go_wp2_with fail
   refine (SR _ B1).mono ?_
   rintro e w2 ⟨rfl,b2⟩
   have B2:=z0a B1 b2
   have A2:=A1.later b2
   have z1:=A2.at 1
   go_wp2_with fail
   refine (RW _ B2).mono ?_
   rintro e w3 ⟨rfl,b3⟩
   have B3:=z0a B2 b3
   go_wp2
   go_ret2
   exact ⟨rfl,B3⟩
  ·have hl':¬ (rl:Int)=(m:Int):=by omega
   have hl2:((rl:Int) != (m:Int))=true:=by simpa using hl'
   clear hl HN RW
   go_enter Tryz.func6,Tryz.ntmps6
   go_wp2_with fail
   refine (SR _ B1).mono ?_
   rintro e w2 ⟨rfl,b2⟩
   have B2:=z0a B1 b2
   have A2:=A1.later b2
   have z1:=A2.at 1
   go_wp2
   go_ret2
   exact ⟨rfl,B2⟩
theorem store4 (w:World) (p:Nat) (a b c d:Value):w.grownBy ((((w.setCell ⟨p,0,none⟩ a).setCell ⟨p,1,none⟩ b).setCell ⟨p,2,none⟩ c).setCell ⟨p,3,none⟩ d) (some p) :=
 ⟨rfl,rfl,rfl,by simp [World.setCell],fun k h1 h2=>by
  have hk:k≠p:=fun e=>h2 (by rw [e])
  rw [Below.heap_setCell _ _ _ _ hk,Below.heap_setCell _ _ _ _ hk,Below.heap_setCell _ _ _ _ hk,Below.heap_setCell _ _ _ _ hk]⟩
theorem store4o (w:World) (p o:Nat) (a b c d:Value):w.grownBy ((((w.setCell ⟨p,o,none⟩ a).setCell ⟨p,o+1,none⟩ b).setCell ⟨p,o+2,none⟩ c).setCell ⟨p,o+3,none⟩ d) (some p) :=
 ⟨rfl,rfl,rfl,by simp [World.setCell],fun k h1 h2=>by
  have hk:k≠p:=fun e=>h2 (by rw [e])
  rw [Below.heap_setCell _ _ _ _ hk,Below.heap_setCell _ _ _ _ hk,Below.heap_setCell _ _ _ _ hk,Below.heap_setCell _ _ _ _ hk]⟩
theorem c4_grown {w w':World} {b o:Nat} {c:Co} {row:Option Nat} (h:C4 w b o c) (hg:w.grownBy w' row) (hne:some b≠row):C4 w' b o c:=by
 have hl:=h.lt
 obtain ⟨h0,h1,h2,h3⟩:=h
 exact ⟨(hg.cell_far ⟨b,o,none⟩ hl hne).trans h0,(hg.cell_far ⟨b,o+1,none⟩ hl hne).trans h1,(hg.cell_far ⟨b,o+2,none⟩ hl hne).trans h2,(hg.cell_far ⟨b,o+3,none⟩ hl hne).trans h3⟩
theorem fit_good (t:Tb) (q:Tp) (ro:Option Addr) (rc:Nat) (row:List Va) (w:World) (hW:TbW w t q) (hT:Tabs w) (hPw:Pw w) (hr:Vs w ro row) (hi6:∀ x∈t.ck,vin x.v) (hir:∀ v∈row,vin v) (hP:tbP t) (hrl:row.length=t.cs.length) (hC:ckE row=0) :
  Calls Tryz.prog 6 #[.agg (tbcs t q),.slice ro row.length rc] w fun e w'=>FitR w (fitG t row) e w'∧Below w.heap.size w w':=by
 have h16:t.cs.length≤16:=hP.2.1.2.1
 have h1:1≤t.cs.length:=hP.2.1.1
 have SR:∀ W,Below w.heap.size w W→Calls Tryz.prog 13 #[.agg (tbcs t q)] W fun e w'=>e=.returned (.bool true)∧Below W.heap.size W w':=fun W h=>by
  have:=z8s t q W (hW.later h) (hT.later h)
  rwa [decide_eq_true hP] at this
 have RW:∀ W,Below w.heap.size w W→Calls Tryz.prog 15 #[.slice ro row.length rc] W fun e w'=>e=.returned (.bool true)∧Below W.heap.size W w':=fun W h=>by
  have:=row_any ro rc row W (hT.later h) (hr.later h) (by omega)
  rwa [show (ckE row==0)=true by simpa using hC] at this
 have hPl:∀ W,Below w.heap.size w W→Pw W:=fun W h k hk=>by rw [h.cell (p:=⟨2,k,none⟩) hPw.pos];exact hPw k hk
 have hvl:∀ v∈row,v.b.length≤140737488351232:=fun v hv=>by
  have h2:=(z3u v).1 (ck_all8 hC v hv)
  unfold vok at h2
  have:v.b.length≤256:=by
   rcases h2 with ⟨_,_,_,h⟩|⟨_,_,h⟩|⟨_,_,_,h⟩|⟨_,_,_,h,_⟩|⟨_,_,_,h⟩|⟨_,_,_,_,_,h⟩
   all_goals first|exact h|(rw [h];simp)
  omega
 have CO8:Hid (∀ (k:Nat) W,Below w.heap.size w W→Calls Tryz.prog 17 #[.slice q.ko t.key.length q.kc,.int .i64 (k:Int)] W fun e w'=>e=.returned (.bool (t.key.contains (k:Int)))∧W=w'):=fun k W h=>conI_any q.ko q.kc t.key (k:Int) W (hW.k.later h) hW.kl
 have FI8:Hid (∀ (k:Nat) (hk:k<row.length) (hc:k<t.cs.length) W,Below w.heap.size w W→Calls Tryz.prog 16 #[vv row[k],cov t.cs[k],.bool (t.key.contains (k:Int))] W fun e w'=>e=.returned (rs (z2a t row k))∧Below W.heap.size W w'):=fun k hk hc W h=>by
  have:=fitted_any row[k] t.cs[k] (t.key.contains (k:Int)) W (hPl W h) (hir _ (List.getElem_mem hk)) (hvl _ (List.getElem_mem hk))
  rwa [← fitAt_eq t row k hk hc] at this
 have CK:Hid (∀ (made:List Va) g W,made=z2f t row→(∀ i,i<row.length→(z2a t row i).2=0)→Below w.heap.size w W→Vs W (some ⟨g,0,none⟩) made→Calls Tryz.prog 18 #[.agg (tbcs t q),.slice (some ⟨g,0,none⟩) made.length made.length] W fun e w'=>e=.returned (.int .i64 (chdR t made))∧Below W.heap.size W w'):=fun made g W hm h0 h hV=>checked8_any t q (some ⟨g,0,none⟩) made.length made W (hW.later h) (hT.later h) (hPl W h) h16 hV (by rw [hm,z2g];omega) hi6 (by rw [hm];exact made_vin t row hir)
 have HCc:Hid (Cw w q.co t.cs):=hW.c
 have HR:Hid (Vs w ro row):=hr
 have hml:=z2g t row
 have HGE:Hid (∀ k,k<row.length→(∀ i,i<k→(z2a t row i).2=0)→(z2a t row k).2≠0→fitG t row=([],(z2a t row k).2)):=fun k h1 h2 h3=>fitG_err t row k h1 h2 h3
 have HGC:Hid ((∀ i,i<row.length→(z2a t row i).2=0)→fitG t row=if chdR t (z2f t row)=0 then (z2f t row,0) else ([],chdR t (z2f t row))):=fun h=>fitG_ok t row h
 generalize fitG t row=FG at *
 clear hW hT hPw hr hi6 hir hP hC hPl hvl
 have hmr:∀ wx,_:=make_run8 t.cs.length (by omega)
 unfold tbcs at *
 obtain ⟨co,ko,uo,xo,cc,kc,uc,xc⟩:=q
 simp only at *
 rw [hrl] at RW ⊢
 obtain ⟨cb,cf,rfl,hcc0⟩:=HCc.out (by omega)
 obtain ⟨rb0,ro0,rfl,hcr0⟩:=HR.out (by omega)
 have HCC:Hid (∀ i (h:i<t.cs.length),C4 w cb (cf+i*4) t.cs[i]):=hcc0
 have HCR:Hid (∀ i (h:i<row.length),At4 w rb0 (ro0+i*4) row[i]):=hcr0
 clear hcc0 hcr0
 generalize ByteArray.mk t.n.toArray=NB at *
 generalize t.key.length=kn at *
 generalize t.us.length=un at *
 generalize t.ck.length=xn at *
 obtain ⟨m,hm⟩:∃ m,t.cs.length=m:=⟨_,rfl⟩
 have HM:Hid (t.cs.length=m):=hm
 have HRL:Hid (row.length=m):=hrl.trans hm
 have CKm:Hid (∀ g W,(∀ i,i<row.length→(z2a t row i).2=0)→Below w.heap.size w W→Vs W (some ⟨g,0,none⟩) (z2f t row)→Calls Tryz.prog 18 #[.agg #[.string NB,.slice (some ⟨cb,cf,none⟩) m cc,.slice ko kn kc,.slice uo un uc,.slice xo xn xc],.slice (some ⟨g,0,none⟩) m m] W fun e w'=>e=.returned (.int .i64 (chdR t (z2f t row)))∧Below W.heap.size W w'):=fun g W h0 h hV=>by
  have:=CK.out (z2f t row) g W rfl h0 h hV
  rwa [hml,hrl,hm] at this
 rw [hm] at SR RW h16 h1 hmr ⊢
 clear hm hrl hml CK
 have B1:Below w.heap.size w (w.alloc (.cells #[.string NB,.slice (some ⟨cb,cf,none⟩) m cc,.slice ko kn kc,.slice uo un uc,.slice xo xn xc] 33)):=(Below.refl _ _).alloc (Nat.le_refl _) _
 have A1:Cbox (w.alloc (.cells #[.string NB,.slice (some ⟨cb,cf,none⟩) m cc,.slice ko kn kc,.slice uo un uc,.slice xo xn xc] 33)) w.heap.size #[.string NB,.slice (some ⟨cb,cf,none⟩) m cc,.slice ko kn kc,.slice uo un uc,.slice xo xn xc] 33:=Cbox.new w _ _
 go_enter Tryz.func6,Tryz.ntmps6
 go_upto_region 1 with fail
 generalize w.alloc (.cells #[.string NB,.slice (some ⟨cb,cf,none⟩) m cc,.slice ko kn kc,.slice uo un uc,.slice xo xn xc] 33)=w1 at *
 have z0:=A1.at 0
 have z1:=A1.at 1
 have z2:=A1.at 2
 have z3:=A1.at 3
 have z4:=A1.at 4
 go_wp2_with fail
 refine (SR _ B1).mono ?_
 rintro e w2 ⟨rfl,b2⟩
 have B2:=z0a B1 b2
 have A2:=A1.later b2
 clear z0 z1 z2 z3 z4
 have z1:=A2.at 1
 go_wp2_with fail
 refine (RW _ B2).mono ?_
 rintro e w3 ⟨rfl,b3⟩
 have B3:=z0a B2 b3
 have A3:=A2.later b3
 clear z1
 have u4:Below w3.heap.size w3 (w3.alloc (.cells (mz8 m) 44)):=(Below.refl _ _).alloc (Nat.le_refl _) _
 have B4:=z0a B3 u4
 have A4:=A3.later u4
 have D4:∀ j,j<m→At4 (w3.alloc (.cells (mz8 m) 44)) w3.heap.size (j*4) (z9q t row 0 j):=fun j hj=>by
  have:=mz8_at w3 m j hj
  unfold z9q
  rw [if_neg (by omega)]
  exact this
 have F4:∃ cs,Cbox (w3.alloc (.cells (mz8 m) 44)) w3.heap.size cs 44:=⟨_,Cbox.new w3 _ _⟩
 have hgw:w.heap.size≤w3.heap.size:=B3.size
 have hgt:w.heap.size≠w3.heap.size:=by have:=A3.lt;omega
 go_upto_region 4 with fail
 generalize w3.alloc (.cells (mz8 m) 44)=w4 at *
 generalize w3.heap.size=gl at *
 clear SR RW A1 A2 A3 B1 B2 B3 b2 b3 u4 hmr
 go_wp2_with fail
 go_loopw [33] (fun r wr=>∃ k:Nat,r=.int .i64 (k:Int)∧k≤m∧Hid (Below w.heap.size w wr)∧Hid (Cbox wr w.heap.size #[.string NB,.slice (some ⟨cb,cf,none⟩) m cc,.slice ko kn kc,.slice uo un uc,.slice xo xn xc] 33)∧Hid (∃ cs,Cbox wr gl cs 44)∧Hid (∀ j,j<m→At4 wr gl (j*4) (z9q t row k j))∧Hid (∀ i,i<k→(z2a t row i).2=0)) (fun r _=>m - (intOf r).toNat)
 case atStart=>exact ⟨0,rfl,Nat.zero_le _,B4,A4,F4,D4,fun i hi=>by omega⟩
 case round =>
  clear B4 A4 D4 F4
  obtain ⟨k,rfl,hk,hB,hA,hF,hD,hE⟩:=hrel
  by_cases hlt:k<m
  ·have hlt':(k:Int)<(m:Int):=by omega
   have k0:(0:Int)≤(k:Int):=by omega
   have hkr:k<row.length:=by rw [HRL.out];exact hlt
   have hkc:k<t.cs.length:=by rw [HM.out];exact hlt
   have HERR:=HGE.out k hkr hE.out
   obtain ⟨a0,a1,a2,a3⟩:=(HCR.out k hkr).later hB.out
   have C0:=(HCC.out k hkc).later hB.out
   have CO:=CO8.out k
   have FI:=FI8.out k hkr hkc
   have HPK:Hid (∀ j,z9q t row (k+1) j=if j=k then (z2a t row k).1 else z9q t row k j):=fun j=>pickM_succ t row k j
   have HEK:Hid ((z2a t row k).2=0→∀ i,i<k+1→(z2a t row i).2=0):=fun h i hi=>by
    by_cases e:i=k
    ·subst e;exact h
    ·exact hE.out i (by omega)
   generalize t.key.contains (k:Int)=kb at *
   generalize row[k]=v at *
   generalize t.cs[k]=c at *
   obtain ⟨r,hrr⟩:∃ r,r=z2a t row k:=⟨_,rfl⟩
   rw [← hrr] at FI HPK HEK HERR
   clear hrr
   obtain ⟨vk,vn,vm,vb⟩:=v
   obtain ⟨cn,ck,cs,cm⟩:=c
   obtain ⟨⟨rk,rn,rm,rb⟩,re⟩:=r
   unfold rs vv cov at FI
   simp only at *
   generalize ByteArray.mk vb.toArray=VB at *
   obtain ⟨RB,hRB⟩:∃ RB:ByteArray,RB=⟨rb.toArray⟩:=⟨_,rfl⟩
   have HRB:Hid (RB=⟨rb.toArray⟩):=hRB
   rw [← hRB] at FI
   clear hRB
   have u1:Below wr.heap.size wr (wr.alloc (.cells #[.int .i64 vk,.int .i64 vn,.int .i64 vm,.string VB] 44)):=(Below.refl _ _).alloc (Nat.le_refl _) _
   have P1:Cbox (wr.alloc (.cells #[.int .i64 vk,.int .i64 vn,.int .i64 vm,.string VB] 44)) wr.heap.size #[.int .i64 vk,.int .i64 vn,.int .i64 vm,.string VB] 44:=Cbox.new wr _ _
   have B1:=z0a hB.out u1
   have T1:=hA.out.later u1
   have C1:=C0.later u1
   have F1:∃ cs,Cbox (wr.alloc (.cells #[.int .i64 vk,.int .i64 vn,.int .i64 vm,.string VB] 44)) gl cs 44:=by obtain ⟨cs,h⟩:=hF.out;exact ⟨cs,h.later u1⟩
   have D1:∀ j,j<m→At4 (wr.alloc (.cells #[.int .i64 vk,.int .i64 vn,.int .i64 vm,.string VB] 44)) gl (j*4) (z9q t row k j):=fun j hj=>(hD.out j hj).later u1
   go_upto_region 7 with fail
   generalize wr.alloc (.cells #[.int .i64 vk,.int .i64 vn,.int .i64 vm,.string VB] 44)=w1 at *
   generalize wr.heap.size=pv at *
   clear a0 a1 a2 a3 C0 hA hB hF hD u1
   have HD1:Hid (∀ j,j<m→At4 w1 gl (j*4) (z9q t row k j)):=D1
   have HF1:Hid (∃ cs,Cbox w1 gl cs 44):=F1
   clear D1 F1
   go_cut [9,10] from 34 to 59 (fun s9 s10 wx=>∃ p:Nat,s9=.pointer (some ⟨p,0,none⟩)∧s10=.int .i64 re∧Hid (Below w1.heap.size w1 wx∧Cbox wx p #[.int .i64 rk,.int .i64 rn,.int .i64 rm,.string RB] 44∧w1.heap.size≤p))
   case first =>
    as_aux_lemma =>
    refine wp_region_held_drew (S:=(fun W=>Cbox W w.heap.size #[.string NB,.slice (some ⟨cb,cf,none⟩) m cc,.slice ko kn kc,.slice uo un uc,.slice xo xn xc] 33∧Cbox W pv #[.int .i64 vk,.int .i64 vn,.int .i64 vm,.string VB] 44∧C4 W cb (cf+k*4) ⟨cn,ck,cs,cm⟩)) gK ?_ (fun hHeld=>?_)
    ·((try dsimp only);exact ⟨T1.later ((Below.refl _ w1).drew),P1.later ((Below.refl _ w1).drew),C1.later ((Below.refl _ w1).drew)⟩)
    refine wpAnyH_take (i:=0) (oi:=fiO0) (v:=?_) rfl gK gK gK (fun _ _ _ h=>h) (Or.inl ⟨by rfl,?_⟩) (by assumption) ?_
    rotate_left
    ·(intro W hSw;(try dsimp only at hSw);obtain ⟨g1,g2,g3,g4,g5,g6⟩:=hSw;have e0:=g1.at 0;have e1:=g1.at 1;have e2:=g1.at 2;have e3:=g1.at 3;have e4:=g1.at 4;have h0:=g2.at 0;have h1:=g2.at 1;have h2:=g2.at 2;have h3:=g2.at 3;clear g1 g2;try simp only [fiO0];first|(go_simp;done)|(go_simp;with_reducible rfl))
    try simp only [fiO0,Act.put,List.setIfInBounds_toArray,List.set_cons_zero,List.set_cons_succ]
    refine wpAnyH_take (i:=1) (oi:=fiO1) (v:=?_) rfl gK gK gK (fun _ _ _ h=>h) (Or.inl ⟨by rfl,?_⟩) (by assumption) ?_
    rotate_left
    ·(intro W hSw;(try dsimp only at hSw);try simp only [fiO1];first|(go_simp;done)|(go_simp;with_reducible rfl))
    try simp only [fiO1,Act.put,List.setIfInBounds_toArray,List.set_cons_zero,List.set_cons_succ]
    refine wpAnyH_take (i:=2) (oi:=fiO2) (v:=?_) rfl gK gK gK (fun _ _ _ h=>h) (Or.inl ⟨by rfl,?_⟩) (by assumption) ?_
    rotate_left
    ·(intro W hSw;(try dsimp only at hSw);obtain ⟨g1,g2,g3,g4,g5,g6⟩:=hSw;have e0:=g1.at 0;have e1:=g1.at 1;have e2:=g1.at 2;have e3:=g1.at 3;have e4:=g1.at 4;have h0:=g2.at 0;have h1:=g2.at 1;have h2:=g2.at 2;have h3:=g2.at 3;clear g1 g2;try simp only [fiO2];first|(go_simp;done)|(go_simp;with_reducible rfl))
    try simp only [fiO2,Act.put,List.setIfInBounds_toArray,List.set_cons_zero,List.set_cons_succ]
    refine wpAnyH_take (i:=3) (oi:=fiO3) (v:=?_) rfl gK gK gK (fun _ _ _ h=>h) (Or.inl ⟨by rfl,?_⟩) (by assumption) ?_
    rotate_left
    ·(intro W hSw;(try dsimp only at hSw);try simp only [fiO3];first|(go_simp;done)|(go_simp;with_reducible rfl))
    try simp only [fiO3,Act.put,List.setIfInBounds_toArray,List.set_cons_zero,List.set_cons_succ]
    refine wpAnyH_take (i:=4) (oi:=fiO4) (v:=?_) rfl gK gK gK (fun _ _ _ h=>h) (Or.inl ⟨by rfl,?_⟩) (by assumption) ?_
    rotate_left
    ·(intro W hSw;(try dsimp only at hSw);try simp only [fiO4];first|(go_simp;done)|(go_simp;with_reducible rfl))
    try simp only [fiO4,Act.put,List.setIfInBounds_toArray,List.set_cons_zero,List.set_cons_succ]
    refine wpAnyH_take (i:=5) (oi:=fiO5) (v:=?_) rfl gK gK gK (fun _ _ _ h=>h) (Or.inl ⟨by rfl,?_⟩) (by assumption) ?_
    rotate_left
    ·(intro W hSw;(try dsimp only at hSw);obtain ⟨g1,g2,g3,g4,g5,g6⟩:=hSw;have e0:=g1.at 0;have e1:=g1.at 1;have e2:=g1.at 2;have e3:=g1.at 3;have e4:=g1.at 4;have h0:=g2.at 0;have h1:=g2.at 1;have h2:=g2.at 2;have h3:=g2.at 3;clear g1 g2;try simp only [fiO5];first|(go_simp;done)|(go_simp;with_reducible rfl))
    try simp only [fiO5,Act.put,List.setIfInBounds_toArray,List.set_cons_zero,List.set_cons_succ]
    refine wpAnyH_take (i:=6) (oi:=fiO6) (v:=?_) rfl gK gK gK (fun _ _ _ h=>h) (Or.inl ⟨by rfl,?_⟩) (by assumption) ?_
    rotate_left
    ·(intro W hSw;(try dsimp only at hSw);try simp only [fiO6];first|(go_simp;done)|(go_simp;with_reducible rfl))
    try simp only [fiO6,Act.put,List.setIfInBounds_toArray,List.set_cons_zero,List.set_cons_succ]
    refine wpAnyH_take (i:=7) (oi:=fiO7) (v:=?_) rfl gK gK gK (fun _ _ _ h=>h) (Or.inl ⟨by rfl,?_⟩) (by assumption) ?_
    rotate_left
    ·(intro W hSw;(try dsimp only at hSw);obtain ⟨g1,g2,g3,g4,g5,g6⟩:=hSw;have e0:=g1.at 0;have e1:=g1.at 1;have e2:=g1.at 2;have e3:=g1.at 3;have e4:=g1.at 4;have h0:=g2.at 0;have h1:=g2.at 1;have h2:=g2.at 2;have h3:=g2.at 3;clear g1 g2;try simp only [fiO7];first|(go_simp;done)|(go_simp;with_reducible rfl))
    try simp only [fiO7,Act.put,List.setIfInBounds_toArray,List.set_cons_zero,List.set_cons_succ]
    refine wpAnyH_take (i:=8) (oi:=fiO8) (v:=?_) rfl gK gK gK (fun _ _ _ h=>h) (Or.inl ⟨by rfl,?_⟩) (by assumption) ?_
    rotate_left
    ·(intro W hSw;(try dsimp only at hSw);try simp only [fiO8];first|(go_simp;done)|(go_simp;with_reducible rfl))
    try simp only [fiO8,Act.put,List.setIfInBounds_toArray,List.set_cons_zero,List.set_cons_succ]
    refine wpAnyH_ready (rs:=[9,14]) gK (by simp) ?_
    refine AllReadyH.cons (o:=fiO9) rfl (fun K hK=>?_) (AllReadyH.cons (o:=fiO14) rfl (fun K hK=>?_) AllReadyH.nil)
    ·
     try simp only [fiO9]
     go_simp
     (refine (CO _ (z0a B1 ((Below.refl _ w1).drew))).mono ?_)
     rintro e w9 ⟨rfl,rfl⟩
     refine hK.out _ _ ?_ (fun hHeld=>?_)
     ·((try dsimp only);exact ⟨T1.later ((Below.refl _ w1).drew),P1.later ((Below.refl _ w1).drew),C1.later ((Below.refl _ w1).drew)⟩)
     clear hK K
     try simp only [Act.put,sA,sB,sC]
     refine wpAnyH_ready (rs:=[10,14]) gK (by simp) ?_
     refine AllReadyH.cons (o:=fiO10) rfl (fun K hK=>?_) (AllReadyH.cons (o:=fiO14) rfl (fun K hK=>?_) AllReadyH.nil)
     ·
      try simp only [fiO10]
      go_simp
      (refine (FI _ (z0a B1 ((Below.refl _ w1).drew))).mono ?_)
      rintro e w10 ⟨rfl,b10⟩
      have d10:Below w1.heap.size w1 w10:=z0a ((Below.refl _ w1).drew) b10
      refine hK.out _ _ ?_ (fun hHeld=>?_)
      ·((try dsimp only);exact ⟨T1.later d10,P1.later d10,C1.later d10⟩)
      clear hK K
      try simp only [Act.put,sA,sB,sC]
      refine wpAnyH_take (i:=11) (oi:=fiO11) (v:=?_) rfl gK gK gK (fun _ _ _ h=>h) (Or.inl ⟨by rfl,?_⟩) (by assumption) ?_
      rotate_left
      ·(intro W hSw;(try dsimp only at hSw);try simp only [fiO11];first|(go_simp;done)|(go_simp;with_reducible rfl))
      try simp only [fiO11,Act.put,List.setIfInBounds_toArray,List.set_cons_zero,List.set_cons_succ]
      refine wpAnyH_take (i:=12) (oi:=fiO12) (v:=?_) rfl gK gK gK (fun _ _ _ h=>h) (Or.inl ⟨by rfl,?_⟩) (by assumption) ?_
      rotate_left
      ·(intro W hSw;(try dsimp only at hSw);try simp only [fiO12];first|(go_simp;done)|(go_simp;with_reducible rfl))
      try simp only [fiO12,Act.put,List.setIfInBounds_toArray,List.set_cons_zero,List.set_cons_succ]
      refine wpAnyH_take (i:=13) (oi:=fiO13) (v:=?_) rfl gK gK gK (fun _ _ _ h=>h) (Or.inl ⟨by rfl,?_⟩) (by assumption) ?_
      rotate_left
      ·(intro W hSw;(try dsimp only at hSw);try simp only [fiO13];first|(go_simp;done)|(go_simp;with_reducible rfl))
      try simp only [fiO13,Act.put,List.setIfInBounds_toArray,List.set_cons_zero,List.set_cons_succ]
      refine wpAnyH_ready (rs:=[14]) gK (by simp) ?_
      refine AllReadyH.cons (o:=fiO14) rfl (fun K hK=>?_) AllReadyH.nil
      try simp only [fiO14]
      go_simp
      refine hK.out _ _ ?_ (fun hHeld=>?_)
      ·((try dsimp only);exact ⟨T1.later ((d10).alloc (d10).size (.cells #[.int .i64 0,.int .i64 0,.int .i64 0,.string ⟨#[]⟩] 44)),P1.later ((d10).alloc (d10).size (.cells #[.int .i64 0,.int .i64 0,.int .i64 0,.string ⟨#[]⟩] 44)),C1.later ((d10).alloc (d10).size (.cells #[.int .i64 0,.int .i64 0,.int .i64 0,.string ⟨#[]⟩] 44))⟩)
      clear hK K
      try simp only [Act.put,sA,sB,sC]
      have q14:Cbox (w10.alloc (.cells #[.int .i64 0,.int .i64 0,.int .i64 0,.string ⟨#[]⟩] 44)) w10.heap.size #[.int .i64 0,.int .i64 0,.int .i64 0,.string ⟨#[]⟩] 44:=Cbox.new w10 _ _
      have d14:=(d10).alloc (d10).size (.cells #[.int .i64 0,.int .i64 0,.int .i64 0,.string ⟨#[]⟩] 44)
      have hp:w1.heap.size≤w10.heap.size:=(d10).size
      generalize w10.alloc (.cells #[.int .i64 0,.int .i64 0,.int .i64 0,.string ⟨#[]⟩] 44)=w14 at *
      generalize w10.heap.size=p at q14 hp ⊢
      refine wpAnyH_ready (rs:=[15]) gK (by simp) ?_
      refine AllReadyH.cons (o:=fiO15) rfl (fun K hK=>?_) AllReadyH.nil
      have y0:=q14.at 0
      have y1:=q14.at 1
      have y2:=q14.at 2
      have y3:=q14.at 3
      have f0:=q14.free 0
      have f1:=q14.free 1
      have f2:=q14.free 2
      have f3:=q14.free 3
      have ql:=q14.lt
      simp at y0 y1 y2 y3
      have Q1:=z0q q14 0 (.int .i64 rk)
      have Q2:=z0q Q1 1 (.int .i64 rn)
      have Q3:=z0q Q2 2 (.int .i64 rm)
      have Q4:=z0q Q3 3 (.string RB)
      have ht:w.heap.size≠p:=by have:=T1.lt;omega
      have hv:pv≠p:=by have:=P1.lt;omega
      have hcb:cb≠p:=by have:=C1.lt;omega
      have G4:=store4 w14 p (.int .i64 rk) (.int .i64 rn) (.int .i64 rm) (.string RB)
      have TB:=(T1.later d14).grown G4 (by simpa using ht)
      have PB:=(P1.later d14).grown G4 (by simpa using hv)
      have CB:=c4_grown (C1.later d14) G4 (by simpa using hcb)
      have EB:=(Below.refl w1.heap.size w1).trans (((d14).grown G4 (d14).size (fun k hk=>by have:=Option.some.inj hk;omega)))
      clear Q1 Q2 Q3
      try simp only [fiO15]
      go_simp
      refine hK.out _ _ ?_ (fun hHeld=>?_)
      ·((try dsimp only);exact ⟨TB,PB,CB⟩)
      clear hK K
      try simp only [fiO15,Act.put,List.setIfInBounds_toArray,List.set_cons_zero,List.set_cons_succ]
      refine wpAnyH_take (i:=16) (oi:=fiO16) (v:=?_) rfl gK gK gK (fun _ _ _ h=>h) (Or.inl ⟨by rfl,?_⟩) (by assumption) ?_
      rotate_left
      ·(intro W hSw;(try dsimp only at hSw);try simp only [fiO16];first|(go_simp;done)|(go_simp;with_reducible rfl))
      try simp only [fiO16,Act.put,List.setIfInBounds_toArray,List.set_cons_zero,List.set_cons_succ]
      refine wpAnyH_done gK ?_ _
      clear y0 y1 y2 y3 f0 f1 f2 f3 ql q14 hHeld G4
      simp only [List.setIfInBounds_toArray,List.set_cons_zero,List.set_cons_succ] at Q4
      generalize (((w14.setCell ⟨p,0,none⟩ (.int .i64 rk)).setCell ⟨p,1,none⟩ (.int .i64 rn)).setCell ⟨p,2,none⟩ (.int .i64 rm)).setCell ⟨p,3,none⟩ (.string RB)=w15 at *
      go_wp2_with fail
      go_meet
      exact ⟨p,rfl,rfl,⟨EB,Q4,by omega⟩⟩
     ·
      try simp only [fiO14]
      go_simp
      refine hK.out _ _ ?_ (fun hHeld=>?_)
      ·((try dsimp only);first|exact ⟨T1.later (((Below.refl _ w1).alloc (Nat.le_refl _) (.cells #[.int .i64 0,.int .i64 0,.int .i64 0,.string ⟨#[]⟩] 44)).drew),P1.later (((Below.refl _ w1).alloc (Nat.le_refl _) (.cells #[.int .i64 0,.int .i64 0,.int .i64 0,.string ⟨#[]⟩] 44)).drew),C1.later (((Below.refl _ w1).alloc (Nat.le_refl _) (.cells #[.int .i64 0,.int .i64 0,.int .i64 0,.string ⟨#[]⟩] 44)).drew)⟩|exact ⟨T1.later ((Below.refl _ w1).drew.alloc (Nat.le_refl _) (.cells #[.int .i64 0,.int .i64 0,.int .i64 0,.string ⟨#[]⟩] 44)),P1.later ((Below.refl _ w1).drew.alloc (Nat.le_refl _) (.cells #[.int .i64 0,.int .i64 0,.int .i64 0,.string ⟨#[]⟩] 44)),C1.later ((Below.refl _ w1).drew.alloc (Nat.le_refl _) (.cells #[.int .i64 0,.int .i64 0,.int .i64 0,.string ⟨#[]⟩] 44))⟩)
      clear hK K
      try simp only [Act.put,sA,sB,sC]
      have q14:Cbox ((w1.alloc (.cells #[.int .i64 0,.int .i64 0,.int .i64 0,.string ⟨#[]⟩] 44)).drew) w1.heap.size #[.int .i64 0,.int .i64 0,.int .i64 0,.string ⟨#[]⟩] 44:=(Cbox.new w1 _ _).later ((Below.refl _ _).drew)
      have d14:=((Below.refl _ w1).alloc (Nat.le_refl _) (.cells #[.int .i64 0,.int .i64 0,.int .i64 0,.string ⟨#[]⟩] 44)).drew
      have hp:w1.heap.size≤w1.heap.size:=Nat.le_refl _
      generalize (w1.alloc (.cells #[.int .i64 0,.int .i64 0,.int .i64 0,.string ⟨#[]⟩] 44)).drew=w14 at *
      generalize hpe:w1.heap.size=p at q14 hp ⊢
      refine wpAnyH_ready (rs:=[10]) gK (by simp) ?_
      refine AllReadyH.cons (o:=fiO10) rfl (fun K hK=>?_) AllReadyH.nil
      try simp only [fiO10]
      go_simp
      (refine (FI _ (z0a B1 d14)).mono ?_)
      rintro e w10 ⟨rfl,b10⟩
      have d10:Below w1.heap.size w1 w10:=z0a d14 b10
      have q14:=q14.later b10
      refine hK.out _ _ ?_ (fun hHeld=>?_)
      ·((try dsimp only);exact ⟨T1.later d10,P1.later d10,C1.later d10⟩)
      clear hK K
      try simp only [Act.put,sA,sB,sC]
      refine wpAnyH_take (i:=11) (oi:=fiO11) (v:=?_) rfl gK gK gK (fun _ _ _ h=>h) (Or.inl ⟨by rfl,?_⟩) (by assumption) ?_
      rotate_left
      ·(intro W hSw;(try dsimp only at hSw);try simp only [fiO11];first|(go_simp;done)|(go_simp;with_reducible rfl))
      try simp only [fiO11,Act.put,List.setIfInBounds_toArray,List.set_cons_zero,List.set_cons_succ]
      refine wpAnyH_take (i:=12) (oi:=fiO12) (v:=?_) rfl gK gK gK (fun _ _ _ h=>h) (Or.inl ⟨by rfl,?_⟩) (by assumption) ?_
      rotate_left
      ·(intro W hSw;(try dsimp only at hSw);try simp only [fiO12];first|(go_simp;done)|(go_simp;with_reducible rfl))
      try simp only [fiO12,Act.put,List.setIfInBounds_toArray,List.set_cons_zero,List.set_cons_succ]
      refine wpAnyH_take (i:=13) (oi:=fiO13) (v:=?_) rfl gK gK gK (fun _ _ _ h=>h) (Or.inl ⟨by rfl,?_⟩) (by assumption) ?_
      rotate_left
      ·(intro W hSw;(try dsimp only at hSw);try simp only [fiO13];first|(go_simp;done)|(go_simp;with_reducible rfl))
      try simp only [fiO13,Act.put,List.setIfInBounds_toArray,List.set_cons_zero,List.set_cons_succ]
      refine wpAnyH_ready (rs:=[15]) gK (by simp) ?_
      refine AllReadyH.cons (o:=fiO15) rfl (fun K hK=>?_) AllReadyH.nil
      have y0:=q14.at 0
      have y1:=q14.at 1
      have y2:=q14.at 2
      have y3:=q14.at 3
      have f0:=q14.free 0
      have f1:=q14.free 1
      have f2:=q14.free 2
      have f3:=q14.free 3
      have ql:=q14.lt
      simp at y0 y1 y2 y3
      have Q1:=z0q q14 0 (.int .i64 rk)
      have Q2:=z0q Q1 1 (.int .i64 rn)
      have Q3:=z0q Q2 2 (.int .i64 rm)
      have Q4:=z0q Q3 3 (.string RB)
      have ht:w.heap.size≠p:=by have:=T1.lt;omega
      have hv:pv≠p:=by have:=P1.lt;omega
      have hcb:cb≠p:=by have:=C1.lt;omega
      have G4:=store4 w10 p (.int .i64 rk) (.int .i64 rn) (.int .i64 rm) (.string RB)
      have TB:=(T1.later d10).grown G4 (by simpa using ht)
      have PB:=(P1.later d10).grown G4 (by simpa using hv)
      have CB:=c4_grown (C1.later d10) G4 (by simpa using hcb)
      have EB:=(Below.refl w1.heap.size w1).trans (((d10).grown G4 (d10).size (fun k hk=>by have:=Option.some.inj hk;omega)))
      clear Q1 Q2 Q3
      try simp only [fiO15]
      go_simp
      refine hK.out _ _ ?_ (fun hHeld=>?_)
      ·((try dsimp only);exact ⟨TB,PB,CB⟩)
      clear hK K
      try simp only [fiO15,Act.put,List.setIfInBounds_toArray,List.set_cons_zero,List.set_cons_succ]
      refine wpAnyH_take (i:=16) (oi:=fiO16) (v:=?_) rfl gK gK gK (fun _ _ _ h=>h) (Or.inl ⟨by rfl,?_⟩) (by assumption) ?_
      rotate_left
      ·(intro W hSw;(try dsimp only at hSw);try simp only [fiO16];first|(go_simp;done)|(go_simp;with_reducible rfl))
      try simp only [fiO16,Act.put,List.setIfInBounds_toArray,List.set_cons_zero,List.set_cons_succ]
      refine wpAnyH_done gK ?_ _
      clear y0 y1 y2 y3 f0 f1 f2 f3 ql q14 hHeld G4
      simp only [List.setIfInBounds_toArray,List.set_cons_zero,List.set_cons_succ] at Q4
      generalize (((w10.setCell ⟨p,0,none⟩ (.int .i64 rk)).setCell ⟨p,1,none⟩ (.int .i64 rn)).setCell ⟨p,2,none⟩ (.int .i64 rm)).setCell ⟨p,3,none⟩ (.string RB)=w15 at *
      go_wp2_with fail
      go_meet
      exact ⟨p,rfl,rfl,⟨EB,Q4,by omega⟩⟩
    ·
     try simp only [fiO14]
     go_simp
     refine hK.out _ _ ?_ (fun hHeld=>?_)
     ·((try dsimp only);first|exact ⟨T1.later (((Below.refl _ w1).alloc (Nat.le_refl _) (.cells #[.int .i64 0,.int .i64 0,.int .i64 0,.string ⟨#[]⟩] 44)).drew),P1.later (((Below.refl _ w1).alloc (Nat.le_refl _) (.cells #[.int .i64 0,.int .i64 0,.int .i64 0,.string ⟨#[]⟩] 44)).drew),C1.later (((Below.refl _ w1).alloc (Nat.le_refl _) (.cells #[.int .i64 0,.int .i64 0,.int .i64 0,.string ⟨#[]⟩] 44)).drew)⟩|exact ⟨T1.later ((Below.refl _ w1).drew.alloc (Nat.le_refl _) (.cells #[.int .i64 0,.int .i64 0,.int .i64 0,.string ⟨#[]⟩] 44)),P1.later ((Below.refl _ w1).drew.alloc (Nat.le_refl _) (.cells #[.int .i64 0,.int .i64 0,.int .i64 0,.string ⟨#[]⟩] 44)),C1.later ((Below.refl _ w1).drew.alloc (Nat.le_refl _) (.cells #[.int .i64 0,.int .i64 0,.int .i64 0,.string ⟨#[]⟩] 44))⟩)
     clear hK K
     try simp only [Act.put,sA,sB,sC]
     have q14:Cbox ((w1.alloc (.cells #[.int .i64 0,.int .i64 0,.int .i64 0,.string ⟨#[]⟩] 44)).drew) w1.heap.size #[.int .i64 0,.int .i64 0,.int .i64 0,.string ⟨#[]⟩] 44:=(Cbox.new w1 _ _).later ((Below.refl _ _).drew)
     have d14:=((Below.refl _ w1).alloc (Nat.le_refl _) (.cells #[.int .i64 0,.int .i64 0,.int .i64 0,.string ⟨#[]⟩] 44)).drew
     have hp:w1.heap.size≤w1.heap.size:=Nat.le_refl _
     generalize (w1.alloc (.cells #[.int .i64 0,.int .i64 0,.int .i64 0,.string ⟨#[]⟩] 44)).drew=w14 at *
     generalize hpe:w1.heap.size=p at q14 hp ⊢
     refine wpAnyH_ready (rs:=[9]) gK (by simp) ?_
     refine AllReadyH.cons (o:=fiO9) rfl (fun K hK=>?_) AllReadyH.nil
     try simp only [fiO9]
     go_simp
     (refine (CO _ (z0a B1 d14)).mono ?_)
     rintro e w9 ⟨rfl,rfl⟩
     refine hK.out _ _ ?_ (fun hHeld=>?_)
     ·((try dsimp only);exact ⟨T1.later d14,P1.later d14,C1.later d14⟩)
     clear hK K
     try simp only [Act.put,sA,sB,sC]
     refine wpAnyH_ready (rs:=[10]) gK (by simp) ?_
     refine AllReadyH.cons (o:=fiO10) rfl (fun K hK=>?_) AllReadyH.nil
     try simp only [fiO10]
     go_simp
     (refine (FI _ (z0a B1 d14)).mono ?_)
     rintro e w10 ⟨rfl,b10⟩
     have d10:Below w1.heap.size w1 w10:=z0a d14 b10
     have q14:=q14.later b10
     refine hK.out _ _ ?_ (fun hHeld=>?_)
     ·((try dsimp only);exact ⟨T1.later d10,P1.later d10,C1.later d10⟩)
     clear hK K
     try simp only [Act.put,sA,sB,sC]
     refine wpAnyH_take (i:=11) (oi:=fiO11) (v:=?_) rfl gK gK gK (fun _ _ _ h=>h) (Or.inl ⟨by rfl,?_⟩) (by assumption) ?_
     rotate_left
     ·(intro W hSw;(try dsimp only at hSw);try simp only [fiO11];first|(go_simp;done)|(go_simp;with_reducible rfl))
     try simp only [fiO11,Act.put,List.setIfInBounds_toArray,List.set_cons_zero,List.set_cons_succ]
     refine wpAnyH_take (i:=12) (oi:=fiO12) (v:=?_) rfl gK gK gK (fun _ _ _ h=>h) (Or.inl ⟨by rfl,?_⟩) (by assumption) ?_
     rotate_left
     ·(intro W hSw;(try dsimp only at hSw);try simp only [fiO12];first|(go_simp;done)|(go_simp;with_reducible rfl))
     try simp only [fiO12,Act.put,List.setIfInBounds_toArray,List.set_cons_zero,List.set_cons_succ]
     refine wpAnyH_take (i:=13) (oi:=fiO13) (v:=?_) rfl gK gK gK (fun _ _ _ h=>h) (Or.inl ⟨by rfl,?_⟩) (by assumption) ?_
     rotate_left
     ·(intro W hSw;(try dsimp only at hSw);try simp only [fiO13];first|(go_simp;done)|(go_simp;with_reducible rfl))
     try simp only [fiO13,Act.put,List.setIfInBounds_toArray,List.set_cons_zero,List.set_cons_succ]
     refine wpAnyH_ready (rs:=[15]) gK (by simp) ?_
     refine AllReadyH.cons (o:=fiO15) rfl (fun K hK=>?_) AllReadyH.nil
     have y0:=q14.at 0
     have y1:=q14.at 1
     have y2:=q14.at 2
     have y3:=q14.at 3
     have f0:=q14.free 0
     have f1:=q14.free 1
     have f2:=q14.free 2
     have f3:=q14.free 3
     have ql:=q14.lt
     simp at y0 y1 y2 y3
     have Q1:=z0q q14 0 (.int .i64 rk)
     have Q2:=z0q Q1 1 (.int .i64 rn)
     have Q3:=z0q Q2 2 (.int .i64 rm)
     have Q4:=z0q Q3 3 (.string RB)
     have ht:w.heap.size≠p:=by have:=T1.lt;omega
     have hv:pv≠p:=by have:=P1.lt;omega
     have hcb:cb≠p:=by have:=C1.lt;omega
     have G4:=store4 w10 p (.int .i64 rk) (.int .i64 rn) (.int .i64 rm) (.string RB)
     have TB:=(T1.later d10).grown G4 (by simpa using ht)
     have PB:=(P1.later d10).grown G4 (by simpa using hv)
     have CB:=c4_grown (C1.later d10) G4 (by simpa using hcb)
     have EB:=(Below.refl w1.heap.size w1).trans (((d10).grown G4 (d10).size (fun k hk=>by have:=Option.some.inj hk;omega)))
     clear Q1 Q2 Q3
     try simp only [fiO15]
     go_simp
     refine hK.out _ _ ?_ (fun hHeld=>?_)
     ·((try dsimp only);exact ⟨TB,PB,CB⟩)
     clear hK K
     try simp only [fiO15,Act.put,List.setIfInBounds_toArray,List.set_cons_zero,List.set_cons_succ]
     refine wpAnyH_take (i:=16) (oi:=fiO16) (v:=?_) rfl gK gK gK (fun _ _ _ h=>h) (Or.inl ⟨by rfl,?_⟩) (by assumption) ?_
     rotate_left
     ·(intro W hSw;(try dsimp only at hSw);try simp only [fiO16];first|(go_simp;done)|(go_simp;with_reducible rfl))
     try simp only [fiO16,Act.put,List.setIfInBounds_toArray,List.set_cons_zero,List.set_cons_succ]
     refine wpAnyH_done gK ?_ _
     clear y0 y1 y2 y3 f0 f1 f2 f3 ql q14 hHeld G4
     simp only [List.setIfInBounds_toArray,List.set_cons_zero,List.set_cons_succ] at Q4
     generalize (((w10.setCell ⟨p,0,none⟩ (.int .i64 rk)).setCell ⟨p,1,none⟩ (.int .i64 rn)).setCell ⟨p,2,none⟩ (.int .i64 rm)).setCell ⟨p,3,none⟩ (.string RB)=w15 at *
     go_wp2_with fail
     go_meet
     exact ⟨p,rfl,rfl,⟨EB,Q4,by omega⟩⟩
   rename World=>w5
   obtain ⟨p,rfl,rfl,hcut⟩:=hcut
   obtain ⟨b5,Q5,hp5⟩:=hcut.out
   clear hcut CO FI
   have B5:=z0a B1 b5
   have T5:=T1.later b5
   obtain ⟨gcs,F5⟩:∃ cs,Cbox w5 gl cs 44:=by obtain ⟨cs,h⟩:=HF1.out;exact ⟨cs,h.later b5⟩
   have HD5:Hid (∀ j,j<m→At4 w5 gl (j*4) (z9q t row k j)):=fun j hj=>(HD1.out j hj).later b5
   have hglp:gl≠p:=by obtain ⟨cs,h⟩:=HF1.out;have:=h.lt;omega
   have y0:=Q5.at 0
   have y1:=Q5.at 1
   have y2:=Q5.at 2
   have y3:=Q5.at 3
   have yl:=Q5.lt
   simp at y0 y1 y2 y3
   by_cases hre:re=0
   case neg =>
    have hre':(re != 0)=true:=by simpa using hre
    have HS:Hid (FG=([],re)):=HERR hre
    have HN0:Hid (re≠0):=hre
    clear hre HERR HEK HPK
    go_wp2
    go_ret2
    exact ⟨by rw [HS.out];exact fitr_none w _ re HN0.out,B5⟩
   subst hre
   have HEK2:Hid (∀ i,i<k+1→(z2a t row i).2=0):=HEK.out rfl
   obtain ⟨a0,a1,a2,a3⟩:=HD5.out k hlt
   have f0:=F5.free (k*4)
   have f1:=F5.free (k*4+1)
   have f2:=F5.free (k*4+2)
   have f3:=F5.free (k*4+3)
   have gl5:=F5.lt
   have HF5:Hid (Cbox w5 gl gcs 44):=F5
   have HT5:Hid (Cbox w5 w.heap.size #[.string NB,.slice (some ⟨cb,cf,none⟩) m cc,.slice ko kn kc,.slice uo un uc,.slice xo xn xc] 33):=T5
   have HB5:Hid (Below w.heap.size w w5):=B5
   clear F5 T5 B5 HEK HERR T1 P1 C1 B1 Q5 b5
   go_wp2
   go_roundw
   case rel =>
    refine ⟨k+1,by go_num,by omega,?_,?_,?_,?_,HEK2⟩
    ·exact HB5.out.grown (store4o w5 gl (k*4) (.int .i64 rk) (.int .i64 rn) (.int .i64 rm) (.string RB)) HB5.out.size (fun x hx=>by have:=Option.some.inj hx;omega)
    ·exact HT5.out.grown (store4o w5 gl (k*4) (.int .i64 rk) (.int .i64 rn) (.int .i64 rm) (.string RB)) (by simpa using hgt)
    ·exact ⟨_,heap_setCell_same _ gl _ _ _ _ (heap_setCell_same _ gl _ _ _ _ (heap_setCell_same _ gl _ _ _ _ (heap_setCell_same w5 gl _ _ _ _ HF5.out)))⟩
    ·intro j hj
     rw [HPK.out j]
     by_cases hji:j=k
     ·subst hji
      rw [if_pos rfl]
      have:=at4_set (v:=⟨rk,rn,rm,rb⟩) (HD5.out j hlt)
      rw [HRB.out]
      exact this
     ·rw [if_neg hji]
      exact at4_off _ _ _ _ (HD5.out j hj) (by omega)
   case measure=>simp [intOf];omega
  ·have hlt':¬ (k:Int)<(m:Int):=by omega
   obtain rfl:k=m:=by omega
   have hall:∀ i,i<row.length→(z2a t row i).2=0:=fun i hi=>hE.out i (by rw [HRL.out] at hi;exact hi)
   have HV:Vs wr (some ⟨gl,0,none⟩) (z2f t row):=fun _=>⟨gl,0,rfl,fun j hj=>by
    have hj2:j<k:=by rw [z2g,HRL.out] at hj;exact hj
    have:=hD.out j hj2
    unfold z9q at this
    rw [if_pos hj2] at this
    rw [Nat.zero_add,z6k]
    exact this⟩
   have CKw:=CKm.out gl wr hall hB.out HV
   have HS0:Hid (FG=if chdR t (z2f t row)=0 then (z2f t row,0) else ([],chdR t (z2f t row))):=HGC.out hall
   have HML:Hid ((z2f t row).length=k):=(z2g t row).trans HRL.out
   generalize z2f t row=ML at *
   generalize chdR t ML=X at *
   have HV2:Hid (Vs wr (some ⟨gl,0,none⟩) ML):=HV
   have HBk:Hid (Below w.heap.size w wr):=hB.out
   have z0:=hA.out.at 0
   have z1:=hA.out.at 1
   have z2:=hA.out.at 2
   have z3:=hA.out.at 3
   have z4:=hA.out.at 4
   clear hall HV hA hB hF hD hE
   by_cases hX:X=0
   ·have HS:Hid (FG=(ML,0)):=by show _=_;rw [HS0.out,if_pos hX]
    subst hX
    clear HS0
    go_wp2_with fail
    refine CKw.mono ?_
    rintro e w6 ⟨rfl,b6⟩
    go_wp2
    go_ret2
    refine ⟨?_,z0a HBk.out b6⟩
    rw [HS.out]
    refine ⟨some ⟨gl,0,none⟩,k,?_,HV2.out.later b6,fun _=>⟨gl,rfl,hgw⟩⟩
    rw [HML.out]
    rfl
   ·have HS:Hid (FG=([],X)):=by show _=_;rw [HS0.out,if_neg hX]
    have hX':(X != 0)=true:=by simpa using hX
    have HX0:Hid (X≠0):=hX
    clear HS0 hX
    go_wp2_with fail
    refine CKw.mono ?_
    rintro e w6 ⟨rfl,b6⟩
    go_wp2
    go_ret2
    exact ⟨by rw [HS.out];exact fitr_none w _ X HX0.out,z0a HBk.out b6⟩
theorem fit_any (t:Tb) (q:Tp) (ro:Option Addr) (rc:Nat) (row:List Va) (w:World) (hW:TbW w t q) (hT:Tabs w) (hPw:Pw w) (hr:Vs w ro row) (hi6:∀ x∈t.ck,vin x.v) (hir:∀ v∈row,vin v) (hrl:row.length≤140737488351232) :
  Calls Tryz.prog 6 #[.agg (tbcs t q),.slice ro row.length rc] w fun e w'=>FitR w (fitR t row) e w'∧Below w.heap.size w w':=by
 unfold fitR
 by_cases h:tbP t∧row.length=t.cs.length∧ckE row=0
 ·rw [if_pos h]
  exact fit_good t q ro rc row w hW hT hPw hr hi6 hir h.1 h.2.1 h.2.2
 ·rw [if_neg h]
  refine (fit_bad t q ro rc row w hW hT hr hrl h).mono ?_
  rintro e w' ⟨rfl,b⟩
  exact ⟨fitr_none w w' 1 (by decide),b⟩
end Go.Proofs.YtljkonkfeiojnaaGreatDoor

namespace Go.Proofs.YtljkonkfeiojnaaGreatDoor
open Go.RowKit Go.Shelf
def ivs (l:List Int):List Value:=l.map fun n=>.int .i64 n
theorem ivs_len (l:List Int):(ivs l).length=l.length*1:=by simp [ivs]
theorem ivs_one (l:List Int):∀ u∈ivs l,u.oneCell'=true:=by
 intro u hu
 simp only [ivs,List.mem_map] at hu
 obtain ⟨t,_,rfl⟩:=hu
 rfl
theorem iw_nil {w:World} {l:List Int} (h:Iw w none l):l=[]:=by
 cases l with
 | nil=>rfl
 | cons a l=>obtain ⟨b,off,e,_⟩:=h (by simp);cases e
theorem src_of_iw {w:World} {ao:Option Addr} {cap:Nat} {l:List Int} (h:Iw w ao l):Src Tryz.prog 1 23 (.slice ao l.length cap) l.length (ivs l) w:=by
 cases ao with
 | none =>
  have:=iw_nil h
  subst this
  exact Src.ofNil w Tryz.underlying23 cap
 | some a =>
  refine Src.ofSlice w Tryz.underlying23 a l.length cap (ivs l) (ivs_len l) (fun j u hu=>?_) (ivs_one l)
  have hj:j<(ivs l).length:=(List.getElem?_eq_some_iff.1 hu).1
  rw [ivs_len] at hj
  obtain ⟨b,off,e,hc⟩:=h (by omega)
  cases e
  rw [Addr.add_lit,hc j (by omega),← hu]
  simp [ivs,show j<l.length by omega]
theorem z4c {w:World} {base:Nat} {v:Value} {l:List Int} (h:w.ownsRow base 3 1 v l.length (ivs l)):∃ ao cap,v=.slice ao l.length cap∧Iw w ao l∧l.length≤cap:=by
 obtain ⟨h1,h2⟩:=h
 rcases h2 with ⟨rfl,hn⟩|⟨g,cap,cur,rfl,hb,hg,hnc,hcm,hcs,htake⟩
 ·have:l=[]:=List.eq_nil_of_length_eq_zero hn
  subst this
  exact ⟨none,0,rfl,(fun h=>by simp at h),Nat.le_refl _⟩
 ·refine ⟨some ⟨g,0,none⟩,cap,rfl,(fun _=>⟨g,0,rfl,fun i hi=>?_⟩),hnc⟩
  rw [Nat.zero_add,cell_of_row w g i cur 3 (0,0) hg]
  have h3:cur[i]?=(cur.toList.take (l.length*1))[i]?:=by
   rw [List.getElem?_take,if_pos (by omega)];simp
  rw [h3,htake]
  simp [ivs,hi]
def c4s (c:Co):List Value:=[.string ⟨c.n.toArray⟩,.int .i64 c.k,.int .i64 c.s,.bool c.m]
def ccl (l:List Co):List Value:=l.flatMap c4s
theorem ccl_snoc (l:List Co) (c:Co):ccl (l++[c])=ccl l++c4s c:=by simp [ccl]
theorem ccl_at (x:List Co):∀ (i j:Nat) (hi:i<x.length),j<4→(ccl x)[i*4+j]?=(c4s x[i])[j]?:=by
 induction x with
 | nil=>intro i j hi;simp at hi
 | cons a x ih =>
  intro i j hi hj
  have e:ccl (a::x)=c4s a++ccl x:=by simp [ccl]
  rw [e]
  cases i with
  | zero =>
   rw [List.getElem?_append_left (by simp [c4s];omega)]
   simp
  | succ i =>
   rw [List.getElem?_append_right (by simp [c4s];omega)]
   have h1:(i+1)*4+j - (c4s a).length=i*4+j:=by simp [c4s];omega
   rw [h1]
   exact ih i j (by simpa using hi) hj
theorem cw_of_own {w:World} {base:Nat} {v:Value} {l:List Co} (h:w.ownsRow base 53 4 v l.length (ccl l)):∃ ao cap,v=.slice ao l.length cap∧Cw w ao l∧l.length≤cap:=by
 obtain ⟨h1,h2⟩:=h
 rcases h2 with ⟨rfl,hn⟩|⟨g,cap,cur,rfl,hb,hg,hnc,hcm,hcs,htake⟩
 ·have:l=[]:=List.eq_nil_of_length_eq_zero hn
  subst this
  exact ⟨none,0,rfl,(fun h=>by simp at h),Nat.le_refl _⟩
 ·refine ⟨some ⟨g,0,none⟩,cap,rfl,(fun _=>⟨g,0,rfl,fun i hi=>?_⟩),hnc⟩
  have hcell:∀ j,j<4→w.cell? ⟨g,i*4+j,none⟩=(c4s l[i])[j]?:=fun j hj=>by
   rw [cell_of_row w g (i*4+j) cur 53 (0,0) hg]
   have h3:cur[i*4+j]?=(cur.toList.take (l.length*4))[i*4+j]?:=by
    rw [List.getElem?_take,if_pos (by omega)];simp
   rw [h3,htake,ccl_at l i j hi hj]
  rw [Nat.zero_add]
  exact ⟨hcell 0 (by omega),hcell 1 (by omega),hcell 2 (by omega),hcell 3 (by omega)⟩
theorem z3p {w:World} {b1 b2 s1 s2 n1 n2:Nat} {e1 e2:TypeId} {v1 v2:Value} {x1 x2:List Value} (h1:w.ownsRow b1 e1 s1 v1 n1 x1) (h2:w.ownsRow b2 e2 s2 v2 n2 x2) (hne:e1≠e2):∀ g,v1.ownBlock=some g→some g≠v2.ownBlock:=by
 intro g hg e
 rcases h1.2 with ⟨rfl,_⟩|⟨g1,_,_,rfl,_,hg1,_⟩
 ·cases hg
 ·rcases h2.2 with ⟨rfl,_⟩|⟨g2,_,_,rfl,_,hg2,_⟩
  ·cases e
  ·have a1:g1=g:=Option.some.inj hg
   have a2:g=g2:=Option.some.inj e
   subst a1 a2
   rw [hg1] at hg2
   have:=Option.some.inj hg2
   injection this with _ h
   exact hne h
theorem z3q {w:World} {b1 s1 n1 p:Nat} {e1 ty:TypeId} {v1:Value} {x1:List Value} {cs:Array Value} (h1:w.ownsRow b1 e1 s1 v1 n1 x1) (hc:Cbox w p cs ty) (hne:e1≠ty):∀ g,v1.ownBlock=some g→g≠p:=by
 intro g hg e
 rcases h1.2 with ⟨rfl,_⟩|⟨g1,_,_,rfl,_,hg1,_⟩
 ·cases hg
 ·have a1:g1=g:=Option.some.inj hg
  subst a1 e
  unfold Cbox at hc
  rw [hg1] at hc
  have:=Option.some.inj hc
  injection this with _ h
  exact hne h
abbrev Z5:Array Value:=#[.string ⟨#[]⟩,.slice none 0 0,.slice none 0 0,.slice none 0 0,.slice none 0 0]
structure OwS (w wr:World) (t:Tb) (NB:ByteArray) (rcs:Array Value) (p:Nat) (cv uv kv xv:Value) (kc ku:Nat) (vs:List Value):Prop where
 bel:Below w.heap.size w wr
 tb:Cbox wr w.heap.size rcs 27
 rb:Cbox wr (w.heap.size+1) Z5 33
 ob:Cbox wr p #[.string NB,cv,kv,uv,xv] 33
 pp:w.heap.size+2≤p
 ok:wr.ownsRow (w.heap.size+2) 3 1 kv t.key.length (ivs t.key)
 ox:z1n wr (w.heap.size+2) xv t.ck
 oc:wr.ownsRow (w.heap.size+2) 53 4 cv kc (ccl (t.cs.take kc))
 ou:wr.ownsRow (w.heap.size+2) 23 1 uv ku vs
 ol:vs.length=ku
 ov:∀ i (h:i<vs.length) (h2:i<t.us.length),wr.ownsRow (w.heap.size+2) 3 1 vs[i] t.us[i].length (ivs t.us[i])
theorem z1b {w w':World} {base n:Nat} {e:TypeId} {size:Nat} {v:Value} {xs:List Value} (h:w.ownsRow base e size v n xs) (hb:Below w.heap.size w w'):w'.ownsRow base e size v n xs:=by
 obtain ⟨h1,h2⟩:=h
 refine ⟨h1,?_⟩
 rcases h2 with hn|⟨g,cap,cur,hv,hbg,hg,rest⟩
 ·exact .inl hn
 ·refine .inr ⟨g,cap,cur,hv,hbg,?_,rest⟩
  rw [hb.block g (by rcases Nat.lt_or_ge g w.heap.size with h|h;exact h;rw [Array.getElem?_eq_none h] at hg;cases hg)]
  exact hg
theorem OwS.later {w wr wx:World} {t:Tb} {NB:ByteArray} {rcs:Array Value} {p:Nat} {cv uv kv xv:Value} {kc ku:Nat} {vs:List Value} (h:OwS w wr t NB rcs p cv uv kv xv kc ku vs) (hb:Below wr.heap.size wr wx):OwS w wx t NB rcs p cv uv kv xv kc ku vs :=
 ⟨z0a h.bel hb,h.tb.later hb,h.rb.later hb,h.ob.later hb,h.pp,z1b h.ok hb,z1b h.ox hb,z1b h.oc hb,z1b h.ou hb,h.ol,fun i h1 h2=>z1b (h.ov i h1 h2) hb⟩
theorem OwS.col {w wr w2:World} {t:Tb} {NB:ByteArray} {rcs:Array Value} {p:Nat} {cv uv kv xv v':Value} {kc ku:Nat} {vs:List Value} (h:OwS w wr t NB rcs p cv uv kv xv kc ku vs) (hk:kc<t.cs.length) (hgr:wr.grownBy w2 cv.ownBlock) (hown:w2.ownsRow (w.heap.size+2) 53 4 v' (kc+1) (ccl (t.cs.take kc)++c4s t.cs[kc])) (hw:w.heap.size+2≤wr.heap.size) :
  Cbox w2 p #[.string NB,cv,kv,uv,xv] 33∧OwS w (w2.setCell ⟨p,1,none⟩ v') t NB rcs p v' uv kv xv (kc+1) ku vs:=by
 have hcb:=z3q h.oc h.ob (by decide)
 have hlow:∀ x,x<w.heap.size+2→some x≠cv.ownBlock:=fun x hx e=>by have:=(World.ownsRow.lt h.oc x e.symm).1;omega
 have ob2:=h.ob.grown hgr (fun e=>hcb p e.symm rfl)
 have pp:=h.pp
 have setne:∀ {e:TypeId} {s n:Nat} {v:Value} {x:List Value},w2.ownsRow (w.heap.size+2) e s v n x→e≠33→(w2.setCell ⟨p,1,none⟩ v').ownsRow (w.heap.size+2) e s v n x:=fun hv hne=>z1c hv (z0r w2 ⟨p,1,none⟩ v') (fun g hg e=>z3q hv ob2 hne g hg (Option.some.inj e))
 refine ⟨ob2,z1g (h.bel.grown hgr (by omega) (fun g e=>by have:=(World.ownsRow.lt h.oc g e).1;omega)) ⟨p,1,none⟩ v' (by show _≤p;omega),(h.tb.grown hgr (hlow _ (by omega))).grown (z0r w2 ⟨p,1,none⟩ v') (by simp;omega),(h.rb.grown hgr (hlow _ (by omega))).grown (z0r w2 ⟨p,1,none⟩ v') (by simp;omega),?_,pp,
  setne (z1c h.ok hgr (z3p h.ok h.oc (by decide))) (by decide),setne (z1c h.ox hgr (z3p h.ox h.oc (by decide))) (by decide),?_,setne (z1c h.ou hgr (z3p h.ou h.oc (by decide))) (by decide),h.ol,fun i h1 h2=>setne (z1c (h.ov i h1 h2) hgr (z3p (h.ov i h1 h2) h.oc (by decide))) (by decide)⟩
 ·have:=z0q ob2 1 v'
  simpa using this
 ·have:=setne hown (by decide)
  rw [List.take_succ_eq_append_getElem hk,ccl_snoc]
  exact this
theorem OwS.uni {w wr w2:World} {t:Tb} {NB:ByteArray} {rcs:Array Value} {p:Nat} {cv uv kv xv v' nv:Value} {kc ku:Nat} {vs:List Value} (h:OwS w wr t NB rcs p cv uv kv xv kc ku vs) (hk:ku<t.us.length) (hn:wr.ownsRow (w.heap.size+2) 3 1 nv t.us[ku].length (ivs t.us[ku])) (hgr:wr.grownBy w2 uv.ownBlock) (hown:w2.ownsRow (w.heap.size+2) 23 1 v' (ku+1) (vs++[nv])) (hw:w.heap.size+2≤wr.heap.size) :
  Cbox w2 p #[.string NB,cv,kv,uv,xv] 33∧OwS w (w2.setCell ⟨p,3,none⟩ v') t NB rcs p cv v' kv xv kc (ku+1) (vs++[nv]):=by
 have hcb:=z3q h.ou h.ob (by decide)
 have hlow:∀ x,x<w.heap.size+2→some x≠uv.ownBlock:=fun x hx e=>by have:=(World.ownsRow.lt h.ou x e.symm).1;omega
 have ob2:=h.ob.grown hgr (fun e=>hcb p e.symm rfl)
 have pp:=h.pp
 have setne:∀ {e:TypeId} {s n:Nat} {v:Value} {x:List Value},w2.ownsRow (w.heap.size+2) e s v n x→e≠33→(w2.setCell ⟨p,3,none⟩ v').ownsRow (w.heap.size+2) e s v n x:=fun hv hne=>z1c hv (z0r w2 ⟨p,3,none⟩ v') (fun g hg e=>z3q hv ob2 hne g hg (Option.some.inj e))
 refine ⟨ob2,z1g (h.bel.grown hgr (by omega) (fun g e=>by have:=(World.ownsRow.lt h.ou g e).1;omega)) ⟨p,3,none⟩ v' (by show _≤p;omega),(h.tb.grown hgr (hlow _ (by omega))).grown (z0r w2 ⟨p,3,none⟩ v') (by simp;omega),(h.rb.grown hgr (hlow _ (by omega))).grown (z0r w2 ⟨p,3,none⟩ v') (by simp;omega),?_,pp,
  setne (z1c h.ok hgr (z3p h.ok h.ou (by decide))) (by decide),setne (z1c h.ox hgr (z3p h.ox h.ou (by decide))) (by decide),setne (z1c h.oc hgr (z3p h.oc h.ou (by decide))) (by decide),setne hown (by decide),by simp [h.ol],fun i h1 h2=>?_⟩
 ·have:=z0q ob2 3 v'
  simpa using this
 ·by_cases hi:i<vs.length
  ·rw [List.getElem_append_left hi]
   exact setne (z1c (h.ov i hi h2) hgr (z3p (h.ov i hi h2) h.ou (by decide))) (by decide)
  ·have hie:i=ku:=by have:=h.ol;simp at h1;omega
   subst hie
   rw [List.getElem_append_right (by omega)]
   simp only [h.ol,Nat.sub_self,List.getElem_cons_zero]
   exact setne (z1c hn hgr (z3p hn h.ou (by decide))) (by decide)
end Go.Proofs.YtljkonkfeiojnaaGreatDoor
