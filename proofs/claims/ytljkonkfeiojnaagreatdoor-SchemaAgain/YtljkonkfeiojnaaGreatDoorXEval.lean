/-
  The contract of eval.Eval.
-/
import Derived.Test.YtljkonkfeiojnaaGreatDoorMUJRgt
import Derived.Test.YtljkonkfeiojnaaGreatDoorMJJCols
import Derived.Test.YtljkonkfeiojnaaGreatDoorMBVKeyB
set_option maxHeartbeats 4000000
set_option maxRecDepth 20000
namespace Go.Proofs.YtljkonkfeiojnaaGreatDoor
open Go.RowKit Go.Shelf
attribute [local go_sem] z0f z0b z0c z0e z0m z0k z0h z0d z0g
def evO8x0:Oper:=⟨some 51,.load 74 (.tmp 10),74, "eval.go:45",#[],none⟩
def evO8x1:Oper:=⟨some 52,.move (.tmp 8),28, "eval.go:45",#[],none⟩
def evO8x2:Oper:=⟨some 53,.move (.tmp 11),3, "eval.go:45",#[],none⟩
def evO8x3:Oper:=⟨some 54,.slice 28 (.tmp 52) (some (.tmp 53)) none none,28, "eval.go:45",#[⟨1,.data⟩,⟨2,.data⟩],none⟩
def evO8x4:Oper:=⟨some 55,.load 80 (.tmp 4),80, "eval.go:45",#[],none⟩
def evO8x5:Oper:=⟨some 56,.move (.tmp 2),28, "eval.go:45",#[],none⟩
def z8x:Oper:=⟨some 57,.call { callee:=Callee.value (Operand.func 61),args:=#[.tmp 51,.tmp 54,.tmp 55,.tmp 56],argTypes:=#[74,28,80,28] },55, "eval.go:45",#[⟨0,.data⟩,⟨3,.data⟩,⟨4,.data⟩,⟨5,.data⟩],none⟩
def z5y:Oper:=⟨some 50,.move (.tmp 57),55, "eval.go:45",#[⟨6,.data⟩],none⟩
def z5z:Oper:=⟨some 58,.extract (.tmp 50) 0,44, "eval.go:45",#[⟨7,.data⟩],none⟩
def z6a:Oper:=⟨some 59,.extract (.tmp 50) 1,35, "eval.go:45",#[⟨7,.data⟩,⟨11,.gcOnly .lateStores⟩],none⟩
def z6g:Oper:=⟨some 12,.alloc 44,0, "eval.go:45",#[],none⟩
def z6h:Oper:=⟨none,.store 44 (.tmp 12) (.tmp 58),0, "eval.go:45",#[⟨10,.data⟩,⟨8,.data⟩,⟨6,.chain⟩,⟨0,.phase⟩,⟨1,.phase⟩,⟨2,.phase⟩,⟨3,.phase⟩,⟨4,.phase⟩,⟨5,.phase⟩,⟨6,.phase⟩,⟨7,.phase⟩,⟨8,.phase⟩,⟨9,.textOnly .lateStores⟩,⟨10,.phase⟩],none⟩
def z4k:Oper:=⟨some 13,.assign (.tmp 59),35, "eval.go:45",#[⟨9,.data⟩,⟨11,.chain⟩,⟨0,.phase⟩,⟨1,.phase⟩,⟨2,.phase⟩,⟨3,.phase⟩,⟨4,.phase⟩,⟨5,.phase⟩,⟨6,.phase⟩,⟨7,.phase⟩,⟨8,.phase⟩,⟨9,.phase⟩,⟨10,.phase⟩,⟨11,.phase⟩],none⟩
theorem eval_good (lo ta na ro:Option Addr) (lc tc nc rc:Nat) (l:List Nd) (ts ns:List (List UInt8)) (row:List Va) (w:World) (hv:Nw w lo l) (hs:shN l) (hT:Tabs w) (hPw:Pw w) (ht:Sl w ta ts) (hn:Sl w na ns) (hr:Vs w ro row)
  (hd:0<depN mayN l) (het:ts.length=row.length) (hen:ns.length=row.length) (har:row.all vr=true) (hl:row.length≤140737488351232) (hi6:∀ x∈l,vin x.v) (hir:∀ v∈row,vin v) :
  Calls Tryz.prog 37 #[.slice lo l.length lc,scv ta na ts.length ns.length tc nc,.slice ro row.length rc] w fun e w'=>e=.returned (rs (evL ts ns row l []))∧Below w.heap.size w w':=by
 obtain ⟨i0,hi,hz0,hz1,hz2⟩:=info_parts Tryz.info44
 obtain ⟨hlen,d,hrun⟩:=dep_one hd
 have RI:Hid (∀ W,Below w.heap.size w W→Calls Tryz.prog 54 #[.slice lo l.length lc] W fun e w'=>e=.returned (.bool true)∧Below W.heap.size W w'):=fun W h=>by
  have:=z7w lo lc l W (hv.later h) (by omega) hs (hT.later h)
  rw [decide_eq_true hd] at this
  exact this
 have AR:Hid (∀ W,Below w.heap.size w W→Calls Tryz.prog 59 #[.slice ro row.length rc] W fun e w'=>e=.returned (.bool true)∧Below W.heap.size W w'):=fun W h=>by
  have:=qall_any ro rc row W (hT.later h) (hr.later h) (by omega)
  rw [har] at this
  exact this
 have gr:∀ v∈row,gv v:=fun v hv=>⟨List.all_eq_true.1 har v hv,hir v hv⟩
 have gx:Hid (∀ x∈l,mayN x=true→x.o=1→gv x.v):=fun x hx hm ho=>by
  refine ⟨?_,hi6 x hx⟩
  unfold mayN fitN at hm
  rw [Bool.and_eq_true,if_pos ho] at hm
  have:=hm.2
  unfold litV at this
  rw [Bool.and_eq_true] at this
  exact this.1
 have GRW:Hid (∀ v∈row,gv v):=gr
 have HV:Hid (Nw w lo l):=hv
 have HTT:Hid (Tabs w):=hT
 have HPP:Hid (Pw w):=hPw
 have HSt:Hid (Sl w ta ts):=ht
 have HSn:Hid (Sl w na ns):=hn
 have HVr:Hid (Vs w ro row):=hr
 have HEN:Hid (ns.length=row.length):=hen
 obtain ⟨R,hR⟩:∃ R,R=evL ts ns row l []:=⟨_,rfl⟩
 rw [← hR]
 have HR:Hid (evL ts ns row (l.drop 0) []=R):=hR.symm
 have HD:Hid (runD mayN (l.drop 0) []=some [d]):=hrun
 clear hR hrun hv hs hT hPw ht hn hr har hi6 hir gr hd
 obtain ⟨m,hm⟩:∃ m,row.length=m:=⟨_,rfl⟩
 have HMR:Hid (row.length=m):=hm
 have HMT:Hid (ts.length=m):=by show _=_;omega
 have HMN:Hid (ns.length=m):=by show _=_;omega
 rw [het,hen,hm]
 rw [hm] at AR hl
 obtain ⟨n,hnn⟩:∃ n,l.length=n:=⟨_,rfl⟩
 rw [hnn] at hlen RI ⊢
 have HN:Hid (l.length=n):=hnn
 clear hnn hm het hen
 have h1:=Cbox.new w #[.slice ta m tc,.slice na m nc] 80
 have h2:=Box.new (w.alloc (.cells #[.slice ta m tc,.slice na m nc] 80)) 0 0 0 []
 have B00:Below w.heap.size w ((w.alloc (.cells #[.slice ta m tc,.slice na m nc] 80)).alloc (.cells #[.int .i64 0,.int .i64 0,.int .i64 0,.string ⟨#[]⟩] 44)):=((Below.refl _ w).alloc (Nat.le_refl _) _).alloc (by simp) _
 simp only [World.size_alloc] at h2
 have h1':=h1.later ((Below.refl _ _).alloc (Nat.le_refl _) (.cells #[.int .i64 0,.int .i64 0,.int .i64 0,.string ⟨#[]⟩] 44))
 generalize hw0:((w.alloc (.cells #[.slice ta m tc,.slice na m nc] 80)).alloc (.cells #[.int .i64 0,.int .i64 0,.int .i64 0,.string ⟨#[]⟩] 44))=w0 at h1' h2 B00
 clear h1
 go_enter Tryz.func37,Tryz.ntmps37
 go_upto_region 1 with fail
 try rw [hw0]
 clear hw0
 have z0:=h1'.at 0
 have z1:=h1'.at 1
 have zl:=h1'.lt
 have R1:=RI.out w0 B00
 go_wp2_with fail
 refine R1.mono ?_
 rintro e wa ⟨rfl,ba⟩
 have Ba:=z0a B00 ba
 have A2:=AR.out wa Ba
 have c0:=(h1'.later ba).at 0
 have c1:=(h1'.later ba).at 1
 have cl:=(h1'.later ba).lt
 clear z0 z1 zl R1
 go_wp2_with fail
 refine A2.mono ?_
 rintro e w1 ⟨rfl,b1⟩
 have B0:=z0a Ba b1
 have SBX0:=(h1'.later ba).later b1
 have RBX0:=(h2.later ba).later b1
 clear A2 c0 c1 cl RI AR h1' h2 ba b1 Ba B00
 obtain ⟨sb,hsb⟩:∃ sb,w.heap.size=sb:=⟨_,rfl⟩
 have SBX:Hid (Cbox w1 sb #[.slice ta m tc,.slice na m nc] 80):=by rw [← hsb];exact SBX0
 have RBX:Hid (Box w1 (sb+1) nul):=by rw [← hsb];exact RBX0
 have hsbw:w.heap.size≤sb:=by omega
 clear SBX0 RBX0
 rw [hsb]
 clear hsb
 go_wp2
 go_loopw [8,41] (fun r8 r41 wr=>∃ (k:Nat) (st:List Va),r41=.int .i64 (k:Int)∧k≤n∧st.length≤k∧Vk wr w1.heap.size r8 st∧Below w1.heap.size w1 wr∧Hid (evL ts ns row (l.drop k) st=R)∧Hid (∃ ds,ds.length=st.length∧runD mayN (l.drop k) ds=some [d])∧Hid (∀ v∈st,gv v)) (fun _ r _=>n - (intOf r).toNat)
 case atStart=>exact ⟨0,[],rfl,Nat.zero_le _,Nat.zero_le _,World.ownsRow_nil _ _ _ _,Below.refl _ _,HR,⟨[],rfl,HD.out⟩,fun v h=>by simp at h⟩
 case round =>
  obtain ⟨k,st,rfl,hk,hsl,ho,hb,hH,hD,HG⟩:=hrel
  have sB:=hb.size
  obtain ⟨so,sc,rfl,hsc,hsn,hcut,hcell⟩:=ho.shape
  by_cases hlt:k<n
  ·have hlt':(k:Int)<(n:Int):=by omega
   have hkl:k<l.length:=by rw [HN.out];exact hlt
   obtain ⟨b,off,rfl,hcl⟩:=HV.out (by omega)
   obtain ⟨c0,c1,c2,c3,c4,c5,c6,c7⟩:=((hcl k hkl).later (z0a B0 hb))
   have hg':=((hcl k hkl).later (z0a B0 hb)).lt
   have hdr:l.drop k=l[k]::l.drop (k+1):=List.drop_eq_getElem_cons hkl
   have gxk:=gx.out l[k] (List.getElem_mem _)
   obtain ⟨x,he⟩:∃ x:Nd,x=l[k]:=⟨_,rfl⟩
   rw [← he] at c0 c1 c2 c3 c4 c5 c6 c7 hdr gxk
   have Ox:=fun W=>eops_any x W
   obtain ⟨ds,hdl,hrd⟩:=hD.out
   rw [hdr] at hrd
   obtain ⟨hmx,hopx,ds',hdl',hrd'⟩:=runD_one hrd
   have hox:=mayN_ops x hmx
   obtain ⟨q,hq⟩:∃ q:Nat,opsN x=(q:Int):=⟨(opsN x).toNat,by omega⟩
   have hst0:=hH.out
   rw [hdr] at hst0
   unfold evL at hst0
   rw [hq,Int.toNat_natCast] at hst0
   rw [hq,hdl] at hopx
   rw [hq,Int.toNat_natCast,hdl] at hdl'
   have HGR0:=gv_stp x (st.drop (st.length - q)) ts ns row (gxk hmx) (mem_drop_gv HG.out) GRW.out
   have Tx0:∀ W wo wc,Below w1.heap.size w1 W→Vs W wo (st.drop (st.length - q))→Calls Tryz.prog 61 #[ndv x,.slice wo q wc,scv ta na m m tc nc,.slice ro m rc] W fun e w'=>e=.returned (rs (stpR x (st.drop (st.length - q)) ts ns row))∧Below W.heap.size W w':=fun W wo wc h hvs=>by
    have hlq:(st.drop (st.length - q)).length=q:=by rw [List.length_drop];omega
    have bw:=z0a B0 h
    have:=stp_any x wo ta na ro wc tc nc rc (st.drop (st.length - q)) ts ns row W (HTT.out.later bw) (HPP.out.below bw) hvs (HSt.out.later bw) (HSn.out.later bw) (HVr.out.later bw) HEN.out (by rw [HMR.out];exact hl) hmx (by rw [hlq,hq]) (fun v hv=>(mem_drop_gv HG.out v hv).2)
    rw [hlq,HMT.out,HMN.out,HMR.out] at this
    exact this
   have HDD:Hid (∃ ds,ds.length=st.length - q+1∧runD mayN (l.drop (k+1)) ds=some [d]):=⟨ds',hdl',hrd'⟩
   rw [hq] at Ox
   have hq4:q≤4:=by omega
   have hqs:q≤st.length:=by omega
   have HK:Hid (st.length≤k∧k≤255):=⟨hsl,by omega⟩
   clear hcl he hH HR hdr hD HD hrd hrd' hdl hdl' hmx hox hopx hq gxk gx
   obtain ⟨f,hf⟩:∃ f:Nat,f=st.length - q:=⟨_,rfl⟩
   rw [← hf] at hst0 HDD Tx0 HGR0
   rcases hrs:stpR x (st.drop f) ts ns row with ⟨⟨rk,rn,rm,rb⟩,re⟩
   rw [hrs] at hst0 Tx0 HGR0
   have HST:Hid ((if re=0 then evL ts ns row (l.drop (k+1)) (st.take f++[⟨rk,rn,rm,rb⟩]) else (nul,re))=R):=hst0
   have HGR:Hid (gv ⟨rk,rn,rm,rb⟩):=HGR0
   have Tx:Hid (∀ W wo wc,Below w1.heap.size w1 W→Vs W wo (st.drop f)→Calls Tryz.prog 61 #[ndv x,.slice wo q wc,scv ta na m m tc nc,.slice ro m rc] W fun e w'=>e=.returned (.tuple #[va rk rn rm ⟨rb.toArray⟩,.int .i64 re])∧Below W.heap.size W w'):=Tx0
   clear hst0 Tx0 HGR0 hrs
   have hfr:(st.length:Int) - (q:Int)=(f:Int):=by omega
   have hfl:f≤st.length:=by omega
   have hfl':(f:Int)≤(st.length:Int):=by omega
   have hqe:st.length - f=q:=by omega
   have A1:Below w1.heap.size w1 (wr.alloc (.cells (ncs x) 74)):=hb.alloc sB _
   have BX:Hid (Cbox (wr.alloc (.cells (ncs x) 74)) wr.heap.size (ncs x) 74):=Cbox.new wr _ _
   have HO:Hid (Vk wr w1.heap.size (.slice so f sc) (st.take f)):=hcut f hfl
   by_cases hsf:sc=f
   ·have hq0:q=0:=by omega
    subst hq0
    subst hsf
    have TT:∀ W,Below w1.heap.size w1 W→Calls Tryz.prog 61 #[ndv x,.slice so 0 0,scv ta na m m tc nc,.slice ro m rc] W fun e w'=>e=.returned (.tuple #[va rk rn rm ⟨rb.toArray⟩,.int .i64 re])∧Below W.heap.size W w':=fun W h=>Tx.out W so 0 h (fun hp=>by rw [List.length_drop] at hp;omega)
    have hle:st.length=sc:=by omega
    clear hcell hcut ho hsn hf hfr hqe hsc hfl
    subst hle
    obtain ⟨xo,xt,xn,xv,xa⟩:=x
    go_wp2_with (go_at_call 60;refine (Ox _).mono ?_;rintro e w2 ⟨rfl,g2⟩)
    have b2:=g2.below
    have b12:Below w1.heap.size w1 w2:=A1.trans (b2.mono A1.size)
    have b02:Below wr.heap.size wr w2:=z0a ((Below.refl _ wr).alloc (Nat.le_refl _) _) b2
    have BXN:Hid (Cbox w2 wr.heap.size (ncs ⟨xo,xt,xn,xv,xa⟩) 74):=Cbox.later BX.out b2
    have BXS:Hid (Cbox w2 sb #[.slice ta m tc,.slice na m nc] 80):=SBX.out.later b12
    have n0:=BXN.out.lt
    have n1:=BXS.out.lt
    have nw2:=b12.size
    go_cut [12,13] from 50 to 70 (fun s12 s13 wx=>∃ p:Nat,s12=.pointer (some ⟨p,0,none⟩)∧s13=.int .i64 re∧At4 wx p 0 ⟨rk,rn,rm,rb⟩∧w2.heap.size≤p∧Below w2.heap.size w2 wx)
    case first =>
     refine wp_region_held_drew (S:=(fun W=>Below w2.heap.size w2 W)) gK ?_ (fun hHeld=>?_)
     ·((try dsimp only);exact (Below.refl _ _).drew)
     refine wpAnyH_take (i:=0) (oi:=evO8x0) (v:=?_) rfl gK gK gK (fun _ _ _ h=>h) (Or.inl ⟨by rfl,?_⟩) (by assumption) ?_
     rotate_left
     ·(intro W hSw;(try dsimp only at hSw);have C:=BXN.out.later hSw;have e0:=C.at 0;have e1:=C.at 1;have e2:=C.at 2;have e3:=C.at 3;have e4:=C.at 4;have e5:=C.at 5;have e6:=C.at 6;have e7:=C.at 7;have D:=BXS.out.later hSw;have s0:=D.at 0;have s1:=D.at 1;clear C D;try simp only [evO8x0];first|(go_simp;done)|(go_simp;with_reducible rfl))
     try simp only [evO8x0,Act.put,List.setIfInBounds_toArray,List.set_cons_zero,List.set_cons_succ]
     refine wpAnyH_take (i:=1) (oi:=evO8x1) (v:=?_) rfl gK gK gK (fun _ _ _ h=>h) (Or.inl ⟨by rfl,?_⟩) (by assumption) ?_
     rotate_left
     ·(intro W hSw;(try dsimp only at hSw);try simp only [evO8x1];first|(go_simp;done)|(go_simp;with_reducible rfl))
     try simp only [evO8x1,Act.put,List.setIfInBounds_toArray,List.set_cons_zero,List.set_cons_succ]
     refine wpAnyH_take (i:=2) (oi:=evO8x2) (v:=?_) rfl gK gK gK (fun _ _ _ h=>h) (Or.inl ⟨by rfl,?_⟩) (by assumption) ?_
     rotate_left
     ·(intro W hSw;(try dsimp only at hSw);try simp only [evO8x2];first|(go_simp;done)|(go_simp;with_reducible rfl))
     try simp only [evO8x2,Act.put,List.setIfInBounds_toArray,List.set_cons_zero,List.set_cons_succ]
     refine wpAnyH_take (i:=3) (oi:=evO8x3) (v:=?_) rfl gK gK gK (fun _ _ _ h=>h) (Or.inl ⟨by rfl,?_⟩) (by assumption) ?_
     rotate_left
     ·(intro W hSw;(try dsimp only at hSw);try simp only [evO8x3];first|(go_simp;done)|(go_simp;with_reducible rfl))
     try simp only [evO8x3,Act.put,List.setIfInBounds_toArray,List.set_cons_zero,List.set_cons_succ]
     refine wpAnyH_take (i:=4) (oi:=evO8x4) (v:=?_) rfl gK gK gK (fun _ _ _ h=>h) (Or.inl ⟨by rfl,?_⟩) (by assumption) ?_
     rotate_left
     ·(intro W hSw;(try dsimp only at hSw);have C:=BXN.out.later hSw;have e0:=C.at 0;have e1:=C.at 1;have e2:=C.at 2;have e3:=C.at 3;have e4:=C.at 4;have e5:=C.at 5;have e6:=C.at 6;have e7:=C.at 7;have D:=BXS.out.later hSw;have s0:=D.at 0;have s1:=D.at 1;clear C D;try simp only [evO8x4];first|(go_simp;done)|(go_simp;with_reducible rfl))
     try simp only [evO8x4,Act.put,List.setIfInBounds_toArray,List.set_cons_zero,List.set_cons_succ]
     refine wpAnyH_take (i:=5) (oi:=evO8x5) (v:=?_) rfl gK gK gK (fun _ _ _ h=>h) (Or.inl ⟨by rfl,?_⟩) (by assumption) ?_
     rotate_left
     ·(intro W hSw;(try dsimp only at hSw);try simp only [evO8x5];first|(go_simp;done)|(go_simp;with_reducible rfl))
     try simp only [evO8x5,Act.put,List.setIfInBounds_toArray,List.set_cons_zero,List.set_cons_succ]
     refine wpAnyH_ready (rs:=[6,10]) gK (by simp) ?_
     refine AllReadyH.cons (o:=z8x) rfl (fun K hK=>?_) (AllReadyH.cons (o:=z6g) rfl (fun K hK=>?_) AllReadyH.nil)
     ·
      try simp only [z8x]
      go_simp
      go_wp2_with fail
      have hH2:Below w2.heap.size w2 _:=hHeld
      have Q3:=TT _ (z0a b12 hH2)
      refine Q3.mono ?_
      rintro e w3 ⟨rfl,b3⟩
      have hb3:Below w2.heap.size w2 w3:=z0a hH2 b3
      clear hH2 Q3
      have hw23:w2.heap.size≤w3.heap.size:=b3.size
      refine hK.out _ _ ?_ (fun hHeld=>?_)
      ·((try dsimp only);exact z0a hHeld b3)
      clear hK K
      try simp only [Act.put,List.setIfInBounds_toArray,List.set_cons_zero,List.set_cons_succ]
      refine wpAnyH_take (i:=7) (oi:=z5y) (v:=?_) rfl gK gK gK (fun _ _ _ h=>h) (Or.inl ⟨by rfl,?_⟩) (by assumption) ?_
      rotate_left
      ·(intro W hSw;(try dsimp only at hSw);try simp only [z5y];first|(go_simp;done)|(go_simp;with_reducible rfl))
      try simp only [z5y,Act.put,List.setIfInBounds_toArray,List.set_cons_zero,List.set_cons_succ]
      refine wpAnyH_take (i:=8) (oi:=z5z) (v:=?_) rfl gK gK gK (fun _ _ _ h=>h) (Or.inl ⟨by rfl,?_⟩) (by assumption) ?_
      rotate_left
      ·(intro W hSw;(try dsimp only at hSw);try simp only [z5z];first|(go_simp;done)|(go_simp;with_reducible rfl))
      try simp only [z5z,Act.put,List.setIfInBounds_toArray,List.set_cons_zero,List.set_cons_succ]
      refine wpAnyH_take (i:=9) (oi:=z6a) (v:=?_) rfl gK gK gK (fun _ _ _ h=>h) (Or.inl ⟨by rfl,?_⟩) (by assumption) ?_
      rotate_left
      ·(intro W hSw;(try dsimp only at hSw);try simp only [z6a];first|(go_simp;done)|(go_simp;with_reducible rfl))
      try simp only [z6a,Act.put,List.setIfInBounds_toArray,List.set_cons_zero,List.set_cons_succ]
      refine wpAnyH_ready (rs:=[10]) gK (by simp) ?_
      refine AllReadyH.cons (o:=z6g) rfl (fun K hK=>?_) AllReadyH.nil
      try simp only [z6g]
      go_simp
      refine hK.out _ _ ?_ (fun hHeld=>?_)
      ·((try dsimp only);exact hHeld.alloc hHeld.size _)
      clear hK K
      try simp only [Act.put,List.setIfInBounds_toArray,List.set_cons_zero,List.set_cons_succ]
      refine wpAnyH_ready (rs:=[11]) gK (by simp) ?_
      refine AllReadyH.cons (o:=z6h) rfl (fun K hK=>?_) AllReadyH.nil
      try simp only [z6h]
      go_simp
      refine hK.out _ _ ?_ (fun hHeld=>?_)
      ·((try dsimp only);exact hb3.alloc hw23 _)
      clear hK K
      try simp only [Act.put,List.setIfInBounds_toArray,List.set_cons_zero,List.set_cons_succ]
      refine wpAnyH_take (i:=12) (oi:=z4k) (v:=?_) rfl gK gK gK (fun _ _ _ h=>h) (Or.inl ⟨by rfl,?_⟩) (by assumption) ?_
      rotate_left
      ·(intro W hSw;(try dsimp only at hSw);try simp only [z4k];first|(go_simp;done)|(go_simp;with_reducible rfl))
      try simp only [z4k,Act.put,List.setIfInBounds_toArray,List.set_cons_zero,List.set_cons_succ]
      refine wpAnyH_done gK ?_ _
      go_wp2_with fail
      go_meet
      exact ⟨w3.heap.size,rfl,rfl,⟨gD,gD,gD,gD⟩,hw23,hHeld⟩
     ·
      try simp only [z6g]
      go_simp
      refine hK.out _ _ ?_ (fun hHeld=>?_)
      ·((try dsimp only);exact hHeld.alloc hHeld.size _)
      clear hK K
      try simp only [Act.put,List.setIfInBounds_toArray,List.set_cons_zero,List.set_cons_succ]
      refine wpAnyH_ready (rs:=[6]) gK (by simp) ?_
      refine AllReadyH.cons (o:=z8x) rfl (fun K hK=>?_) AllReadyH.nil
      try simp only [z8x]
      go_simp
      go_wp2_with fail
      have hH2:Below w2.heap.size w2 _:=hHeld
      have Q3:=TT _ (z0a b12 hH2)
      refine Q3.mono ?_
      rintro e w3 ⟨rfl,b3⟩
      have hb3:Below w2.heap.size w2 w3:=z0a hH2 b3
      clear hH2 Q3
      have bx:Box w3 w2.heap.size nul:=(Box.new w2.drew 0 0 0 []).later b3;have y0:=bx.at4.1;have y1:=bx.at4.2.1;have y2:=bx.at4.2.2.1;have y3:=bx.at4.2.2.2;have yl:=bx.lt;have g0:=bx.free 0;have g1:=bx.free 1;have g2:=bx.free 2;have g3:=bx.free 3;dsimp only [nul] at y0 y1 y2 y3;simp only [Nat.zero_add] at y1 y2 y3;clear bx
      refine hK.out _ _ ?_ (fun hHeld=>?_)
      ·((try dsimp only);exact z0a hHeld b3)
      clear hK K
      try simp only [Act.put,List.setIfInBounds_toArray,List.set_cons_zero,List.set_cons_succ]
      refine wpAnyH_take (i:=7) (oi:=z5y) (v:=?_) rfl gK gK gK (fun _ _ _ h=>h) (Or.inl ⟨by rfl,?_⟩) (by assumption) ?_
      rotate_left
      ·(intro W hSw;(try dsimp only at hSw);try simp only [z5y];first|(go_simp;done)|(go_simp;with_reducible rfl))
      try simp only [z5y,Act.put,List.setIfInBounds_toArray,List.set_cons_zero,List.set_cons_succ]
      refine wpAnyH_take (i:=8) (oi:=z5z) (v:=?_) rfl gK gK gK (fun _ _ _ h=>h) (Or.inl ⟨by rfl,?_⟩) (by assumption) ?_
      rotate_left
      ·(intro W hSw;(try dsimp only at hSw);try simp only [z5z];first|(go_simp;done)|(go_simp;with_reducible rfl))
      try simp only [z5z,Act.put,List.setIfInBounds_toArray,List.set_cons_zero,List.set_cons_succ]
      refine wpAnyH_take (i:=9) (oi:=z6a) (v:=?_) rfl gK gK gK (fun _ _ _ h=>h) (Or.inl ⟨by rfl,?_⟩) (by assumption) ?_
      rotate_left
      ·(intro W hSw;(try dsimp only at hSw);try simp only [z6a];first|(go_simp;done)|(go_simp;with_reducible rfl))
      try simp only [z6a,Act.put,List.setIfInBounds_toArray,List.set_cons_zero,List.set_cons_succ]
      refine wpAnyH_ready (rs:=[11]) gK (by simp) ?_
      refine AllReadyH.cons (o:=z6h) rfl (fun K hK=>?_) AllReadyH.nil
      try simp only [z6h]
      go_simp
      refine hK.out _ _ ?_ (fun hHeld=>?_)
      ·((try dsimp only);exact z1s (q:=w2.heap.size) hHeld (Nat.le_refl _) _ _ _ _)
      clear hK K
      try simp only [Act.put,List.setIfInBounds_toArray,List.set_cons_zero,List.set_cons_succ]
      refine wpAnyH_take (i:=12) (oi:=z4k) (v:=?_) rfl gK gK gK (fun _ _ _ h=>h) (Or.inl ⟨by rfl,?_⟩) (by assumption) ?_
      rotate_left
      ·(intro W hSw;(try dsimp only at hSw);try simp only [z4k];first|(go_simp;done)|(go_simp;with_reducible rfl))
      try simp only [z4k,Act.put,List.setIfInBounds_toArray,List.set_cons_zero,List.set_cons_succ]
      refine wpAnyH_done gK ?_ _
      go_wp2_with fail
      go_meet
      exact ⟨w2.heap.size,rfl,rfl,⟨by simp (maxDischargeDepth:=12) [go_sem,y0],by simp (maxDischargeDepth:=12) [go_sem,y1],by simp (maxDischargeDepth:=12) [go_sem,y2],by simp (maxDischargeDepth:=12) [go_sem,y3]⟩,Nat.le_refl _,hHeld⟩
    rename World=>wx
    obtain ⟨p,rfl,rfl,h4,hp,b2x⟩:=hcut
    have lp:=h4.lt
    obtain ⟨y0,y1,y2,y3⟩:=h4
    dsimp only at y0 y1 y2 y3
    simp only [Nat.zero_add] at y1 y2 y3
    have B1x:=z0a b12 b2x
    have b0x:=z0a b02 b2x
    by_cases hre:re=0
    case neg =>
     have hre':¬ re=0:=hre
     have HF:Hid (R=(nul,re)):=by show R=_;rw [← HST.out,if_neg hre]
     have br:=RBX.out.later B1x
     have lt1:=br.lt
     obtain ⟨r0,r1,r2,r3⟩:=br.at4
     dsimp only [nul] at r0 r1 r2 r3
     simp only [Nat.zero_add] at r1 r2 r3
     have f0:=br.free 0
     have f1:=br.free 1
     have f2:=br.free 2
     have f3:=br.free 3
     clear HST hre
     go_wp2
     refine bodyPost_ret_by (v:=.tuple #[va 0 0 0 ⟨#[]⟩,.int .i64 re]) ?_ rfl ⟨by rw [HF.out];rfl,z1s (z0a B0 B1x) (by omega) _ _ _ _⟩
     simp [results,Tryz.results37,go_sem,r0,r1,r2,r3]
    subst hre
    rw [if_pos rfl] at HST
    have hlk:(st.take st.length).length=st.length:=by rw [List.length_take];omega
    have HO3:Hid (wx.ownsRow w1.heap.size 44 4 (.slice so st.length st.length) st.length (z1t (st.take st.length))):=by have:=Vk.later HO.out b0x;unfold Vk at this;rw [hlk] at this;exact this
    have hrw2:=World.ownsRow.lt HO.out
    obtain ⟨hk1,hk2⟩:=HK.out
    go_wp2_with fail
    refine wp_region_held_drew (S:=(fun W=>At4 W p 0 ⟨rk,rn,rm,rb⟩∧Below w1.heap.size w1 W)) gK ?_ (fun hHeld=>?_)
    ·exact ⟨⟨y0,by simpa using y1,by simpa using y2,by simpa using y3⟩,B1x.drew⟩
    refine wpAnyH_take (i:=0) (oi:=⟨some 64,.move (.tmp 8),28, "eval.go:49",#[],none⟩) (v:=?_) rfl gK gK gK (fun _ _ _ h=>h) (Or.inl ⟨by rfl,?_⟩) (by assumption) ?_
    rotate_left
    ·(intro W hSw;(try dsimp only at hSw);have C:=hSw.1;obtain ⟨u0,u1,u2,u3⟩:=C;dsimp only at u0 u1 u2 u3;simp only [Nat.zero_add] at u1 u2 u3;first|(go_simp;done)|(go_simp;with_reducible rfl))
    try simp only [Act.put,List.setIfInBounds_toArray,List.set_cons_zero,List.set_cons_succ]
    refine wpAnyH_take (i:=1) (oi:=⟨some 65,.move (.tmp 11),3, "eval.go:49",#[],none⟩) (v:=?_) rfl gK gK gK (fun _ _ _ h=>h) (Or.inl ⟨by rfl,?_⟩) (by assumption) ?_
    rotate_left
    ·(intro W hSw;(try dsimp only at hSw);have C:=hSw.1;obtain ⟨u0,u1,u2,u3⟩:=C;dsimp only at u0 u1 u2 u3;simp only [Nat.zero_add] at u1 u2 u3;first|(go_simp;done)|(go_simp;with_reducible rfl))
    try simp only [Act.put,List.setIfInBounds_toArray,List.set_cons_zero,List.set_cons_succ]
    refine wpAnyH_take (i:=2) (oi:=⟨some 66,.slice 28 (.tmp 64) none (some (.tmp 65)) none,28, "eval.go:49",#[⟨0,.data⟩,⟨1,.data⟩],none⟩) (v:=?_) rfl gK gK gK (fun _ _ _ h=>h) (Or.inl ⟨by rfl,?_⟩) (by assumption) ?_
    rotate_left
    ·(intro W hSw;(try dsimp only at hSw);have C:=hSw.1;obtain ⟨u0,u1,u2,u3⟩:=C;dsimp only at u0 u1 u2 u3;simp only [Nat.zero_add] at u1 u2 u3;first|(go_simp;done)|(go_simp;with_reducible rfl))
    try simp only [Act.put,List.setIfInBounds_toArray,List.set_cons_zero,List.set_cons_succ]
    refine wpAnyH_take (i:=3) (oi:=⟨some 67,.load 44 (.tmp 12),44, "eval.go:49",#[],none⟩) (v:=?_) rfl gK gK gK (fun _ _ _ h=>h) (Or.inl ⟨by rfl,?_⟩) (by assumption) ?_
    rotate_left
    ·(intro W hSw;(try dsimp only at hSw);have C:=hSw.1;obtain ⟨u0,u1,u2,u3⟩:=C;dsimp only at u0 u1 u2 u3;simp only [Nat.zero_add] at u1 u2 u3;first|(go_simp;done)|(go_simp;with_reducible rfl))
    try simp only [Act.put,List.setIfInBounds_toArray,List.set_cons_zero,List.set_cons_succ]
    refine wpAnyH_ready (rs:=[4]) gK (by simp) ?_
    refine AllReadyH.cons (o:=⟨some 68,.buildSlice 28 1 #[(0,.tmp 67)],28, "eval.go:49",#[⟨3,.data⟩],none⟩) rfl (fun K hK=>?_) AllReadyH.nil
    go_simp
    refine hK.out _ _ ?_ (fun hHeld=>?_)
    ·((try dsimp only);exact ⟨hHeld.1.later ((Below.refl _ _).alloc (Nat.le_refl _) _),hHeld.2.alloc hHeld.2.size _⟩)
    clear hK K
    try simp only [Act.put,List.setIfInBounds_toArray,List.set_cons_zero,List.set_cons_succ]
    have sx:=B1x.size
    refine wpAnyH_ready (rs:=[5]) gK (by simp) ?_
    refine AllReadyH.cons (o:=⟨some 69,.call { callee:=Callee.builtin Builtin.append,args:=#[.tmp 66,.tmp 68],argTypes:=#[28,28] },28, "eval.go:49",#[⟨2,.data⟩,⟨4,.data⟩],none⟩) rfl (fun K hK=>?_) AllReadyH.nil
    (refine step_append_lies _ (by rfl) _ _ _ (by rfl) w1.heap.size 44 i0 _ 4 40 Tryz.underlying28 hi hz0 hz1 hz2 rfl (by omega) _ st.length (z1t (st.take st.length)) (by rfl) (World.ownsRow.alloc HO3.out.drew _) ⟨wx.heap.size,0,none⟩ 1 1 (vcs ⟨rk,rn,rm,rb⟩).toList (by rfl) (by rfl) (World.news_of_block (cs:=vcs ⟨rk,rn,rm,rb⟩) (t:=44) (fr:=(0,0)) (heap_alloc_new wx.drew _)) (one_va ⟨rk,rn,rm,rb⟩) (by omega) (by unfold maxLen;omega) (by omega) (by simp;omega) (wx.heap.size+1) (by simp) ?_;intro gg gc w5 hown5 hgrow hat hlt5)
    refine hK.out _ _ ?_ (fun hHeld=>?_)
    ·exact ⟨hHeld.1.grown hgrow (fun e=>by have:=(hrw2 _ e.symm).2;have:=b0x.size;have:=b02.size;omega),hHeld.2.grown hgrow (by simp;omega) (fun k hk=>(hrw2 k hk).1)⟩
    clear hK K
    try simp only [Act.put,List.setIfInBounds_toArray,List.set_cons_zero,List.set_cons_succ]
    refine wpAnyH_take (i:=6) (oi:=⟨some 8,.assign (.tmp 69),28, "eval.go:49",#[⟨5,.data⟩,⟨5,.chain⟩,⟨0,.phase⟩,⟨1,.phase⟩,⟨2,.phase⟩,⟨3,.phase⟩,⟨4,.phase⟩,⟨5,.phase⟩],none⟩) (v:=?_) rfl gK gK gK (fun _ _ _ h=>h) (Or.inl ⟨by rfl,?_⟩) (by assumption) ?_
    rotate_left
    ·(intro W hSw;(try dsimp only at hSw);have C:=hSw.1;obtain ⟨u0,u1,u2,u3⟩:=C;dsimp only at u0 u1 u2 u3;simp only [Nat.zero_add] at u1 u2 u3;first|(go_simp;done)|(go_simp;with_reducible rfl))
    try simp only [Act.put,List.setIfInBounds_toArray,List.set_cons_zero,List.set_cons_succ]
    refine wpAnyH_done gK ?_ _
    go_wp2
    have ho5:=Vk.push hlk hown5
    exact ⟨⟨k+1,st.take st.length++[⟨rk,rn,rm,rb⟩],by rw [cst1],by omega,by rw [List.length_append,hlk];simp;omega,ho5,hHeld.2,HST,by obtain ⟨d1,d2,d3⟩:=HDD.out;exact ⟨d1,by rw [List.length_append,hlk,d2];simp,d3⟩,gv_take HG.out HGR.out⟩,by simp [intOf];omega⟩
   ·obtain ⟨g,rfl,hgb,hgl,hgc⟩:∃ g,so=some ⟨g,0,none⟩∧w1.heap.size≤g∧g<wr.heap.size∧∀ i (h:i<st.length),At4 wr g (i*4) st[i]:=by
     cases so with
     | none=>obtain ⟨h1,h2⟩:=hsn rfl;subst h1;exact absurd (by simp at hfl;omega) hsf
     | some a=>obtain ⟨g,rfl,h2⟩:=hcell a rfl;exact ⟨g,rfl,h2⟩
    have TT:∀ W,Below wr.heap.size wr W→Calls Tryz.prog 61 #[ndv x,.slice (some ⟨g,f*4,none⟩) q (sc - f),scv ta na m m tc nc,.slice ro m rc] W fun e w'=>e=.returned (.tuple #[va rk rn rm ⟨rb.toArray⟩,.int .i64 re])∧Below W.heap.size W w':=fun W h=>Tx.out W (some ⟨g,f*4,none⟩) (sc - f) (z0a hb h) (fun _=>⟨g,f*4,rfl,fun i hi=>by
     rw [List.length_drop] at hi
     have:=(hgc (f+i) (by omega)).later h
     rw [List.getElem_drop]
     have e:f*4+i*4=(f+i)*4:=by omega
     rw [e]
     exact this⟩)
    have hfsc:f≤sc:=by omega
    have hqi:(st.length:Int) - (f:Int)=(q:Int):=by omega
    clear hcell hcut ho hsn hgc hf
    obtain ⟨xo,xt,xn,xv,xa⟩:=x
    go_wp2_with (go_at_call 60;refine (Ox _).mono ?_;rintro e w2 ⟨rfl,g2⟩)
    have b2:=g2.below
    have b12:Below w1.heap.size w1 w2:=A1.trans (b2.mono A1.size)
    have b02:Below wr.heap.size wr w2:=z0a ((Below.refl _ wr).alloc (Nat.le_refl _) _) b2
    have BXN:Hid (Cbox w2 wr.heap.size (ncs ⟨xo,xt,xn,xv,xa⟩) 74):=Cbox.later BX.out b2
    have BXS:Hid (Cbox w2 sb #[.slice ta m tc,.slice na m nc] 80):=SBX.out.later b12
    have n0:=BXN.out.lt
    have n1:=BXS.out.lt
    have nw2:=b12.size
    go_cut [12,13] from 50 to 70 (fun s12 s13 wx=>∃ p:Nat,s12=.pointer (some ⟨p,0,none⟩)∧s13=.int .i64 re∧At4 wx p 0 ⟨rk,rn,rm,rb⟩∧w2.heap.size≤p∧Below w2.heap.size w2 wx)
    case first =>
     refine wp_region_held_drew (S:=(fun W=>Below w2.heap.size w2 W)) gK ?_ (fun hHeld=>?_)
     ·((try dsimp only);exact (Below.refl _ _).drew)
     refine wpAnyH_take (i:=0) (oi:=evO8x0) (v:=?_) rfl gK gK gK (fun _ _ _ h=>h) (Or.inl ⟨by rfl,?_⟩) (by assumption) ?_
     rotate_left
     ·(intro W hSw;(try dsimp only at hSw);have C:=BXN.out.later hSw;have e0:=C.at 0;have e1:=C.at 1;have e2:=C.at 2;have e3:=C.at 3;have e4:=C.at 4;have e5:=C.at 5;have e6:=C.at 6;have e7:=C.at 7;have D:=BXS.out.later hSw;have s0:=D.at 0;have s1:=D.at 1;clear C D;try simp only [evO8x0];first|(go_simp;done)|(go_simp;with_reducible rfl))
     try simp only [evO8x0,Act.put,List.setIfInBounds_toArray,List.set_cons_zero,List.set_cons_succ]
     refine wpAnyH_take (i:=1) (oi:=evO8x1) (v:=?_) rfl gK gK gK (fun _ _ _ h=>h) (Or.inl ⟨by rfl,?_⟩) (by assumption) ?_
     rotate_left
     ·(intro W hSw;(try dsimp only at hSw);try simp only [evO8x1];first|(go_simp;done)|(go_simp;with_reducible rfl))
     try simp only [evO8x1,Act.put,List.setIfInBounds_toArray,List.set_cons_zero,List.set_cons_succ]
     refine wpAnyH_take (i:=2) (oi:=evO8x2) (v:=?_) rfl gK gK gK (fun _ _ _ h=>h) (Or.inl ⟨by rfl,?_⟩) (by assumption) ?_
     rotate_left
     ·(intro W hSw;(try dsimp only at hSw);try simp only [evO8x2];first|(go_simp;done)|(go_simp;with_reducible rfl))
     try simp only [evO8x2,Act.put,List.setIfInBounds_toArray,List.set_cons_zero,List.set_cons_succ]
     refine wpAnyH_take (i:=3) (oi:=evO8x3) (v:=?_) rfl gK gK gK (fun _ _ _ h=>h) (Or.inl ⟨by rfl,?_⟩) (by assumption) ?_
     rotate_left
     ·(intro W hSw;(try dsimp only at hSw);try simp only [evO8x3];first|(go_simp;done)|(go_simp;with_reducible rfl))
     try simp only [evO8x3,Act.put,List.setIfInBounds_toArray,List.set_cons_zero,List.set_cons_succ]
     refine wpAnyH_take (i:=4) (oi:=evO8x4) (v:=?_) rfl gK gK gK (fun _ _ _ h=>h) (Or.inl ⟨by rfl,?_⟩) (by assumption) ?_
     rotate_left
     ·(intro W hSw;(try dsimp only at hSw);have C:=BXN.out.later hSw;have e0:=C.at 0;have e1:=C.at 1;have e2:=C.at 2;have e3:=C.at 3;have e4:=C.at 4;have e5:=C.at 5;have e6:=C.at 6;have e7:=C.at 7;have D:=BXS.out.later hSw;have s0:=D.at 0;have s1:=D.at 1;clear C D;try simp only [evO8x4];first|(go_simp;done)|(go_simp;with_reducible rfl))
     try simp only [evO8x4,Act.put,List.setIfInBounds_toArray,List.set_cons_zero,List.set_cons_succ]
     refine wpAnyH_take (i:=5) (oi:=evO8x5) (v:=?_) rfl gK gK gK (fun _ _ _ h=>h) (Or.inl ⟨by rfl,?_⟩) (by assumption) ?_
     rotate_left
     ·(intro W hSw;(try dsimp only at hSw);try simp only [evO8x5];first|(go_simp;done)|(go_simp;with_reducible rfl))
     try simp only [evO8x5,Act.put,List.setIfInBounds_toArray,List.set_cons_zero,List.set_cons_succ]
     refine wpAnyH_ready (rs:=[6,10]) gK (by simp) ?_
     refine AllReadyH.cons (o:=z8x) rfl (fun K hK=>?_) (AllReadyH.cons (o:=z6g) rfl (fun K hK=>?_) AllReadyH.nil)
     ·
      try simp only [z8x]
      go_simp
      go_wp2_with fail
      have hH2:Below w2.heap.size w2 _:=hHeld
      have Q3:=TT _ (z0a b02 hH2)
      refine Q3.mono ?_
      rintro e w3 ⟨rfl,b3⟩
      have hb3:Below w2.heap.size w2 w3:=z0a hH2 b3
      clear hH2 Q3
      have hw23:w2.heap.size≤w3.heap.size:=b3.size
      refine hK.out _ _ ?_ (fun hHeld=>?_)
      ·((try dsimp only);exact z0a hHeld b3)
      clear hK K
      try simp only [Act.put,List.setIfInBounds_toArray,List.set_cons_zero,List.set_cons_succ]
      refine wpAnyH_take (i:=7) (oi:=z5y) (v:=?_) rfl gK gK gK (fun _ _ _ h=>h) (Or.inl ⟨by rfl,?_⟩) (by assumption) ?_
      rotate_left
      ·(intro W hSw;(try dsimp only at hSw);try simp only [z5y];first|(go_simp;done)|(go_simp;with_reducible rfl))
      try simp only [z5y,Act.put,List.setIfInBounds_toArray,List.set_cons_zero,List.set_cons_succ]
      refine wpAnyH_take (i:=8) (oi:=z5z) (v:=?_) rfl gK gK gK (fun _ _ _ h=>h) (Or.inl ⟨by rfl,?_⟩) (by assumption) ?_
      rotate_left
      ·(intro W hSw;(try dsimp only at hSw);try simp only [z5z];first|(go_simp;done)|(go_simp;with_reducible rfl))
      try simp only [z5z,Act.put,List.setIfInBounds_toArray,List.set_cons_zero,List.set_cons_succ]
      refine wpAnyH_take (i:=9) (oi:=z6a) (v:=?_) rfl gK gK gK (fun _ _ _ h=>h) (Or.inl ⟨by rfl,?_⟩) (by assumption) ?_
      rotate_left
      ·(intro W hSw;(try dsimp only at hSw);try simp only [z6a];first|(go_simp;done)|(go_simp;with_reducible rfl))
      try simp only [z6a,Act.put,List.setIfInBounds_toArray,List.set_cons_zero,List.set_cons_succ]
      refine wpAnyH_ready (rs:=[10]) gK (by simp) ?_
      refine AllReadyH.cons (o:=z6g) rfl (fun K hK=>?_) AllReadyH.nil
      try simp only [z6g]
      go_simp
      refine hK.out _ _ ?_ (fun hHeld=>?_)
      ·((try dsimp only);exact hHeld.alloc hHeld.size _)
      clear hK K
      try simp only [Act.put,List.setIfInBounds_toArray,List.set_cons_zero,List.set_cons_succ]
      refine wpAnyH_ready (rs:=[11]) gK (by simp) ?_
      refine AllReadyH.cons (o:=z6h) rfl (fun K hK=>?_) AllReadyH.nil
      try simp only [z6h]
      go_simp
      refine hK.out _ _ ?_ (fun hHeld=>?_)
      ·((try dsimp only);exact hb3.alloc hw23 _)
      clear hK K
      try simp only [Act.put,List.setIfInBounds_toArray,List.set_cons_zero,List.set_cons_succ]
      refine wpAnyH_take (i:=12) (oi:=z4k) (v:=?_) rfl gK gK gK (fun _ _ _ h=>h) (Or.inl ⟨by rfl,?_⟩) (by assumption) ?_
      rotate_left
      ·(intro W hSw;(try dsimp only at hSw);try simp only [z4k];first|(go_simp;done)|(go_simp;with_reducible rfl))
      try simp only [z4k,Act.put,List.setIfInBounds_toArray,List.set_cons_zero,List.set_cons_succ]
      refine wpAnyH_done gK ?_ _
      go_wp2_with fail
      go_meet
      exact ⟨w3.heap.size,rfl,rfl,⟨gD,gD,gD,gD⟩,hw23,hHeld⟩
     ·
      try simp only [z6g]
      go_simp
      refine hK.out _ _ ?_ (fun hHeld=>?_)
      ·((try dsimp only);exact hHeld.alloc hHeld.size _)
      clear hK K
      try simp only [Act.put,List.setIfInBounds_toArray,List.set_cons_zero,List.set_cons_succ]
      refine wpAnyH_ready (rs:=[6]) gK (by simp) ?_
      refine AllReadyH.cons (o:=z8x) rfl (fun K hK=>?_) AllReadyH.nil
      try simp only [z8x]
      go_simp
      go_wp2_with fail
      have hH2:Below w2.heap.size w2 _:=hHeld
      have Q3:=TT _ (z0a b02 hH2)
      refine Q3.mono ?_
      rintro e w3 ⟨rfl,b3⟩
      have hb3:Below w2.heap.size w2 w3:=z0a hH2 b3
      clear hH2 Q3
      have bx:Box w3 w2.heap.size nul:=(Box.new w2.drew 0 0 0 []).later b3;have y0:=bx.at4.1;have y1:=bx.at4.2.1;have y2:=bx.at4.2.2.1;have y3:=bx.at4.2.2.2;have yl:=bx.lt;have g0:=bx.free 0;have g1:=bx.free 1;have g2:=bx.free 2;have g3:=bx.free 3;dsimp only [nul] at y0 y1 y2 y3;simp only [Nat.zero_add] at y1 y2 y3;clear bx
      refine hK.out _ _ ?_ (fun hHeld=>?_)
      ·((try dsimp only);exact z0a hHeld b3)
      clear hK K
      try simp only [Act.put,List.setIfInBounds_toArray,List.set_cons_zero,List.set_cons_succ]
      refine wpAnyH_take (i:=7) (oi:=z5y) (v:=?_) rfl gK gK gK (fun _ _ _ h=>h) (Or.inl ⟨by rfl,?_⟩) (by assumption) ?_
      rotate_left
      ·(intro W hSw;(try dsimp only at hSw);try simp only [z5y];first|(go_simp;done)|(go_simp;with_reducible rfl))
      try simp only [z5y,Act.put,List.setIfInBounds_toArray,List.set_cons_zero,List.set_cons_succ]
      refine wpAnyH_take (i:=8) (oi:=z5z) (v:=?_) rfl gK gK gK (fun _ _ _ h=>h) (Or.inl ⟨by rfl,?_⟩) (by assumption) ?_
      rotate_left
      ·(intro W hSw;(try dsimp only at hSw);try simp only [z5z];first|(go_simp;done)|(go_simp;with_reducible rfl))
      try simp only [z5z,Act.put,List.setIfInBounds_toArray,List.set_cons_zero,List.set_cons_succ]
      refine wpAnyH_take (i:=9) (oi:=z6a) (v:=?_) rfl gK gK gK (fun _ _ _ h=>h) (Or.inl ⟨by rfl,?_⟩) (by assumption) ?_
      rotate_left
      ·(intro W hSw;(try dsimp only at hSw);try simp only [z6a];first|(go_simp;done)|(go_simp;with_reducible rfl))
      try simp only [z6a,Act.put,List.setIfInBounds_toArray,List.set_cons_zero,List.set_cons_succ]
      refine wpAnyH_ready (rs:=[11]) gK (by simp) ?_
      refine AllReadyH.cons (o:=z6h) rfl (fun K hK=>?_) AllReadyH.nil
      try simp only [z6h]
      go_simp
      refine hK.out _ _ ?_ (fun hHeld=>?_)
      ·((try dsimp only);exact z1s (q:=w2.heap.size) hHeld (Nat.le_refl _) _ _ _ _)
      clear hK K
      try simp only [Act.put,List.setIfInBounds_toArray,List.set_cons_zero,List.set_cons_succ]
      refine wpAnyH_take (i:=12) (oi:=z4k) (v:=?_) rfl gK gK gK (fun _ _ _ h=>h) (Or.inl ⟨by rfl,?_⟩) (by assumption) ?_
      rotate_left
      ·(intro W hSw;(try dsimp only at hSw);try simp only [z4k];first|(go_simp;done)|(go_simp;with_reducible rfl))
      try simp only [z4k,Act.put,List.setIfInBounds_toArray,List.set_cons_zero,List.set_cons_succ]
      refine wpAnyH_done gK ?_ _
      go_wp2_with fail
      go_meet
      exact ⟨w2.heap.size,rfl,rfl,⟨by simp (maxDischargeDepth:=12) [go_sem,y0],by simp (maxDischargeDepth:=12) [go_sem,y1],by simp (maxDischargeDepth:=12) [go_sem,y2],by simp (maxDischargeDepth:=12) [go_sem,y3]⟩,Nat.le_refl _,hHeld⟩
    rename World=>wx
    obtain ⟨p,rfl,rfl,h4,hp,b2x⟩:=hcut
    have lp:=h4.lt
    obtain ⟨y0,y1,y2,y3⟩:=h4
    dsimp only at y0 y1 y2 y3
    simp only [Nat.zero_add] at y1 y2 y3
    have B1x:=z0a b12 b2x
    have b0x:=z0a b02 b2x
    by_cases hre:re=0
    case neg =>
     have hre':¬ re=0:=hre
     have HF:Hid (R=(nul,re)):=by show R=_;rw [← HST.out,if_neg hre]
     have br:=RBX.out.later B1x
     have lt1:=br.lt
     obtain ⟨r0,r1,r2,r3⟩:=br.at4
     dsimp only [nul] at r0 r1 r2 r3
     simp only [Nat.zero_add] at r1 r2 r3
     have f0:=br.free 0
     have f1:=br.free 1
     have f2:=br.free 2
     have f3:=br.free 3
     clear HST hre
     go_wp2
     refine bodyPost_ret_by (v:=.tuple #[va 0 0 0 ⟨#[]⟩,.int .i64 re]) ?_ rfl ⟨by rw [HF.out];rfl,z1s (z0a B0 B1x) (by omega) _ _ _ _⟩
     simp [results,Tryz.results37,go_sem,r0,r1,r2,r3]
    subst hre
    rw [if_pos rfl] at HST
    have hlk:(st.take f).length=f:=by rw [List.length_take];omega
    have HO3:Hid (wx.ownsRow w1.heap.size 44 4 (.slice (some ⟨g,0,none⟩) f sc) f (z1t (st.take f))):=by have:=Vk.later HO.out b0x;unfold Vk at this;rw [hlk] at this;exact this
    have hrw2:=World.ownsRow.lt HO.out
    obtain ⟨hk1,hk2⟩:=HK.out
    go_wp2_with fail
    refine wp_region_held_drew (S:=(fun W=>At4 W p 0 ⟨rk,rn,rm,rb⟩∧Below w1.heap.size w1 W)) gK ?_ (fun hHeld=>?_)
    ·exact ⟨⟨y0,by simpa using y1,by simpa using y2,by simpa using y3⟩,B1x.drew⟩
    refine wpAnyH_take (i:=0) (oi:=⟨some 64,.move (.tmp 8),28, "eval.go:49",#[],none⟩) (v:=?_) rfl gK gK gK (fun _ _ _ h=>h) (Or.inl ⟨by rfl,?_⟩) (by assumption) ?_
    rotate_left
    ·(intro W hSw;(try dsimp only at hSw);have C:=hSw.1;obtain ⟨u0,u1,u2,u3⟩:=C;dsimp only at u0 u1 u2 u3;simp only [Nat.zero_add] at u1 u2 u3;first|(go_simp;done)|(go_simp;with_reducible rfl))
    try simp only [Act.put,List.setIfInBounds_toArray,List.set_cons_zero,List.set_cons_succ]
    refine wpAnyH_take (i:=1) (oi:=⟨some 65,.move (.tmp 11),3, "eval.go:49",#[],none⟩) (v:=?_) rfl gK gK gK (fun _ _ _ h=>h) (Or.inl ⟨by rfl,?_⟩) (by assumption) ?_
    rotate_left
    ·(intro W hSw;(try dsimp only at hSw);have C:=hSw.1;obtain ⟨u0,u1,u2,u3⟩:=C;dsimp only at u0 u1 u2 u3;simp only [Nat.zero_add] at u1 u2 u3;first|(go_simp;done)|(go_simp;with_reducible rfl))
    try simp only [Act.put,List.setIfInBounds_toArray,List.set_cons_zero,List.set_cons_succ]
    refine wpAnyH_take (i:=2) (oi:=⟨some 66,.slice 28 (.tmp 64) none (some (.tmp 65)) none,28, "eval.go:49",#[⟨0,.data⟩,⟨1,.data⟩],none⟩) (v:=?_) rfl gK gK gK (fun _ _ _ h=>h) (Or.inl ⟨by rfl,?_⟩) (by assumption) ?_
    rotate_left
    ·(intro W hSw;(try dsimp only at hSw);have C:=hSw.1;obtain ⟨u0,u1,u2,u3⟩:=C;dsimp only at u0 u1 u2 u3;simp only [Nat.zero_add] at u1 u2 u3;first|(go_simp;done)|(go_simp;with_reducible rfl))
    try simp only [Act.put,List.setIfInBounds_toArray,List.set_cons_zero,List.set_cons_succ]
    refine wpAnyH_take (i:=3) (oi:=⟨some 67,.load 44 (.tmp 12),44, "eval.go:49",#[],none⟩) (v:=?_) rfl gK gK gK (fun _ _ _ h=>h) (Or.inl ⟨by rfl,?_⟩) (by assumption) ?_
    rotate_left
    ·(intro W hSw;(try dsimp only at hSw);have C:=hSw.1;obtain ⟨u0,u1,u2,u3⟩:=C;dsimp only at u0 u1 u2 u3;simp only [Nat.zero_add] at u1 u2 u3;first|(go_simp;done)|(go_simp;with_reducible rfl))
    try simp only [Act.put,List.setIfInBounds_toArray,List.set_cons_zero,List.set_cons_succ]
    refine wpAnyH_ready (rs:=[4]) gK (by simp) ?_
    refine AllReadyH.cons (o:=⟨some 68,.buildSlice 28 1 #[(0,.tmp 67)],28, "eval.go:49",#[⟨3,.data⟩],none⟩) rfl (fun K hK=>?_) AllReadyH.nil
    go_simp
    refine hK.out _ _ ?_ (fun hHeld=>?_)
    ·((try dsimp only);exact ⟨hHeld.1.later ((Below.refl _ _).alloc (Nat.le_refl _) _),hHeld.2.alloc hHeld.2.size _⟩)
    clear hK K
    try simp only [Act.put,List.setIfInBounds_toArray,List.set_cons_zero,List.set_cons_succ]
    have sx:=B1x.size
    refine wpAnyH_ready (rs:=[5]) gK (by simp) ?_
    refine AllReadyH.cons (o:=⟨some 69,.call { callee:=Callee.builtin Builtin.append,args:=#[.tmp 66,.tmp 68],argTypes:=#[28,28] },28, "eval.go:49",#[⟨2,.data⟩,⟨4,.data⟩],none⟩) rfl (fun K hK=>?_) AllReadyH.nil
    (refine step_append_lies _ (by rfl) _ _ _ (by rfl) w1.heap.size 44 i0 _ 4 40 Tryz.underlying28 hi hz0 hz1 hz2 rfl (by omega) _ f (z1t (st.take f)) (by rfl) (World.ownsRow.alloc HO3.out.drew _) ⟨wx.heap.size,0,none⟩ 1 1 (vcs ⟨rk,rn,rm,rb⟩).toList (by rfl) (by rfl) (World.news_of_block (cs:=vcs ⟨rk,rn,rm,rb⟩) (t:=44) (fr:=(0,0)) (heap_alloc_new wx.drew _)) (one_va ⟨rk,rn,rm,rb⟩) (by omega) (by unfold maxLen;omega) (by omega) (by simp;omega) (wx.heap.size+1) (by simp) ?_;intro gg gc w5 hown5 hgrow hat hlt5)
    refine hK.out _ _ ?_ (fun hHeld=>?_)
    ·exact ⟨hHeld.1.grown hgrow (fun e=>by have:=(hrw2 _ e.symm).2;have:=b0x.size;have:=b02.size;omega),hHeld.2.grown hgrow (by simp;omega) (fun k hk=>(hrw2 k hk).1)⟩
    clear hK K
    try simp only [Act.put,List.setIfInBounds_toArray,List.set_cons_zero,List.set_cons_succ]
    refine wpAnyH_take (i:=6) (oi:=⟨some 8,.assign (.tmp 69),28, "eval.go:49",#[⟨5,.data⟩,⟨5,.chain⟩,⟨0,.phase⟩,⟨1,.phase⟩,⟨2,.phase⟩,⟨3,.phase⟩,⟨4,.phase⟩,⟨5,.phase⟩],none⟩) (v:=?_) rfl gK gK gK (fun _ _ _ h=>h) (Or.inl ⟨by rfl,?_⟩) (by assumption) ?_
    rotate_left
    ·(intro W hSw;(try dsimp only at hSw);have C:=hSw.1;obtain ⟨u0,u1,u2,u3⟩:=C;dsimp only at u0 u1 u2 u3;simp only [Nat.zero_add] at u1 u2 u3;first|(go_simp;done)|(go_simp;with_reducible rfl))
    try simp only [Act.put,List.setIfInBounds_toArray,List.set_cons_zero,List.set_cons_succ]
    refine wpAnyH_done gK ?_ _
    go_wp2
    have ho5:=Vk.push hlk hown5
    exact ⟨⟨k+1,st.take f++[⟨rk,rn,rm,rb⟩],by rw [cst1],by omega,by rw [List.length_append,hlk];simp;omega,ho5,hHeld.2,HST,by obtain ⟨d1,d2,d3⟩:=HDD.out;exact ⟨d1,by rw [List.length_append,hlk,d2];simp,d3⟩,gv_take HG.out HGR.out⟩,by simp [intOf];omega⟩
  ·have hlt':¬ (k:Int)<(n:Int):=by omega
   have HF:Hid (R=(st.headD nul,0)∧st.length=1):=by
    obtain ⟨ds,h1,h2⟩:=hD.out
    have h3:=hH.out
    have e:l.drop k=[]:=List.drop_eq_nil_of_le (by rw [HN.out];omega)
    rw [e] at h2 h3
    have h4:ds=[d]:=by
     unfold runD at h2
     exact Option.some.inj h2
    exact ⟨h3.symm,by rw [← h1,h4];rfl⟩
   obtain ⟨v,hv⟩:=List.length_eq_one_iff.1 HF.out.2
   subst hv
   have gvv:=HG.out v (by simp)
   obtain ⟨g,rfl,hgb,hgl,hgc⟩:∃ g,so=some ⟨g,0,none⟩∧w1.heap.size≤g∧g<wr.heap.size∧∀ i (h:i < [v].length),At4 wr g (i*4) [v][i]:=by
    cases so with
    | none=>obtain ⟨h1,h2⟩:=hsn rfl;simp at h1
    | some a=>obtain ⟨g,rfl,h2⟩:=hcell a rfl;exact ⟨g,rfl,h2⟩
   have h4:At4 wr g 0 v:=by have:=hgc 0 (by simp);simpa using this
   have AP:=fun W=>apart_any v W (by have:=(z3u v).1 gvv.1;unfold vok at this;rcases this with h|h|h|h|h|h <;> first|(rw [h.2.2.2];simp)|(rw [h.2.2];simp)|omega|(rw [h.2.2.2.2.2];simp))
   have HF2:Hid (R=(v,0)):=HF.out.1
   obtain ⟨vk,vn,vm,vb⟩:=v
   obtain ⟨y0,y1,y2,y3⟩:=h4
   dsimp only at y0 y1 y2 y3
   simp only [Nat.zero_add] at y1 y2 y3
   clear HF hgc hcell hcut ho hsn hH hD HG gvv HR HD gx
   go_wp2_with fail
   refine (AP _).mono ?_
   rintro e w5 ⟨rfl,b5⟩
   have B5:=z0a (z0a B0 hb) b5
   have br:=(RBX.out.later hb).later b5
   have lt1:=br.lt
   obtain ⟨r0,r1,r2,r3⟩:=br.at4
   dsimp only [nul] at r0 r1 r2 r3
   simp only [Nat.zero_add] at r1 r2 r3
   have f0:=br.free 0
   have f1:=br.free 1
   have f2:=br.free 2
   have f3:=br.free 3
   clear y0 y1 y2 y3
   go_wp2
   refine bodyPost_ret_by (v:=.tuple #[va vk vn vm ⟨vb.toArray⟩,.int .i64 0]) ?_ rfl ⟨by rw [HF2.out],z1s B5 (by omega) _ _ _ _⟩
   simp [results,Tryz.results37,go_sem,r0,r1,r2,r3]
end Go.Proofs.YtljkonkfeiojnaaGreatDoor
