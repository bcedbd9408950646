/-
  The document's Eval, where all is right.
-/
import Derived.Test.YtibbenhplmmmiaaGreatDoorMFXApp
import Derived.Test.YtibbenhplmmmiaaGreatDoorMzXAlB
import Derived.Test.YtibbenhplmmmiaaGreatDoorMvVOrd1
import Derived.Deep.CutRange
import Derived.Deep.CutBlock
set_option maxHeartbeats 8000000
set_option maxRecDepth 20000
namespace Go.Proofs.YtibbenhplmmmiaaGreatDoor
open Go.RowKit Go.Shelf
attribute [local go_sem] z0e z0b z0c z0f z0m z0k z0h z0d z0g
theorem Box.drew' {w:World} {p:Nat} {v:Va} (h:Box w p v):Box w.drew p v:=h.later (Below.refl _ _).drew
theorem vcells_one (l:List Va):∀ u∈z1v l,u.oneCell'=true:=by
 intro u hu
 simp only [z1v,List.mem_flatMap] at hu
 obtain ⟨v,_,hu⟩:=hu
 exact one_va v u hu
theorem src_of_vk {w:World} {base:Nat} {ao:Option Addr} {f cap:Nat} {st:List Va} (h:Vk w base (.slice ao f cap) (st.take f)) (hf:f≤st.length):Src Tryz.prog 4 34 (.slice ao f cap) f (z1v (st.take f)) w:=by
 have hl:(st.take f).length=f:=by rw [List.length_take];omega
 obtain ⟨a,c,e,h1,h2,_,h4⟩:=h.shape
 rw [hl] at e
 simp only [Value.slice.injEq] at e
 obtain ⟨rfl,_,rfl⟩:=e
 cases ao with
 | none =>
  have h0:=(h2 rfl).1
  have hf0:f=0:=by rw [h0] at hl;simpa using hl.symm
  subst hf0
  exact Src.ofNil w Tryz.underlying34 cap
 | some a =>
  obtain ⟨g,rfl,_,_,h5⟩:=h4 a rfl
  refine Src.ofSlice w Tryz.underlying34 ⟨g,0,none⟩ f cap (z1v (st.take f)) (by rw [z5c,hl]) (fun j u hu=>?_) (vcells_one _)
  have hj:j<(z1v (st.take f)).length:=(List.getElem?_eq_some_iff.1 hu).1
  rw [z5c] at hj
  have hi:j / 4<(st.take f).length:=by omega
  have hm:j%4<4:=Nat.mod_lt _ (by decide)
  have e:j / 4*4+j%4=j:=by omega
  have hc:=vcells_at (st.take f) (j / 4) (j%4) hi hm
  rw [e,hu] at hc
  obtain ⟨c0,c1,c2,c3⟩:=h5 (j / 4) hi
  rw [Addr.add_lit,Nat.zero_add]
  have:j%4=0∨j%4=1∨j%4=2∨j%4=3:=by omega
  rcases this with h|h|h|h
  ·rw [h] at hc e
   rw [← e,Nat.add_zero,c0]
   exact hc.symm
  ·rw [h] at hc e
   rw [← e,c1]
   exact hc.symm
  ·rw [h] at hc e
   rw [← e,c2]
   exact hc.symm
  ·rw [h] at hc e
   rw [← e,c3]
   exact hc.symm
theorem vk_base {w:World} {b1 b2:Nat} {v:Value} {st:List Va} (h:Vk w b1 v st) (hb:b2≤b1):Vk w b2 v st:=by
 obtain ⟨h1,h2⟩:=h
 refine ⟨h1,?_⟩
 rcases h2 with h|⟨g,cap,cur,e,hg,rest⟩
 ·exact .inl h
 ·exact .inr ⟨g,cap,cur,e,Nat.le_trans hb hg,rest⟩
theorem z7k {w:World} {p:Nat} {v:Va} (h:At4 w p 0 v):∀ j u,(vcs v).toList[j]?=some u→w.cell? ((⟨p,0,none⟩:Addr).add j)=some u:=by
 intro j u hu
 obtain ⟨c0,c1,c2,c3⟩:=h
 simp only [Nat.zero_add] at c1 c2 c3
 rw [Addr.add_lit,Nat.zero_add]
 match j,hu with
 | 0,hu=>rw [c0];exact hu
 | 1,hu=>rw [c1];exact hu
 | 2,hu=>rw [c2];exact hu
 | 3,hu=>rw [c3];exact hu
 | j+4,hu=>simp at hu
def z8k:Oper:=⟨some 102,.fieldAddr 98 (.tmp 10) 2,0, "ref.go:344",#[],none⟩
def z8y:Oper:=⟨some 103,.load 9 (.tmp 102),9, "ref.go:344",#[⟨0,.data⟩],none⟩
def z8m:Oper:=⟨some 104,.move (.tmp 8),34, "ref.go:344",#[],none⟩
def z8h:Oper:=⟨some 105,.move (.tmp 13),3, "ref.go:344",#[],none⟩
def z8z:Oper:=⟨some 106,.fieldAddr 98 (.tmp 10) 4,0, "ref.go:344",#[],none⟩
def z9f:Oper:=⟨some 107,.load 3 (.tmp 106),3, "ref.go:344",#[⟨4,.data⟩],none⟩
def z8t:Oper:=⟨some 108,.binOp BinOp.sub 3 (.tmp 105) (.tmp 107) 3,3, "ref.go:344",#[⟨3,.data⟩,⟨5,.data⟩],none⟩
def z9e:Oper:=⟨some 109,.slice 34 (.tmp 104) (some (.tmp 108)) none none,34, "ref.go:344",#[⟨2,.data⟩,⟨6,.data⟩],none⟩
def reO20x8:Oper:=⟨some 110,.call { callee:=Callee.value (Operand.func 66),args:=#[.tmp 103,.tmp 109],argTypes:=#[9,34] },27, "ref.go:344",#[⟨1,.data⟩,⟨7,.data⟩],none⟩
def z8q:Oper:=⟨some 101,.move (.tmp 110),27, "ref.go:344",#[⟨8,.data⟩],none⟩
def z6u:Oper:=⟨some 111,.extract (.tmp 101) 0,23, "ref.go:344",#[⟨9,.data⟩],none⟩
def z6x:Oper:=⟨some 112,.extract (.tmp 101) 1,3, "ref.go:344",#[⟨9,.data⟩,⟨12,.gcOnly .lateStores⟩],none⟩
def z9w:Oper:=⟨none,.store 23 (.tmp 11) (.tmp 111),0, "ref.go:344",#[⟨10,.data⟩,⟨8,.chain⟩,⟨0,.phase⟩,⟨1,.phase⟩,⟨2,.phase⟩,⟨3,.phase⟩,⟨4,.phase⟩,⟨5,.phase⟩,⟨6,.phase⟩,⟨7,.phase⟩,⟨8,.phase⟩,⟨9,.phase⟩,⟨10,.phase⟩,⟨11,.textOnly .lateStores⟩],none⟩
def z7a:Oper:=⟨some 12,.assign (.tmp 112),3, "ref.go:344",#[⟨11,.data⟩,⟨12,.chain⟩,⟨0,.phase⟩,⟨1,.phase⟩,⟨2,.phase⟩,⟨3,.phase⟩,⟨4,.phase⟩,⟨5,.phase⟩,⟨6,.phase⟩,⟨7,.phase⟩,⟨8,.phase⟩,⟨9,.phase⟩,⟨10,.phase⟩,⟨11,.phase⟩,⟨12,.phase⟩],none⟩
def reO23x0:Oper:=⟨some 124,.fieldAddr 98 (.tmp 10) 0,0, "ref.go:347",#[],none⟩
def reO23x1:Oper:=⟨some 125,.load 3 (.tmp 124),3, "ref.go:347",#[⟨0,.data⟩],none⟩
def reO23x2:Oper:=⟨some 126,.move (.tmp 8),34, "ref.go:347",#[],none⟩
def reO23x3:Oper:=⟨some 127,.move (.tmp 13),3, "ref.go:347",#[],none⟩
def reO23x4:Oper:=⟨some 128,.binOp BinOp.sub 3 (.tmp 127) (.const (Value.int IntKind.i64 1)) 3,3, "ref.go:347",#[⟨3,.data⟩],none⟩
def reO23x5:Oper:=⟨some 129,.indexAddr 34 (.tmp 126) (.tmp 128),0, "ref.go:347",#[⟨2,.data⟩,⟨4,.data⟩],none⟩
def reO23x6:Oper:=⟨some 130,.load 23 (.tmp 129),23, "ref.go:347",#[⟨5,.data⟩],none⟩
def reO23x7:Oper:=⟨some 131,.call { callee:=Callee.value (Operand.func 67),args:=#[.tmp 125,.tmp 130],argTypes:=#[3,23] },27, "ref.go:347",#[⟨1,.data⟩,⟨6,.data⟩],none⟩
def reO23x8:Oper:=⟨some 123,.move (.tmp 131),27, "ref.go:347",#[⟨7,.data⟩],none⟩
def reO23x9:Oper:=⟨some 132,.extract (.tmp 123) 0,23, "ref.go:347",#[⟨8,.data⟩],none⟩
def reO23x10:Oper:=⟨some 133,.extract (.tmp 123) 1,3, "ref.go:347",#[⟨8,.data⟩,⟨11,.gcOnly .lateStores⟩],none⟩
def reO23x11:Oper:=⟨none,.store 23 (.tmp 11) (.tmp 132),0, "ref.go:347",#[⟨9,.data⟩,⟨7,.chain⟩,⟨0,.phase⟩,⟨1,.phase⟩,⟨2,.phase⟩,⟨3,.phase⟩,⟨4,.phase⟩,⟨5,.phase⟩,⟨6,.phase⟩,⟨7,.phase⟩,⟨8,.phase⟩,⟨9,.phase⟩,⟨10,.textOnly .lateStores⟩],none⟩
def reO23x12:Oper:=⟨some 12,.assign (.tmp 133),3, "ref.go:347",#[⟨10,.data⟩,⟨11,.chain⟩,⟨0,.phase⟩,⟨1,.phase⟩,⟨2,.phase⟩,⟨3,.phase⟩,⟨4,.phase⟩,⟨5,.phase⟩,⟨6,.phase⟩,⟨7,.phase⟩,⟨8,.phase⟩,⟨9,.phase⟩,⟨10,.phase⟩,⟨11,.phase⟩],none⟩
def reO11x0:Oper:=⟨some 55,.fieldAddr 98 (.tmp 10) 0,0, "ref.go:350",#[],none⟩
def reO11x1:Oper:=⟨some 56,.load 3 (.tmp 55),3, "ref.go:350",#[⟨0,.data⟩],none⟩
def reO11x2:Oper:=⟨some 57,.move (.tmp 8),34, "ref.go:350",#[],none⟩
def reO11x3:Oper:=⟨some 58,.move (.tmp 13),3, "ref.go:350",#[],none⟩
def reO11x4:Oper:=⟨some 59,.binOp BinOp.sub 3 (.tmp 58) (.const (Value.int IntKind.i64 2)) 3,3, "ref.go:350",#[⟨3,.data⟩],none⟩
def reO11x5:Oper:=⟨some 60,.indexAddr 34 (.tmp 57) (.tmp 59),0, "ref.go:350",#[⟨2,.data⟩,⟨4,.data⟩],none⟩
def reO11x6:Oper:=⟨some 61,.load 23 (.tmp 60),23, "ref.go:350",#[⟨5,.data⟩],none⟩
def reO11x7:Oper:=⟨some 62,.move (.tmp 8),34, "ref.go:350",#[],none⟩
def reO11x8:Oper:=⟨some 63,.move (.tmp 13),3, "ref.go:350",#[],none⟩
def reO11x9:Oper:=⟨some 64,.binOp BinOp.sub 3 (.tmp 63) (.const (Value.int IntKind.i64 1)) 3,3, "ref.go:350",#[⟨8,.data⟩],none⟩
def reO11x10:Oper:=⟨some 65,.indexAddr 34 (.tmp 62) (.tmp 64),0, "ref.go:350",#[⟨7,.data⟩,⟨9,.data⟩],none⟩
def reO11x11:Oper:=⟨some 66,.load 23 (.tmp 65),23, "ref.go:350",#[⟨10,.data⟩],none⟩
def reO11x12:Oper:=⟨some 67,.call { callee:=Callee.value (Operand.func 68),args:=#[.tmp 56,.tmp 61,.tmp 66],argTypes:=#[3,23,23] },27, "ref.go:350",#[⟨1,.data⟩,⟨6,.data⟩,⟨11,.data⟩],none⟩
def reO11x13:Oper:=⟨some 54,.move (.tmp 67),27, "ref.go:350",#[⟨12,.data⟩],none⟩
def reO11x14:Oper:=⟨some 68,.extract (.tmp 54) 0,23, "ref.go:350",#[⟨13,.data⟩],none⟩
def reO11x15:Oper:=⟨some 69,.extract (.tmp 54) 1,3, "ref.go:350",#[⟨13,.data⟩,⟨16,.gcOnly .lateStores⟩],none⟩
def reO11x16:Oper:=⟨none,.store 23 (.tmp 11) (.tmp 68),0, "ref.go:350",#[⟨14,.data⟩,⟨12,.chain⟩,⟨0,.phase⟩,⟨1,.phase⟩,⟨2,.phase⟩,⟨3,.phase⟩,⟨4,.phase⟩,⟨5,.phase⟩,⟨6,.phase⟩,⟨7,.phase⟩,⟨8,.phase⟩,⟨9,.phase⟩,⟨10,.phase⟩,⟨11,.phase⟩,⟨12,.phase⟩,⟨13,.phase⟩,⟨14,.phase⟩,⟨15,.textOnly .lateStores⟩],none⟩
def reO11x17:Oper:=⟨some 12,.assign (.tmp 69),3, "ref.go:350",#[⟨15,.data⟩,⟨16,.chain⟩,⟨0,.phase⟩,⟨1,.phase⟩,⟨2,.phase⟩,⟨3,.phase⟩,⟨4,.phase⟩,⟨5,.phase⟩,⟨6,.phase⟩,⟨7,.phase⟩,⟨8,.phase⟩,⟨9,.phase⟩,⟨10,.phase⟩,⟨11,.phase⟩,⟨12,.phase⟩,⟨13,.phase⟩,⟨14,.phase⟩,⟨15,.phase⟩,⟨16,.phase⟩],none⟩
def reO27x0:Oper:=⟨some 142,.buildSlice 34 0 #[],34, "ref.go:356",#[],none⟩
def reO27x1:Oper:=⟨some 143,.move (.tmp 8),34, "ref.go:356",#[],none⟩
def z8u:Oper:=⟨some 144,.call { callee:=Callee.builtin Builtin.append,args:=#[.tmp 142,.tmp 143],argTypes:=#[34,34] },34, "ref.go:356",#[⟨0,.data⟩,⟨1,.data⟩],none⟩
def reO27x3:Oper:=⟨some 145,.load 23 (.tmp 11),23, "ref.go:356",#[],none⟩
def z8p:Oper:=⟨some 146,.buildSlice 34 1 #[(0,.tmp 145)],34, "ref.go:356",#[⟨3,.data⟩],none⟩
def z9d:Oper:=⟨some 147,.call { callee:=Callee.builtin Builtin.append,args:=#[.tmp 144,.tmp 146],argTypes:=#[34,34] },34, "ref.go:356",#[⟨2,.data⟩,⟨4,.data⟩,⟨2,.chain⟩],none⟩
def z5r:Oper:=⟨some 8,.assign (.tmp 147),34, "ref.go:356",#[⟨5,.data⟩,⟨5,.chain⟩,⟨0,.phase⟩,⟨1,.phase⟩,⟨2,.phase⟩,⟨3,.phase⟩,⟨4,.phase⟩,⟨5,.phase⟩],none⟩
theorem reval_good (lo ta na ro:Option Addr) (lc tc nc rc:Nat) (l:List Nd) (ts ns:List (List UInt8)) (row:List Va) (w:World) (hv:Nw w lo l) (ht:Sl w ta ts) (hn:Sl w na ns) (hr:Vs w ro row)
  (hd:0<depN mayN l) (het:ts.length=row.length) (hen:ns.length=row.length) (har:row.all vr=true) (hl:row.length≤140737488351232) (hi6:∀ x∈l,vin x.v) (hir:∀ v∈row,vin v)
  (RI:Hid (∀ W,Below w.heap.size w W→Calls Tryz.prog 64 #[.slice lo l.length lc] W fun e w'=>e=.returned (.bool true)∧Below W.heap.size W w'))
  (AR:Hid (∀ W,Below w.heap.size w W→Calls Tryz.prog 65 #[.slice ro row.length rc] W fun e w'=>e=.returned (.bool true)∧Below W.heap.size W w'))
  (FU:Hid (∀ (nm:List UInt8) (ao:Option Addr) (cap:Nat) (l:List Va) (W:World),Vs W ao l→l.length≤140737488351232→(∀ x∈l,vin x)→Calls Tryz.prog 66 #[.string ⟨nm.toArray⟩,.slice ao l.length cap] W fun e w'=>e=.returned (rs (funR nm l))∧Below W.heap.size W w'))
  (UN:Hid (∀ (op:Int) (a:Va) (W:World),vin a→Calls Tryz.prog 67 #[.int .i64 op,vv a] W fun e w'=>e=.returned (rs (unR op a))∧Below W.heap.size W w'))
  (BI:Hid (∀ (op:Int) (a b:Va) (W:World),vin a→vin b→Calls Tryz.prog 68 #[.int .i64 op,vv a,vv b] W fun e w'=>e=.returned (rs (binR op a b))∧Below W.heap.size W w')) :
  Calls Tryz.prog 25 #[.slice lo l.length lc,scv ta na ts.length ns.length tc nc,.slice ro row.length rc] w fun e w'=>e=.returned (rs (evL ts ns row l []))∧Below w.heap.size w w':=by
 obtain ⟨i0,hi,hz0,hz1,hz2⟩:=info_parts Tryz.info23
 obtain ⟨hlen,d,hrun⟩:=dep_one hd
 have gr:∀ v∈row,gv v:=fun v hv=>⟨List.all_eq_true.1 har v hv,hir v hv⟩
 have gx:Hid (∀ x∈l,mayN x=true→x.o=1→gv x.v):=fun x hx hm ho=>by
  refine ⟨?_,hi6 x hx⟩
  unfold mayN fitN at hm
  rw [Bool.and_eq_true,if_pos ho] at hm
  have:=hm.2
  unfold litV at this
  rw [Bool.and_eq_true] at this
  exact this.1
 have GRW:Hid (∀ v∈row,gv v):=gr
 have HV:Hid (Nw w lo l):=hv
 have HSt:Hid (Sl w ta ts):=ht
 have HSn:Hid (Sl w na ns):=hn
 have HVr:Hid (Vs w ro row):=hr
 obtain ⟨R,hR⟩:∃ R,R=evL ts ns row l []:=⟨_,rfl⟩
 rw [← hR]
 have HR:Hid (evL ts ns row (l.drop 0) []=R):=hR.symm
 have HD:Hid (runD mayN (l.drop 0) []=some [d]):=hrun
 clear hR hrun hv ht hn hr har hi6 hir gr hd
 obtain ⟨m,hm⟩:∃ m,row.length=m:=⟨_,rfl⟩
 have HMR:Hid (row.length=m):=hm
 have HMT:Hid (ts.length=m):=by show _=_;omega
 have HMN:Hid (ns.length=m):=by show _=_;omega
 rw [het,hen,hm]
 rw [hm] at AR hl
 obtain ⟨n,hnn⟩:∃ n,l.length=n:=⟨_,rfl⟩
 rw [hnn] at hlen RI ⊢
 have HN:Hid (l.length=n):=hnn
 clear hnn hm het hen
 have h1:=Cbox.new w #[.slice ta m tc,.slice na m nc] 47
 have h2:=Box.new (w.alloc (.cells #[.slice ta m tc,.slice na m nc] 47)) 0 0 0 []
 have B00:Below w.heap.size w ((w.alloc (.cells #[.slice ta m tc,.slice na m nc] 47)).alloc (.cells #[.int .i64 0,.int .i64 0,.int .i64 0,.string ⟨#[]⟩] 23)):=((Below.refl _ w).alloc (Nat.le_refl _) _).alloc (by simp) _
 simp only [World.size_alloc] at h2
 have h1':=h1.later ((Below.refl _ _).alloc (Nat.le_refl _) (.cells #[.int .i64 0,.int .i64 0,.int .i64 0,.string ⟨#[]⟩] 23))
 generalize hw0:((w.alloc (.cells #[.slice ta m tc,.slice na m nc] 47)).alloc (.cells #[.int .i64 0,.int .i64 0,.int .i64 0,.string ⟨#[]⟩] 23))=w0 at h1' h2 B00
 clear h1
 go_enter Tryz.func25,Tryz.ntmps25
 go_upto_region 1 with fail
 try rw [hw0]
 clear hw0
 have z0:=h1'.at 0
 have z1:=h1'.at 1
 have zl:=h1'.lt
 have R1:=RI.out w0 B00
 go_wp2_with fail
 refine R1.mono ?_
 rintro e wa ⟨rfl,ba⟩
 have Ba:=z0a B00 ba
 have A2:=AR.out wa Ba
 have c0:=(h1'.later ba).at 0
 have c1:=(h1'.later ba).at 1
 have cl:=(h1'.later ba).lt
 clear z0 z1 zl R1
 go_wp2_with fail
 refine A2.mono ?_
 rintro e w1 ⟨rfl,b1⟩
 have B0:=z0a Ba b1
 have SBX0:=(h1'.later ba).later b1
 have RBX0:=(h2.later ba).later b1
 clear A2 c0 c1 cl RI AR h1' h2 ba b1 Ba B00
 obtain ⟨sb,hsb⟩:∃ sb,w.heap.size=sb:=⟨_,rfl⟩
 have SBX:Hid (Cbox w1 sb #[.slice ta m tc,.slice na m nc] 47):=by rw [← hsb];exact SBX0
 have RBX:Hid (Box w1 (sb+1) nul):=by rw [← hsb];exact RBX0
 have hsbw:w.heap.size≤sb:=by omega
 clear SBX0 RBX0
 rw [hsb]
 clear hsb
 go_wp2
 go_loopw [8,9] (fun r8 r9 wr=>∃ (k:Nat) (st:List Va),r9=.int .i64 (k:Int)∧k≤n∧st.length≤k∧Vk wr w1.heap.size r8 st∧Below w1.heap.size w1 wr∧Hid (evL ts ns row (l.drop k) st=R)∧Hid (∃ ds,ds.length=st.length∧runD mayN (l.drop k) ds=some [d])∧Hid (∀ v∈st,gv v)) (fun _ r _=>n - (intOf r).toNat)
 case atStart=>exact ⟨0,[],rfl,Nat.zero_le _,Nat.zero_le _,World.ownsRow_nil _ _ _ _,Below.refl _ _,HR,⟨[],rfl,HD.out⟩,fun v h=>by simp at h⟩
 case round =>
  obtain ⟨k,st,rfl,hk,hsl,ho,hb,hH,hD,HG⟩:=hrel
  have sB:=hb.size
  obtain ⟨so,sc,rfl,hsc,hsn,hcut,hcell⟩:=ho.shape
  by_cases hlt:k<n
  ·have hlt':(k:Int)<(n:Int):=by omega
   have k0:(0:Int)≤(k:Int):=by omega
   have hkl:k<l.length:=by rw [HN.out];exact hlt
   obtain ⟨b,off,rfl,hcl⟩:=HV.out (by omega)
   obtain ⟨c0,c1,c2,c3,c4,c5,c6,c7⟩:=((hcl k hkl).later (z0a B0 hb))
   have hg':=((hcl k hkl).later (z0a B0 hb)).lt
   have hdr:l.drop k=l[k]::l.drop (k+1):=List.drop_eq_getElem_cons hkl
   have gxk:=gx.out l[k] (List.getElem_mem _)
   obtain ⟨x,he⟩:∃ x:Nd,x=l[k]:=⟨_,rfl⟩
   rw [← he] at c0 c1 c2 c3 c4 c5 c6 c7 hdr gxk
   obtain ⟨ds,hdl,hrd⟩:=hD.out
   rw [hdr] at hrd
   obtain ⟨hmx,hopx,ds',hdl',hrd'⟩:=runD_one hrd
   have hox:=z7w x hmx
   obtain ⟨q,hq⟩:∃ q:Nat,opsN x=(q:Int):=⟨(opsN x).toNat,by omega⟩
   have hst0:=hH.out
   rw [hdr] at hst0
   unfold evL at hst0
   rw [hq,Int.toNat_natCast] at hst0
   rw [hq,hdl] at hopx
   rw [hq,Int.toNat_natCast,hdl] at hdl'
   have HGR0:=gv_stp x (st.drop (st.length - q)) ts ns row (gxk hmx) (z5s HG.out) GRW.out
   have HDD:Hid (∃ ds,ds.length=st.length - q+1∧runD mayN (l.drop (k+1)) ds=some [d]):=⟨ds',hdl',hrd'⟩
   have HQ:Hid (opsN x=(q:Int)):=hq
   have HOR:Hid (¬ x.o=1→¬ x.o=2→¬ x.o=19→3≤x.o∧x.o≤18):=fun h1 h2 h3=>by
    unfold mayN fitN at hmx
    rw [if_neg h1,if_neg h2,if_neg h3] at hmx
    simp only [Bool.and_eq_true,decide_eq_true_eq] at hmx
    exact hmx.2
   have hq4:q≤4:=by omega
   have hqs:q≤st.length:=by omega
   have HK:Hid (st.length≤k∧k≤255):=⟨hsl,by omega⟩
   clear hcl he hH HR hdr hD HD hrd hrd' hdl hdl' hmx hox hopx hq gxk gx
   obtain ⟨f,hf⟩:∃ f:Nat,f=st.length - q:=⟨_,rfl⟩
   rw [← hf] at hst0 HDD HGR0
   rcases hrs:stpR x (st.drop f) ts ns row with ⟨⟨rk,rn,rm,rb⟩,re⟩
   rw [hrs] at hst0 HGR0
   have HRS:Hid (stpR x (st.drop f) ts ns row=(⟨rk,rn,rm,rb⟩,re)):=hrs
   have HST:Hid ((if re=0 then evL ts ns row (l.drop (k+1)) (st.take f++[⟨rk,rn,rm,rb⟩]) else (nul,re))=R):=hst0
   have HGR:Hid (gv ⟨rk,rn,rm,rb⟩):=HGR0
   clear hst0 HGR0 hrs
   have hfr:(st.length:Int) - (q:Int)=(f:Int):=by omega
   have hfl:f≤st.length:=by omega
   have hfl':(f:Int)≤(st.length:Int):=by omega
   have hqe:st.length - f=q:=by omega
   have hst256:st.length≤255:=by have:=HK.out;omega
   have hwf:IntKind.i64.wrap (f:Int)=(f:Int):=by rw [IntKind.wrap_i64];omega
   have HO:Hid (Vk wr w1.heap.size (.slice so f sc) (st.take f)):=hcut f hfl
   have SOM:Hid (¬ sc=f→∃ g,so=some ⟨g,0,none⟩∧w1.heap.size≤g∧g<wr.heap.size∧∀ i (h:i<st.length),At4 wr g (i*4) st[i]):=fun hsf=>by
    cases so with
    | none=>obtain ⟨h1,h2⟩:=hsn rfl;subst h1;exact absurd (by simp at hfl;omega) hsf
    | some a=>obtain ⟨g,rfl,h2⟩:=hcell a rfl;exact ⟨g,rfl,h2⟩
   have Bn00:Below wr.heap.size wr (wr.alloc (.cells (ncs x) 98)):=(Below.refl _ _).alloc (Nat.le_refl _) _
   have BXN0:Cbox (wr.alloc (.cells (ncs x) 98)) wr.heap.size (ncs x) 98:=Cbox.new wr _ _
   have hszn:(wr.alloc (.cells (ncs x) 98)).heap.size=wr.heap.size+1:=by simp
   obtain ⟨xo,xt,xn,⟨vk,vn,vm,vb⟩,xa⟩:=x
   have BXV0:=Box.new (wr.alloc (.cells (ncs ⟨xo,xt,xn,⟨vk,vn,vm,vb⟩,xa⟩) 98)) vk vn vm vb
   have HB20:Below (wr.alloc (.cells (ncs ⟨xo,xt,xn,⟨vk,vn,vm,vb⟩,xa⟩) 98)).heap.size (wr.alloc (.cells (ncs ⟨xo,xt,xn,⟨vk,vn,vm,vb⟩,xa⟩) 98)) _:=(Below.refl _ _).alloc (Nat.le_refl _) (.cells (vcs ⟨vk,vn,vm,vb⟩) 23)
   clear hcell hcut ho hsn hf
   go_upto_block 2 with fail
   have hpw:wr.heap.size≤(wr.alloc (.cells (ncs ⟨xo,xt,xn,⟨vk,vn,vm,vb⟩,xa⟩) 98)).heap.size:=by omega
   generalize hwn:wr.alloc (.cells (ncs ⟨xo,xt,xn,⟨vk,vn,vm,vb⟩,xa⟩) 98)=wn at *
   generalize hw2:wn.alloc (.cells #[.int .i64 vk,.int .i64 vn,.int .i64 vm,.string ⟨vb.toArray⟩] 23)=w2 at *
   obtain ⟨pv,hpv⟩:∃ pv,wn.heap.size=pv:=⟨_,rfl⟩
   rw [hpv] at BXV0
   have HPV:Hid (wn.heap.size≤pv):=by show _≤_;omega
   try rw [← hszn]
   try rw [hpv]
   have BXN:Hid (Cbox wn wr.heap.size (ncs ⟨xo,xt,xn,⟨vk,vn,vm,vb⟩,xa⟩) 98):=BXN0
   have BXV:Hid (Box w2 pv ⟨vk,vn,vm,vb⟩):=BXV0
   have HB2:Hid (Below wn.heap.size wn w2):=HB20
   have Bn0:Hid (Below wr.heap.size wr wn):=Bn00
   have Bn:Hid (Below w1.heap.size w1 wn):=z0a hb Bn00
   have B2:Hid (Below wr.heap.size wr w2):=z0a Bn00 HB20
   have Bw2:Hid (Below w.heap.size w w2):=z0a (z0a B0 hb) B2.out
   have BXS2:Hid (Cbox w2 sb #[.slice ta m tc,.slice na m nc] 47):=(SBX.out.later hb).later B2.out
   have hpn:wr.heap.size<pv:=by omega
   have hne1:¬ wr.heap.size=pv:=by omega
   have hne2:¬ pv=wr.heap.size:=by omega
   clear BXN0 BXV0 HB20 Bn00 hwn hw2 hpw hszn hpv c0 c1 c2 c3 c4 c5 c6 c7 hg'
   dsimp only at HOR
   go_cut [8,12] from 40 to 147 (fun s8 s12 wx=>s8=.slice so f sc∧s12=.int .i64 re∧(re=0→At4 wx pv 0 ⟨rk,rn,rm,rb⟩)∧Below wr.heap.size wr wx)
   case first =>
    by_cases h1:xo=1
    ·-- a value
     subst h1
     obtain rfl:q=0:=by have:=HQ.out;simp [opsN] at this;omega
     obtain rfl:f=st.length:=by omega
     have hr1:vk=rk∧vn=rn∧vm=rm∧vb=rb∧0=re:=by have:=HRS.out;simp [stpR] at this;obtain ⟨⟨a,b,c,d⟩,e⟩:=this;exact ⟨a,b,c,d,e⟩
     obtain ⟨rfl,rfl,rfl,rfl,rfl⟩:=hr1
     have C:=BXN.out.later HB2.out
     have e0:=C.at 0
     have el:=C.lt
     clear C HGR HRS HST
     go_wp2_with fail
     go_meet
     exact ⟨rfl,rfl,fun _=>BXV.out.at4,B2.out⟩
    by_cases h2:xo=2
    ·-- a column
     subst h2
     obtain rfl:q=0:=by have:=HQ.out;simp [opsN] at this;omega
     obtain rfl:f=st.length:=by omega
     have F0:=rfind_any ta na tc nc ts ns xt xn w2 (HSt.out.later Bw2.out) (HSn.out.later Bw2.out) (by rw [HMN.out];omega)
     have AT:=fun h=>findR_at (ts:=ts) (ns:=ns) (t:=xt) (n:=xn) h
     have hR2:=HRS.out
     unfold stpR at hR2
     dsimp only at hR2
     rw [if_neg (by decide),if_pos rfl] at hR2
     unfold colR at hR2
     dsimp only at hR2
     rw [HMT.out,HMN.out] at F0
     generalize z4z ts ns xt xn=ff at *
     obtain ⟨fp,fe⟩:=ff
     simp only at F0 AT hR2
     have C:=BXN.out.later HB2.out
     have e0:=C.at 0
     have e1:=C.at 1
     have e2:=C.at 2
     have el:=C.lt
     have D:=BXS2.out
     have d0:=D.at 0
     have d1:=D.at 1
     have dl:=D.lt
     clear C D HGR HST
     by_cases hfe:fe=0
     ·subst hfe
      rw [if_pos rfl] at hR2
      have hfn:=(AT rfl).1
      have hpr:fp<row.length:=by rw [HMR.out,← HMN.out];exact hfn
      obtain ⟨rb0,roff,rfl,hrc⟩:=HVr.out (by omega)
      have hc':=(hrc fp hpr).later Bw2.out
      have er:row.getD fp nul=row[fp]:=by rw [List.getD_eq_getElem?_getD,List.getElem?_eq_getElem hpr];rfl
      rw [er] at hR2
      obtain ⟨hr1,rfl⟩:=Prod.mk.inj hR2
      rw [hr1] at hc'
      have hpm:(fp:Int)<(m:Int):=by rw [← HMR.out];omega
      have hp0:(0:Int)≤(fp:Int):=by omega
      have HC:Hid (At4 w2 rb0 (roff+fp*4) ⟨rk,rn,rm,rb⟩):=hc'
      clear hrc hc' er hr1 hR2
      clear AT hfn HRS hpr
      go_wp2_with fail
      refine F0.mono ?_
      rintro e w3 ⟨rfl,b3⟩
      have bx:=BXV.out.later b3
      have y0:=bx.at4.1;have y1:=bx.at4.2.1;have y2:=bx.at4.2.2.1;have y3:=bx.at4.2.2.2;have yl:=bx.lt;have g0:=bx.free 0;have g1:=bx.free 1;have g2:=bx.free 2;have g3:=bx.free 3
      dsimp only at y0 y1 y2 y3
      simp only [Nat.zero_add] at y1 y2 y3
      clear bx
      obtain ⟨c0,c1,c2,c3⟩:=HC.out.later b3
      have hg:=(HC.out.later b3).lt
      dsimp only at c0 c1 c2 c3
      clear e0 e1 e2 el d0 d1 dl F0
      go_wp2_with fail
      go_meet
      exact ⟨rfl,rfl,fun _=>⟨by simp (maxDischargeDepth:=12) [go_sem,y0],by simp (maxDischargeDepth:=12) [go_sem,y1],by simp (maxDischargeDepth:=12) [go_sem,y2],by simp (maxDischargeDepth:=12) [go_sem,y3]⟩,z0a Bn0.out (z1h (q:=pv) (z0a HB2.out b3) HPV.out _ _ _ _)⟩
     ·rw [if_neg hfe] at hR2
      obtain ⟨_,rfl⟩:=Prod.mk.inj hR2
      have hfe':¬ fe=0:=hfe
      clear hR2 AT HRS hfe
      go_wp2_with fail
      refine F0.mono ?_
      rintro e w3 ⟨rfl,b3⟩
      clear e0 e1 e2 el d0 d1 dl F0
      go_wp2_with fail
      go_meet
      exact ⟨rfl,rfl,fun h=>absurd h hfe',z0a B2.out b3⟩
    by_cases h3:xo=19
    ·-- a call
     subst h3
     obtain rfl:xa=(q:Int):=by have:=HQ.out;simpa [opsN] using this
     have HRC:Hid (funR xn (st.drop f)=(⟨rk,rn,rm,rb⟩,re)):=by have:=HRS.out;unfold stpR at this;dsimp only at this;rw [if_neg (by decide),if_neg (by decide),if_pos rfl] at this;exact this
     have hq0':(0:Int)≤(f:Int):=by omega
     by_cases hsf:sc=f
     ·-- nothing behind
      have hq0:q=0:=by omega
      subst hq0
      have hle:st.length=sc:=by omega
      have hfs:f=st.length:=by omega
      subst hfs
      subst hle
      have TT:∀ W,Below w1.heap.size w1 W→Calls Tryz.prog 66 #[.string ⟨xn.toArray⟩,.slice so 0 0] W fun e w'=>e=.returned (.tuple #[va rk rn rm ⟨rb.toArray⟩,.int .i64 re])∧Below W.heap.size W w':=fun W h=>by
       have:=FU.out xn so 0 (st.drop st.length) W (fun hp=>by rw [List.length_drop] at hp;omega) (by simp) (fun v hv=>by simp at hv)
       rw [List.length_drop,Nat.sub_self,HRC.out] at this
       exact this
      have C:=BXN.out.later HB2.out
      have e0:=C.at 0
      have el:=C.lt
      clear C
      clear HRC HRS HST HGR SOM
      go_upto_region 20 with fail
      clear e0 el
      refine wp_region_held_drew (S:=(fun W=>Below wn.heap.size wn W)) gK ?_ (fun hHeld=>?_)
      ·((try dsimp only);exact HB2.out.drew)
      refine wpAnyH_take (i:=0) (oi:=z8k) (v:=?_) rfl gK gK gK (fun _ _ _ h=>h) (Or.inl ⟨by rfl,?_⟩) (by assumption) ?_
      rotate_left
      ·(intro W hSw;(try dsimp only at hSw);try simp only [z8k];first|(go_simp;done)|(go_simp;with_reducible rfl))
      try simp only [z8k,Act.put,List.setIfInBounds_toArray,List.set_cons_zero,List.set_cons_succ]
      refine wpAnyH_take (i:=1) (oi:=z8y) (v:=?_) rfl gK gK gK (fun _ _ _ h=>h) (Or.inl ⟨by rfl,?_⟩) (by assumption) ?_
      rotate_left
      ·(intro W hSw;(try dsimp only at hSw);have C:=BXN.out.later hSw;have e0:=C.at 0;have e1:=C.at 1;have e2:=C.at 2;have e3:=C.at 3;have e4:=C.at 4;have e5:=C.at 5;have e6:=C.at 6;have e7:=C.at 7;clear C;try simp only [z8y];first|(go_simp;done)|(go_simp;with_reducible rfl))
      try simp only [z8y,Act.put,List.setIfInBounds_toArray,List.set_cons_zero,List.set_cons_succ]
      refine wpAnyH_take (i:=2) (oi:=z8m) (v:=?_) rfl gK gK gK (fun _ _ _ h=>h) (Or.inl ⟨by rfl,?_⟩) (by assumption) ?_
      rotate_left
      ·(intro W hSw;(try dsimp only at hSw);try simp only [z8m];first|(go_simp;done)|(go_simp;with_reducible rfl))
      try simp only [z8m,Act.put,List.setIfInBounds_toArray,List.set_cons_zero,List.set_cons_succ]
      refine wpAnyH_take (i:=3) (oi:=z8h) (v:=?_) rfl gK gK gK (fun _ _ _ h=>h) (Or.inl ⟨by rfl,?_⟩) (by assumption) ?_
      rotate_left
      ·(intro W hSw;(try dsimp only at hSw);try simp only [z8h];first|(go_simp;done)|(go_simp;with_reducible rfl))
      try simp only [z8h,Act.put,List.setIfInBounds_toArray,List.set_cons_zero,List.set_cons_succ]
      refine wpAnyH_take (i:=4) (oi:=z8z) (v:=?_) rfl gK gK gK (fun _ _ _ h=>h) (Or.inl ⟨by rfl,?_⟩) (by assumption) ?_
      rotate_left
      ·(intro W hSw;(try dsimp only at hSw);try simp only [z8z];first|(go_simp;done)|(go_simp;with_reducible rfl))
      try simp only [z8z,Act.put,List.setIfInBounds_toArray,List.set_cons_zero,List.set_cons_succ]
      refine wpAnyH_take (i:=5) (oi:=z9f) (v:=?_) rfl gK gK gK (fun _ _ _ h=>h) (Or.inl ⟨by rfl,?_⟩) (by assumption) ?_
      rotate_left
      ·(intro W hSw;(try dsimp only at hSw);have C:=BXN.out.later hSw;have e0:=C.at 0;have e1:=C.at 1;have e2:=C.at 2;have e3:=C.at 3;have e4:=C.at 4;have e5:=C.at 5;have e6:=C.at 6;have e7:=C.at 7;clear C;try simp only [z9f];first|(go_simp;done)|(go_simp;with_reducible rfl))
      try simp only [z9f,Act.put,List.setIfInBounds_toArray,List.set_cons_zero,List.set_cons_succ]
      refine wpAnyH_take (i:=6) (oi:=z8t) (v:=?_) rfl gK gK gK (fun _ _ _ h=>h) (Or.inl ⟨by rfl,?_⟩) (by assumption) ?_
      rotate_left
      ·(intro W hSw;(try dsimp only at hSw);try simp only [z8t];first|(go_simp;done)|(go_simp;with_reducible rfl))
      try simp only [z8t,Act.put,List.setIfInBounds_toArray,List.set_cons_zero,List.set_cons_succ]
      refine wpAnyH_take (i:=7) (oi:=z9e) (v:=?_) rfl gK gK gK (fun _ _ _ h=>h) (Or.inl ⟨by rfl,?_⟩) (by assumption) ?_
      rotate_left
      ·(intro W hSw;(try dsimp only at hSw);try simp only [z9e];first|(go_simp;done)|(go_simp;with_reducible rfl))
      try simp only [z9e,Act.put,List.setIfInBounds_toArray,List.set_cons_zero,List.set_cons_succ]
      refine wpAnyH_ready (rs:=[8]) gK (by simp) ?_
      refine AllReadyH.cons (o:=reO20x8) rfl (fun K hK=>?_) AllReadyH.nil
      try simp only [reO20x8]
      go_simp
      go_wp2_with fail
      have hH2:Below wn.heap.size wn _:=hHeld
      have Q3:=TT _ (z0a Bn.out hH2)
      refine Q3.mono ?_
      rintro e w3 ⟨rfl,b3⟩
      have hb3:Below wn.heap.size wn w3:=z0a hH2 b3
      clear hH2
      have n7:=(BXN.out.later hb3).at 7
      have nl:=(BXN.out.later hb3).lt
      have bx:Box w3 pv ⟨vk,vn,vm,vb⟩:=BXV.out.drew'.later b3
      have y0:=bx.at4.1;have y1:=bx.at4.2.1;have y2:=bx.at4.2.2.1;have y3:=bx.at4.2.2.2;have yl:=bx.lt;have g0:=bx.free 0;have g1:=bx.free 1;have g2:=bx.free 2;have g3:=bx.free 3
      dsimp only at y0 y1 y2 y3
      simp only [Nat.zero_add] at y1 y2 y3
      clear bx
      refine hK.out _ _ ?_ (fun hHeld=>?_)
      ·((try dsimp only);exact z0a hHeld b3)
      clear hK K
      try simp only [Act.put,List.setIfInBounds_toArray,List.set_cons_zero,List.set_cons_succ]
      refine wpAnyH_take (i:=9) (oi:=z8q) (v:=?_) rfl gK gK gK (fun _ _ _ h=>h) (Or.inl ⟨by rfl,?_⟩) (by assumption) ?_
      rotate_left
      ·(intro W hSw;(try dsimp only at hSw);try simp only [z8q];first|(go_simp;done)|(go_simp;with_reducible rfl))
      try simp only [z8q,Act.put,List.setIfInBounds_toArray,List.set_cons_zero,List.set_cons_succ]
      refine wpAnyH_take (i:=10) (oi:=z6u) (v:=?_) rfl gK gK gK (fun _ _ _ h=>h) (Or.inl ⟨by rfl,?_⟩) (by assumption) ?_
      rotate_left
      ·(intro W hSw;(try dsimp only at hSw);try simp only [z6u];first|(go_simp;done)|(go_simp;with_reducible rfl))
      try simp only [z6u,Act.put,List.setIfInBounds_toArray,List.set_cons_zero,List.set_cons_succ]
      refine wpAnyH_take (i:=11) (oi:=z6x) (v:=?_) rfl gK gK gK (fun _ _ _ h=>h) (Or.inl ⟨by rfl,?_⟩) (by assumption) ?_
      rotate_left
      ·(intro W hSw;(try dsimp only at hSw);try simp only [z6x];first|(go_simp;done)|(go_simp;with_reducible rfl))
      try simp only [z6x,Act.put,List.setIfInBounds_toArray,List.set_cons_zero,List.set_cons_succ]
      refine wpAnyH_ready (rs:=[12]) gK (by simp) ?_
      refine AllReadyH.cons (o:=z9w) rfl (fun K hK=>?_) AllReadyH.nil
      try simp only [z9w]
      go_simp
      refine hK.out _ _ ?_ (fun hHeld=>?_)
      ·((try dsimp only);exact z1h (q:=pv) hHeld HPV.out _ _ _ _)
      clear hK K
      try simp only [Act.put,List.setIfInBounds_toArray,List.set_cons_zero,List.set_cons_succ]
      refine wpAnyH_take (i:=13) (oi:=z7a) (v:=?_) rfl gK gK gK (fun _ _ _ h=>h) (Or.inl ⟨by rfl,?_⟩) (by assumption) ?_
      rotate_left
      ·(intro W hSw;(try dsimp only at hSw);try simp only [z7a];first|(go_simp;done)|(go_simp;with_reducible rfl))
      try simp only [z7a,Act.put,List.setIfInBounds_toArray,List.set_cons_zero,List.set_cons_succ]
      refine wpAnyH_done gK ?_ _
      go_wp2_with fail
      go_meet
      exact ⟨by first|rfl|(simp [go_sem];done),rfl,fun _=>⟨by simp (maxDischargeDepth:=12) [go_sem,y0],by simp (maxDischargeDepth:=12) [go_sem,y1],by simp (maxDischargeDepth:=12) [go_sem,y2],by simp (maxDischargeDepth:=12) [go_sem,y3]⟩,z0a Bn0.out hHeld⟩
     ·obtain ⟨g,rfl,hgb,hgl,hgc⟩:=SOM.out hsf
      have TT:∀ W,Below wr.heap.size wr W→Calls Tryz.prog 66 #[.string ⟨xn.toArray⟩,.slice (some ⟨g,f*4,none⟩) q (sc - f)] W fun e w'=>e=.returned (.tuple #[va rk rn rm ⟨rb.toArray⟩,.int .i64 re])∧Below W.heap.size W w':=fun W h=>by
       have:=FU.out xn (some ⟨g,f*4,none⟩) (sc - f) (st.drop f) W (fun _=>⟨g,f*4,rfl,fun i hi=>by
        rw [List.length_drop] at hi
        have:=(hgc (f+i) (by omega)).later h
        rw [List.getElem_drop]
        have e:f*4+i*4=(f+i)*4:=by omega
        rw [e]
        exact this⟩) (by rw [List.length_drop];omega) (fun v hv=>(z5s HG.out v hv).2)
       rw [List.length_drop,hqe,HRC.out] at this
       exact this
      have hfsc:f≤sc:=by omega
      have hqi:(st.length:Int) - (f:Int)=(q:Int):=by omega
      clear hgc
      have C:=BXN.out.later HB2.out
      have e0:=C.at 0
      have el:=C.lt
      clear C
      clear HRC HRS HST HGR SOM
      go_upto_region 20 with fail
      clear e0 el
      refine wp_region_held_drew (S:=(fun W=>Below wn.heap.size wn W)) gK ?_ (fun hHeld=>?_)
      ·((try dsimp only);exact HB2.out.drew)
      refine wpAnyH_take (i:=0) (oi:=z8k) (v:=?_) rfl gK gK gK (fun _ _ _ h=>h) (Or.inl ⟨by rfl,?_⟩) (by assumption) ?_
      rotate_left
      ·(intro W hSw;(try dsimp only at hSw);try simp only [z8k];first|(go_simp;done)|(go_simp;with_reducible rfl))
      try simp only [z8k,Act.put,List.setIfInBounds_toArray,List.set_cons_zero,List.set_cons_succ]
      refine wpAnyH_take (i:=1) (oi:=z8y) (v:=?_) rfl gK gK gK (fun _ _ _ h=>h) (Or.inl ⟨by rfl,?_⟩) (by assumption) ?_
      rotate_left
      ·(intro W hSw;(try dsimp only at hSw);have C:=BXN.out.later hSw;have e0:=C.at 0;have e1:=C.at 1;have e2:=C.at 2;have e3:=C.at 3;have e4:=C.at 4;have e5:=C.at 5;have e6:=C.at 6;have e7:=C.at 7;clear C;try simp only [z8y];first|(go_simp;done)|(go_simp;with_reducible rfl))
      try simp only [z8y,Act.put,List.setIfInBounds_toArray,List.set_cons_zero,List.set_cons_succ]
      refine wpAnyH_take (i:=2) (oi:=z8m) (v:=?_) rfl gK gK gK (fun _ _ _ h=>h) (Or.inl ⟨by rfl,?_⟩) (by assumption) ?_
      rotate_left
      ·(intro W hSw;(try dsimp only at hSw);try simp only [z8m];first|(go_simp;done)|(go_simp;with_reducible rfl))
      try simp only [z8m,Act.put,List.setIfInBounds_toArray,List.set_cons_zero,List.set_cons_succ]
      refine wpAnyH_take (i:=3) (oi:=z8h) (v:=?_) rfl gK gK gK (fun _ _ _ h=>h) (Or.inl ⟨by rfl,?_⟩) (by assumption) ?_
      rotate_left
      ·(intro W hSw;(try dsimp only at hSw);try simp only [z8h];first|(go_simp;done)|(go_simp;with_reducible rfl))
      try simp only [z8h,Act.put,List.setIfInBounds_toArray,List.set_cons_zero,List.set_cons_succ]
      refine wpAnyH_take (i:=4) (oi:=z8z) (v:=?_) rfl gK gK gK (fun _ _ _ h=>h) (Or.inl ⟨by rfl,?_⟩) (by assumption) ?_
      rotate_left
      ·(intro W hSw;(try dsimp only at hSw);try simp only [z8z];first|(go_simp;done)|(go_simp;with_reducible rfl))
      try simp only [z8z,Act.put,List.setIfInBounds_toArray,List.set_cons_zero,List.set_cons_succ]
      refine wpAnyH_take (i:=5) (oi:=z9f) (v:=?_) rfl gK gK gK (fun _ _ _ h=>h) (Or.inl ⟨by rfl,?_⟩) (by assumption) ?_
      rotate_left
      ·(intro W hSw;(try dsimp only at hSw);have C:=BXN.out.later hSw;have e0:=C.at 0;have e1:=C.at 1;have e2:=C.at 2;have e3:=C.at 3;have e4:=C.at 4;have e5:=C.at 5;have e6:=C.at 6;have e7:=C.at 7;clear C;try simp only [z9f];first|(go_simp;done)|(go_simp;with_reducible rfl))
      try simp only [z9f,Act.put,List.setIfInBounds_toArray,List.set_cons_zero,List.set_cons_succ]
      refine wpAnyH_take (i:=6) (oi:=z8t) (v:=?_) rfl gK gK gK (fun _ _ _ h=>h) (Or.inl ⟨by rfl,?_⟩) (by assumption) ?_
      rotate_left
      ·(intro W hSw;(try dsimp only at hSw);try simp only [z8t];first|(go_simp;done)|(go_simp;with_reducible rfl))
      try simp only [z8t,Act.put,List.setIfInBounds_toArray,List.set_cons_zero,List.set_cons_succ]
      refine wpAnyH_take (i:=7) (oi:=z9e) (v:=?_) rfl gK gK gK (fun _ _ _ h=>h) (Or.inl ⟨by rfl,?_⟩) (by assumption) ?_
      rotate_left
      ·(intro W hSw;(try dsimp only at hSw);try simp only [z9e];first|(go_simp;done)|(go_simp;with_reducible rfl))
      try simp only [z9e,Act.put,List.setIfInBounds_toArray,List.set_cons_zero,List.set_cons_succ]
      refine wpAnyH_ready (rs:=[8]) gK (by simp) ?_
      refine AllReadyH.cons (o:=reO20x8) rfl (fun K hK=>?_) AllReadyH.nil
      try simp only [reO20x8]
      go_simp
      go_wp2_with fail
      have hH2:Below wn.heap.size wn _:=hHeld
      have Q3:=TT _ (z0a Bn0.out hH2)
      refine Q3.mono ?_
      rintro e w3 ⟨rfl,b3⟩
      have hb3:Below wn.heap.size wn w3:=z0a hH2 b3
      clear hH2
      have n7:=(BXN.out.later hb3).at 7
      have nl:=(BXN.out.later hb3).lt
      have bx:Box w3 pv ⟨vk,vn,vm,vb⟩:=BXV.out.drew'.later b3
      have y0:=bx.at4.1;have y1:=bx.at4.2.1;have y2:=bx.at4.2.2.1;have y3:=bx.at4.2.2.2;have yl:=bx.lt;have g0:=bx.free 0;have g1:=bx.free 1;have g2:=bx.free 2;have g3:=bx.free 3
      dsimp only at y0 y1 y2 y3
      simp only [Nat.zero_add] at y1 y2 y3
      clear bx
      refine hK.out _ _ ?_ (fun hHeld=>?_)
      ·((try dsimp only);exact z0a hHeld b3)
      clear hK K
      try simp only [Act.put,List.setIfInBounds_toArray,List.set_cons_zero,List.set_cons_succ]
      refine wpAnyH_take (i:=9) (oi:=z8q) (v:=?_) rfl gK gK gK (fun _ _ _ h=>h) (Or.inl ⟨by rfl,?_⟩) (by assumption) ?_
      rotate_left
      ·(intro W hSw;(try dsimp only at hSw);try simp only [z8q];first|(go_simp;done)|(go_simp;with_reducible rfl))
      try simp only [z8q,Act.put,List.setIfInBounds_toArray,List.set_cons_zero,List.set_cons_succ]
      refine wpAnyH_take (i:=10) (oi:=z6u) (v:=?_) rfl gK gK gK (fun _ _ _ h=>h) (Or.inl ⟨by rfl,?_⟩) (by assumption) ?_
      rotate_left
      ·(intro W hSw;(try dsimp only at hSw);try simp only [z6u];first|(go_simp;done)|(go_simp;with_reducible rfl))
      try simp only [z6u,Act.put,List.setIfInBounds_toArray,List.set_cons_zero,List.set_cons_succ]
      refine wpAnyH_take (i:=11) (oi:=z6x) (v:=?_) rfl gK gK gK (fun _ _ _ h=>h) (Or.inl ⟨by rfl,?_⟩) (by assumption) ?_
      rotate_left
      ·(intro W hSw;(try dsimp only at hSw);try simp only [z6x];first|(go_simp;done)|(go_simp;with_reducible rfl))
      try simp only [z6x,Act.put,List.setIfInBounds_toArray,List.set_cons_zero,List.set_cons_succ]
      refine wpAnyH_ready (rs:=[12]) gK (by simp) ?_
      refine AllReadyH.cons (o:=z9w) rfl (fun K hK=>?_) AllReadyH.nil
      try simp only [z9w]
      go_simp
      refine hK.out _ _ ?_ (fun hHeld=>?_)
      ·((try dsimp only);exact z1h (q:=pv) hHeld HPV.out _ _ _ _)
      clear hK K
      try simp only [Act.put,List.setIfInBounds_toArray,List.set_cons_zero,List.set_cons_succ]
      refine wpAnyH_take (i:=13) (oi:=z7a) (v:=?_) rfl gK gK gK (fun _ _ _ h=>h) (Or.inl ⟨by rfl,?_⟩) (by assumption) ?_
      rotate_left
      ·(intro W hSw;(try dsimp only at hSw);try simp only [z7a];first|(go_simp;done)|(go_simp;with_reducible rfl))
      try simp only [z7a,Act.put,List.setIfInBounds_toArray,List.set_cons_zero,List.set_cons_succ]
      refine wpAnyH_done gK ?_ _
      go_wp2_with fail
      go_meet
      exact ⟨by first|rfl|(simp [go_sem];done),rfl,fun _=>⟨by simp (maxDischargeDepth:=12) [go_sem,y0],by simp (maxDischargeDepth:=12) [go_sem,y1],by simp (maxDischargeDepth:=12) [go_sem,y2],by simp (maxDischargeDepth:=12) [go_sem,y3]⟩,z0a Bn0.out hHeld⟩
    by_cases h5:xo≤5
    ·-- an op of one
     obtain rfl:q=1:=by have:=HQ.out;unfold opsN at this;dsimp only at this;rw [if_neg h3,if_neg (by omega),if_pos (by have:=HOR.out h1 h2 h3;omega)] at this;omega
     have hsf:¬ sc=f:=by omega
     obtain ⟨g,rfl,hgb,hgl,hgc⟩:=SOM.out hsf
     have hfl1:f<st.length:=by omega
     have HUN:Hid (unR xo st[f]=(⟨rk,rn,rm,rb⟩,re)):=by
      have h:=HRS.out
      unfold stpR at h
      dsimp only at h
      rw [if_neg h1,if_neg h2,if_neg h3,if_pos (by rw [List.length_drop];omega)] at h
      have e:(st.drop f).getD 0 nul=st[f]:=by rw [List.getD_eq_getElem?_getD,List.getElem?_drop,Nat.add_zero,List.getElem?_eq_getElem hfl1];rfl
      rw [e] at h
      exact h
     have ga:=HG.out st[f] (List.getElem_mem _)
     have hca:=hgc f hfl1
     generalize st[f]=a at *
     obtain ⟨ak,an,am,ab⟩:=a
     have GA:Hid (∀ W,Below wn.heap.size wn W→At4 W g (f*4) ⟨ak,an,am,ab⟩):=fun W h=>hca.later (z0a Bn0.out h)
     have TT:∀ W,Calls Tryz.prog 67 #[.int .i64 xo,va ak an am ⟨ab.toArray⟩] W fun e w'=>e=.returned (.tuple #[va rk rn rm ⟨rb.toArray⟩,.int .i64 re])∧Below W.heap.size W w':=fun W=>by
      have:=UN.out xo ⟨ak,an,am,ab⟩ W ga.2
      rw [HUN.out] at this
      exact this
     have hfr1:(st.length:Int) - 1=(f:Int):=by omega
     have hfl2:(f:Int)<(st.length:Int):=by omega
     have hq0':(0:Int)≤(f:Int):=by omega
     have h5':xo≤5:=h5
     clear hgc hca HUN ga
     have C:=BXN.out.later HB2.out
     have e0:=C.at 0
     have el:=C.lt
     clear C
     clear HRS HST HGR SOM
     go_upto_region 23 with fail
     clear e0 el
     refine wp_region_held_drew (S:=(fun W=>Below wn.heap.size wn W)) gK ?_ (fun hHeld=>?_)
     ·((try dsimp only);exact HB2.out.drew)
     refine wpAnyH_take (i:=0) (oi:=reO23x0) (v:=?_) rfl gK gK gK (fun _ _ _ h=>h) (Or.inl ⟨by rfl,?_⟩) (by assumption) ?_
     rotate_left
     ·(intro W hSw;(try dsimp only at hSw);try simp only [reO23x0];first|(go_simp;done)|(go_simp;with_reducible rfl))
     try simp only [reO23x0,Act.put,List.setIfInBounds_toArray,List.set_cons_zero,List.set_cons_succ]
     refine wpAnyH_take (i:=1) (oi:=reO23x1) (v:=?_) rfl gK gK gK (fun _ _ _ h=>h) (Or.inl ⟨by rfl,?_⟩) (by assumption) ?_
     rotate_left
     ·(intro W hSw;(try dsimp only at hSw);have C:=BXN.out.later hSw;have e0:=C.at 0;have e1:=C.at 1;have e2:=C.at 2;have e3:=C.at 3;have e4:=C.at 4;have e5:=C.at 5;have e6:=C.at 6;have e7:=C.at 7;clear C;have D:=GA.out _ hSw;have dl:=D.lt;obtain ⟨d0,d1,d2,d3⟩:=D;dsimp only at d0 d1 d2 d3;try simp only [reO23x1];first|(go_simp;done)|(go_simp;with_reducible rfl))
     try simp only [reO23x1,Act.put,List.setIfInBounds_toArray,List.set_cons_zero,List.set_cons_succ]
     refine wpAnyH_take (i:=2) (oi:=reO23x2) (v:=?_) rfl gK gK gK (fun _ _ _ h=>h) (Or.inl ⟨by rfl,?_⟩) (by assumption) ?_
     rotate_left
     ·(intro W hSw;(try dsimp only at hSw);try simp only [reO23x2];first|(go_simp;done)|(go_simp;with_reducible rfl))
     try simp only [reO23x2,Act.put,List.setIfInBounds_toArray,List.set_cons_zero,List.set_cons_succ]
     refine wpAnyH_take (i:=3) (oi:=reO23x3) (v:=?_) rfl gK gK gK (fun _ _ _ h=>h) (Or.inl ⟨by rfl,?_⟩) (by assumption) ?_
     rotate_left
     ·(intro W hSw;(try dsimp only at hSw);try simp only [reO23x3];first|(go_simp;done)|(go_simp;with_reducible rfl))
     try simp only [reO23x3,Act.put,List.setIfInBounds_toArray,List.set_cons_zero,List.set_cons_succ]
     refine wpAnyH_take (i:=4) (oi:=reO23x4) (v:=?_) rfl gK gK gK (fun _ _ _ h=>h) (Or.inl ⟨by rfl,?_⟩) (by assumption) ?_
     rotate_left
     ·(intro W hSw;(try dsimp only at hSw);try simp only [reO23x4];first|(go_simp;done)|(go_simp;with_reducible rfl))
     try simp only [reO23x4,Act.put,List.setIfInBounds_toArray,List.set_cons_zero,List.set_cons_succ]
     refine wpAnyH_take (i:=5) (oi:=reO23x5) (v:=?_) rfl gK gK gK (fun _ _ _ h=>h) (Or.inl ⟨by rfl,?_⟩) (by assumption) ?_
     rotate_left
     ·(intro W hSw;(try dsimp only at hSw);try simp only [reO23x5];first|(go_simp;done)|(go_simp;with_reducible rfl))
     try simp only [reO23x5,Act.put,List.setIfInBounds_toArray,List.set_cons_zero,List.set_cons_succ]
     refine wpAnyH_take (i:=6) (oi:=reO23x6) (v:=?_) rfl gK gK gK (fun _ _ _ h=>h) (Or.inl ⟨by rfl,?_⟩) (by assumption) ?_
     rotate_left
     ·(intro W hSw;(try dsimp only at hSw);have C:=BXN.out.later hSw;have e0:=C.at 0;have e1:=C.at 1;have e2:=C.at 2;have e3:=C.at 3;have e4:=C.at 4;have e5:=C.at 5;have e6:=C.at 6;have e7:=C.at 7;clear C;have D:=GA.out _ hSw;have dl:=D.lt;obtain ⟨d0,d1,d2,d3⟩:=D;dsimp only at d0 d1 d2 d3;try simp only [reO23x6];first|(go_simp;done)|(go_simp;with_reducible rfl))
     try simp only [reO23x6,Act.put,List.setIfInBounds_toArray,List.set_cons_zero,List.set_cons_succ]
     refine wpAnyH_ready (rs:=[7]) gK (by simp) ?_
     refine AllReadyH.cons (o:=reO23x7) rfl (fun K hK=>?_) AllReadyH.nil
     try simp only [reO23x7]
     go_simp
     go_wp2_with fail
     have hH2:Below wn.heap.size wn _:=hHeld
     refine (TT _).mono ?_
     rintro e w3 ⟨rfl,b3⟩
     have hb3:Below wn.heap.size wn w3:=z0a hH2 b3
     clear hH2
     have n7:=(BXN.out.later hb3).at 7
     have nl:=(BXN.out.later hb3).lt
     have bx:Box w3 pv ⟨vk,vn,vm,vb⟩:=BXV.out.drew'.later b3
     have y0:=bx.at4.1;have y1:=bx.at4.2.1;have y2:=bx.at4.2.2.1;have y3:=bx.at4.2.2.2;have yl:=bx.lt;have g0:=bx.free 0;have g1:=bx.free 1;have g2:=bx.free 2;have g3:=bx.free 3
     dsimp only at y0 y1 y2 y3
     simp only [Nat.zero_add] at y1 y2 y3
     clear bx
     refine hK.out _ _ ?_ (fun hHeld=>?_)
     ·((try dsimp only);exact z0a hHeld b3)
     clear hK K
     try simp only [Act.put,List.setIfInBounds_toArray,List.set_cons_zero,List.set_cons_succ]
     refine wpAnyH_take (i:=8) (oi:=reO23x8) (v:=?_) rfl gK gK gK (fun _ _ _ h=>h) (Or.inl ⟨by rfl,?_⟩) (by assumption) ?_
     rotate_left
     ·(intro W hSw;(try dsimp only at hSw);try simp only [reO23x8];first|(go_simp;done)|(go_simp;with_reducible rfl))
     try simp only [reO23x8,Act.put,List.setIfInBounds_toArray,List.set_cons_zero,List.set_cons_succ]
     refine wpAnyH_take (i:=9) (oi:=reO23x9) (v:=?_) rfl gK gK gK (fun _ _ _ h=>h) (Or.inl ⟨by rfl,?_⟩) (by assumption) ?_
     rotate_left
     ·(intro W hSw;(try dsimp only at hSw);try simp only [reO23x9];first|(go_simp;done)|(go_simp;with_reducible rfl))
     try simp only [reO23x9,Act.put,List.setIfInBounds_toArray,List.set_cons_zero,List.set_cons_succ]
     refine wpAnyH_take (i:=10) (oi:=reO23x10) (v:=?_) rfl gK gK gK (fun _ _ _ h=>h) (Or.inl ⟨by rfl,?_⟩) (by assumption) ?_
     rotate_left
     ·(intro W hSw;(try dsimp only at hSw);try simp only [reO23x10];first|(go_simp;done)|(go_simp;with_reducible rfl))
     try simp only [reO23x10,Act.put,List.setIfInBounds_toArray,List.set_cons_zero,List.set_cons_succ]
     refine wpAnyH_ready (rs:=[11]) gK (by simp) ?_
     refine AllReadyH.cons (o:=reO23x11) rfl (fun K hK=>?_) AllReadyH.nil
     try simp only [reO23x11]
     go_simp
     refine hK.out _ _ ?_ (fun hHeld=>?_)
     ·((try dsimp only);exact z1h (q:=pv) hHeld HPV.out _ _ _ _)
     clear hK K
     try simp only [Act.put,List.setIfInBounds_toArray,List.set_cons_zero,List.set_cons_succ]
     refine wpAnyH_take (i:=12) (oi:=reO23x12) (v:=?_) rfl gK gK gK (fun _ _ _ h=>h) (Or.inl ⟨by rfl,?_⟩) (by assumption) ?_
     rotate_left
     ·(intro W hSw;(try dsimp only at hSw);try simp only [reO23x12];first|(go_simp;done)|(go_simp;with_reducible rfl))
     try simp only [reO23x12,Act.put,List.setIfInBounds_toArray,List.set_cons_zero,List.set_cons_succ]
     refine wpAnyH_done gK ?_ _
     go_wp2_with fail
     go_meet
     exact ⟨by first|rfl|(simp [go_sem];done),rfl,fun _=>⟨by simp (maxDischargeDepth:=12) [go_sem,y0],by simp (maxDischargeDepth:=12) [go_sem,y1],by simp (maxDischargeDepth:=12) [go_sem,y2],by simp (maxDischargeDepth:=12) [go_sem,y3]⟩,z0a Bn0.out hHeld⟩
    obtain rfl:q=2:=by have:=HQ.out;unfold opsN at this;dsimp only at this;rw [if_neg h3,if_pos (by omega)] at this;omega
    have hsf:¬ sc=f:=by omega
    obtain ⟨g,rfl,hgb,hgl,hgc⟩:=SOM.out hsf
    obtain ⟨f1,hf1⟩:∃ f1,f1=f+1:=⟨_,rfl⟩
    have hfl1:f<st.length:=by omega
    have hfl3:f1<st.length:=by omega
    have HUN:Hid (binR xo st[f] st[f1]=(⟨rk,rn,rm,rb⟩,re)):=by
     have h:=HRS.out
     unfold stpR at h
     dsimp only at h
     rw [if_neg h1,if_neg h2,if_neg h3,if_neg (by rw [List.length_drop];omega)] at h
     have e:(st.drop f).getD 0 nul=st[f]:=by rw [List.getD_eq_getElem?_getD,List.getElem?_drop,Nat.add_zero,List.getElem?_eq_getElem hfl1];rfl
     have e':(st.drop f).getD 1 nul=st[f1]:=by subst hf1;rw [List.getD_eq_getElem?_getD,List.getElem?_drop,List.getElem?_eq_getElem hfl3];rfl
     rw [e,e'] at h
     exact h
    have ga:=HG.out st[f] (List.getElem_mem _)
    have gb:=HG.out st[f1] (List.getElem_mem _)
    have hca:=hgc f hfl1
    have hcb:=hgc f1 hfl3
    generalize st[f]=a at *
    generalize st[f1]=b at *
    obtain ⟨ak,an,am,ab⟩:=a
    obtain ⟨bk,bn,bm,bb⟩:=b
    have GA:Hid (∀ W,Below wn.heap.size wn W→At4 W g (f*4) ⟨ak,an,am,ab⟩):=fun W h=>hca.later (z0a Bn0.out h)
    have GB:Hid (∀ W,Below wn.heap.size wn W→At4 W g (f1*4) ⟨bk,bn,bm,bb⟩):=fun W h=>hcb.later (z0a Bn0.out h)
    have TT:∀ W,Calls Tryz.prog 68 #[.int .i64 xo,va ak an am ⟨ab.toArray⟩,va bk bn bm ⟨bb.toArray⟩] W fun e w'=>e=.returned (.tuple #[va rk rn rm ⟨rb.toArray⟩,.int .i64 re])∧Below W.heap.size W w':=fun W=>by
     have:=BI.out xo ⟨ak,an,am,ab⟩ ⟨bk,bn,bm,bb⟩ W ga.2 gb.2
     rw [HUN.out] at this
     exact this
    have hfr1:(st.length:Int) - 1=(f1:Int):=by omega
    have hfr2:(st.length:Int) - 2=(f:Int):=by omega
    have hwf1:IntKind.i64.wrap (f1:Int)=(f1:Int):=by rw [IntKind.wrap_i64];omega
    have hfl2:(f:Int)<(st.length:Int):=by omega
    have hfl4:(f1:Int)<(st.length:Int):=by omega
    have hq0':(0:Int)≤(f:Int):=by omega
    have hq1':(0:Int)≤(f1:Int):=by omega
    have h5':¬ xo≤5:=h5
    clear hgc hca hcb HUN ga gb hf1
    have C:=BXN.out.later HB2.out
    have e0:=C.at 0
    have el:=C.lt
    clear C
    clear HRS HST HGR SOM
    go_upto_region 11 with fail
    clear e0 el
    refine wp_region_held_drew (S:=(fun W=>Below wn.heap.size wn W)) gK ?_ (fun hHeld=>?_)
    ·((try dsimp only);exact HB2.out.drew)
    refine wpAnyH_take (i:=0) (oi:=reO11x0) (v:=?_) rfl gK gK gK (fun _ _ _ h=>h) (Or.inl ⟨by rfl,?_⟩) (by assumption) ?_
    rotate_left
    ·(intro W hSw;(try dsimp only at hSw);try simp only [reO11x0];first|(go_simp;done)|(go_simp;with_reducible rfl))
    try simp only [reO11x0,Act.put,List.setIfInBounds_toArray,List.set_cons_zero,List.set_cons_succ]
    refine wpAnyH_take (i:=1) (oi:=reO11x1) (v:=?_) rfl gK gK gK (fun _ _ _ h=>h) (Or.inl ⟨by rfl,?_⟩) (by assumption) ?_
    rotate_left
    ·(intro W hSw;(try dsimp only at hSw);have C:=BXN.out.later hSw;have e0:=C.at 0;have e1:=C.at 1;have e2:=C.at 2;have e3:=C.at 3;have e4:=C.at 4;have e5:=C.at 5;have e6:=C.at 6;have e7:=C.at 7;clear C;have D:=GA.out _ hSw;have dl:=D.lt;obtain ⟨d0,d1,d2,d3⟩:=D;dsimp only at d0 d1 d2 d3;have F:=GB.out _ hSw;have fl:=F.lt;obtain ⟨f0,f1,f2,f3⟩:=F;dsimp only at f0 f1 f2 f3;try simp only [reO11x1];first|(go_simp;done)|(go_simp;with_reducible rfl))
    try simp only [reO11x1,Act.put,List.setIfInBounds_toArray,List.set_cons_zero,List.set_cons_succ]
    refine wpAnyH_take (i:=2) (oi:=reO11x2) (v:=?_) rfl gK gK gK (fun _ _ _ h=>h) (Or.inl ⟨by rfl,?_⟩) (by assumption) ?_
    rotate_left
    ·(intro W hSw;(try dsimp only at hSw);try simp only [reO11x2];first|(go_simp;done)|(go_simp;with_reducible rfl))
    try simp only [reO11x2,Act.put,List.setIfInBounds_toArray,List.set_cons_zero,List.set_cons_succ]
    refine wpAnyH_take (i:=3) (oi:=reO11x3) (v:=?_) rfl gK gK gK (fun _ _ _ h=>h) (Or.inl ⟨by rfl,?_⟩) (by assumption) ?_
    rotate_left
    ·(intro W hSw;(try dsimp only at hSw);try simp only [reO11x3];first|(go_simp;done)|(go_simp;with_reducible rfl))
    try simp only [reO11x3,Act.put,List.setIfInBounds_toArray,List.set_cons_zero,List.set_cons_succ]
    refine wpAnyH_take (i:=4) (oi:=reO11x4) (v:=?_) rfl gK gK gK (fun _ _ _ h=>h) (Or.inl ⟨by rfl,?_⟩) (by assumption) ?_
    rotate_left
    ·(intro W hSw;(try dsimp only at hSw);try simp only [reO11x4];first|(go_simp;done)|(go_simp;with_reducible rfl))
    try simp only [reO11x4,Act.put,List.setIfInBounds_toArray,List.set_cons_zero,List.set_cons_succ]
    refine wpAnyH_take (i:=5) (oi:=reO11x5) (v:=?_) rfl gK gK gK (fun _ _ _ h=>h) (Or.inl ⟨by rfl,?_⟩) (by assumption) ?_
    rotate_left
    ·(intro W hSw;(try dsimp only at hSw);try simp only [reO11x5];first|(go_simp;done)|(go_simp;with_reducible rfl))
    try simp only [reO11x5,Act.put,List.setIfInBounds_toArray,List.set_cons_zero,List.set_cons_succ]
    refine wpAnyH_take (i:=6) (oi:=reO11x6) (v:=?_) rfl gK gK gK (fun _ _ _ h=>h) (Or.inl ⟨by rfl,?_⟩) (by assumption) ?_
    rotate_left
    ·(intro W hSw;(try dsimp only at hSw);have C:=BXN.out.later hSw;have e0:=C.at 0;have e1:=C.at 1;have e2:=C.at 2;have e3:=C.at 3;have e4:=C.at 4;have e5:=C.at 5;have e6:=C.at 6;have e7:=C.at 7;clear C;have D:=GA.out _ hSw;have dl:=D.lt;obtain ⟨d0,d1,d2,d3⟩:=D;dsimp only at d0 d1 d2 d3;have F:=GB.out _ hSw;have fl:=F.lt;obtain ⟨f0,f1,f2,f3⟩:=F;dsimp only at f0 f1 f2 f3;try simp only [reO11x6];first|(go_simp;done)|(go_simp;with_reducible rfl))
    try simp only [reO11x6,Act.put,List.setIfInBounds_toArray,List.set_cons_zero,List.set_cons_succ]
    refine wpAnyH_take (i:=7) (oi:=reO11x7) (v:=?_) rfl gK gK gK (fun _ _ _ h=>h) (Or.inl ⟨by rfl,?_⟩) (by assumption) ?_
    rotate_left
    ·(intro W hSw;(try dsimp only at hSw);try simp only [reO11x7];first|(go_simp;done)|(go_simp;with_reducible rfl))
    try simp only [reO11x7,Act.put,List.setIfInBounds_toArray,List.set_cons_zero,List.set_cons_succ]
    refine wpAnyH_take (i:=8) (oi:=reO11x8) (v:=?_) rfl gK gK gK (fun _ _ _ h=>h) (Or.inl ⟨by rfl,?_⟩) (by assumption) ?_
    rotate_left
    ·(intro W hSw;(try dsimp only at hSw);try simp only [reO11x8];first|(go_simp;done)|(go_simp;with_reducible rfl))
    try simp only [reO11x8,Act.put,List.setIfInBounds_toArray,List.set_cons_zero,List.set_cons_succ]
    refine wpAnyH_take (i:=9) (oi:=reO11x9) (v:=?_) rfl gK gK gK (fun _ _ _ h=>h) (Or.inl ⟨by rfl,?_⟩) (by assumption) ?_
    rotate_left
    ·(intro W hSw;(try dsimp only at hSw);try simp only [reO11x9];first|(go_simp;done)|(go_simp;with_reducible rfl))
    try simp only [reO11x9,Act.put,List.setIfInBounds_toArray,List.set_cons_zero,List.set_cons_succ]
    refine wpAnyH_take (i:=10) (oi:=reO11x10) (v:=?_) rfl gK gK gK (fun _ _ _ h=>h) (Or.inl ⟨by rfl,?_⟩) (by assumption) ?_
    rotate_left
    ·(intro W hSw;(try dsimp only at hSw);try simp only [reO11x10];first|(go_simp;done)|(go_simp;with_reducible rfl))
    try simp only [reO11x10,Act.put,List.setIfInBounds_toArray,List.set_cons_zero,List.set_cons_succ]
    refine wpAnyH_take (i:=11) (oi:=reO11x11) (v:=?_) rfl gK gK gK (fun _ _ _ h=>h) (Or.inl ⟨by rfl,?_⟩) (by assumption) ?_
    rotate_left
    ·(intro W hSw;(try dsimp only at hSw);have C:=BXN.out.later hSw;have e0:=C.at 0;have e1:=C.at 1;have e2:=C.at 2;have e3:=C.at 3;have e4:=C.at 4;have e5:=C.at 5;have e6:=C.at 6;have e7:=C.at 7;clear C;have D:=GA.out _ hSw;have dl:=D.lt;obtain ⟨d0,d1,d2,d3⟩:=D;dsimp only at d0 d1 d2 d3;have F:=GB.out _ hSw;have fl:=F.lt;obtain ⟨f0,f1,f2,f3⟩:=F;dsimp only at f0 f1 f2 f3;try simp only [reO11x11];first|(go_simp;done)|(go_simp;with_reducible rfl))
    try simp only [reO11x11,Act.put,List.setIfInBounds_toArray,List.set_cons_zero,List.set_cons_succ]
    refine wpAnyH_ready (rs:=[12]) gK (by simp) ?_
    refine AllReadyH.cons (o:=reO11x12) rfl (fun K hK=>?_) AllReadyH.nil
    try simp only [reO11x12]
    go_simp
    go_wp2_with fail
    have hH2:Below wn.heap.size wn _:=hHeld
    refine (TT _).mono ?_
    rintro e w3 ⟨rfl,b3⟩
    have hb3:Below wn.heap.size wn w3:=z0a hH2 b3
    clear hH2
    have n7:=(BXN.out.later hb3).at 7
    have nl:=(BXN.out.later hb3).lt
    have bx:Box w3 pv ⟨vk,vn,vm,vb⟩:=BXV.out.drew'.later b3
    have y0:=bx.at4.1;have y1:=bx.at4.2.1;have y2:=bx.at4.2.2.1;have y3:=bx.at4.2.2.2;have yl:=bx.lt;have g0:=bx.free 0;have g1:=bx.free 1;have g2:=bx.free 2;have g3:=bx.free 3
    dsimp only at y0 y1 y2 y3
    simp only [Nat.zero_add] at y1 y2 y3
    clear bx
    refine hK.out _ _ ?_ (fun hHeld=>?_)
    ·((try dsimp only);exact z0a hHeld b3)
    clear hK K
    try simp only [Act.put,List.setIfInBounds_toArray,List.set_cons_zero,List.set_cons_succ]
    refine wpAnyH_take (i:=13) (oi:=reO11x13) (v:=?_) rfl gK gK gK (fun _ _ _ h=>h) (Or.inl ⟨by rfl,?_⟩) (by assumption) ?_
    rotate_left
    ·(intro W hSw;(try dsimp only at hSw);try simp only [reO11x13];first|(go_simp;done)|(go_simp;with_reducible rfl))
    try simp only [reO11x13,Act.put,List.setIfInBounds_toArray,List.set_cons_zero,List.set_cons_succ]
    refine wpAnyH_take (i:=14) (oi:=reO11x14) (v:=?_) rfl gK gK gK (fun _ _ _ h=>h) (Or.inl ⟨by rfl,?_⟩) (by assumption) ?_
    rotate_left
    ·(intro W hSw;(try dsimp only at hSw);try simp only [reO11x14];first|(go_simp;done)|(go_simp;with_reducible rfl))
    try simp only [reO11x14,Act.put,List.setIfInBounds_toArray,List.set_cons_zero,List.set_cons_succ]
    refine wpAnyH_take (i:=15) (oi:=reO11x15) (v:=?_) rfl gK gK gK (fun _ _ _ h=>h) (Or.inl ⟨by rfl,?_⟩) (by assumption) ?_
    rotate_left
    ·(intro W hSw;(try dsimp only at hSw);try simp only [reO11x15];first|(go_simp;done)|(go_simp;with_reducible rfl))
    try simp only [reO11x15,Act.put,List.setIfInBounds_toArray,List.set_cons_zero,List.set_cons_succ]
    refine wpAnyH_ready (rs:=[16]) gK (by simp) ?_
    refine AllReadyH.cons (o:=reO11x16) rfl (fun K hK=>?_) AllReadyH.nil
    try simp only [reO11x16]
    go_simp
    refine hK.out _ _ ?_ (fun hHeld=>?_)
    ·((try dsimp only);exact z1h (q:=pv) hHeld HPV.out _ _ _ _)
    clear hK K
    try simp only [Act.put,List.setIfInBounds_toArray,List.set_cons_zero,List.set_cons_succ]
    refine wpAnyH_take (i:=17) (oi:=reO11x17) (v:=?_) rfl gK gK gK (fun _ _ _ h=>h) (Or.inl ⟨by rfl,?_⟩) (by assumption) ?_
    rotate_left
    ·(intro W hSw;(try dsimp only at hSw);try simp only [reO11x17];first|(go_simp;done)|(go_simp;with_reducible rfl))
    try simp only [reO11x17,Act.put,List.setIfInBounds_toArray,List.set_cons_zero,List.set_cons_succ]
    refine wpAnyH_done gK ?_ _
    go_wp2_with fail
    go_meet
    exact ⟨by first|rfl|(simp [go_sem];done),rfl,fun _=>⟨by simp (maxDischargeDepth:=12) [go_sem,y0],by simp (maxDischargeDepth:=12) [go_sem,y1],by simp (maxDischargeDepth:=12) [go_sem,y2],by simp (maxDischargeDepth:=12) [go_sem,y3]⟩,z0a Bn0.out hHeld⟩
   rename World=>wx
   obtain ⟨rfl,rfl,h4x,b2x⟩:=hcut
   have B1x:Hid (Below w1.heap.size w1 wx):=z0a hb b2x
   by_cases hre:re=0
   case neg =>
    have hre':¬ re=0:=hre
    have HF:Hid (R=(nul,re)):=by show R=_;rw [← HST.out,if_neg hre]
    have br:=RBX.out.later B1x.out
    have lt1:=br.lt
    obtain ⟨r0,r1,r2,r3⟩:=br.at4
    dsimp only [nul] at r0 r1 r2 r3
    simp only [Nat.zero_add] at r1 r2 r3
    have f0:=br.free 0
    have f1:=br.free 1
    have f2:=br.free 2
    have f3:=br.free 3
    clear HST hre h4x
    go_wp2
    refine bodyPost_ret_by (v:=.tuple #[va 0 0 0 ⟨#[]⟩,.int .i64 re]) ?_ rfl ⟨by rw [HF.out];rfl,z1h (z0a B0 B1x.out) (by omega) _ _ _ _⟩
    simp [results,Tryz.results25,go_sem,r0,r1,r2,r3]
   subst hre
   rw [if_pos rfl] at HST
   have H4X:Hid (At4 wx pv 0 ⟨rk,rn,rm,rb⟩):=h4x rfl
   have HLK:Hid ((st.take f).length=f):=by show _=_;rw [List.length_take];omega
   have HWX:Hid (w1.heap.size≤wx.heap.size):=B1x.out.size
   have SRC:Hid (∀ W,Below wx.heap.size wx W→Src Tryz.prog 4 34 (.slice so f sc) f (z1v (st.take f)) W):=fun W h=>src_of_vk ((Vk.later HO.out b2x).later h) hfl
   clear h4x
   go_upto_region 27 with fail
   refine wp_region_held_drew (S:=(fun W=>Below wx.heap.size wx W)) gK ?_ (fun hHeld=>?_)
   ·((try dsimp only);exact (Below.refl _ _).drew)
   refine wpAnyH_take (i:=1) (oi:=reO27x1) (v:=?_) rfl gK gK gK (fun _ _ _ h=>h) (Or.inl ⟨by rfl,?_⟩) (by assumption) ?_
   rotate_left
   ·(intro W hSw;(try dsimp only at hSw);try simp only [reO27x1];first|(go_simp;done)|(go_simp;with_reducible rfl))
   try simp only [reO27x1,Act.put,List.setIfInBounds_toArray,List.set_cons_zero,List.set_cons_succ]
   refine wpAnyH_take (i:=3) (oi:=reO27x3) (v:=?_) rfl gK gK gK (fun _ _ _ h=>h) (Or.inl ⟨by rfl,?_⟩) (by assumption) ?_
   rotate_left
   ·(intro W hSw;(try dsimp only at hSw);obtain ⟨u0,u1,u2,u3⟩:=H4X.out.later hSw;dsimp only at u0 u1 u2 u3;simp only [Nat.zero_add] at u1 u2 u3;have ul:=(H4X.out.later hSw).lt;try simp only [reO27x3];first|(go_simp;done)|(go_simp;with_reducible rfl))
   try simp only [reO27x3,Act.put,List.setIfInBounds_toArray,List.set_cons_zero,List.set_cons_succ]
   refine wpAnyH_ready (rs:=[0,4]) gK (by simp) ?_
   refine AllReadyH.cons (o:=reO27x0) rfl (fun K hK=>?_) (AllReadyH.cons (o:=z8p) rfl (fun K hK=>?_) AllReadyH.nil)
   ·
    try simp only [reO27x0]
    go_simp
    refine hK.out _ _ ?_ (fun hHeld=>?_)
    ·((try dsimp only);exact (Below.refl _ wx).drew.alloc (Nat.le_refl _) _)
    clear hK K
    try simp only [Act.put,List.setIfInBounds_toArray,List.set_cons_zero,List.set_cons_succ]
    have o3:(wx.drew.alloc (.cells #[] 23)).ownsRow wx.heap.size 23 4 (.slice (some ⟨wx.heap.size,0,none⟩) 0 0) 0 []:=World.ownsRow_made wx.drew #[] 0 (Nat.le_refl _) (by decide) (by simp)
    refine wpAnyH_ready (rs:=[2,4]) gK (by simp) ?_
    refine AllReadyH.cons (o:=z8u) rfl (fun K hK=>?_) (AllReadyH.cons (o:=z8p) rfl (fun K hK=>?_) AllReadyH.nil)
    ·
     have hbx:Below wx.heap.size wx _:=(Below.refl _ wx).drew.alloc (Nat.le_refl _) (.cells #[] 23)
     have sz:=hbx.size
     refine z1m (by rfl) _ _ 34 34 (by rfl) wx.heap.size 23 i0 _ 4 40 Tryz.underlying34 hi hz0 hz1 hz2 rfl _ 0 [] (by rfl) o3 _ f (z1v (st.take f)) (by rfl) (SRC.out _ hbx) (by unfold maxLen;omega) (by omega) sz ?_
     intro v6 w6 o6 g6 a6
     rw [List.nil_append,Nat.zero_add] at o6
     have hb6:Below wx.heap.size wx w6:=hbx.grown g6 sz (fun k hk=>(World.ownsRow.lt o3 k hk).1)
     clear hbx
     refine hK.out _ _ ?_ (fun hHeld=>?_)
     ·((try dsimp only);exact hb6)
     clear hK K
     try simp only [z8u,Act.put,List.setIfInBounds_toArray,List.set_cons_zero,List.set_cons_succ]
     refine wpAnyH_ready (rs:=[4]) gK (by simp) ?_
     refine AllReadyH.cons (o:=z8p) rfl (fun K hK=>?_) AllReadyH.nil
     try simp only [z8p]
     go_simp
     refine hK.out _ _ ?_ (fun hHeld=>?_)
     ·((try dsimp only);exact hb6.alloc hb6.size _)
     clear hK K
     try simp only [Act.put,List.setIfInBounds_toArray,List.set_cons_zero,List.set_cons_succ]
     have n4c:At4 (w6.alloc (.cells (vcs ⟨rk,rn,rm,rb⟩) 23)) w6.heap.size 0 ⟨rk,rn,rm,rb⟩:=(Box.new w6 rk rn rm rb).at4
     have o6a:=World.ownsRow.alloc o6 (.cells (vcs ⟨rk,rn,rm,rb⟩) 23)
     refine wpAnyH_ready (rs:=[5]) gK (by simp) ?_
     refine AllReadyH.cons (o:=z9d) rfl (fun K hK=>?_) AllReadyH.nil
     have hbx:Below wx.heap.size wx (w6.alloc (.cells (vcs ⟨rk,rn,rm,rb⟩) 23)):=hb6.alloc hb6.size (.cells (vcs ⟨rk,rn,rm,rb⟩) 23)
     have sz:=hbx.size
     refine step_append_lies _ (by rfl) _ _ _ (by rfl) wx.heap.size 23 i0 _ 4 40 Tryz.underlying34 hi hz0 hz1 hz2 rfl (by omega) _ f (z1v (st.take f)) (by rfl) o6a ⟨w6.heap.size,0,none⟩ 1 1 (vcs ⟨rk,rn,rm,rb⟩).toList (by rfl) (by rfl) (z7k n4c) (one_va ⟨rk,rn,rm,rb⟩) (by omega) (by unfold maxLen;omega) (by omega) sz (w6.alloc (.cells (vcs ⟨rk,rn,rm,rb⟩) 23)).heap.size rfl ?_
     intro gg gc w7 o7 g7 a7 l7
     have hb7:Below wx.heap.size wx w7:=hbx.grown g7 sz (fun k hk=>(World.ownsRow.lt o6a k hk).1)
     clear hbx
     refine hK.out _ _ ?_ (fun hHeld=>?_)
     ·((try dsimp only);exact hb7)
     clear hK K
     try simp only [z9d,Act.put,List.setIfInBounds_toArray,List.set_cons_zero,List.set_cons_succ]
     refine wpAnyH_take (i:=6) (oi:=z5r) (v:=?_) rfl gK gK gK (fun _ _ _ h=>h) (Or.inl ⟨by rfl,?_⟩) (by assumption) ?_
     rotate_left
     ·(intro W hSw;(try dsimp only at hSw);try simp only [z5r];first|(go_simp;done)|(go_simp;with_reducible rfl))
     try simp only [z5r,Act.put,List.setIfInBounds_toArray,List.set_cons_zero,List.set_cons_succ]
     refine wpAnyH_done gK ?_ _
     go_wp2
     have ho5:=vk_base (Vk.push HLK.out o7) HWX.out
     exact ⟨⟨k+1,st.take f++[⟨rk,rn,rm,rb⟩],by rw [cst1],by omega,by rw [List.length_append,HLK.out];simp;omega,ho5,z0a B1x.out hb7,HST,by obtain ⟨d1,d2,d3⟩:=HDD.out;exact ⟨d1,by rw [List.length_append,HLK.out,d2];simp,d3⟩,gv_take HG.out HGR.out⟩,by simp [intOf];omega⟩
    ·
     try simp only [z8p]
     go_simp
     refine hK.out _ _ ?_ (fun hHeld=>?_)
     ·((try dsimp only);exact ((Below.refl _ wx).drew.alloc (Nat.le_refl _) _).alloc (by simp) _)
     clear hK K
     try simp only [Act.put,List.setIfInBounds_toArray,List.set_cons_zero,List.set_cons_succ]
     have n4b:At4 ((wx.drew.alloc (.cells #[] 23)).alloc (.cells (vcs ⟨rk,rn,rm,rb⟩) 23)) (wx.heap.size+1) 0 ⟨rk,rn,rm,rb⟩:=by have:=(Box.new (wx.drew.alloc (.cells #[] 23)) rk rn rm rb).at4;simpa using this
     have o3a:=World.ownsRow.alloc o3 (.cells (vcs ⟨rk,rn,rm,rb⟩) 23)
     refine wpAnyH_ready (rs:=[2]) gK (by simp) ?_
     refine AllReadyH.cons (o:=z8u) rfl (fun K hK=>?_) AllReadyH.nil
     have hbx:Below wx.heap.size wx _:=((Below.refl _ wx).drew.alloc (Nat.le_refl _) (.cells #[] 23)).alloc (by simp) (.cells (vcs ⟨rk,rn,rm,rb⟩) 23)
     have sz:=hbx.size
     refine z1m (by rfl) _ _ 34 34 (by rfl) wx.heap.size 23 i0 _ 4 40 Tryz.underlying34 hi hz0 hz1 hz2 rfl _ 0 [] (by rfl) o3a _ f (z1v (st.take f)) (by rfl) (SRC.out _ hbx) (by unfold maxLen;omega) (by omega) sz ?_
     intro v6 w6 o6 g6 a6
     rw [List.nil_append,Nat.zero_add] at o6
     have hb6:Below wx.heap.size wx w6:=hbx.grown g6 sz (fun k hk=>(World.ownsRow.lt o3a k hk).1)
     have n4c:At4 w6 (wx.heap.size+1) 0 ⟨rk,rn,rm,rb⟩:=n4b.grown g6 (fun e=>by have h2:wx.heap.size+1=wx.heap.size:=Option.some.inj e;omega)
     clear hbx
     refine hK.out _ _ ?_ (fun hHeld=>?_)
     ·((try dsimp only);exact hb6)
     clear hK K
     try simp only [z8u,Act.put,List.setIfInBounds_toArray,List.set_cons_zero,List.set_cons_succ]
     refine wpAnyH_ready (rs:=[5]) gK (by simp) ?_
     refine AllReadyH.cons (o:=z9d) rfl (fun K hK=>?_) AllReadyH.nil
     have hbx:Below wx.heap.size wx w6:=hb6
     have sz:=hbx.size
     refine step_append_lies _ (by rfl) _ _ _ (by rfl) wx.heap.size 23 i0 _ 4 40 Tryz.underlying34 hi hz0 hz1 hz2 rfl (by omega) _ f (z1v (st.take f)) (by rfl) o6 ⟨wx.heap.size+1,0,none⟩ 1 1 (vcs ⟨rk,rn,rm,rb⟩).toList (by rfl) (by rfl) (z7k n4c) (one_va ⟨rk,rn,rm,rb⟩) (by omega) (by unfold maxLen;omega) (by omega) sz w6.heap.size rfl ?_
     intro gg gc w7 o7 g7 a7 l7
     have hb7:Below wx.heap.size wx w7:=hbx.grown g7 sz (fun k hk=>(World.ownsRow.lt o6 k hk).1)
     clear hbx
     refine hK.out _ _ ?_ (fun hHeld=>?_)
     ·((try dsimp only);exact hb7)
     clear hK K
     try simp only [z9d,Act.put,List.setIfInBounds_toArray,List.set_cons_zero,List.set_cons_succ]
     refine wpAnyH_take (i:=6) (oi:=z5r) (v:=?_) rfl gK gK gK (fun _ _ _ h=>h) (Or.inl ⟨by rfl,?_⟩) (by assumption) ?_
     rotate_left
     ·(intro W hSw;(try dsimp only at hSw);try simp only [z5r];first|(go_simp;done)|(go_simp;with_reducible rfl))
     try simp only [z5r,Act.put,List.setIfInBounds_toArray,List.set_cons_zero,List.set_cons_succ]
     refine wpAnyH_done gK ?_ _
     go_wp2
     have ho5:=vk_base (Vk.push HLK.out o7) HWX.out
     exact ⟨⟨k+1,st.take f++[⟨rk,rn,rm,rb⟩],by rw [cst1],by omega,by rw [List.length_append,HLK.out];simp;omega,ho5,z0a B1x.out hb7,HST,by obtain ⟨d1,d2,d3⟩:=HDD.out;exact ⟨d1,by rw [List.length_append,HLK.out,d2];simp,d3⟩,gv_take HG.out HGR.out⟩,by simp [intOf];omega⟩
   ·
    try simp only [z8p]
    go_simp
    refine hK.out _ _ ?_ (fun hHeld=>?_)
    ·((try dsimp only);exact (Below.refl _ wx).drew.alloc (Nat.le_refl _) _)
    clear hK K
    try simp only [Act.put,List.setIfInBounds_toArray,List.set_cons_zero,List.set_cons_succ]
    have n4:At4 (wx.drew.alloc (.cells (vcs ⟨rk,rn,rm,rb⟩) 23)) wx.heap.size 0 ⟨rk,rn,rm,rb⟩:=(Box.new wx.drew rk rn rm rb).at4
    refine wpAnyH_ready (rs:=[0]) gK (by simp) ?_
    refine AllReadyH.cons (o:=reO27x0) rfl (fun K hK=>?_) AllReadyH.nil
    try simp only [reO27x0]
    go_simp
    refine hK.out _ _ ?_ (fun hHeld=>?_)
    ·((try dsimp only);exact ((Below.refl _ wx).drew.alloc (Nat.le_refl _) _).alloc (by simp) _)
    clear hK K
    try simp only [Act.put,List.setIfInBounds_toArray,List.set_cons_zero,List.set_cons_succ]
    have o3:((wx.drew.alloc (.cells (vcs ⟨rk,rn,rm,rb⟩) 23)).alloc (.cells #[] 23)).ownsRow wx.heap.size 23 4 (.slice (some ⟨wx.heap.size+1,0,none⟩) 0 0) 0 []:=by have:=World.ownsRow_made (base:=wx.heap.size) (e:=23) (size:=4) (wx.drew.alloc (.cells (vcs ⟨rk,rn,rm,rb⟩) 23)) #[] 0 (by simp) (by decide) (by simp);simpa using this
    have n4b:At4 ((wx.drew.alloc (.cells (vcs ⟨rk,rn,rm,rb⟩) 23)).alloc (.cells #[] 23)) wx.heap.size 0 ⟨rk,rn,rm,rb⟩:=n4.later ((Below.refl _ _).alloc (Nat.le_refl _) _)
    refine wpAnyH_ready (rs:=[2]) gK (by simp) ?_
    refine AllReadyH.cons (o:=z8u) rfl (fun K hK=>?_) AllReadyH.nil
    have hbx:Below wx.heap.size wx _:=((Below.refl _ wx).drew.alloc (Nat.le_refl _) (.cells (vcs ⟨rk,rn,rm,rb⟩) 23)).alloc (by simp) (.cells #[] 23)
    have sz:=hbx.size
    refine z1m (by rfl) _ _ 34 34 (by rfl) wx.heap.size 23 i0 _ 4 40 Tryz.underlying34 hi hz0 hz1 hz2 rfl _ 0 [] (by rfl) o3 _ f (z1v (st.take f)) (by rfl) (SRC.out _ hbx) (by unfold maxLen;omega) (by omega) sz ?_
    intro v6 w6 o6 g6 a6
    rw [List.nil_append,Nat.zero_add] at o6
    have hb6:Below wx.heap.size wx w6:=hbx.grown g6 sz (fun k hk=>(World.ownsRow.lt o3 k hk).1)
    have n4c:At4 w6 wx.heap.size 0 ⟨rk,rn,rm,rb⟩:=n4b.grown g6 (fun e=>by have h2:wx.heap.size=wx.heap.size+1:=Option.some.inj e;omega)
    clear hbx
    refine hK.out _ _ ?_ (fun hHeld=>?_)
    ·((try dsimp only);exact hb6)
    clear hK K
    try simp only [z8u,Act.put,List.setIfInBounds_toArray,List.set_cons_zero,List.set_cons_succ]
    refine wpAnyH_ready (rs:=[5]) gK (by simp) ?_
    refine AllReadyH.cons (o:=z9d) rfl (fun K hK=>?_) AllReadyH.nil
    have hbx:Below wx.heap.size wx w6:=hb6
    have sz:=hbx.size
    refine step_append_lies _ (by rfl) _ _ _ (by rfl) wx.heap.size 23 i0 _ 4 40 Tryz.underlying34 hi hz0 hz1 hz2 rfl (by omega) _ f (z1v (st.take f)) (by rfl) o6 ⟨wx.heap.size,0,none⟩ 1 1 (vcs ⟨rk,rn,rm,rb⟩).toList (by rfl) (by rfl) (z7k n4c) (one_va ⟨rk,rn,rm,rb⟩) (by omega) (by unfold maxLen;omega) (by omega) sz w6.heap.size rfl ?_
    intro gg gc w7 o7 g7 a7 l7
    have hb7:Below wx.heap.size wx w7:=hbx.grown g7 sz (fun k hk=>(World.ownsRow.lt o6 k hk).1)
    clear hbx
    refine hK.out _ _ ?_ (fun hHeld=>?_)
    ·((try dsimp only);exact hb7)
    clear hK K
    try simp only [z9d,Act.put,List.setIfInBounds_toArray,List.set_cons_zero,List.set_cons_succ]
    refine wpAnyH_take (i:=6) (oi:=z5r) (v:=?_) rfl gK gK gK (fun _ _ _ h=>h) (Or.inl ⟨by rfl,?_⟩) (by assumption) ?_
    rotate_left
    ·(intro W hSw;(try dsimp only at hSw);try simp only [z5r];first|(go_simp;done)|(go_simp;with_reducible rfl))
    try simp only [z5r,Act.put,List.setIfInBounds_toArray,List.set_cons_zero,List.set_cons_succ]
    refine wpAnyH_done gK ?_ _
    go_wp2
    have ho5:=vk_base (Vk.push HLK.out o7) HWX.out
    exact ⟨⟨k+1,st.take f++[⟨rk,rn,rm,rb⟩],by rw [cst1],by omega,by rw [List.length_append,HLK.out];simp;omega,ho5,z0a B1x.out hb7,HST,by obtain ⟨d1,d2,d3⟩:=HDD.out;exact ⟨d1,by rw [List.length_append,HLK.out,d2];simp,d3⟩,gv_take HG.out HGR.out⟩,by simp [intOf];omega⟩
  ·have hlt':¬ (k:Int)<(n:Int):=by omega
   have HF:Hid (R=(st.headD nul,0)∧st.length=1):=by
    obtain ⟨ds,h1,h2⟩:=hD.out
    have h3:=hH.out
    have e:l.drop k=[]:=List.drop_eq_nil_of_le (by rw [HN.out];omega)
    rw [e] at h2 h3
    have h4:ds=[d]:=by
     unfold runD at h2
     exact Option.some.inj h2
    exact ⟨h3.symm,by rw [← h1,h4];rfl⟩
   obtain ⟨v,hv⟩:=List.length_eq_one_iff.1 HF.out.2
   subst hv
   obtain ⟨g,rfl,hgb,hgl,hgc⟩:∃ g,so=some ⟨g,0,none⟩∧w1.heap.size≤g∧g<wr.heap.size∧∀ i (h:i < [v].length),At4 wr g (i*4) [v][i]:=by
    cases so with
    | none=>obtain ⟨h1,h2⟩:=hsn rfl;simp at h1
    | some a=>obtain ⟨g,rfl,h2⟩:=hcell a rfl;exact ⟨g,rfl,h2⟩
   have h4:At4 wr g 0 v:=by have:=hgc 0 (by simp);simpa using this
   have HF2:Hid (R=(v,0)):=HF.out.1
   obtain ⟨vk,vn,vm,vb⟩:=v
   obtain ⟨y0,y1,y2,y3⟩:=h4
   dsimp only at y0 y1 y2 y3
   simp only [Nat.zero_add] at y1 y2 y3
   clear HF hgc hcell hcut ho hsn hH hD HG HR HD gx
   have B5:=z0a B0 hb
   have br:=RBX.out.later hb
   have lt1:=br.lt
   obtain ⟨r0,r1,r2,r3⟩:=br.at4
   dsimp only [nul] at r0 r1 r2 r3
   simp only [Nat.zero_add] at r1 r2 r3
   have f0:=br.free 0
   have f1:=br.free 1
   have f2:=br.free 2
   have f3:=br.free 3
   go_wp2
   refine bodyPost_ret_by (v:=.tuple #[va vk vn vm ⟨vb.toArray⟩,.int .i64 0]) ?_ rfl ⟨by rw [HF2.out],z1h B5 (by omega) _ _ _ _⟩
   simp [results,Tryz.results25,go_sem,r0,r1,r2,r3]
end Go.Proofs.YtibbenhplmmmiaaGreatDoor
