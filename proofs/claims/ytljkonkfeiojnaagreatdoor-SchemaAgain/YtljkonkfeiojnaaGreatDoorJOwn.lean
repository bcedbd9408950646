/-
  The contract of longstoplaw08.Own.
-/
import Derived.Test.YtljkonkfeiojnaaGreatDoorMXJOwnM
import Derived.Test.YtljkonkfeiojnaaGreatDoorMKJAfB
import Derived.Deep.CutRange
set_option maxHeartbeats 8000000
set_option maxRecDepth 20000
namespace Go.Proofs.YtljkonkfeiojnaaGreatDoor
open Go.RowKit Go.Shelf
attribute [local go_sem] z0f z0b z0c z0e z0m z0k z0h z0d z0g
def owO0:Oper:=⟨some 7,.fieldAddr 27 (.tmp 1) 0,0, "law.go:20",#[],none⟩
def owO1:Oper:=⟨some 8,.load 9 (.tmp 7),9, "law.go:20",#[⟨0,.data⟩],none⟩
def owO2:Oper:=⟨some 9,.buildSlice 23 0 #[],23, "law.go:20",#[],none⟩
def owO3:Oper:=⟨some 10,.fieldAddr 27 (.tmp 1) 2,0, "law.go:20",#[],none⟩
def owO4:Oper:=⟨some 11,.load 23 (.tmp 10),23, "law.go:20",#[⟨3,.data⟩],none⟩
def owO5:Oper:=⟨some 12,.call { callee:=Callee.builtin Builtin.append,args:=#[.tmp 9,.tmp 11],argTypes:=#[23,23] },23, "law.go:20",#[⟨2,.data⟩,⟨4,.data⟩],none⟩
def owO6:Oper:=⟨some 13,.fieldAddr 27 (.tmp 1) 4,0, "law.go:20",#[],none⟩
def owO7:Oper:=⟨some 14,.load 25 (.tmp 13),25, "law.go:20",#[⟨6,.data⟩],none⟩
def owO8:Oper:=⟨some 15,.call { callee:=Callee.value (Operand.func 14),args:=#[.tmp 14],argTypes:=#[25] },31, "law.go:20",#[⟨7,.data⟩,⟨5,.chain⟩],none⟩
def owO9:Oper:=⟨some 16,.build 33 #[(0,.tmp 8),(2,.tmp 12),(4,.tmp 15)],33, "law.go:20",#[⟨1,.data⟩,⟨5,.data⟩,⟨8,.data⟩],none⟩
def owO10:Oper:=⟨some 3,.alloc 33,0, "law.go:20",#[],none⟩
def z9p:Oper:=⟨none,.store 33 (.tmp 3) (.tmp 16),0, "law.go:20",#[⟨10,.data⟩,⟨9,.data⟩,⟨8,.chain⟩,⟨0,.phase⟩,⟨1,.phase⟩,⟨2,.phase⟩,⟨3,.phase⟩,⟨4,.phase⟩,⟨5,.phase⟩,⟨6,.phase⟩,⟨7,.phase⟩,⟨8,.phase⟩,⟨9,.phase⟩,⟨10,.phase⟩],none⟩
def ouO0:Oper:=⟨some 50,.fieldAddr 33 (.tmp 3) 3,0, "law.go:26",#[],none⟩
def ouO1:Oper:=⟨some 51,.load 24 (.tmp 50),24, "law.go:26",#[⟨0,.data⟩],none⟩
def ouO2:Oper:=⟨some 52,.buildSlice 23 0 #[],23, "law.go:26",#[],none⟩
def ouO3:Oper:=⟨some 53,.fieldAddr 27 (.tmp 1) 3,0, "law.go:26",#[],none⟩
def ouO4:Oper:=⟨some 54,.load 24 (.tmp 53),24, "law.go:26",#[⟨3,.data⟩],none⟩
def ouO5:Oper:=⟨some 55,.move (.tmp 6),3, "law.go:26",#[],none⟩
def ouO6:Oper:=⟨some 56,.indexAddr 24 (.tmp 54) (.tmp 55),0, "law.go:26",#[⟨4,.data⟩,⟨5,.data⟩],none⟩
def ouO7:Oper:=⟨some 57,.load 23 (.tmp 56),23, "law.go:26",#[⟨6,.data⟩],none⟩
def ouO8:Oper:=⟨some 58,.call { callee:=Callee.builtin Builtin.append,args:=#[.tmp 52,.tmp 57],argTypes:=#[23,23] },23, "law.go:26",#[⟨2,.data⟩,⟨7,.data⟩],none⟩
def ouO9:Oper:=⟨some 59,.buildSlice 24 1 #[(0,.tmp 58)],24, "law.go:26",#[⟨8,.data⟩],none⟩
def ouO10:Oper:=⟨some 60,.call { callee:=Callee.builtin Builtin.append,args:=#[.tmp 51,.tmp 59],argTypes:=#[24,24] },24, "law.go:26",#[⟨1,.data⟩,⟨9,.data⟩,⟨8,.chain⟩],none⟩
def z9m:Oper:=⟨some 61,.fieldAddr 33 (.tmp 3) 3,0, "law.go:26",#[⟨0,.phase⟩,⟨1,.phase⟩,⟨2,.phase⟩,⟨3,.phase⟩,⟨4,.phase⟩,⟨5,.phase⟩,⟨6,.phase⟩,⟨7,.phase⟩,⟨8,.phase⟩,⟨9,.phase⟩,⟨10,.phase⟩],none⟩
def z9n:Oper:=⟨none,.store 24 (.tmp 61) (.tmp 60),0, "law.go:26",#[⟨11,.data⟩,⟨10,.data⟩,⟨10,.chain⟩,⟨0,.phase⟩,⟨1,.phase⟩,⟨2,.phase⟩,⟨3,.phase⟩,⟨4,.phase⟩,⟨5,.phase⟩,⟨6,.phase⟩,⟨7,.phase⟩,⟨8,.phase⟩,⟨9,.phase⟩,⟨10,.phase⟩],none⟩
theorem grown2 {a b c:World} {r:Option Nat} (h1:a.grownBy b r) (h2:b.grownBy c r):a.grownBy c r :=
 ⟨h2.os.trans h1.os,h2.tape.trans h1.tape,h2.output.trans h1.output,Nat.le_trans h1.size h2.size,fun k h n=>(h2.block k (Nat.lt_of_lt_of_le h h1.size) n).trans (h1.block k h n)⟩
theorem store5 (w:World) (p:Nat) (a b c d e:Value):w.grownBy (((((w.setCell ⟨p,0,none⟩ a).setCell ⟨p,1,none⟩ b).setCell ⟨p,2,none⟩ c).setCell ⟨p,3,none⟩ d).setCell ⟨p,4,none⟩ e) (some p) :=
 grown2 (grown2 (grown2 (grown2 (z0r _ ⟨p,0,none⟩ _) (z0r _ ⟨p,1,none⟩ _)) (z0r _ ⟨p,2,none⟩ _)) (z0r _ ⟨p,3,none⟩ _)) (z0r _ ⟨p,4,none⟩ _)
theorem infoInt8:(Tryz.prog.info? 3).map (fun i=>(i.zero,i.size,i.bytes))=some (some (.int .i64 0),1,8):=by kernel_rfl
theorem infoLi8:(Tryz.prog.info? 23).map (fun i=>(i.zero,i.size,i.bytes))=some (some (.slice none 0 0),1,24):=by kernel_rfl
theorem infoCo8:(Tryz.prog.info? 53).map (fun i=>(i.zero,i.size,i.bytes))=some (some (.agg #[.string ⟨#[]⟩,.int .i64 0,.int .i64 0,.bool false]),4,40):=by kernel_rfl
structure TbZ (t:Tb):Prop where
 c:t.cs.length*40≤140737488351232
 k:t.key.length*8≤140737488351232
 u:t.us.length*24≤140737488351232
 uu:∀ u∈t.us,u.length*8≤140737488351232
 x:t.ck.length*88≤140737488351232
theorem tbw_of {wr:World} {b:Nat} {t:Tb} {cv uv kv xv:Value} {vs:List Value} (oc0:wr.ownsRow b 53 4 cv t.cs.length (ccl (t.cs.take t.cs.length))) (hok:wr.ownsRow b 3 1 kv t.key.length (ivs t.key)) (hox:z1n wr b xv t.ck) (hou:wr.ownsRow b 23 1 uv t.us.length vs) (hol:vs.length=t.us.length) (hov:∀ i (h:i<vs.length) (h2:i<t.us.length),wr.ownsRow b 3 1 vs[i] t.us[i].length (ivs t.us[i])) (hz:TbZ t) (hn:t.n.length≤140737488351232) (hcn:∀ c∈t.cs,c.n.length≤140737488351232) (hs:shN t.ck) :
  ∃ q:Tp,cv=.slice q.co t.cs.length q.cc∧kv=.slice q.ko t.key.length q.kc∧uv=.slice q.uo t.us.length q.uc∧xv=.slice q.xo t.ck.length q.xc∧TbW wr t q:=by
 have oc:=oc0
 rw [List.take_length] at oc
 obtain ⟨co,cc,e1,cw,hcc⟩:=cw_of_own oc
 obtain ⟨ko,kc,e2,kw,_⟩:=z4c hok
 obtain ⟨xo,xc,e4,xw⟩:=z1n.lies hox
 have hu:∃ uo uc,uv=.slice uo t.us.length uc∧Uw wr uo t.us:=by
  obtain ⟨h1,h2⟩:=hou
  rcases h2 with ⟨rfl,hn0⟩|⟨g,cap,cur,rfl,hb,hg,hnc,hcm,hcs,htake⟩
  ·exact ⟨none,0,by rw [hn0],fun hp=>by omega⟩
  ·refine ⟨some ⟨g,0,none⟩,cap,rfl,fun _=>⟨g,0,rfl,fun i hi=>?_⟩⟩
   have hiv:i<vs.length:=by rw [hol];exact hi
   have ho:=hov i hiv hi
   obtain ⟨io,ic,ei,iw,_⟩:=z4c ho
   refine ⟨io,ic,?_,iw⟩
   rw [Nat.zero_add,cell_of_row wr g i cur 23 (0,0) hg]
   have h3:cur[i]?=(cur.toList.take (t.us.length*1))[i]?:=by
    rw [List.getElem?_take,if_pos (by omega)];simp
   rw [h3,htake,List.getElem?_eq_getElem hiv,ei]
 obtain ⟨uo,uc,e3,uw⟩:=hu
 have b0:=hz.c
 have b1:=hz.k
 have b2:=hz.u
 have b3:=hz.x
 exact ⟨⟨co,ko,uo,xo,cc,kc,uc,xc⟩,e1,e2,e3,e4,⟨cw,kw,uw,xw,hn,hcn,by omega,hcc,by omega,by omega,(fun u hu=>by have:=hz.uu u hu;omega),by omega,hs⟩⟩
theorem own8_any (t:Tb) (q:Tp) (w:World) (hW:TbW w t q) (hz:TbZ t) :
  Calls Tryz.prog 5 #[.agg (tbcs t q)] w fun e w'=>(∃ q':Tp,e=.returned (.agg (tbcs t q'))∧TbW w' t q')∧Below w.heap.size w w':=by
 obtain ⟨i0,hi,hz0,hz1,hz2⟩:=info_parts infoInt8
 obtain ⟨i1,hj,hy0,hy1,hy2⟩:=info_parts infoLi8
 obtain ⟨i2,hl,hx0,hx1,hx2⟩:=info_parts infoCo8
 have HFin:Hid (∀ wr b cv uv kv xv vs,wr.ownsRow b 53 4 cv t.cs.length (ccl (t.cs.take t.cs.length))→wr.ownsRow b 3 1 kv t.key.length (ivs t.key)→z1n wr b xv t.ck→wr.ownsRow b 23 1 uv t.us.length vs→vs.length=t.us.length→(∀ i (h:i<vs.length) (h2:i<t.us.length),wr.ownsRow b 3 1 vs[i] t.us[i].length (ivs t.us[i]))→∃ q:Tp,cv=.slice q.co t.cs.length q.cc∧kv=.slice q.ko t.key.length q.kc∧uv=.slice q.uo t.us.length q.uc∧xv=.slice q.xo t.ck.length q.xc∧TbW wr t q):=fun wr b cv uv kv xv vs h1 h2 h3 h4 h5 h6=>tbw_of h1 h2 h3 h4 h5 h6 hz hW.nl hW.cnl hW.sh
 have HC:Hid (Cw w q.co t.cs):=hW.c
 have HU:Hid (Uw w q.uo t.us):=hW.u
 have HUZ:Hid (∀ u∈t.us,u.length*8≤140737488351232):=hz.uu
 have SRK0:∀ W,Below w.heap.size w W→Src Tryz.prog 1 23 (.slice q.ko t.key.length q.kc) t.key.length (ivs t.key) W:=fun W h=>src_of_iw (hW.k.later h)
 have OW0:∀ W,Below w.heap.size w W→_:=fun W h=>own6_any q.xo q.xc t.ck W (hW.x.later h) hz.x
 have zc:=hz.c
 have zk:=hz.k
 have zu:=hz.u
 clear hz hW
 obtain ⟨NB,hNB⟩:∃ NB:ByteArray,NB=⟨t.n.toArray⟩:=⟨_,rfl⟩
 have HNB:Hid (NB=⟨t.n.toArray⟩):=hNB
 obtain ⟨KEY,hKEY⟩:∃ KEY,KEY=t.key:=⟨_,rfl⟩
 have HKE:Hid (t.key=KEY):=hKEY.symm
 have hfin:∀ q':Tp,#[.string NB,.slice q'.co t.cs.length q'.cc,.slice q'.ko t.key.length q'.kc,.slice q'.uo t.us.length q'.uc,.slice q'.xo t.ck.length q'.xc]=tbcs t q':=fun q'=>by rw [hNB]
 have HFQ:Hid (∀ q':Tp,#[.string NB,.slice q'.co t.cs.length q'.cc,.slice q'.ko t.key.length q'.kc,.slice q'.uo t.us.length q'.uc,.slice q'.xo t.ck.length q'.xc]=tbcs t q'):=hfin
 obtain ⟨co,ko,uo,xo,cc,kc,uc,xc⟩:=q
 rw [show tbcs t ⟨co,ko,uo,xo,cc,kc,uc,xc⟩=#[.string NB,.slice co t.cs.length cc,.slice ko t.key.length kc,.slice uo t.us.length uc,.slice xo t.ck.length xc] from (hfin _).symm]
 simp only at *
 rw [← hKEY] at SRK0
 obtain ⟨kn,hkn⟩:∃ kn,kn=t.key.length:=⟨_,rfl⟩
 have HKN:Hid (t.key.length=kn):=hkn.symm
 rw [← hKEY] at hkn HKN
 obtain ⟨m,hm⟩:∃ m,t.cs.length=m:=⟨_,rfl⟩
 have HM:Hid (t.cs.length=m):=hm
 obtain ⟨un,hun⟩:∃ un,t.us.length=un:=⟨_,rfl⟩
 have HUN:Hid (t.us.length=un):=hun
 obtain ⟨xn,hxn⟩:∃ xn,t.ck.length=xn:=⟨_,rfl⟩
 have HXN:Hid (t.ck.length=xn):=hxn
 rw [← hKEY,← hkn,hm,hun,hxn]
 rw [hm] at zc
 rw [hun] at zu
 rw [← hKEY,← hkn] at zk
 rw [← hkn] at SRK0
 simp only [hxn] at OW0
 clear hNB hKEY hfin hkn hm hun hxn
 have b1:Below w.heap.size w (w.alloc (.cells #[.string NB,.slice co m cc,.slice ko kn kc,.slice uo un uc,.slice xo xn xc] 27)):=(Below.refl _ _).alloc (Nat.le_refl _) _
 have t1:Cbox (w.alloc (.cells #[.string NB,.slice co m cc,.slice ko kn kc,.slice uo un uc,.slice xo xn xc] 27)) w.heap.size #[.string NB,.slice co m cc,.slice ko kn kc,.slice uo un uc,.slice xo xn xc] 27:=Cbox.new w _ _
 have b2:=b1.alloc b1.size (.cells Z5 33)
 have r2:=Cbox.new (w.alloc (.cells #[.string NB,.slice co m cc,.slice ko kn kc,.slice uo un uc,.slice xo xn xc] 27)) Z5 33
 have t2:=t1.later ((Below.refl _ _).alloc (Nat.le_refl _) (.cells Z5 33))
 simp only [World.size_alloc] at r2
 have hsz0:((w.alloc (.cells #[.string NB,.slice co m cc,.slice ko kn kc,.slice uo un uc,.slice xo xn xc] 27)).alloc (.cells Z5 33)).heap.size=w.heap.size+2:=by simp
 have TB0:Hid (Cbox ((w.alloc (.cells #[.string NB,.slice co m cc,.slice ko kn kc,.slice uo un uc,.slice xo xn xc] 27)).alloc (.cells Z5 33)) w.heap.size #[.string NB,.slice co m cc,.slice ko kn kc,.slice uo un uc,.slice xo xn xc] 27):=t2
 have RB0:Hid (Cbox ((w.alloc (.cells #[.string NB,.slice co m cc,.slice ko kn kc,.slice uo un uc,.slice xo xn xc] 27)).alloc (.cells Z5 33)) (w.heap.size+1) Z5 33):=r2
 have Bw0:Hid (Below w.heap.size w ((w.alloc (.cells #[.string NB,.slice co m cc,.slice ko kn kc,.slice uo un uc,.slice xo xn xc] 27)).alloc (.cells Z5 33))):=b2
 have HZ:Hid (((w.alloc (.cells #[.string NB,.slice co m cc,.slice ko kn kc,.slice uo un uc,.slice xo xn xc] 27)).alloc (.cells Z5 33)).heap.size=w.heap.size+2):=hsz0
 clear b1 t1 b2 r2 t2 hsz0
 go_enter Tryz.func5,Tryz.ntmps5
 go_upto_region 1 with fail
 generalize (w.alloc (.cells #[.string NB,.slice co m cc,.slice ko kn kc,.slice uo un uc,.slice xo xn xc] 27)).alloc (.cells Z5 33)=w0 at *
 have SRK:Hid (∀ W,Below w0.heap.size w0 W→Src Tryz.prog 1 23 (.slice ko kn kc) kn (ivs KEY) W):=fun W h=>SRK0 W (z0a Bw0.out h)
 have OW:=fun W (h:Below w0.heap.size w0 W)=>OW0 W (z0a Bw0.out h)
 clear SRK0 OW0
 go_cut [3] from 7 (fun s3 wx=>∃ (p:Nat) (kv xv:Value),s3=.pointer (some ⟨p,0,none⟩)∧Hid (OwS w wx t NB #[.string NB,.slice co m cc,.slice ko kn kc,.slice uo un uc,.slice xo xn xc] p (.slice none 0 0) (.slice none 0 0) kv xv 0 0 []))
 case first =>
  as_aux_lemma =>
   refine wp_region_held_drew (S:=(fun W=>Cbox W w.heap.size #[.string NB,.slice co m cc,.slice ko kn kc,.slice uo un uc,.slice xo xn xc] 27)) gK ?_ (fun hHeld=>?_)
   ·((try dsimp only);exact TB0.out.later ((Below.refl _ w0).drew))
   refine wpAnyH_take (i:=0) (oi:=owO0) (v:=?_) rfl gK gK gK (fun _ _ _ h=>h) (Or.inl ⟨by rfl,?_⟩) (by assumption) ?_
   rotate_left
   ·(intro W hSw;(try dsimp only at hSw);try simp only [owO0];first|(go_simp;done)|(go_simp;with_reducible rfl))
   try simp only [owO0,Act.put,List.setIfInBounds_toArray,List.set_cons_zero,List.set_cons_succ]
   refine wpAnyH_take (i:=1) (oi:=owO1) (v:=?_) rfl gK gK gK (fun _ _ _ h=>h) (Or.inl ⟨by rfl,?_⟩) (by assumption) ?_
   rotate_left
   ·(intro W hSw;(try dsimp only at hSw);have e0:=hSw.at 0;have e1:=hSw.at 1;have e2:=hSw.at 2;have e3:=hSw.at 3;have e4:=hSw.at 4;try simp only [owO1];first|(go_simp;done)|(go_simp;with_reducible rfl))
   try simp only [owO1,Act.put,List.setIfInBounds_toArray,List.set_cons_zero,List.set_cons_succ]
   refine wpAnyH_take (i:=3) (oi:=owO3) (v:=?_) rfl gK gK gK (fun _ _ _ h=>h) (Or.inl ⟨by rfl,?_⟩) (by assumption) ?_
   rotate_left
   ·(intro W hSw;(try dsimp only at hSw);try simp only [owO3];first|(go_simp;done)|(go_simp;with_reducible rfl))
   try simp only [owO3,Act.put,List.setIfInBounds_toArray,List.set_cons_zero,List.set_cons_succ]
   refine wpAnyH_take (i:=4) (oi:=owO4) (v:=?_) rfl gK gK gK (fun _ _ _ h=>h) (Or.inl ⟨by rfl,?_⟩) (by assumption) ?_
   rotate_left
   ·(intro W hSw;(try dsimp only at hSw);have e0:=hSw.at 0;have e1:=hSw.at 1;have e2:=hSw.at 2;have e3:=hSw.at 3;have e4:=hSw.at 4;try simp only [owO4];first|(go_simp;done)|(go_simp;with_reducible rfl))
   try simp only [owO4,Act.put,List.setIfInBounds_toArray,List.set_cons_zero,List.set_cons_succ]
   refine wpAnyH_take (i:=6) (oi:=owO6) (v:=?_) rfl gK gK gK (fun _ _ _ h=>h) (Or.inl ⟨by rfl,?_⟩) (by assumption) ?_
   rotate_left
   ·(intro W hSw;(try dsimp only at hSw);try simp only [owO6];first|(go_simp;done)|(go_simp;with_reducible rfl))
   try simp only [owO6,Act.put,List.setIfInBounds_toArray,List.set_cons_zero,List.set_cons_succ]
   refine wpAnyH_take (i:=7) (oi:=owO7) (v:=?_) rfl gK gK gK (fun _ _ _ h=>h) (Or.inl ⟨by rfl,?_⟩) (by assumption) ?_
   rotate_left
   ·(intro W hSw;(try dsimp only at hSw);have e0:=hSw.at 0;have e1:=hSw.at 1;have e2:=hSw.at 2;have e3:=hSw.at 3;have e4:=hSw.at 4;try simp only [owO7];first|(go_simp;done)|(go_simp;with_reducible rfl))
   try simp only [owO7,Act.put,List.setIfInBounds_toArray,List.set_cons_zero,List.set_cons_succ]
   refine wpAnyH_ready (rs:=[2,10]) gK (by simp) ?_
   refine AllReadyH.cons (o:=owO2) rfl (fun K hK=>?_) (AllReadyH.cons (o:=owO10) rfl (fun K hK=>?_) AllReadyH.nil)
   ·
    try simp only [owO2]
    go_simp
    refine hK.out _ _ ?_ (fun hHeld=>?_)
    ·((try dsimp only);first|exact TB0.out.later (((Below.refl _ w0).alloc (Nat.le_refl _) (.cells #[] 3)).drew)|exact TB0.out.later ((Below.refl _ w0).drew.alloc (Nat.le_refl _) (.cells #[] 3)))
    clear hK K
    try simp only [Act.put,sA,sB,sC]
    have d2:=((Below.refl _ w0).alloc (Nat.le_refl _) (.cells #[] 3)).drew
    have u2:=((Below.refl w0.heap.size w0).alloc (Nat.le_refl _) (.cells #[] 3)).drew
    have o2:((w0.alloc (.cells #[] 3)).drew).ownsRow (w.heap.size+2) 3 1 (.slice (some ⟨w0.heap.size,0,none⟩) 0 0) 0 []:=z1b (World.ownsRow_made (base:=(w.heap.size+2)) (e:=3) (size:=1) w0 #[] 0 (by have:=HZ.out;omega) (by decide) (by simp)) ((Below.refl _ _).drew)
    generalize (w0.alloc (.cells #[] 3)).drew=w2 at *
    refine wpAnyH_ready (rs:=[5,10]) gK (by simp) ?_
    refine AllReadyH.cons (o:=owO5) rfl (fun K hK=>?_) (AllReadyH.cons (o:=owO10) rfl (fun K hK=>?_) AllReadyH.nil)
    ·
     have sz5:=(d2).size
     refine z1r (by rfl) _ _ 23 23 (by rfl) (w.heap.size+2) 3 i0 (.int .i64 0) 1 8 Tryz.underlying23 hi hz0 hz1 hz2 rfl _ 0 [] (by rfl) o2 _ kn (ivs KEY) (by rfl) (SRK.out _ d2) (by unfold maxLen;omega) (by omega) (by have:=HZ.out;omega) ?_
     intro v5 w5 o5 g5 a5
     rw [List.nil_append,Nat.zero_add] at o5
     have d5:Below w0.heap.size w0 w5:=(d2).grown g5 sz5 (fun k hk=>by have:=(World.ownsRow.lt o2 k hk).1;have:=HZ.out;omega)
     obtain ⟨ka,kd,hv5,_⟩:=z4c (l:=KEY) (by rw [HKN.out];exact o5)
     rw [HKN.out] at hv5
     subst hv5
     refine hK.out _ _ ?_ (fun hHeld=>?_)
     ·((try dsimp only);exact TB0.out.later d5)
     clear hK K
     try simp only [owO5,Act.put,List.setIfInBounds_toArray,List.set_cons_zero,List.set_cons_succ]
     refine wpAnyH_ready (rs:=[8,10]) gK (by simp) ?_
     refine AllReadyH.cons (o:=owO8) rfl (fun K hK=>?_) (AllReadyH.cons (o:=owO10) rfl (fun K hK=>?_) AllReadyH.nil)
     ·
      try simp only [owO8]
      go_simp
      (refine (OW _ d5).mono ?_)
      rintro e w8 ⟨⟨xa,xd,rfl,nw8,o8a⟩,b8⟩
      have d8:=z0a d5 b8
      have o8:=z1n.base_le (b':=(w.heap.size+2)) o8a (by have:=(d5).size;have:=HZ.out;omega)
      have o5:=z1b o5 b8
      refine hK.out _ _ ?_ (fun hHeld=>?_)
      ·((try dsimp only);exact TB0.out.later d8)
      clear hK K
      try simp only [Act.put,sA,sB,sC]
      refine wpAnyH_take (i:=9) (oi:=owO9) (v:=?_) rfl gK gK gK (fun _ _ _ h=>h) (Or.inl ⟨by rfl,?_⟩) (by assumption) ?_
      rotate_left
      ·(intro W hSw;(try dsimp only at hSw);try simp only [owO9];first|(go_simp;done)|(go_simp;with_reducible rfl))
      try simp only [owO9,Act.put,List.setIfInBounds_toArray,List.set_cons_zero,List.set_cons_succ]
      refine wpAnyH_ready (rs:=[10]) gK (by simp) ?_
      refine AllReadyH.cons (o:=owO10) rfl (fun K hK=>?_) AllReadyH.nil
      try simp only [owO10]
      go_simp
      refine hK.out _ _ ?_ (fun hHeld=>?_)
      ·((try dsimp only);exact TB0.out.later ((d8).alloc (d8).size (.cells Z5 33)))
      clear hK K
      try simp only [Act.put,sA,sB,sC]
      have d10:=(d8).alloc (d8).size (.cells Z5 33)
      have u10:=(Below.refl w8.heap.size w8).alloc (Nat.le_refl _) (.cells Z5 33)
      have q10:Cbox (w8.alloc (.cells Z5 33)) w8.heap.size Z5 33:=Cbox.new w8 Z5 33
      have hp10:w0.heap.size≤w8.heap.size:=(d8).size
      have o5:=z1b o5 u10
      have o8:=z1b o8 u10
      generalize w8.alloc (.cells Z5 33)=w10 at *
      generalize w8.heap.size=p at q10 hp10 ⊢
      refine wpAnyH_ready (rs:=[11]) gK (by simp) ?_
      refine AllReadyH.cons (o:=z9p) rfl (fun K hK=>?_) AllReadyH.nil
      have y0:=q10.at 0
      have f0:=q10.free 0
      have y1:=q10.at 1
      have f1:=q10.free 1
      have y2:=q10.at 2
      have f2:=q10.free 2
      have y3:=q10.at 3
      have f3:=q10.free 3
      have y4:=q10.at 4
      have f4:=q10.free 4
      have ql:=q10.lt
      simp at y0 y1 y2 y3 y4
      have Q5:=z0q (z0q (z0q (z0q (z0q q10 0 (.string NB)) 1 (.slice none 0 0)) 2 (.slice ka kn kd)) 3 (.slice none 0 0)) 4 (.slice xa xn xd)
      have G5:=store5 w10 p (.string NB) (.slice none 0 0) (.slice ka kn kd) (.slice none 0 0) (.slice xa xn xd)
      have hzz:=HZ.out
      have TBF:=(TB0.out.later d10).grown G5 (by simp;omega)
      have RBF:=(RB0.out.later d10).grown G5 (by simp;omega)
      have BF:=(Bw0.out.trans ((d10).mono (by omega))).grown G5 (by have:=(d10).size;omega) (fun k hk=>by have:=Option.some.inj hk;omega)
      have OK5:=z1c o5 G5 (fun g hg e=>z3q o5 q10 (by decide) g hg (Option.some.inj e))
      have OX5:=z1c o8 G5 (fun g hg e=>z3q o8 q10 (by decide) g hg (Option.some.inj e))
      try simp only [z9p]
      go_simp
      refine hK.out _ _ ?_ (fun hHeld=>?_)
      ·((try dsimp only);exact TBF)
      clear hK K
      try simp only [z9p,Act.put,List.setIfInBounds_toArray,List.set_cons_zero,List.set_cons_succ]
      refine wpAnyH_done gK ?_ _
      clear y0 y1 y2 y3 y4 f0 f1 f2 f3 f4 ql q10 hHeld G5
      simp only [Z5,List.setIfInBounds_toArray,List.set_cons_zero,List.set_cons_succ] at Q5
      generalize ((((w10.setCell ⟨p,0,none⟩ (.string NB)).setCell ⟨p,1,none⟩ (.slice none 0 0)).setCell ⟨p,2,none⟩ (.slice ka kn kd)).setCell ⟨p,3,none⟩ (.slice none 0 0)).setCell ⟨p,4,none⟩ (.slice xa xn xd)=w11 at *
      go_wp2_with fail
      go_meet
      exact ⟨p,.slice ka kn kd,.slice xa xn xd,rfl,⟨BF,TBF,RBF,Q5,by omega,by rw [HKE.out,HKN.out];exact OK5,(by have:=OX5;unfold z1n at this ⊢;exact this),World.ownsRow_nil _ _ _ _,World.ownsRow_nil _ _ _ _,rfl,fun i h=>by simp at h⟩⟩
     ·
      try simp only [owO10]
      go_simp
      refine hK.out _ _ ?_ (fun hHeld=>?_)
      ·((try dsimp only);exact TB0.out.later ((d5).alloc (d5).size (.cells Z5 33)))
      clear hK K
      try simp only [Act.put,sA,sB,sC]
      have d10:=(d5).alloc (d5).size (.cells Z5 33)
      have u10:=(Below.refl w5.heap.size w5).alloc (Nat.le_refl _) (.cells Z5 33)
      have q10:Cbox (w5.alloc (.cells Z5 33)) w5.heap.size Z5 33:=Cbox.new w5 Z5 33
      have hp10:w0.heap.size≤w5.heap.size:=(d5).size
      have o5:=z1b o5 u10
      generalize w5.alloc (.cells Z5 33)=w10 at *
      generalize w5.heap.size=p at q10 hp10 ⊢
      refine wpAnyH_ready (rs:=[8]) gK (by simp) ?_
      refine AllReadyH.cons (o:=owO8) rfl (fun K hK=>?_) AllReadyH.nil
      try simp only [owO8]
      go_simp
      (refine (OW _ d10).mono ?_)
      rintro e w8 ⟨⟨xa,xd,rfl,nw8,o8a⟩,b8⟩
      have d8:=z0a d10 b8
      have o8:=z1n.base_le (b':=(w.heap.size+2)) o8a (by have:=(d10).size;have:=HZ.out;omega)
      have o5:=z1b o5 b8
      have q10:=q10.later b8
      refine hK.out _ _ ?_ (fun hHeld=>?_)
      ·((try dsimp only);exact TB0.out.later d8)
      clear hK K
      try simp only [Act.put,sA,sB,sC]
      refine wpAnyH_take (i:=9) (oi:=owO9) (v:=?_) rfl gK gK gK (fun _ _ _ h=>h) (Or.inl ⟨by rfl,?_⟩) (by assumption) ?_
      rotate_left
      ·(intro W hSw;(try dsimp only at hSw);try simp only [owO9];first|(go_simp;done)|(go_simp;with_reducible rfl))
      try simp only [owO9,Act.put,List.setIfInBounds_toArray,List.set_cons_zero,List.set_cons_succ]
      refine wpAnyH_ready (rs:=[11]) gK (by simp) ?_
      refine AllReadyH.cons (o:=z9p) rfl (fun K hK=>?_) AllReadyH.nil
      have y0:=q10.at 0
      have f0:=q10.free 0
      have y1:=q10.at 1
      have f1:=q10.free 1
      have y2:=q10.at 2
      have f2:=q10.free 2
      have y3:=q10.at 3
      have f3:=q10.free 3
      have y4:=q10.at 4
      have f4:=q10.free 4
      have ql:=q10.lt
      simp at y0 y1 y2 y3 y4
      have Q5:=z0q (z0q (z0q (z0q (z0q q10 0 (.string NB)) 1 (.slice none 0 0)) 2 (.slice ka kn kd)) 3 (.slice none 0 0)) 4 (.slice xa xn xd)
      have G5:=store5 w8 p (.string NB) (.slice none 0 0) (.slice ka kn kd) (.slice none 0 0) (.slice xa xn xd)
      have hzz:=HZ.out
      have TBF:=(TB0.out.later d8).grown G5 (by simp;omega)
      have RBF:=(RB0.out.later d8).grown G5 (by simp;omega)
      have BF:=(Bw0.out.trans ((d8).mono (by omega))).grown G5 (by have:=(d8).size;omega) (fun k hk=>by have:=Option.some.inj hk;omega)
      have OK5:=z1c o5 G5 (fun g hg e=>z3q o5 q10 (by decide) g hg (Option.some.inj e))
      have OX5:=z1c o8 G5 (fun g hg e=>z3q o8 q10 (by decide) g hg (Option.some.inj e))
      try simp only [z9p]
      go_simp
      refine hK.out _ _ ?_ (fun hHeld=>?_)
      ·((try dsimp only);exact TBF)
      clear hK K
      try simp only [z9p,Act.put,List.setIfInBounds_toArray,List.set_cons_zero,List.set_cons_succ]
      refine wpAnyH_done gK ?_ _
      clear y0 y1 y2 y3 y4 f0 f1 f2 f3 f4 ql q10 hHeld G5
      simp only [Z5,List.setIfInBounds_toArray,List.set_cons_zero,List.set_cons_succ] at Q5
      generalize ((((w8.setCell ⟨p,0,none⟩ (.string NB)).setCell ⟨p,1,none⟩ (.slice none 0 0)).setCell ⟨p,2,none⟩ (.slice ka kn kd)).setCell ⟨p,3,none⟩ (.slice none 0 0)).setCell ⟨p,4,none⟩ (.slice xa xn xd)=w11 at *
      go_wp2_with fail
      go_meet
      exact ⟨p,.slice ka kn kd,.slice xa xn xd,rfl,⟨BF,TBF,RBF,Q5,by omega,by rw [HKE.out,HKN.out];exact OK5,(by have:=OX5;unfold z1n at this ⊢;exact this),World.ownsRow_nil _ _ _ _,World.ownsRow_nil _ _ _ _,rfl,fun i h=>by simp at h⟩⟩
    ·
     try simp only [owO10]
     go_simp
     refine hK.out _ _ ?_ (fun hHeld=>?_)
     ·((try dsimp only);exact TB0.out.later ((d2).alloc (d2).size (.cells Z5 33)))
     clear hK K
     try simp only [Act.put,sA,sB,sC]
     have d10:=(d2).alloc (d2).size (.cells Z5 33)
     have u10:=(Below.refl w2.heap.size w2).alloc (Nat.le_refl _) (.cells Z5 33)
     have q10:Cbox (w2.alloc (.cells Z5 33)) w2.heap.size Z5 33:=Cbox.new w2 Z5 33
     have hp10:w0.heap.size≤w2.heap.size:=(d2).size
     have o2:=z1b o2 u10
     generalize w2.alloc (.cells Z5 33)=w10 at *
     generalize w2.heap.size=p at q10 hp10 ⊢
     refine wpAnyH_ready (rs:=[5]) gK (by simp) ?_
     refine AllReadyH.cons (o:=owO5) rfl (fun K hK=>?_) AllReadyH.nil
     have sz5:=(d10).size
     refine z1r (by rfl) _ _ 23 23 (by rfl) (w.heap.size+2) 3 i0 (.int .i64 0) 1 8 Tryz.underlying23 hi hz0 hz1 hz2 rfl _ 0 [] (by rfl) o2 _ kn (ivs KEY) (by rfl) (SRK.out _ d10) (by unfold maxLen;omega) (by omega) (by have:=HZ.out;omega) ?_
     intro v5 w5 o5 g5 a5
     rw [List.nil_append,Nat.zero_add] at o5
     have d5:Below w0.heap.size w0 w5:=(d10).grown g5 sz5 (fun k hk=>by have:=(World.ownsRow.lt o2 k hk).1;have:=HZ.out;omega)
     obtain ⟨ka,kd,hv5,_⟩:=z4c (l:=KEY) (by rw [HKN.out];exact o5)
     rw [HKN.out] at hv5
     subst hv5
     have q10:=q10.grown g5 (fun e=>z3q o2 q10 (by decide) p e.symm rfl)
     refine hK.out _ _ ?_ (fun hHeld=>?_)
     ·((try dsimp only);exact TB0.out.later d5)
     clear hK K
     try simp only [owO5,Act.put,List.setIfInBounds_toArray,List.set_cons_zero,List.set_cons_succ]
     refine wpAnyH_ready (rs:=[8]) gK (by simp) ?_
     refine AllReadyH.cons (o:=owO8) rfl (fun K hK=>?_) AllReadyH.nil
     try simp only [owO8]
     go_simp
     (refine (OW _ d5).mono ?_)
     rintro e w8 ⟨⟨xa,xd,rfl,nw8,o8a⟩,b8⟩
     have d8:=z0a d5 b8
     have o8:=z1n.base_le (b':=(w.heap.size+2)) o8a (by have:=(d5).size;have:=HZ.out;omega)
     have o5:=z1b o5 b8
     have q10:=q10.later b8
     refine hK.out _ _ ?_ (fun hHeld=>?_)
     ·((try dsimp only);exact TB0.out.later d8)
     clear hK K
     try simp only [Act.put,sA,sB,sC]
     refine wpAnyH_take (i:=9) (oi:=owO9) (v:=?_) rfl gK gK gK (fun _ _ _ h=>h) (Or.inl ⟨by rfl,?_⟩) (by assumption) ?_
     rotate_left
     ·(intro W hSw;(try dsimp only at hSw);try simp only [owO9];first|(go_simp;done)|(go_simp;with_reducible rfl))
     try simp only [owO9,Act.put,List.setIfInBounds_toArray,List.set_cons_zero,List.set_cons_succ]
     refine wpAnyH_ready (rs:=[11]) gK (by simp) ?_
     refine AllReadyH.cons (o:=z9p) rfl (fun K hK=>?_) AllReadyH.nil
     have y0:=q10.at 0
     have f0:=q10.free 0
     have y1:=q10.at 1
     have f1:=q10.free 1
     have y2:=q10.at 2
     have f2:=q10.free 2
     have y3:=q10.at 3
     have f3:=q10.free 3
     have y4:=q10.at 4
     have f4:=q10.free 4
     have ql:=q10.lt
     simp at y0 y1 y2 y3 y4
     have Q5:=z0q (z0q (z0q (z0q (z0q q10 0 (.string NB)) 1 (.slice none 0 0)) 2 (.slice ka kn kd)) 3 (.slice none 0 0)) 4 (.slice xa xn xd)
     have G5:=store5 w8 p (.string NB) (.slice none 0 0) (.slice ka kn kd) (.slice none 0 0) (.slice xa xn xd)
     have hzz:=HZ.out
     have TBF:=(TB0.out.later d8).grown G5 (by simp;omega)
     have RBF:=(RB0.out.later d8).grown G5 (by simp;omega)
     have BF:=(Bw0.out.trans ((d8).mono (by omega))).grown G5 (by have:=(d8).size;omega) (fun k hk=>by have:=Option.some.inj hk;omega)
     have OK5:=z1c o5 G5 (fun g hg e=>z3q o5 q10 (by decide) g hg (Option.some.inj e))
     have OX5:=z1c o8 G5 (fun g hg e=>z3q o8 q10 (by decide) g hg (Option.some.inj e))
     try simp only [z9p]
     go_simp
     refine hK.out _ _ ?_ (fun hHeld=>?_)
     ·((try dsimp only);exact TBF)
     clear hK K
     try simp only [z9p,Act.put,List.setIfInBounds_toArray,List.set_cons_zero,List.set_cons_succ]
     refine wpAnyH_done gK ?_ _
     clear y0 y1 y2 y3 y4 f0 f1 f2 f3 f4 ql q10 hHeld G5
     simp only [Z5,List.setIfInBounds_toArray,List.set_cons_zero,List.set_cons_succ] at Q5
     generalize ((((w8.setCell ⟨p,0,none⟩ (.string NB)).setCell ⟨p,1,none⟩ (.slice none 0 0)).setCell ⟨p,2,none⟩ (.slice ka kn kd)).setCell ⟨p,3,none⟩ (.slice none 0 0)).setCell ⟨p,4,none⟩ (.slice xa xn xd)=w11 at *
     go_wp2_with fail
     go_meet
     exact ⟨p,.slice ka kn kd,.slice xa xn xd,rfl,⟨BF,TBF,RBF,Q5,by omega,by rw [HKE.out,HKN.out];exact OK5,(by have:=OX5;unfold z1n at this ⊢;exact this),World.ownsRow_nil _ _ _ _,World.ownsRow_nil _ _ _ _,rfl,fun i h=>by simp at h⟩⟩
   ·
    try simp only [owO10]
    go_simp
    refine hK.out _ _ ?_ (fun hHeld=>?_)
    ·((try dsimp only);first|exact TB0.out.later (((Below.refl _ w0).alloc (Nat.le_refl _) (.cells Z5 33)).drew)|exact TB0.out.later ((Below.refl _ w0).drew.alloc (Nat.le_refl _) (.cells Z5 33)))
    clear hK K
    try simp only [Act.put,sA,sB,sC]
    have d10:=((Below.refl _ w0).alloc (Nat.le_refl _) (.cells Z5 33)).drew
    have u10:=((Below.refl w0.heap.size w0).alloc (Nat.le_refl _) (.cells Z5 33)).drew
    have q10:Cbox ((w0.alloc (.cells Z5 33)).drew) w0.heap.size Z5 33:=(Cbox.new w0 Z5 33).later ((Below.refl _ _).drew)
    have hp10:w0.heap.size≤w0.heap.size:=Nat.le_refl _
    generalize (w0.alloc (.cells Z5 33)).drew=w10 at *
    generalize hpe:w0.heap.size=p at q10 ⊢
    refine wpAnyH_ready (rs:=[2]) gK (by simp) ?_
    refine AllReadyH.cons (o:=owO2) rfl (fun K hK=>?_) AllReadyH.nil
    try simp only [owO2]
    go_simp
    refine hK.out _ _ ?_ (fun hHeld=>?_)
    ·((try dsimp only);exact TB0.out.later ((d10).alloc (d10).size (.cells #[] 3)))
    clear hK K
    try simp only [Act.put,sA,sB,sC]
    have d2:=(d10).alloc (d10).size (.cells #[] 3)
    have u2:=(Below.refl w10.heap.size w10).alloc (Nat.le_refl _) (.cells #[] 3)
    have o2:(w10.alloc (.cells #[] 3)).ownsRow (w.heap.size+2) 3 1 (.slice (some ⟨w10.heap.size,0,none⟩) 0 0) 0 []:=World.ownsRow_made (base:=(w.heap.size+2)) (e:=3) (size:=1) w10 #[] 0 (by have:=(d10).size;have:=HZ.out;omega) (by decide) (by simp)
    have q10:=q10.later u2
    generalize w10.alloc (.cells #[] 3)=w2 at *
    refine wpAnyH_ready (rs:=[5]) gK (by simp) ?_
    refine AllReadyH.cons (o:=owO5) rfl (fun K hK=>?_) AllReadyH.nil
    have sz5:=(d2).size
    refine z1r (by rfl) _ _ 23 23 (by rfl) (w.heap.size+2) 3 i0 (.int .i64 0) 1 8 Tryz.underlying23 hi hz0 hz1 hz2 rfl _ 0 [] (by rfl) o2 _ kn (ivs KEY) (by rfl) (SRK.out _ d2) (by unfold maxLen;omega) (by omega) (by have:=HZ.out;omega) ?_
    intro v5 w5 o5 g5 a5
    rw [List.nil_append,Nat.zero_add] at o5
    have d5:Below w0.heap.size w0 w5:=(d2).grown g5 sz5 (fun k hk=>by have:=(World.ownsRow.lt o2 k hk).1;have:=HZ.out;omega)
    obtain ⟨ka,kd,hv5,_⟩:=z4c (l:=KEY) (by rw [HKN.out];exact o5)
    rw [HKN.out] at hv5
    subst hv5
    have q10:=q10.grown g5 (fun e=>z3q o2 q10 (by decide) p e.symm rfl)
    refine hK.out _ _ ?_ (fun hHeld=>?_)
    ·((try dsimp only);exact TB0.out.later d5)
    clear hK K
    try simp only [owO5,Act.put,List.setIfInBounds_toArray,List.set_cons_zero,List.set_cons_succ]
    refine wpAnyH_ready (rs:=[8]) gK (by simp) ?_
    refine AllReadyH.cons (o:=owO8) rfl (fun K hK=>?_) AllReadyH.nil
    try simp only [owO8]
    go_simp
    (refine (OW _ d5).mono ?_)
    rintro e w8 ⟨⟨xa,xd,rfl,nw8,o8a⟩,b8⟩
    have d8:=z0a d5 b8
    have o8:=z1n.base_le (b':=(w.heap.size+2)) o8a (by have:=(d5).size;have:=HZ.out;omega)
    have o5:=z1b o5 b8
    have q10:=q10.later b8
    refine hK.out _ _ ?_ (fun hHeld=>?_)
    ·((try dsimp only);exact TB0.out.later d8)
    clear hK K
    try simp only [Act.put,sA,sB,sC]
    refine wpAnyH_take (i:=9) (oi:=owO9) (v:=?_) rfl gK gK gK (fun _ _ _ h=>h) (Or.inl ⟨by rfl,?_⟩) (by assumption) ?_
    rotate_left
    ·(intro W hSw;(try dsimp only at hSw);try simp only [owO9];first|(go_simp;done)|(go_simp;with_reducible rfl))
    try simp only [owO9,Act.put,List.setIfInBounds_toArray,List.set_cons_zero,List.set_cons_succ]
    refine wpAnyH_ready (rs:=[11]) gK (by simp) ?_
    refine AllReadyH.cons (o:=z9p) rfl (fun K hK=>?_) AllReadyH.nil
    have y0:=q10.at 0
    have f0:=q10.free 0
    have y1:=q10.at 1
    have f1:=q10.free 1
    have y2:=q10.at 2
    have f2:=q10.free 2
    have y3:=q10.at 3
    have f3:=q10.free 3
    have y4:=q10.at 4
    have f4:=q10.free 4
    have ql:=q10.lt
    simp at y0 y1 y2 y3 y4
    have Q5:=z0q (z0q (z0q (z0q (z0q q10 0 (.string NB)) 1 (.slice none 0 0)) 2 (.slice ka kn kd)) 3 (.slice none 0 0)) 4 (.slice xa xn xd)
    have G5:=store5 w8 p (.string NB) (.slice none 0 0) (.slice ka kn kd) (.slice none 0 0) (.slice xa xn xd)
    have hzz:=HZ.out
    have TBF:=(TB0.out.later d8).grown G5 (by simp;omega)
    have RBF:=(RB0.out.later d8).grown G5 (by simp;omega)
    have BF:=(Bw0.out.trans ((d8).mono (by omega))).grown G5 (by have:=(d8).size;omega) (fun k hk=>by have:=Option.some.inj hk;omega)
    have OK5:=z1c o5 G5 (fun g hg e=>z3q o5 q10 (by decide) g hg (Option.some.inj e))
    have OX5:=z1c o8 G5 (fun g hg e=>z3q o8 q10 (by decide) g hg (Option.some.inj e))
    try simp only [z9p]
    go_simp
    refine hK.out _ _ ?_ (fun hHeld=>?_)
    ·((try dsimp only);exact TBF)
    clear hK K
    try simp only [z9p,Act.put,List.setIfInBounds_toArray,List.set_cons_zero,List.set_cons_succ]
    refine wpAnyH_done gK ?_ _
    clear y0 y1 y2 y3 y4 f0 f1 f2 f3 f4 ql q10 hHeld G5
    simp only [Z5,List.setIfInBounds_toArray,List.set_cons_zero,List.set_cons_succ] at Q5
    generalize ((((w8.setCell ⟨p,0,none⟩ (.string NB)).setCell ⟨p,1,none⟩ (.slice none 0 0)).setCell ⟨p,2,none⟩ (.slice ka kn kd)).setCell ⟨p,3,none⟩ (.slice none 0 0)).setCell ⟨p,4,none⟩ (.slice xa xn xd)=w11 at *
    go_wp2_with fail
    go_meet
    exact ⟨p,.slice ka kn kd,.slice xa xn xd,rfl,⟨BF,TBF,RBF,Q5,by omega,by rw [HKE.out,HKN.out];exact OK5,(by have:=OX5;unfold z1n at this ⊢;exact this),World.ownsRow_nil _ _ _ _,World.ownsRow_nil _ _ _ _,rfl,fun i h=>by simp at h⟩⟩
 rename World=>w1
 obtain ⟨p,kv,xv,rfl,hS0⟩:=hcut
 clear OW SRK TB0 RB0 Bw0 HZ
 have z1:=hS0.out.tb.at 1
 simp at z1
 go_wp2_with fail
 go_loopw [4] (fun s4 wr=>∃ (k:Nat) (cv:Value),s4=.int .i64 (k:Int)∧k≤m∧Hid (OwS w wr t NB #[.string NB,.slice co m cc,.slice ko kn kc,.slice uo un uc,.slice xo xn xc] p cv (.slice none 0 0) kv xv k 0 [])) (fun r _=>m - (intOf r).toNat)
 case atStart=>exact ⟨0,_,rfl,Nat.zero_le _,hS0⟩
 case round =>
  clear z1 hS0
  obtain ⟨k,cv,rfl,hk,hS⟩:=hrel
  have z1:=hS.out.tb.at 1
  simp at z1
  have hpl:=hS.out.ob.lt
  have hpp:=hS.out.pp
  by_cases hlt:k<m
  ·have hlt':(k:Int)<(m:Int):=by omega
   have k0:(0:Int)≤(k:Int):=by omega
   have hkl:k<t.cs.length:=by rw [HM.out];exact hlt
   obtain ⟨cb,cf,rfl,hcc⟩:=HC.out (by omega)
   obtain ⟨c0,c1,c2,c3⟩:=(hcc k hkl).later hS.out.bel
   clear hcc
   have HC4:Hid (c4s t.cs[k]=[.string ⟨t.cs[k].n.toArray⟩,.int .i64 t.cs[k].k,.int .i64 t.cs[k].s,.bool t.cs[k].m]):=rfl
   generalize hcx:t.cs[k]=c at c0 c1 c2 c3
   rw [hcx] at HC4
   obtain ⟨cn,ck,cs,cm⟩:=c
   simp only at *
   have HCX:Hid (t.cs[k]=⟨cn,ck,cs,cm⟩):=hcx
   clear hcx
   generalize ByteArray.mk cn.toArray=XB at *
   have u1:Below wr.heap.size wr (wr.alloc (.cells #[.string XB,.int .i64 ck,.int .i64 cs,.bool cm] 42)):=(Below.refl _ _).alloc (Nat.le_refl _) _
   have q1:Cbox (wr.alloc (.cells #[.string XB,.int .i64 ck,.int .i64 cs,.bool cm] 42)) wr.heap.size #[.string XB,.int .i64 ck,.int .i64 cs,.bool cm] 42:=Cbox.new wr _ _
   have SA:=hS.out.later u1
   have hwa:wr.heap.size<(wr.alloc (.cells #[.string XB,.int .i64 ck,.int .i64 cs,.bool cm] 42)).heap.size:=by simp
   go_upto_region 6 with fail
   generalize wr.alloc (.cells #[.string XB,.int .i64 ck,.int .i64 cs,.bool cm] 42)=wa at *
   clear c0 c1 c2 c3 z1
   have y1:=SA.ob.at 1
   have n0:=q1.at 0
   have n1:=q1.at 1
   have n2:=q1.at 2
   have n3:=q1.at 3
   simp at y1 n0 n1 n2 n3
   have ua:Below wa.heap.size wa (wa.alloc (.cells #[.string XB,.int .i64 ck,.int .i64 cs,.bool cm] 53)):=(Below.refl _ _).alloc (Nat.le_refl _) _
   have SB:=SA.later ua
   go_wp2_with (at_builtin;refine wpList_append_lies _ rfl _ _ 30 rfl (w.heap.size+2) 53 i2 _ 4 40 Tryz.underlying30 hl hx0 hx1 hx2 rfl (by decide) _ k (ccl (t.cs.take k)) rfl SB.oc ⟨wa.heap.size,0,none⟩ 1 1 [.string XB,.int .i64 ck,.int .i64 cs,.bool cm] rfl rfl (World.news_of_block (cs:=#[.string XB,.int .i64 ck,.int .i64 cs,.bool cm]) (t:=53) (fr:=(0,0)) (heap_alloc_new wa _)) (fun x hx=>by simp at hx;rcases hx with rfl|rfl|rfl|rfl <;> rfl) (by decide) (by unfold maxLen;omega) (by omega) (by simp;omega) (wa.heap.size+1) (by simp) ?_)
   intro g1 cap1 w2 hown hgr hat hlt2
   obtain ⟨OB2,SD⟩:=SB.col (v':=.slice (some ⟨g1,0,none⟩) (k+1) cap1) hkl hgr (by rw [HCX.out,HC4.out];exact hown) (by simp;omega)
   have y1:=OB2.at 1
   have f1:=OB2.free 1
   have ol:=OB2.lt
   simp at y1
   clear hown hgr SA SB q1 n0 n1 n2 n3
   go_wp2
   generalize w2.setCell ⟨p,1,none⟩ (.slice (some ⟨g1,0,none⟩) (k+1) cap1)=w3 at *
   go_roundw
   case rel=>exact ⟨k+1,_,by go_num,by omega,SD⟩
   case measure=>simp [intOf];omega
  ·have hlt':¬ (k:Int)<(m:Int):=by omega
   obtain rfl:m=k:=by omega
   have z3:=hS.out.tb.at 3
   simp at z3
   go_wp2_with fail
   go_loopw [6] (fun s6 wr=>∃ (k2:Nat) (uv:Value) (vs:List Value),s6=.int .i64 (k2:Int)∧k2≤un∧Hid (OwS w wr t NB #[.string NB,.slice co m cc,.slice ko kn kc,.slice uo un uc,.slice xo xn xc] p cv uv kv xv m k2 vs)) (fun r _=>un - (intOf r).toNat)
   case atStart=>exact ⟨0,_,_,rfl,Nat.zero_le _,hS⟩
   case round =>
    clear z1 z3 hS hpl
    obtain ⟨k,uv,vs,rfl,hk2,hS⟩:=hrel
    have z3:=hS.out.tb.at 3
    simp at z3
    have hpl:=hS.out.ob.lt
    by_cases hlt:k<un
    ·have hlt2:(k:Int)<(un:Int):=by omega
     have k0:(0:Int)≤(k:Int):=by omega
     have hku:k<t.us.length:=by rw [HUN.out];exact hlt
     have hsz:(w.heap.size+2)≤wr.heap.size:=by omega
     obtain ⟨ub,uf,rfl,hcc⟩:=HU.out (by omega)
     obtain ⟨vo,vc,cu,hI⟩:=hcc k hku
     have hub0:=World.block_lt_of_cell? _ _ cu
     have hub:ub<w.heap.size+2:=by simp at hub0;omega
     have huz:=HUZ.out _ (List.getElem_mem hku)
     clear hcc
     have HUK:Hid (t.us[k]=t.us[k]):=rfl
     generalize hUK:t.us[k]=UK at cu hI huz
     have HUK:Hid (t.us[k]=UK):=hUK
     clear hUK
     obtain ⟨vl,hvl⟩:∃ vl,UK.length=vl:=⟨_,rfl⟩
     have HVL:Hid (UK.length=vl):=hvl
     rw [hvl] at cu huz
     have SRU:Hid (∀ W,Below wr.heap.size wr W→Src Tryz.prog 1 23 (.slice vo vl vc) vl (ivs UK) W):=fun W h=>by
      have:=src_of_iw (cap:=vc) (hI.later (z0a hS.out.bel h))
      rwa [hvl] at this
     have KQ:Hid (∀ W,Below wr.heap.size wr W→Cbox W w.heap.size #[.string NB,.slice co m cc,.slice ko kn kc,.slice (some ⟨ub,uf,none⟩) un uc,.slice xo xn xc] 27∧W.cell? ⟨ub,uf+k,none⟩=some (.slice vo vl vc)):=fun W h=>⟨hS.out.tb.later h,(z0a hS.out.bel h).cell (p:=⟨ub,uf+k,none⟩) hub0 |>.trans cu⟩
     clear hvl hI cu
     go_upto_region 10 with fail
     refine wp_region_held_drew (S:=(fun W=>Cbox W w.heap.size #[.string NB,.slice co m cc,.slice ko kn kc,.slice (some ⟨ub,uf,none⟩) un uc,.slice xo xn xc] 27∧W.cell? ⟨ub,uf+k,none⟩=some (.slice vo vl vc))) gK ?_ (fun hHeld=>?_)
     ·((try dsimp only);exact KQ.out _ ((Below.refl _ wr).drew))
     refine wpAnyH_take (i:=0) (oi:=ouO0) (v:=?_) rfl gK gK gK (fun _ _ _ h=>h) (Or.inl ⟨by rfl,?_⟩) (by assumption) ?_
     rotate_left
     ·(intro W hSw;(try dsimp only at hSw);try simp only [ouO0];first|(go_simp;done)|(go_simp;with_reducible rfl))
     try simp only [ouO0,Act.put,List.setIfInBounds_toArray,List.set_cons_zero,List.set_cons_succ]
     refine wpAnyH_take (i:=3) (oi:=ouO3) (v:=?_) rfl gK gK gK (fun _ _ _ h=>h) (Or.inl ⟨by rfl,?_⟩) (by assumption) ?_
     rotate_left
     ·(intro W hSw;(try dsimp only at hSw);try simp only [ouO3];first|(go_simp;done)|(go_simp;with_reducible rfl))
     try simp only [ouO3,Act.put,List.setIfInBounds_toArray,List.set_cons_zero,List.set_cons_succ]
     refine wpAnyH_take (i:=4) (oi:=ouO4) (v:=?_) rfl gK gK gK (fun _ _ _ h=>h) (Or.inl ⟨by rfl,?_⟩) (by assumption) ?_
     rotate_left
     ·(intro W hSw;(try dsimp only at hSw);obtain ⟨g1,g3⟩:=hSw;have e0:=g1.at 0;have e1:=g1.at 1;have e2:=g1.at 2;have e3:=g1.at 3;have e4:=g1.at 4;clear g1;try simp only [ouO4];first|(go_simp;done)|(go_simp;with_reducible rfl))
     try simp only [ouO4,Act.put,List.setIfInBounds_toArray,List.set_cons_zero,List.set_cons_succ]
     refine wpAnyH_take (i:=5) (oi:=ouO5) (v:=?_) rfl gK gK gK (fun _ _ _ h=>h) (Or.inl ⟨by rfl,?_⟩) (by assumption) ?_
     rotate_left
     ·(intro W hSw;(try dsimp only at hSw);try simp only [ouO5];first|(go_simp;done)|(go_simp;with_reducible rfl))
     try simp only [ouO5,Act.put,List.setIfInBounds_toArray,List.set_cons_zero,List.set_cons_succ]
     refine wpAnyH_take (i:=6) (oi:=ouO6) (v:=?_) rfl gK gK gK (fun _ _ _ h=>h) (Or.inl ⟨by rfl,?_⟩) (by assumption) ?_
     rotate_left
     ·(intro W hSw;(try dsimp only at hSw);try simp only [ouO6];first|(go_simp;done)|(go_simp;with_reducible rfl))
     try simp only [ouO6,Act.put,List.setIfInBounds_toArray,List.set_cons_zero,List.set_cons_succ]
     refine wpAnyH_take (i:=7) (oi:=ouO7) (v:=?_) rfl gK gK gK (fun _ _ _ h=>h) (Or.inl ⟨by rfl,?_⟩) (by assumption) ?_
     rotate_left
     ·(intro W hSw;(try dsimp only at hSw);obtain ⟨g1,g3⟩:=hSw;have e0:=g1.at 0;have e1:=g1.at 1;have e2:=g1.at 2;have e3:=g1.at 3;have e4:=g1.at 4;clear g1;try simp only [ouO7];first|(go_simp;done)|(go_simp;with_reducible rfl))
     try simp only [ouO7,Act.put,List.setIfInBounds_toArray,List.set_cons_zero,List.set_cons_succ]
     refine wpAnyH_ready (rs:=[1,2]) gK (by simp) ?_
     refine AllReadyH.cons (o:=ouO1) rfl (fun K hK=>?_) (AllReadyH.cons (o:=ouO2) rfl (fun K hK=>?_) AllReadyH.nil)
     ·
      have h3:=(hS.out.later ((Below.refl _ wr).drew)).ob.at 3
      simp at h3
      try simp only [ouO1]
      go_simp
      refine hK.out _ _ ?_ (fun hHeld=>?_)
      ·((try dsimp only);exact KQ.out _ ((Below.refl _ wr).drew))
      clear hK K
      try simp only [ouO1,Act.put,List.setIfInBounds_toArray,List.set_cons_zero,List.set_cons_succ]
      refine wpAnyH_ready (rs:=[2]) gK (by simp) ?_
      refine AllReadyH.cons (o:=ouO2) rfl (fun K hK=>?_) AllReadyH.nil
      try simp only [ouO2]
      go_simp
      refine hK.out _ _ ?_ (fun hHeld=>?_)
      ·((try dsimp only);first|exact KQ.out _ (((Below.refl _ wr).alloc (Nat.le_refl _) (.cells #[] 3)).drew)|exact KQ.out _ ((Below.refl _ wr).drew.alloc (Nat.le_refl _) (.cells #[] 3)))
      clear hK K
      try simp only [Act.put,sA,sB,sC]
      have o2:((wr.alloc (.cells #[] 3)).drew).ownsRow (w.heap.size+2) 3 1 (.slice (some ⟨wr.heap.size,0,none⟩) 0 0) 0 []:=z1b (World.ownsRow_made (base:=(w.heap.size+2)) (e:=3) (size:=1) wr #[] 0 hsz (by decide) (by simp)) ((Below.refl _ _).drew)
      have dA:=((Below.refl wr.heap.size wr).alloc (Nat.le_refl _) (.cells #[] 3)).drew
      generalize (wr.alloc (.cells #[] 3)).drew=wA at *
      refine wpAnyH_ready (rs:=[8]) gK (by simp) ?_
      refine AllReadyH.cons (o:=ouO8) rfl (fun K hK=>?_) AllReadyH.nil
      have szA:=dA.size
      refine z1r (by rfl) _ _ 23 23 (by rfl) (w.heap.size+2) 3 i0 (.int .i64 0) 1 8 Tryz.underlying23 hi hz0 hz1 hz2 rfl _ 0 [] (by rfl) o2 _ vl (ivs UK) (by rfl) (SRU.out _ dA) (by unfold maxLen;omega) (by omega) (by omega) ?_
      intro v8 wB o8 g8 a8
      rw [List.nil_append,Nat.zero_add] at o8
      have dB:Below wr.heap.size wr wB:=dA.grown g8 szA (fun x hx=>by have h1:x=wr.heap.size:=(Option.some.inj hx).symm;omega)
      obtain ⟨va8,vd8,hv8,_⟩:=z4c (l:=UK) (by rw [HVL.out];exact o8)
      rw [HVL.out] at hv8
      subst hv8
      refine hK.out _ _ ?_ (fun hHeld=>?_)
      ·((try dsimp only);exact KQ.out _ dB)
      clear hK K
      try simp only [ouO8,Act.put,List.setIfInBounds_toArray,List.set_cons_zero,List.set_cons_succ]
      refine wpAnyH_ready (rs:=[9]) gK (by simp) ?_
      refine AllReadyH.cons (o:=ouO9) rfl (fun K hK=>?_) AllReadyH.nil
      try simp only [ouO9]
      go_simp
      refine hK.out _ _ ?_ (fun hHeld=>?_)
      ·((try dsimp only);exact KQ.out _ (dB.alloc dB.size (.cells #[.slice va8 vl vd8] 23)))
      clear hK K
      try simp only [Act.put,sA,sB,sC]
      have dC:=dB.alloc dB.size (.cells #[.slice va8 vl vd8] 23)
      have n9:∀ j u,[Value.slice va8 vl vd8][j]?=some u→(wB.alloc (.cells #[.slice va8 vl vd8] 23)).cell? ((⟨wB.heap.size,0,none⟩:Addr).add j)=some u:=cell_one_new _ _ _
      have o8b:=z1b o8 ((Below.refl _ wB).alloc (Nat.le_refl _) (.cells #[.slice va8 vl vd8] 23))
      generalize wB.alloc (.cells #[.slice va8 vl vd8] 23)=wC at *
      generalize wB.heap.size=qC at *
      refine wpAnyH_ready (rs:=[10]) gK (by simp) ?_
      refine AllReadyH.cons (o:=ouO10) rfl (fun K hK=>?_) AllReadyH.nil
      have szC:=dC.size
      have SC:=hS.out.later dC
      refine step_append_lies _ (by rfl) _ _ 24 (by rfl) (w.heap.size+2) 23 i1 (.slice none 0 0) 1 24 Tryz.underlying24 hj hy0 hy1 hy2 rfl (by omega) _ k vs (by rfl) SC.ou ⟨qC,0,none⟩ 1 1 [.slice va8 vl vd8] (by rfl) (by rfl) n9 (fun x hx=>by simp at hx;subst hx;rfl) (by omega) (by unfold maxLen;omega) (by omega) (by omega) wC.heap.size rfl ?_
      intro gD cD wD oD gr atD ltD
      obtain ⟨OBX,SD⟩:=SC.uni (hku) (by rw [HUK.out];rw [HVL.out];exact o8b) gr oD (by omega)
      have hlow:∀ x,x<w.heap.size+2→some x≠uv.ownBlock:=fun x hx e=>by have:=(World.ownsRow.lt SC.ou x e.symm).1;omega
      have TBX:=SC.tb.grown gr (hlow _ (by omega))
      have CLX:wD.cell? ⟨ub,uf+k,none⟩=some (.slice vo vl vc):=(gr.cell_far ⟨ub,uf+k,none⟩ (by have:=dC.size;show ub < _;omega) (hlow ub hub)).trans ((KQ.out _ dC).2)
      refine hK.out _ _ ?_ (fun hHeld=>?_)
      ·((try dsimp only);exact ⟨TBX,CLX⟩)
      clear hK K
      try simp only [ouO10,Act.put,List.setIfInBounds_toArray,List.set_cons_zero,List.set_cons_succ]
      refine wpAnyH_take (i:=11) (oi:=z9m) (v:=?_) rfl gK gK gK (fun _ _ _ h=>h) (Or.inl ⟨by rfl,?_⟩) (by assumption) ?_
      rotate_left
      ·(intro W hSw;(try dsimp only at hSw);try simp only [z9m];first|(go_simp;done)|(go_simp;with_reducible rfl))
      try simp only [z9m,Act.put,List.setIfInBounds_toArray,List.set_cons_zero,List.set_cons_succ]
      refine wpAnyH_ready (rs:=[12]) gK (by simp) ?_
      refine AllReadyH.cons (o:=z9n) rfl (fun K hK=>?_) AllReadyH.nil
      have y0:=OBX.at 0
      have y3:=OBX.at 3
      have f3:=OBX.free 3
      have ql:=OBX.lt
      simp at y0 y3
      have OBY:=z0q OBX 3 (.slice (some ⟨gD,0,none⟩) (k+1) cD)
      have hpp:=hS.out.pp
      have TBY:=TBX.grown (z0r wD ⟨p,3,none⟩ (.slice (some ⟨gD,0,none⟩) (k+1) cD)) (by simp;omega)
      have CLY:(wD.setCell ⟨p,3,none⟩ (.slice (some ⟨gD,0,none⟩) (k+1) cD)).cell? ⟨ub,uf+k,none⟩=some (.slice vo vl vc):=((z0r wD ⟨p,3,none⟩ (.slice (some ⟨gD,0,none⟩) (k+1) cD)).cell_far ⟨ub,uf+k,none⟩ (World.block_lt_of_cell? _ _ CLX) (by simp;omega)).trans CLX
      try simp only [z9n]
      go_simp
      refine hK.out _ _ ?_ (fun hHeld=>?_)
      ·((try dsimp only);exact ⟨TBY,CLY⟩)
      clear hK K
      try simp only [z9n,Act.put,List.setIfInBounds_toArray,List.set_cons_zero,List.set_cons_succ]
      refine wpAnyH_done gK ?_ _
      clear y0 y3 f3 ql OBX OBY TBX TBY CLX CLY hHeld
      generalize wD.setCell ⟨p,3,none⟩ (.slice (some ⟨gD,0,none⟩) (k+1) cD)=wE at *
      go_wp2
      go_roundw
      case rel=>exact ⟨k+1,_,_,by go_num,by omega,SD⟩
      case measure=>simp [intOf];omega
     ·
      try simp only [ouO2]
      go_simp
      refine hK.out _ _ ?_ (fun hHeld=>?_)
      ·((try dsimp only);first|exact KQ.out _ (((Below.refl _ wr).alloc (Nat.le_refl _) (.cells #[] 3)).drew)|exact KQ.out _ ((Below.refl _ wr).drew.alloc (Nat.le_refl _) (.cells #[] 3)))
      clear hK K
      try simp only [Act.put,sA,sB,sC]
      have o2:((wr.alloc (.cells #[] 3)).drew).ownsRow (w.heap.size+2) 3 1 (.slice (some ⟨wr.heap.size,0,none⟩) 0 0) 0 []:=z1b (World.ownsRow_made (base:=(w.heap.size+2)) (e:=3) (size:=1) wr #[] 0 hsz (by decide) (by simp)) ((Below.refl _ _).drew)
      have dA:=((Below.refl wr.heap.size wr).alloc (Nat.le_refl _) (.cells #[] 3)).drew
      generalize (wr.alloc (.cells #[] 3)).drew=wA at *
      refine wpAnyH_ready (rs:=[1,8]) gK (by simp) ?_
      refine AllReadyH.cons (o:=ouO1) rfl (fun K hK=>?_) (AllReadyH.cons (o:=ouO8) rfl (fun K hK=>?_) AllReadyH.nil)
      ·
       have h3:=(hS.out.later dA).ob.at 3
       simp at h3
       try simp only [ouO1]
       go_simp
       refine hK.out _ _ ?_ (fun hHeld=>?_)
       ·((try dsimp only);exact KQ.out _ dA)
       clear hK K
       try simp only [ouO1,Act.put,List.setIfInBounds_toArray,List.set_cons_zero,List.set_cons_succ]
       refine wpAnyH_ready (rs:=[8]) gK (by simp) ?_
       refine AllReadyH.cons (o:=ouO8) rfl (fun K hK=>?_) AllReadyH.nil
       have szA:=dA.size
       refine z1r (by rfl) _ _ 23 23 (by rfl) (w.heap.size+2) 3 i0 (.int .i64 0) 1 8 Tryz.underlying23 hi hz0 hz1 hz2 rfl _ 0 [] (by rfl) o2 _ vl (ivs UK) (by rfl) (SRU.out _ dA) (by unfold maxLen;omega) (by omega) (by omega) ?_
       intro v8 wB o8 g8 a8
       rw [List.nil_append,Nat.zero_add] at o8
       have dB:Below wr.heap.size wr wB:=dA.grown g8 szA (fun x hx=>by have h1:x=wr.heap.size:=(Option.some.inj hx).symm;omega)
       obtain ⟨va8,vd8,hv8,_⟩:=z4c (l:=UK) (by rw [HVL.out];exact o8)
       rw [HVL.out] at hv8
       subst hv8
       refine hK.out _ _ ?_ (fun hHeld=>?_)
       ·((try dsimp only);exact KQ.out _ dB)
       clear hK K
       try simp only [ouO8,Act.put,List.setIfInBounds_toArray,List.set_cons_zero,List.set_cons_succ]
       refine wpAnyH_ready (rs:=[9]) gK (by simp) ?_
       refine AllReadyH.cons (o:=ouO9) rfl (fun K hK=>?_) AllReadyH.nil
       try simp only [ouO9]
       go_simp
       refine hK.out _ _ ?_ (fun hHeld=>?_)
       ·((try dsimp only);exact KQ.out _ (dB.alloc dB.size (.cells #[.slice va8 vl vd8] 23)))
       clear hK K
       try simp only [Act.put,sA,sB,sC]
       have dC:=dB.alloc dB.size (.cells #[.slice va8 vl vd8] 23)
       have n9:∀ j u,[Value.slice va8 vl vd8][j]?=some u→(wB.alloc (.cells #[.slice va8 vl vd8] 23)).cell? ((⟨wB.heap.size,0,none⟩:Addr).add j)=some u:=cell_one_new _ _ _
       have o8b:=z1b o8 ((Below.refl _ wB).alloc (Nat.le_refl _) (.cells #[.slice va8 vl vd8] 23))
       generalize wB.alloc (.cells #[.slice va8 vl vd8] 23)=wC at *
       generalize wB.heap.size=qC at *
       refine wpAnyH_ready (rs:=[10]) gK (by simp) ?_
       refine AllReadyH.cons (o:=ouO10) rfl (fun K hK=>?_) AllReadyH.nil
       have szC:=dC.size
       have SC:=hS.out.later dC
       refine step_append_lies _ (by rfl) _ _ 24 (by rfl) (w.heap.size+2) 23 i1 (.slice none 0 0) 1 24 Tryz.underlying24 hj hy0 hy1 hy2 rfl (by omega) _ k vs (by rfl) SC.ou ⟨qC,0,none⟩ 1 1 [.slice va8 vl vd8] (by rfl) (by rfl) n9 (fun x hx=>by simp at hx;subst hx;rfl) (by omega) (by unfold maxLen;omega) (by omega) (by omega) wC.heap.size rfl ?_
       intro gD cD wD oD gr atD ltD
       obtain ⟨OBX,SD⟩:=SC.uni (hku) (by rw [HUK.out];rw [HVL.out];exact o8b) gr oD (by omega)
       have hlow:∀ x,x<w.heap.size+2→some x≠uv.ownBlock:=fun x hx e=>by have:=(World.ownsRow.lt SC.ou x e.symm).1;omega
       have TBX:=SC.tb.grown gr (hlow _ (by omega))
       have CLX:wD.cell? ⟨ub,uf+k,none⟩=some (.slice vo vl vc):=(gr.cell_far ⟨ub,uf+k,none⟩ (by have:=dC.size;show ub < _;omega) (hlow ub hub)).trans ((KQ.out _ dC).2)
       refine hK.out _ _ ?_ (fun hHeld=>?_)
       ·((try dsimp only);exact ⟨TBX,CLX⟩)
       clear hK K
       try simp only [ouO10,Act.put,List.setIfInBounds_toArray,List.set_cons_zero,List.set_cons_succ]
       refine wpAnyH_take (i:=11) (oi:=z9m) (v:=?_) rfl gK gK gK (fun _ _ _ h=>h) (Or.inl ⟨by rfl,?_⟩) (by assumption) ?_
       rotate_left
       ·(intro W hSw;(try dsimp only at hSw);try simp only [z9m];first|(go_simp;done)|(go_simp;with_reducible rfl))
       try simp only [z9m,Act.put,List.setIfInBounds_toArray,List.set_cons_zero,List.set_cons_succ]
       refine wpAnyH_ready (rs:=[12]) gK (by simp) ?_
       refine AllReadyH.cons (o:=z9n) rfl (fun K hK=>?_) AllReadyH.nil
       have y0:=OBX.at 0
       have y3:=OBX.at 3
       have f3:=OBX.free 3
       have ql:=OBX.lt
       simp at y0 y3
       have OBY:=z0q OBX 3 (.slice (some ⟨gD,0,none⟩) (k+1) cD)
       have hpp:=hS.out.pp
       have TBY:=TBX.grown (z0r wD ⟨p,3,none⟩ (.slice (some ⟨gD,0,none⟩) (k+1) cD)) (by simp;omega)
       have CLY:(wD.setCell ⟨p,3,none⟩ (.slice (some ⟨gD,0,none⟩) (k+1) cD)).cell? ⟨ub,uf+k,none⟩=some (.slice vo vl vc):=((z0r wD ⟨p,3,none⟩ (.slice (some ⟨gD,0,none⟩) (k+1) cD)).cell_far ⟨ub,uf+k,none⟩ (World.block_lt_of_cell? _ _ CLX) (by simp;omega)).trans CLX
       try simp only [z9n]
       go_simp
       refine hK.out _ _ ?_ (fun hHeld=>?_)
       ·((try dsimp only);exact ⟨TBY,CLY⟩)
       clear hK K
       try simp only [z9n,Act.put,List.setIfInBounds_toArray,List.set_cons_zero,List.set_cons_succ]
       refine wpAnyH_done gK ?_ _
       clear y0 y3 f3 ql OBX OBY TBX TBY CLX CLY hHeld
       generalize wD.setCell ⟨p,3,none⟩ (.slice (some ⟨gD,0,none⟩) (k+1) cD)=wE at *
       go_wp2
       go_roundw
       case rel=>exact ⟨k+1,_,_,by go_num,by omega,SD⟩
       case measure=>simp [intOf];omega
      ·
       have szA:=dA.size
       refine z1r (by rfl) _ _ 23 23 (by rfl) (w.heap.size+2) 3 i0 (.int .i64 0) 1 8 Tryz.underlying23 hi hz0 hz1 hz2 rfl _ 0 [] (by rfl) o2 _ vl (ivs UK) (by rfl) (SRU.out _ dA) (by unfold maxLen;omega) (by omega) (by omega) ?_
       intro v8 wB o8 g8 a8
       rw [List.nil_append,Nat.zero_add] at o8
       have dB:Below wr.heap.size wr wB:=dA.grown g8 szA (fun x hx=>by have h1:x=wr.heap.size:=(Option.some.inj hx).symm;omega)
       obtain ⟨va8,vd8,hv8,_⟩:=z4c (l:=UK) (by rw [HVL.out];exact o8)
       rw [HVL.out] at hv8
       subst hv8
       refine hK.out _ _ ?_ (fun hHeld=>?_)
       ·((try dsimp only);exact KQ.out _ dB)
       clear hK K
       try simp only [ouO8,Act.put,List.setIfInBounds_toArray,List.set_cons_zero,List.set_cons_succ]
       refine wpAnyH_ready (rs:=[1,9]) gK (by simp) ?_
       refine AllReadyH.cons (o:=ouO1) rfl (fun K hK=>?_) (AllReadyH.cons (o:=ouO9) rfl (fun K hK=>?_) AllReadyH.nil)
       ·
        have h3:=(hS.out.later dB).ob.at 3
        simp at h3
        try simp only [ouO1]
        go_simp
        refine hK.out _ _ ?_ (fun hHeld=>?_)
        ·((try dsimp only);exact KQ.out _ dB)
        clear hK K
        try simp only [ouO1,Act.put,List.setIfInBounds_toArray,List.set_cons_zero,List.set_cons_succ]
        refine wpAnyH_ready (rs:=[9]) gK (by simp) ?_
        refine AllReadyH.cons (o:=ouO9) rfl (fun K hK=>?_) AllReadyH.nil
        try simp only [ouO9]
        go_simp
        refine hK.out _ _ ?_ (fun hHeld=>?_)
        ·((try dsimp only);exact KQ.out _ (dB.alloc dB.size (.cells #[.slice va8 vl vd8] 23)))
        clear hK K
        try simp only [Act.put,sA,sB,sC]
        have dC:=dB.alloc dB.size (.cells #[.slice va8 vl vd8] 23)
        have n9:∀ j u,[Value.slice va8 vl vd8][j]?=some u→(wB.alloc (.cells #[.slice va8 vl vd8] 23)).cell? ((⟨wB.heap.size,0,none⟩:Addr).add j)=some u:=cell_one_new _ _ _
        have o8b:=z1b o8 ((Below.refl _ wB).alloc (Nat.le_refl _) (.cells #[.slice va8 vl vd8] 23))
        generalize wB.alloc (.cells #[.slice va8 vl vd8] 23)=wC at *
        generalize wB.heap.size=qC at *
        refine wpAnyH_ready (rs:=[10]) gK (by simp) ?_
        refine AllReadyH.cons (o:=ouO10) rfl (fun K hK=>?_) AllReadyH.nil
        have szC:=dC.size
        have SC:=hS.out.later dC
        refine step_append_lies _ (by rfl) _ _ 24 (by rfl) (w.heap.size+2) 23 i1 (.slice none 0 0) 1 24 Tryz.underlying24 hj hy0 hy1 hy2 rfl (by omega) _ k vs (by rfl) SC.ou ⟨qC,0,none⟩ 1 1 [.slice va8 vl vd8] (by rfl) (by rfl) n9 (fun x hx=>by simp at hx;subst hx;rfl) (by omega) (by unfold maxLen;omega) (by omega) (by omega) wC.heap.size rfl ?_
        intro gD cD wD oD gr atD ltD
        obtain ⟨OBX,SD⟩:=SC.uni (hku) (by rw [HUK.out];rw [HVL.out];exact o8b) gr oD (by omega)
        have hlow:∀ x,x<w.heap.size+2→some x≠uv.ownBlock:=fun x hx e=>by have:=(World.ownsRow.lt SC.ou x e.symm).1;omega
        have TBX:=SC.tb.grown gr (hlow _ (by omega))
        have CLX:wD.cell? ⟨ub,uf+k,none⟩=some (.slice vo vl vc):=(gr.cell_far ⟨ub,uf+k,none⟩ (by have:=dC.size;show ub < _;omega) (hlow ub hub)).trans ((KQ.out _ dC).2)
        refine hK.out _ _ ?_ (fun hHeld=>?_)
        ·((try dsimp only);exact ⟨TBX,CLX⟩)
        clear hK K
        try simp only [ouO10,Act.put,List.setIfInBounds_toArray,List.set_cons_zero,List.set_cons_succ]
        refine wpAnyH_take (i:=11) (oi:=z9m) (v:=?_) rfl gK gK gK (fun _ _ _ h=>h) (Or.inl ⟨by rfl,?_⟩) (by assumption) ?_
        rotate_left
        ·(intro W hSw;(try dsimp only at hSw);try simp only [z9m];first|(go_simp;done)|(go_simp;with_reducible rfl))
        try simp only [z9m,Act.put,List.setIfInBounds_toArray,List.set_cons_zero,List.set_cons_succ]
        refine wpAnyH_ready (rs:=[12]) gK (by simp) ?_
        refine AllReadyH.cons (o:=z9n) rfl (fun K hK=>?_) AllReadyH.nil
        have y0:=OBX.at 0
        have y3:=OBX.at 3
        have f3:=OBX.free 3
        have ql:=OBX.lt
        simp at y0 y3
        have OBY:=z0q OBX 3 (.slice (some ⟨gD,0,none⟩) (k+1) cD)
        have hpp:=hS.out.pp
        have TBY:=TBX.grown (z0r wD ⟨p,3,none⟩ (.slice (some ⟨gD,0,none⟩) (k+1) cD)) (by simp;omega)
        have CLY:(wD.setCell ⟨p,3,none⟩ (.slice (some ⟨gD,0,none⟩) (k+1) cD)).cell? ⟨ub,uf+k,none⟩=some (.slice vo vl vc):=((z0r wD ⟨p,3,none⟩ (.slice (some ⟨gD,0,none⟩) (k+1) cD)).cell_far ⟨ub,uf+k,none⟩ (World.block_lt_of_cell? _ _ CLX) (by simp;omega)).trans CLX
        try simp only [z9n]
        go_simp
        refine hK.out _ _ ?_ (fun hHeld=>?_)
        ·((try dsimp only);exact ⟨TBY,CLY⟩)
        clear hK K
        try simp only [z9n,Act.put,List.setIfInBounds_toArray,List.set_cons_zero,List.set_cons_succ]
        refine wpAnyH_done gK ?_ _
        clear y0 y3 f3 ql OBX OBY TBX TBY CLX CLY hHeld
        generalize wD.setCell ⟨p,3,none⟩ (.slice (some ⟨gD,0,none⟩) (k+1) cD)=wE at *
        go_wp2
        go_roundw
        case rel=>exact ⟨k+1,_,_,by go_num,by omega,SD⟩
        case measure=>simp [intOf];omega
       ·
        try simp only [ouO9]
        go_simp
        refine hK.out _ _ ?_ (fun hHeld=>?_)
        ·((try dsimp only);exact KQ.out _ (dB.alloc dB.size (.cells #[.slice va8 vl vd8] 23)))
        clear hK K
        try simp only [Act.put,sA,sB,sC]
        have dC:=dB.alloc dB.size (.cells #[.slice va8 vl vd8] 23)
        have n9:∀ j u,[Value.slice va8 vl vd8][j]?=some u→(wB.alloc (.cells #[.slice va8 vl vd8] 23)).cell? ((⟨wB.heap.size,0,none⟩:Addr).add j)=some u:=cell_one_new _ _ _
        have o8b:=z1b o8 ((Below.refl _ wB).alloc (Nat.le_refl _) (.cells #[.slice va8 vl vd8] 23))
        generalize wB.alloc (.cells #[.slice va8 vl vd8] 23)=wC at *
        generalize wB.heap.size=qC at *
        refine wpAnyH_ready (rs:=[1]) gK (by simp) ?_
        refine AllReadyH.cons (o:=ouO1) rfl (fun K hK=>?_) AllReadyH.nil
        have h3:=(hS.out.later dC).ob.at 3
        simp at h3
        try simp only [ouO1]
        go_simp
        refine hK.out _ _ ?_ (fun hHeld=>?_)
        ·((try dsimp only);exact KQ.out _ dC)
        clear hK K
        try simp only [ouO1,Act.put,List.setIfInBounds_toArray,List.set_cons_zero,List.set_cons_succ]
        refine wpAnyH_ready (rs:=[10]) gK (by simp) ?_
        refine AllReadyH.cons (o:=ouO10) rfl (fun K hK=>?_) AllReadyH.nil
        have szC:=dC.size
        have SC:=hS.out.later dC
        refine step_append_lies _ (by rfl) _ _ 24 (by rfl) (w.heap.size+2) 23 i1 (.slice none 0 0) 1 24 Tryz.underlying24 hj hy0 hy1 hy2 rfl (by omega) _ k vs (by rfl) SC.ou ⟨qC,0,none⟩ 1 1 [.slice va8 vl vd8] (by rfl) (by rfl) n9 (fun x hx=>by simp at hx;subst hx;rfl) (by omega) (by unfold maxLen;omega) (by omega) (by omega) wC.heap.size rfl ?_
        intro gD cD wD oD gr atD ltD
        obtain ⟨OBX,SD⟩:=SC.uni (hku) (by rw [HUK.out];rw [HVL.out];exact o8b) gr oD (by omega)
        have hlow:∀ x,x<w.heap.size+2→some x≠uv.ownBlock:=fun x hx e=>by have:=(World.ownsRow.lt SC.ou x e.symm).1;omega
        have TBX:=SC.tb.grown gr (hlow _ (by omega))
        have CLX:wD.cell? ⟨ub,uf+k,none⟩=some (.slice vo vl vc):=(gr.cell_far ⟨ub,uf+k,none⟩ (by have:=dC.size;show ub < _;omega) (hlow ub hub)).trans ((KQ.out _ dC).2)
        refine hK.out _ _ ?_ (fun hHeld=>?_)
        ·((try dsimp only);exact ⟨TBX,CLX⟩)
        clear hK K
        try simp only [ouO10,Act.put,List.setIfInBounds_toArray,List.set_cons_zero,List.set_cons_succ]
        refine wpAnyH_take (i:=11) (oi:=z9m) (v:=?_) rfl gK gK gK (fun _ _ _ h=>h) (Or.inl ⟨by rfl,?_⟩) (by assumption) ?_
        rotate_left
        ·(intro W hSw;(try dsimp only at hSw);try simp only [z9m];first|(go_simp;done)|(go_simp;with_reducible rfl))
        try simp only [z9m,Act.put,List.setIfInBounds_toArray,List.set_cons_zero,List.set_cons_succ]
        refine wpAnyH_ready (rs:=[12]) gK (by simp) ?_
        refine AllReadyH.cons (o:=z9n) rfl (fun K hK=>?_) AllReadyH.nil
        have y0:=OBX.at 0
        have y3:=OBX.at 3
        have f3:=OBX.free 3
        have ql:=OBX.lt
        simp at y0 y3
        have OBY:=z0q OBX 3 (.slice (some ⟨gD,0,none⟩) (k+1) cD)
        have hpp:=hS.out.pp
        have TBY:=TBX.grown (z0r wD ⟨p,3,none⟩ (.slice (some ⟨gD,0,none⟩) (k+1) cD)) (by simp;omega)
        have CLY:(wD.setCell ⟨p,3,none⟩ (.slice (some ⟨gD,0,none⟩) (k+1) cD)).cell? ⟨ub,uf+k,none⟩=some (.slice vo vl vc):=((z0r wD ⟨p,3,none⟩ (.slice (some ⟨gD,0,none⟩) (k+1) cD)).cell_far ⟨ub,uf+k,none⟩ (World.block_lt_of_cell? _ _ CLX) (by simp;omega)).trans CLX
        try simp only [z9n]
        go_simp
        refine hK.out _ _ ?_ (fun hHeld=>?_)
        ·((try dsimp only);exact ⟨TBY,CLY⟩)
        clear hK K
        try simp only [z9n,Act.put,List.setIfInBounds_toArray,List.set_cons_zero,List.set_cons_succ]
        refine wpAnyH_done gK ?_ _
        clear y0 y3 f3 ql OBX OBY TBX TBY CLX CLY hHeld
        generalize wD.setCell ⟨p,3,none⟩ (.slice (some ⟨gD,0,none⟩) (k+1) cD)=wE at *
        go_wp2
        go_roundw
        case rel=>exact ⟨k+1,_,_,by go_num,by omega,SD⟩
        case measure=>simp [intOf];omega
    ·have hlt2:¬ (k:Int)<(un:Int):=by omega
     obtain rfl:un=k:=by omega
     have hoc:=hS.out.oc
     have hou:=hS.out.ou
     have hol:=hS.out.ol
     rw [← HM.out] at hoc
     rw [← HUN.out] at hou hol
     have hsz:(w.heap.size+2)≤wr.heap.size:=by omega
     obtain ⟨q0,g1,g2,g3,g4,_⟩:=HFin.out wr (w.heap.size+2) cv uv kv xv vs hoc hS.out.ok hS.out.ox hou hol hS.out.ov
     have G5:=store5 wr (w.heap.size+1) (.string NB) cv kv uv xv
     have kp:∀ {e:TypeId} {s n:Nat} {v:Value} {x:List Value},wr.ownsRow (w.heap.size+2) e s v n x→(((((wr.setCell ⟨w.heap.size+1,0,none⟩ (.string NB)).setCell ⟨w.heap.size+1,1,none⟩ cv).setCell ⟨w.heap.size+1,2,none⟩ kv).setCell ⟨w.heap.size+1,3,none⟩ uv).setCell ⟨w.heap.size+1,4,none⟩ xv).ownsRow (w.heap.size+2) e s v n x:=fun hv=>z1c hv G5 (fun g hg e=>by have h1:=(World.ownsRow.lt hv g hg).1;have h2:=Option.some.inj e;omega)
     obtain ⟨q1,f1,f2,f3,f4,TW⟩:=HFin.out _ (w.heap.size+2) cv uv kv xv vs (kp hoc) (kp hS.out.ok) (kp hS.out.ox) (kp hou) hol (fun i h1 h2=>kp (hS.out.ov i h1 h2))
     have BF:=hS.out.bel.grown G5 (by omega) (fun x hx=>by have:=Option.some.inj hx;omega)
     have y0:=hS.out.ob.at 0
     have y1:=hS.out.ob.at 1
     have y2:=hS.out.ob.at 2
     have y3:=hS.out.ob.at 3
     have y4:=hS.out.ob.at 4
     have r0:=hS.out.rb.at 0
     have r1:=hS.out.rb.at 1
     have r2:=hS.out.rb.at 2
     have r3:=hS.out.rb.at 3
     have r4:=hS.out.rb.at 4
     have p0:=hS.out.rb.free 0
     have p1:=hS.out.rb.free 1
     have p2:=hS.out.rb.free 2
     have p3:=hS.out.rb.free 3
     have p4:=hS.out.rb.free 4
     have rl:=hS.out.rb.lt
     simp at y0 y1 y2 y3 y4 r0 r1 r2 r3 r4
     have HVQ:Hid (#[Value.string NB,cv,kv,uv,xv]=tbcs t q1):=by show _=_;rw [f1,f2,f3,f4];exact HFQ.out q1
     clear kp G5 hoc hou hol f1 f2 f3 f4 hS
     subst g1 g2 g3 g4
     go_wp2
     refine bodyPost_ret_by (v:=.agg #[.string NB,.slice q0.co t.cs.length q0.cc,.slice q0.ko t.key.length q0.kc,.slice q0.uo t.us.length q0.uc,.slice q0.xo t.ck.length q0.xc]) ?_ rfl ⟨⟨q1,by rw [HVQ.out],TW⟩,BF⟩
     simp [results,Tryz.results5,go_sem,r0,r1,r2,r3,r4]
end Go.Proofs.YtljkonkfeiojnaaGreatDoor
