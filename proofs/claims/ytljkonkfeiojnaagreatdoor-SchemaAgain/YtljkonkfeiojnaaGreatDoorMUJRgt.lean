/-
  The contract of eval.stepped, whole.
  A stack of values of one's own.
  An append out of a whole slice at a step of a region that draws, and where the new slice lies.
  The scope of a table's columns.
  A Check that may be.
  Tables that may be.
-/
import Derived.Test.YtljkonkfeiojnaaGreatDoorMTXStp
import Derived.Deep.AppendLies
import Derived.Test.YtljkonkfeiojnaaGreatDoorMaLJumps
import Derived.Test.YtljkonkfeiojnaaGreatDoorMJJCols
import Derived.Test.YtljkonkfeiojnaaGreatDoorMKJAfB
set_option maxHeartbeats 4000000
set_option maxRecDepth 20000
namespace Go.Proofs.YtljkonkfeiojnaaGreatDoor
open Go.RowKit Go.Shelf
theorem stp_any (x:Nd) (wo ta na ro:Option Addr) (wc tc nc rc:Nat) (of:List Va) (ts ns:List (List UInt8)) (row:List Va) (w:World) (hT:Tabs w) (hP:Pw w) (hw:Vs w wo of) (ht:Sl w ta ts) (hn:Sl w na ns) (hr:Vs w ro row) (hlen:ns.length=row.length) (hl:row.length≤140737488351232) (hm:mayN x=true) (ho:(of.length:Int)=opsN x) (hi:∀ v∈of,vin v) :
  Calls Tryz.prog 61 #[ndv x,.slice wo of.length wc,scv ta na ts.length ns.length tc nc,.slice ro row.length rc] w fun e w'=>e=.returned (rs (stpR x of ts ns row))∧Below w.heap.size w w':=by
 have hops:=mayN_ops x hm
 have hfit:fitN x=true:=by unfold mayN at hm;rw [Bool.and_eq_true] at hm;exact hm.2
 have CV:z0s 81 #[ndv x,scv ta na ts.length ns.length tc nc,.slice ro row.length rc] w (rs (colR x ts ns row)):=fun W h=>colv_any x ta na ro tc nc rc ts ns row W (ht.later h) (hn.later h) (hr.later h) hlen hl
 obtain ⟨xo,xt,xn,⟨vk,vn,vm,vb⟩,xa⟩:=x
 unfold stpR
 simp only
 by_cases h1:xo=1
 ·subst h1
  rw [if_pos rfl]
  exact stp_val xt xn vb vk vn vm xa wo ta na ro wc tc nc rc ts.length ns.length row.length of.length w
 rw [if_neg h1]
 by_cases h2:xo=2
 ·subst h2
  rw [if_pos rfl]
  rcases hc:colR ⟨2,xt,xn,⟨vk,vn,vm,vb⟩,xa⟩ ts ns row with ⟨⟨rk,rn,rm,rb⟩,re⟩
  rw [hc] at CV
  exact stp_col xt xn vb vk vn vm xa wo ta na ro wc tc nc rc ts.length ns.length row.length of.length w rk rn rm re ⟨rb.toArray⟩ CV
 rw [if_neg h2]
 clear CV
 by_cases h19:xo=19
 ·subst h19
  rw [if_pos rfl]
  have F:z0s 82 #[.string ⟨xn.toArray⟩,.slice wo of.length wc] w (rs (funR xn of)):=fun W h=>qfunction_any xn wo wc of W (hT.later h) (hP.below h) (hw.later h) (by unfold opsN at hops ho;simp at hops ho;omega) hi
  rcases hc:funR xn of with ⟨⟨rk,rn,rm,rb⟩,re⟩
  rw [hc] at F
  exact stp_fun xt xn vb vk vn vm xa wo ta na ro wc tc nc rc ts.length ns.length row.length of.length w rk rn rm re ⟨rb.toArray⟩ F
 rw [if_neg h19]
 have o1:(xo==1)=false:=by rw [beq_eq_false_iff_ne];exact h1
 have o2:(xo==2)=false:=by rw [beq_eq_false_iff_ne];exact h2
 have o19:(xo==19)=false:=by rw [beq_eq_false_iff_ne];exact h19
 have hx3:3≤xo:=by
  unfold fitN at hfit
  simp only [h1,h2,h19,if_false,Bool.and_eq_true,decide_eq_true_eq] at hfit
  exact hfit.1
 unfold opsN at ho
 simp only [h19,if_false,hx3,if_true] at ho
 match of,hw,hi,ho with
 | [],_,_,ho=>simp at ho;split at ho <;> omega
 | [a],hw,hi,_ =>
  rw [if_pos (show [a].length=1 from rfl)]
  obtain ⟨b,off,rfl,hc⟩:=hw (by simp)
  have h4:At4 w b off a:=by have:=hc 0 (by simp);simpa using this
  have F:z0s 83 #[.int .i64 xo,vv a] w (rs (unR xo a)):=fun W h=>qun_any xo a W (hT.later h) (hP.below h) (hi a (by simp))
  show Calls _ _ _ _ fun e w'=>e=.returned (rs (unR xo a))∧_
  rcases hu:unR xo a with ⟨⟨rk,rn,rm,rb⟩,re⟩
  rw [hu] at F
  obtain ⟨ak,an,am,ab⟩:=a
  exact stp_one xo xt xn vb vk vn vm xa _ ta na ro wc tc nc rc ts.length ns.length row.length w b off ak an am ab rfl h4 o1 o2 o19 rk rn rm re ⟨rb.toArray⟩ F
 | [a,c],hw,hi,_ =>
  rw [if_neg (show ¬ [a,c].length=1 by simp)]
  obtain ⟨b,off,rfl,hc⟩:=hw (by simp)
  have h4:At4 w b off a:=by have:=hc 0 (by simp);simpa using this
  have g4:At4 w b (off+4) c:=by have:=hc 1 (by simp);simpa using this
  have F:z0s 84 #[.int .i64 xo,vv a,vv c] w (rs (binR xo a c)):=fun W h=>qbin_any xo a c W (hT.later h) (hP.below h) (hi a (by simp)) (hi c (by simp))
  show Calls _ _ _ _ fun e w'=>e=.returned (rs (binR xo a c))∧_
  rcases hu:binR xo a c with ⟨⟨rk,rn,rm,rb⟩,re⟩
  rw [hu] at F
  obtain ⟨ak,an,am,ab⟩:=a
  obtain ⟨ck,cn,cm,cb⟩:=c
  exact stp_two xo xt xn vb vk vn vm xa _ ta na ro wc tc nc rc ts.length ns.length row.length w b off ak an am ab ck cn cm cb rfl h4 g4 o1 o2 o19 rk rn rm re ⟨rb.toArray⟩ F
 | _::_::_::_,_,_,ho=>simp at ho;split at ho <;> omega
abbrev vcs (v:Va):Array Value:=#[.int .i64 v.k,.int .i64 v.n,.int .i64 v.m,.string ⟨v.b.toArray⟩]
def z1t (l:List Va):List Value:=l.flatMap fun v=>(vcs v).toList
theorem z8w (l:List Va):(z1t l).length=l.length*4:=by
 induction l with
 | nil=>rfl
 | cons a l ih =>
  have e:z1t (a::l)=(vcs a).toList++z1t l:=by simp [z1t]
  rw [e,List.length_append,ih,List.length_cons]
  simp
  omega
theorem vcells_app (l r:List Va):z1t (l++r)=z1t l++z1t r:=by simp [z1t]
theorem vcells_at (x:List Va):∀ (i j:Nat) (hi:i<x.length),j<4→(z1t x)[i*4+j]?=(vcs x[i])[j]?:=by
 induction x with
 | nil=>intro i j hi;simp at hi
 | cons t x ih =>
  intro i j hi hj
  have e:z1t (t::x)=(vcs t).toList++z1t x:=by simp [z1t]
  rw [e]
  cases i with
  | zero =>
   rw [List.getElem?_append_left (by simpa using hj)]
   simp
  | succ i =>
   rw [List.getElem?_append_right (by simp;omega)]
   simp at hi
   have:=ih i j hi hj
   simp only [List.getElem_cons_succ]
   rw [← this]
   congr 1
   simp;omega
theorem vcells_take (l:List Va) (f:Nat) (h:f≤l.length):(z1t l).take (f*4)=z1t (l.take f):=by
 have e:z1t l=z1t (l.take f)++z1t (l.drop f):=by rw [← vcells_app,List.take_append_drop]
 rw [e,List.take_append_of_le_length (by rw [z8w,List.length_take];omega),List.take_of_length_le (by rw [z8w,List.length_take];omega)]
theorem one_va (v:Va):∀ u∈(vcs v).toList,u.oneCell'=true:=by
 intro u hu
 simp at hu
 rcases hu with rfl|rfl|rfl|rfl <;> rfl
abbrev Vk (w:World) (base:Nat) (v:Value) (st:List Va):Prop:=w.ownsRow base 44 4 v st.length (z1t st)
theorem Vk.shape {w:World} {base:Nat} {v:Value} {st:List Va} (h:Vk w base v st) :
  ∃ ao cap,v=.slice ao st.length cap∧st.length≤cap∧(ao=none→st=[]∧cap=0)∧(∀ f,f≤st.length→Vk w base (.slice ao f cap) (st.take f))∧(∀ a,ao=some a→∃ g,a=⟨g,0,none⟩∧base≤g∧g<w.heap.size∧∀ i (h:i<st.length),At4 w g (i*4) st[i]):=by
 obtain ⟨h1,h2⟩:=h
 rcases h2 with ⟨rfl,hn⟩|⟨g,cap,cur,rfl,hb,hg,hnc,hcm,hcs,htake⟩
 ·have:st=[]:=List.length_eq_zero_iff.1 hn
  subst this
  exact ⟨none,0,rfl,Nat.le_refl _,fun _=>⟨rfl,rfl⟩,fun f hf=>by simp at hf;subst hf;exact World.ownsRow_nil _ _ _ _,fun a ha=>by cases ha⟩
 ·refine ⟨some ⟨g,0,none⟩,cap,rfl,hnc,(fun h=>by cases h),fun f hf=>?_,fun a ha=>?_⟩
  ·have e:(st.take f).length=f:=by rw [List.length_take];omega
   show w.ownsRow base _ 4 _ (st.take f).length _
   rw [e]
   refine ⟨by rw [z8w,e],.inr ⟨g,cap,cur,rfl,hb,hg,by omega,hcm,hcs,?_⟩⟩
   have:cur.toList.take (f*4)=(cur.toList.take (st.length*4)).take (f*4):=by rw [List.take_take,Nat.min_eq_left (by omega)]
   rw [this,htake,vcells_take st f hf]
  ·cases ha
   have hlt:g<w.heap.size:=by
    rcases Nat.lt_or_ge g w.heap.size with h|h
    ·exact h
    ·rw [Array.getElem?_eq_none h] at hg;cases hg
   refine ⟨g,rfl,hb,hlt,fun i hi=>?_⟩
   have hc:∀ j,j<4→w.cell? ⟨g,i*4+j,none⟩=(vcs st[i])[j]?:=by
    intro j hj
    rw [← vcells_at st i j hi hj,cell_of_row w g (i*4+j) cur _ (0,0) hg,← htake]
    rw [List.getElem?_take,if_pos (by omega)]
    simp
   exact ⟨hc 0 (by decide),hc 1 (by decide),hc 2 (by decide),hc 3 (by decide)⟩
theorem Vk.push {w:World} {base n:Nat} {d:Va} {v:Value} {st:List Va} (hl:st.length=n) (h:w.ownsRow base 44 4 v (n+1) (z1t st++(vcs d).toList)):Vk w base v (st++[d]):=by
 subst hl
 show w.ownsRow _ _ _ _ (st++[d]).length (z1t (st++[d]))
 have e1:(st++[d]).length=st.length+1:=by simp
 have e2:z1t (st++[d])=z1t st++(vcs d).toList:=by rw [vcells_app];simp [z1t]
 rw [e1,e2]
 exact h
theorem Vk.later {w w':World} {base:Nat} {v:Value} {st:List Va} (h:Vk w base v st) (hb:Below w.heap.size w w'):Vk w' base v st :=
 World.ownsRow.kept (row:=none) h ⟨hb.os,hb.tape,hb.output,hb.size,fun k hk _=>hb.block k hk⟩ (by
  cases hv:v.ownBlock with
  | none=>exact .inl rfl
  | some k=>exact .inr (by simp))
theorem At4.grown {w w':World} {p o:Nat} {v:Va} {row:Option Nat} (h:At4 w p o v) (hg:w.grownBy w' row) (hne:some p≠row):At4 w' p o v:=by
 have hl:=h.lt
 obtain ⟨h0,h1,h2,h3⟩:=h
 exact ⟨(hg.cell_far ⟨p,o,none⟩ hl hne).trans h0,(hg.cell_far ⟨p,o+1,none⟩ hl hne).trans h1,(hg.cell_far ⟨p,o+2,none⟩ hl hne).trans h2,(hg.cell_far ⟨p,o+3,none⟩ hl hne).trans h3⟩
theorem runD_one {x:Nd} {l:List Nd} {st r:List Nat} (h:runD mayN (x::l) st=some r):mayN x=true∧opsN x≤(st.length:Int)∧∃ st',st'.length=st.length - (opsN x).toNat+1∧runD mayN l st'=some r:=by
 unfold runD at h
 cases hs:stepD mayN st x with
 | none=>rw [hs] at h;cases h
 | some st' =>
  rw [hs] at h
  unfold stepD at hs
  split at hs
  case isFalse=>cases hs
  case isTrue hc =>
   refine ⟨hc.1,hc.2,st',?_,h⟩
   cases hs
   rw [List.length_append,List.length_take]
   simp
theorem dep_one {l:List Nd} (h:0<depN mayN l):l.length≤256∧∃ d,runD mayN l []=some [d]:=by
 unfold depN at h
 split at h
 case isFalse=>omega
 case isTrue hl =>
  refine ⟨hl,?_⟩
  unfold depO at h
  split at h
  ·exact ⟨_,by assumption⟩
  ·omega
end Go.Proofs.YtljkonkfeiojnaaGreatDoor

namespace Go.Proofs.YtljkonkfeiojnaaGreatDoor
open Go.RowKit Go.Shelf
section
variable {P:Program} {w:World}
theorem z7x (base:Nat) (t tx ty e:TypeId) (i:TypeInfo) (z:Value) (size bytes:Nat) (ht:P.underlying t=some (.slice e)) (hi:P.info? e=some i) (hz:i.zero=some z)
  (hsize:i.size=size) (hby:i.bytes=bytes) (hzs:z.cells.size=size)
  (v:Value) (n:Nat) (xs:List Value) (hown:w.ownsRow base e size v n xs) (x:Value) (m:Nat) (news:List Value) (hs:Src P size tx x m news w)
  (h63:n+m≤maxLen) (hbytes:(n+m)*bytes≤140737488355328) (hbase:base≤w.heap.size) :
  ∃ v' w',(Builtin.append_ #[t,tx] ty #[v,x]).run P w=.ok v' w'∧w'.ownsRow base e size v' (n+m) (xs++news)∧w.grownBy w' v.ownBlock∧(v'.ownBlock=v.ownBlock∨v'.ownBlock=some w.heap.size):=by
 subst hsize
 subst hby
 have hl:=hs.newsLen
 have hsmall:n+m≤9223372036854775807:=by simp only [maxLen] at h63;omega
 have hlen:(xs++news).length=(n+m)*i.size:=by rw [List.length_append,hown.1,hl,Nat.add_mul]
 have grown:∀ (old:Nat),old<n+m→∀ (row:Option Nat),
   (w.drew.alloc (.cells ((xs++news).toArray++Builtin.zeroCells z.cells (grownCap w (n+m) old e - (n+m))) e)).ownsRow base e i.size
    (.slice (some ⟨w.heap.size,0,none⟩) (n+m) (grownCap w (n+m) old e)) (n+m) (xs++news) ∧
   w.grownBy (w.drew.alloc (.cells ((xs++news).toArray++Builtin.zeroCells z.cells (grownCap w (n+m) old e - (n+m))) e)) row:=by
  intro old ho row
  have hge:=grownCap_ge w (n+m) old e
  have hcm:grownCap w (n+m) old e≤maxLen:=grownCap_le_maxLen w (n+m) old e h63
  refine ⟨⟨hlen,.inr ⟨w.heap.size,_,_,rfl,hbase,heap_alloc_new w.drew _,hge,hcm,?_,?_⟩⟩,⟨rfl,rfl,rfl,by simp,fun k hk _=>Below.heap_alloc w.drew _ k hk⟩⟩
  ·simp only [Array.size_append,List.size_toArray,size_zeroCells,hzs,hlen,← Nat.add_mul]
   congr 1
   omega
  ·simp only [Array.toList_append]
   rw [← hlen]
   exact List.take_left
 rcases hown.2 with ⟨rfl,rfl⟩|⟨g,cap,cur,rfl,hbg,hg,hnc,hcm,hcs,htake⟩
 ·have hx:xs=[]:=List.eq_nil_of_length_eq_zero (by simpa using hown.1)
  subst hx
  by_cases hm:m=0
  ·subst hm
   have hn:news=[]:=List.eq_nil_of_length_eq_zero (by simpa using hl)
   subst hn
   have hcl:=hs.cells
   refine ⟨.slice none 0 0,w,?_,World.ownsRow_nil w base e i.size,⟨rfl,rfl,rfl,Nat.le_refl _,fun _ _ _=>rfl⟩,.inl rfl⟩
   rcases hs.kind with ⟨e',hk⟩|hk <;> simp [Builtin.append_,run_underlying ht,run_underlying hk,sizeOf,typeInfo,hi,hs.len,hcl]
  ·have hr:=run_append_grow_src (P:=P) w t tx ty e i z ht hi hz none 0 0 [] (run_firstCells_none w.drew i.size 0 0 0) x m news hs (by omega) (by omega) (growslice_fits (by omega) hbytes)
   have hgr:=grown 0 (by omega) (Value.ownBlock (.slice none 0 0))
   exact ⟨_,_,hr,hgr.1,hgr.2,.inr rfl⟩
 ·by_cases hroom:n+m≤cap
  ·have hfit:n*i.size+news.length≤cur.size:=by rw [hl,hcs,← Nat.add_mul];exact Nat.mul_le_mul_right _ hroom
   have hr:=z4r (P:=P) t tx ty e i ht hi g n cap cur hg x m news hs hroom hfit
   refine ⟨_,_,hr,⟨hlen,.inr ⟨g,cap,_,rfl,hbg,setRow_heap w g cur _ e _ hg,hroom,hcm,?_,?_⟩⟩,⟨rfl,rfl,rfl,by simp,fun k _ hk=>setRow_other w g k _ (fun e=>hk (by simp [Value.ownBlock,e]))⟩,.inl rfl⟩
   ·simp only [List.size_toArray,List.length_append,List.length_take,List.length_drop,Array.length_toList]
    omega
   ·rw [htake,← hlen]
    exact List.take_left
  ·have holds:∀ j u,xs[j]?=some u→w.drew.cell? ((⟨g,0,none⟩:Addr).add j)=some u:=hown.cells (g:=g) rfl
   have hr:=run_append_grow_src (P:=P) w t tx ty e i z ht hi hz (some ⟨g,0,none⟩) n cap xs (run_firstCells_some w.drew i.size n ⟨g,0,none⟩ n cap xs hown.1 holds) x m news hs (by omega) (by omega) (growslice_fits (by omega) hbytes)
   have hgr:=grown cap (by omega) (Value.ownBlock (.slice (some ⟨g,0,none⟩) n cap))
   exact ⟨_,_,hr,hgr.1,hgr.2,.inr rfl⟩
theorem z1r {ops:Array Oper} {o:Oper} {a:Act} {K:Act→World→Prop} {Q:Exit→Act→World→Prop} {E:Prop} (hgd:o.guard=none) (s x:Operand) (t tx:TypeId)
  (ho:o.op=.call { callee:=.builtin .append,args:=#[s,x],argTypes:=#[t,tx] })
  (base:Nat) (e:TypeId) (i:TypeInfo) (z:Value) (size bytes:Nat) (ht:P.underlying t=some (.slice e)) (hi:P.info? e=some i) (hz:i.zero=some z)
  (hsize:i.size=size) (hby:i.bytes=bytes) (hzs:z.cells.size=size)
  (v:Value) (n:Nat) (xs:List Value) (hv:a.eval s=v) (hown:w.ownsRow base e size v n xs)
  (xv:Value) (m:Nat) (news:List Value) (hx:a.eval x=xv) (hs:Src P size tx xv m news w)
  (h63:n+m≤maxLen) (hbytes:(n+m)*bytes≤140737488355328) (hbase:base≤w.heap.size)
  (h:∀ v' w',w'.ownsRow base e size v' (n+m) (xs++news)→w.grownBy w' v.ownBlock→(v'.ownBlock=v.ownBlock∨v'.ownBlock=some w.heap.size)→K (a.put o.dst v') w') :
  if Region.wanted o (yielded ops a.tmps)=true then Oper.wp P o a w K Q else E:=by
 have hw:Region.wanted o (yielded ops a.tmps)=true:=by simp [Region.wanted,hgd]
 rw [if_pos hw]
 obtain ⟨v',w',hr,h2,h3,h4⟩:=z7x (P:=P) base t tx o.type e i z size bytes ht hi hz hsize hby hzs v n xs hown xv m news hs h63 hbytes hbase
 unfold Oper.wp execOp
 simp only [ho,resolve,invoke,builtin,Sem.run_bind,Sem.run_pure,Result.andThen_ok,List.map_toArray,List.map_cons,List.map_nil,hv,hx,hr]
 exact h v' w' h2 h3 h4
end
def svT (ts:List (List UInt8)):List Value:=ts.map fun t=>.string ⟨t.toArray⟩
theorem sl_of_own {w:World} {base:Nat} {v:Value} {l:List (List UInt8)} (h:w.ownsRow base 9 1 v l.length (svT l)):∃ ao cap,v=.slice ao l.length cap∧Sl w ao l:=by
 obtain ⟨h1,h2⟩:=h
 rcases h2 with ⟨rfl,hn⟩|⟨g,cap,cur,rfl,hb,hg,hnc,hcm,hcs,htake⟩
 ·have:l=[]:=List.eq_nil_of_length_eq_zero hn
  subst this
  exact ⟨none,0,rfl,fun h=>by simp at h⟩
 ·refine ⟨some ⟨g,0,none⟩,cap,rfl,fun _=>⟨g,0,rfl,fun i hi=>?_⟩⟩
  rw [Nat.zero_add,cell_of_row w g i cur 9 (0,0) hg]
  have h3:cur[i]?=(cur.toList.take (l.length*1))[i]?:=by
   rw [List.getElem?_take,if_pos (by omega)];simp
  rw [h3,htake]
  simp [svT,hi]
theorem z1c {w w':World} {base n:Nat} {e:TypeId} {size:Nat} {v:Value} {xs:List Value} {row:Option Nat} (h:w.ownsRow base e size v n xs) (hg:w.grownBy w' row) (hne:∀ k,v.ownBlock=some k→some k≠row):w'.ownsRow base e size v n xs :=
 World.ownsRow.kept (row:=row) h hg (by
  cases hv:v.ownBlock with
  | none=>exact .inl rfl
  | some k=>exact .inr (fun e=>hne k hv e))
theorem z0r (w:World) (a:Addr) (u:Value):w.grownBy (w.setCell a u) (some a.block) :=
 ⟨rfl,rfl,rfl,by simp [World.setCell],fun k _ hk=>Below.heap_setCell _ _ _ _ (fun e=>hk (by rw [e]))⟩
theorem z6p {w:World} {base n:Nat} {e:TypeId} {size:Nat} {v:Value} {xs:List Value} (h:w.ownsRow base e size v n xs) (a:Addr) (u:Value) (hb:a.block<base):(w.setCell a u).ownsRow base e size v n xs :=
 z1c h (z0r w a u) (fun k hk e=>by
  have h1:=(World.ownsRow.lt h k hk).1
  have h2:k=a.block:=Option.some.inj e
  omega)
end Go.Proofs.YtljkonkfeiojnaaGreatDoor

namespace Go.Proofs.YtljkonkfeiojnaaGreatDoor
open Go.RowKit Go.Shelf
attribute [local go_sem] z0f z0b z0c z0e z0m z0k z0h z0d z0g
theorem infoStrJ:(Tryz.prog.info? 9).map (fun i=>(i.zero,i.size,i.bytes))=some (some (.string ⟨#[]⟩),1,16):=by kernel_rfl
structure ScS (w wr:World) (k:Nat) (al:List UInt8) (l:List Co) (cs:Array Value) (tv nv:Value):Prop where
 bel:Below w.heap.size w wr
 tb:Cbox wr w.heap.size cs 33
 rb:Cbox wr (w.heap.size+1) #[.slice none 0 0,.slice none 0 0] 80
 sb:Cbox wr (w.heap.size+2) #[tv,nv] 80
 ot:wr.ownsRow (w.heap.size+3) 9 1 tv k (svT (List.replicate k al))
 on:wr.ownsRow (w.heap.size+3) 9 1 nv k (svT ((l.take k).map Co.n))
 ap:∀ g,tv.ownBlock=some g→nv.ownBlock≠some g
theorem z0q {w:World} {p:Nat} {cs:Array Value} {ty:TypeId} (h:Cbox w p cs ty) (j:Nat) (v:Value):Cbox (w.setCell ⟨p,j,none⟩ v) p (cs.setIfInBounds j v) ty:=heap_setCell_same w p j cs ty v h
theorem svT_snoc (l:List (List UInt8)) (x:List UInt8):svT (l++[x])=svT l++[.string ⟨x.toArray⟩]:=by simp [svT]
theorem z1g {w w':World} (h:Below w.heap.size w w') (a:Addr) (v:Value) (ha:w.heap.size≤a.block):Below w.heap.size w (w'.setCell a v):=h.setCell (p:=a) ha v
theorem scoped_any (N:ByteArray) (co ko uo xo:Option Addr) (cc kn kc un uc xn xc:Nat) (l:List Co) (al:List UInt8) (w:World) (hc:Cw w co l) (hl:l.length≤16) :
  Calls Tryz.prog 38 #[.agg #[.string N,.slice co l.length cc,.slice ko kn kc,.slice uo un uc,.slice xo xn xc],.string ⟨al.toArray⟩] w fun e w'=>(∃ ta na tc nc,e=.returned (scv ta na l.length l.length tc nc)∧Sl w' ta (List.replicate l.length al)∧Sl w' na (l.map Co.n))∧Below w.heap.size w w':=by
 obtain ⟨i0,hi,hz0,hz1,hz2⟩:=info_parts infoStrJ
 obtain ⟨m,hm⟩:∃ m,l.length=m:=⟨_,rfl⟩
 have HM:Hid (l.length=m):=hm
 have HC:Hid (Cw w co l):=hc
 rw [hm] at hl ⊢
 clear hm hc
 obtain ⟨AL,hAL⟩:∃ AL:ByteArray,AL=⟨al.toArray⟩:=⟨_,rfl⟩
 have HAL:Hid (AL=⟨al.toArray⟩):=hAL
 rw [← hAL]
 clear hAL
 have b1:Below w.heap.size w (w.alloc (.cells #[.string N,.slice co m cc,.slice ko kn kc,.slice uo un uc,.slice xo xn xc] 33)):=(Below.refl _ _).alloc (Nat.le_refl _) _
 have t1:Cbox (w.alloc (.cells #[.string N,.slice co m cc,.slice ko kn kc,.slice uo un uc,.slice xo xn xc] 33)) w.heap.size #[.string N,.slice co m cc,.slice ko kn kc,.slice uo un uc,.slice xo xn xc] 33:=Cbox.new w _ _
 have b2:=b1.alloc b1.size (.cells #[.slice none 0 0,.slice none 0 0] 80)
 have r2:=Cbox.new (w.alloc (.cells #[.string N,.slice co m cc,.slice ko kn kc,.slice uo un uc,.slice xo xn xc] 33)) #[.slice none 0 0,.slice none 0 0] 80
 have t2:=t1.later ((Below.refl _ _).alloc (Nat.le_refl _) (.cells #[.slice none 0 0,.slice none 0 0] 80))
 have b3:=b2.alloc b2.size (.cells #[.slice none 0 0,.slice none 0 0] 80)
 have s3:=Cbox.new ((w.alloc (.cells #[.string N,.slice co m cc,.slice ko kn kc,.slice uo un uc,.slice xo xn xc] 33)).alloc (.cells #[.slice none 0 0,.slice none 0 0] 80)) #[.slice none 0 0,.slice none 0 0] 80
 have t3:=t2.later ((Below.refl _ _).alloc (Nat.le_refl _) (.cells #[.slice none 0 0,.slice none 0 0] 80))
 have r3:=r2.later ((Below.refl _ _).alloc (Nat.le_refl _) (.cells #[.slice none 0 0,.slice none 0 0] 80))
 simp only [World.size_alloc] at s3 r3
 have S0:ScS w (((w.alloc (.cells #[.string N,.slice co m cc,.slice ko kn kc,.slice uo un uc,.slice xo xn xc] 33)).alloc (.cells #[.slice none 0 0,.slice none 0 0] 80)).alloc (.cells #[.slice none 0 0,.slice none 0 0] 80)) 0 al l #[.string N,.slice co m cc,.slice ko kn kc,.slice uo un uc,.slice xo xn xc] (.slice none 0 0) (.slice none 0 0) :=
  ⟨b3,t3,r3,s3,World.ownsRow_nil _ _ _ _,World.ownsRow_nil _ _ _ _,fun g h=>by cases h⟩
 have hz:(((w.alloc (.cells #[.string N,.slice co m cc,.slice ko kn kc,.slice uo un uc,.slice xo xn xc] 33)).alloc (.cells #[.slice none 0 0,.slice none 0 0] 80)).alloc (.cells #[.slice none 0 0,.slice none 0 0] 80)).heap.size=w.heap.size+3:=by simp
 clear b1 t1 b2 r2 t2 b3 s3 t3 r3
 go_enter Tryz.func38,Tryz.ntmps38
 go_upto_region 2 with fail
 generalize ((w.alloc (.cells #[.string N,.slice co m cc,.slice ko kn kc,.slice uo un uc,.slice xo xn xc] 33)).alloc (.cells #[.slice none 0 0,.slice none 0 0] 80)).alloc (.cells #[.slice none 0 0,.slice none 0 0] 80)=w0 at *
 have z1:=S0.tb.at 1
 go_wp2
 go_loopw [11] (fun r wr=>∃ (k:Nat) (tv nv:Value),r=.int .i64 (k:Int)∧k≤m∧w.heap.size+3≤wr.heap.size∧Hid (ScS w wr k al l #[.string N,.slice co m cc,.slice ko kn kc,.slice uo un uc,.slice xo xn xc] tv nv)) (fun r _=>m - (intOf r).toNat)
 case atStart=>exact ⟨0,_,_,rfl,Nat.zero_le _,by omega,S0⟩
 case round =>
  clear z1 S0 hz
  obtain ⟨k,tv,nv,rfl,hk,hsz,hS⟩:=hrel
  by_cases hlt:k<m
  ·have hlt':(k:Int)<(m:Int):=by omega
   have k0:(0:Int)≤(k:Int):=by omega
   have hkl:k<l.length:=by rw [HM.out];exact hlt
   obtain ⟨b,off,rfl,hcc⟩:=HC.out (by omega)
   obtain ⟨c0,c1,c2,c3⟩:=(hcc k hkl).later hS.out.bel
   clear hcc
   have HR:Hid (List.replicate (k+1) al=List.replicate k al++[al]):=List.replicate_succ'
   have HNs:Hid ((l.take (k+1)).map Co.n=(l.take k).map Co.n++[l[k].n]):=by show _=_;rw [List.take_succ_eq_append_getElem hkl,List.map_append];rfl
   generalize l[k]=c at *
   obtain ⟨cn,ck,cs,cm⟩:=c
   simp only at *
   obtain ⟨NB,hNB⟩:∃ NB:ByteArray,NB=⟨cn.toArray⟩:=⟨_,rfl⟩
   have HNB:Hid (NB=⟨cn.toArray⟩):=hNB
   rw [← hNB] at c0
   clear hNB
   have u1:Below wr.heap.size wr (wr.alloc (.cells #[.string NB,.int .i64 ck,.int .i64 cs,.bool cm] 53)):=(Below.refl _ _).alloc (Nat.le_refl _) _
   have q1:Cbox (wr.alloc (.cells #[.string NB,.int .i64 ck,.int .i64 cs,.bool cm] 53)) wr.heap.size #[.string NB,.int .i64 ck,.int .i64 cs,.bool cm] 53:=Cbox.new wr _ _
   have B1:=z0a hS.out.bel u1
   have T1:=hS.out.tb.later u1
   have R1:=hS.out.rb.later u1
   have S1:=hS.out.sb.later u1
   have O1:=World.ownsRow.alloc hS.out.ot (.cells #[.string NB,.int .i64 ck,.int .i64 cs,.bool cm] 53)
   have P1:=World.ownsRow.alloc hS.out.on (.cells #[.string NB,.int .i64 ck,.int .i64 cs,.bool cm] 53)
   have AP:=hS.out.ap
   have ht1:tv.ownBlock=some w.heap.size→False:=fun e=>by have:=(World.ownsRow.lt O1 _ e).1;omega
   have hS1:wr.heap.size<(wr.alloc (.cells #[.string NB,.int .i64 ck,.int .i64 cs,.bool cm] 53)).heap.size:=by simp
   have hot:=fun g e=>World.ownsRow.lt hS.out.ot g e
   have hon:=fun g e=>World.ownsRow.lt hS.out.on g e
   go_upto_region 5 with fail
   generalize wr.alloc (.cells #[.string NB,.int .i64 ck,.int .i64 cs,.bool cm] 53)=wa at *
   clear c0 c1 c2 c3
   have y0:=S1.at 0
   have y1:=S1.at 1
   have f0:=S1.free 0
   have sl1:=S1.lt
   have ns:=B1.size
   simp at y0 y1
   go_wp2_with (at_builtin;refine wpList_append_lies _ rfl _ _ 47 rfl (w.heap.size+3) 9 i0 (.string ⟨#[]⟩) 1 16 Tryz.underlying47 hi hz0 hz1 hz2 rfl (by decide) _ k (svT (List.replicate k al)) rfl (World.ownsRow.alloc O1 _) ⟨wa.heap.size,0,none⟩ 1 1 [.string AL] rfl rfl (cell_one_new _ _ _) (fun x hx=>by simp at hx;subst hx;rfl) (by decide) (by unfold maxLen;omega) (by omega) (by simp;omega) (wa.heap.size+1) (by simp) ?_)
   intro g1 cap1 w2 hown1 hgr1 hat1 hlt1
   have u2:Below wa.heap.size wa (wa.alloc (.cells #[.string AL] 9)):=(Below.refl _ _).alloc (Nat.le_refl _) _
   have hnt:∀ x,x<w.heap.size+3→some x≠tv.ownBlock:=fun x hx e=>by have:=(World.ownsRow.lt O1 x e.symm).1;omega
   have B2:Below w.heap.size w w2:=(z0a B1 u2).grown hgr1 (by simp;omega) (fun g e=>by have:=(hot g e).1;omega)
   have T2:=(T1.later u2).grown hgr1 (hnt _ (by omega))
   have R2:=(R1.later u2).grown hgr1 (hnt _ (by omega))
   have S2:=(S1.later u2).grown hgr1 (hnt _ (by omega))
   have q2:=(q1.later u2).grown hgr1 (fun e=>by have:=(hot _ e.symm).2;omega)
   have P2:=z1c (World.ownsRow.alloc P1 (.cells #[.string AL] 9)) hgr1 (fun g e e2=>AP g e2.symm e)
   have hap2:nv.ownBlock≠some g1:=fun e=>by
    rcases hat1 with h|h
    ·exact AP g1 h e
    ·have:=(World.ownsRow.lt P1 g1 e).2;omega
   clear u2 y0 y1 f0 T1 R1 S1 q1 P1 B1 O1 sl1
   have y0:=S2.at 0
   have y1:=S2.at 1
   have f0:=S2.free 0
   have sl2:=S2.lt
   have gs2:=hgr1.size
   simp at y0 y1 gs2
   have T3:=T2.grown (z0r w2 ⟨w.heap.size+2,0,none⟩ (.slice (some ⟨g1,0,none⟩) (k+1) cap1)) (by simp)
   have R3:=R2.grown (z0r w2 ⟨w.heap.size+2,0,none⟩ (.slice (some ⟨g1,0,none⟩) (k+1) cap1)) (by simp)
   have S3:=z0q S2 0 (.slice (some ⟨g1,0,none⟩) (k+1) cap1)
   have q3:=q2.grown (z0r w2 ⟨w.heap.size+2,0,none⟩ (.slice (some ⟨g1,0,none⟩) (k+1) cap1)) (by simp;omega)
   have O3:=z6p hown1 ⟨w.heap.size+2,0,none⟩ (.slice (some ⟨g1,0,none⟩) (k+1) cap1) (by simp)
   have P3:=z6p P2 ⟨w.heap.size+2,0,none⟩ (.slice (some ⟨g1,0,none⟩) (k+1) cap1) (by simp)
   have B3:=z1g B2 ⟨w.heap.size+2,0,none⟩ (.slice (some ⟨g1,0,none⟩) (k+1) cap1) (by simp)
   have hz3:w2.heap.size≤(w2.setCell ⟨w.heap.size+2,0,none⟩ (.slice (some ⟨g1,0,none⟩) (k+1) cap1)).heap.size:=by simp [World.setCell]
   go_upto_region 6 with fail
   generalize w2.setCell ⟨w.heap.size+2,0,none⟩ (.slice (some ⟨g1,0,none⟩) (k+1) cap1)=wb at *
   clear T2 R2 S2 q2 P2 B2 hown1 hgr1 y0 y1 f0
   simp only [List.setIfInBounds_toArray,List.set_cons_zero] at S3
   have y0:=S3.at 0
   have y1:=S3.at 1
   have f1:=S3.free 1
   have sl3:=S3.lt
   have n0:=q3.at 0
   simp at y0 y1 n0
   go_wp2_with (at_builtin;refine wpList_append_lies _ rfl _ _ 47 rfl (w.heap.size+3) 9 i0 (.string ⟨#[]⟩) 1 16 Tryz.underlying47 hi hz0 hz1 hz2 rfl (by decide) _ k (svT ((l.take k).map Co.n)) rfl (World.ownsRow.alloc P3 _) ⟨wb.heap.size,0,none⟩ 1 1 [.string NB] rfl rfl (cell_one_new _ _ _) (fun x hx=>by simp at hx;subst hx;rfl) (by decide) (by unfold maxLen;omega) (by omega) (by simp;omega) (wb.heap.size+1) (by simp) ?_)
   intro g2 cap2 w4 hown2 hgr2 hat2 hlt2
   have u4:Below wb.heap.size wb (wb.alloc (.cells #[.string NB] 9)):=(Below.refl _ _).alloc (Nat.le_refl _) _
   have hnn:∀ x,x<w.heap.size+3→some x≠nv.ownBlock:=fun x hx e=>by have:=(World.ownsRow.lt P3 x e.symm).1;omega
   have B4:Below w.heap.size w w4:=(z0a B3 u4).grown hgr2 (by simp;omega) (fun g e=>by have:=(World.ownsRow.lt P3 g e).1;omega)
   have T4:=(T3.later u4).grown hgr2 (hnn _ (by omega))
   have R4:=(R3.later u4).grown hgr2 (hnn _ (by omega))
   have S4:=(S3.later u4).grown hgr2 (hnn _ (by omega))
   have O4:=z1c (World.ownsRow.alloc O3 (.cells #[.string NB] 9)) hgr2 (fun g e e2=>by have h1:g1=g:=Option.some.inj e;subst h1;exact hap2 e2.symm)
   have hap4:g1≠g2:=fun e=>by
    rcases hat2 with h|h
    ·exact hap2 (by rw [e];exact h)
    ·have:=(World.ownsRow.lt O3 g1 rfl).2;omega
   have gs4:=hgr2.size
   simp at gs4
   clear y0 y1 f1 u4
   have y0:=S4.at 0
   have y1:=S4.at 1
   have f1:=S4.free 1
   have sl4:=S4.lt
   simp at y0 y1
   have T5:=T4.grown (z0r w4 ⟨w.heap.size+2,1,none⟩ (.slice (some ⟨g2,0,none⟩) (k+1) cap2)) (by simp)
   have R5:=R4.grown (z0r w4 ⟨w.heap.size+2,1,none⟩ (.slice (some ⟨g2,0,none⟩) (k+1) cap2)) (by simp)
   have S5:=z0q S4 1 (.slice (some ⟨g2,0,none⟩) (k+1) cap2)
   have O5:=z6p O4 ⟨w.heap.size+2,1,none⟩ (.slice (some ⟨g2,0,none⟩) (k+1) cap2) (by simp)
   have P5:=z6p hown2 ⟨w.heap.size+2,1,none⟩ (.slice (some ⟨g2,0,none⟩) (k+1) cap2) (by simp)
   have B5:=z1g B4 ⟨w.heap.size+2,1,none⟩ (.slice (some ⟨g2,0,none⟩) (k+1) cap2) (by simp)
   have hz5:w4.heap.size≤(w4.setCell ⟨w.heap.size+2,1,none⟩ (.slice (some ⟨g2,0,none⟩) (k+1) cap2)).heap.size:=by simp [World.setCell]
   go_wp2
   generalize w4.setCell ⟨w.heap.size+2,1,none⟩ (.slice (some ⟨g2,0,none⟩) (k+1) cap2)=w5 at *
   simp only [List.setIfInBounds_toArray,List.set_cons_zero,List.set_cons_succ] at S5
   go_roundw
   case rel =>
    refine ⟨k+1,.slice (some ⟨g1,0,none⟩) (k+1) cap1,.slice (some ⟨g2,0,none⟩) (k+1) cap2,by go_num,by omega,by omega,⟨B5,T5,R5,S5,?_,?_,fun g e=>?_⟩⟩
    ·rw [HR.out,svT_snoc,← HAL.out];exact O5
    ·rw [HNs.out,svT_snoc,← HNB.out];first|exact P5|(rw [List.map_take];exact P5)
    ·have h1:g1=g:=Option.some.inj e
     subst h1
     exact fun e2=>hap4 (Option.some.inj e2).symm
   case measure=>simp [intOf];omega
  ·have hlt':¬ (k:Int)<(m:Int):=by omega
   obtain rfl:k=m:=by omega
   obtain ⟨B5,T5,R5,S5,O5,P5,_⟩:=hS.out
   have y0:=S5.at 0
   have y1:=S5.at 1
   have r0:=R5.at 0
   have r1:=R5.at 1
   have f0:=R5.free 0
   have f1:=R5.free 1
   have rl:=R5.lt
   have sl:=S5.lt
   have bs:=B5.size
   simp at y0 y1 r0 r1
   have e2:l.take k=l:=List.take_of_length_le (by rw [HM.out];omega)
   rw [e2] at P5
   have o6:=z6p (z6p O5 ⟨w.heap.size+1,0,none⟩ tv (by simp)) ⟨w.heap.size+1,1,none⟩ nv (by simp)
   have p6:=z6p (z6p P5 ⟨w.heap.size+1,0,none⟩ tv (by simp)) ⟨w.heap.size+1,1,none⟩ nv (by simp)
   have BF:=z1g (z1g B5 ⟨w.heap.size+1,0,none⟩ tv (by simp)) ⟨w.heap.size+1,1,none⟩ nv (by simp)
   obtain ⟨ta,tc,e3,st⟩:=sl_of_own (l:=List.replicate k al) (by rw [List.length_replicate];exact o6)
   obtain ⟨na,nc,e4,sn⟩:=sl_of_own (l:=l.map Co.n) (by rw [List.length_map,HM.out];exact p6)
   rw [List.length_replicate] at e3
   rw [List.length_map,HM.out] at e4
   subst e3 e4
   clear o6 p6 O5 P5 T5 e2 hS
   go_wp2
   refine bodyPost_ret_by (v:=.agg #[.slice ta k tc,.slice na k nc]) ?_ rfl (by first|exact ⟨⟨ta,na,tc,nc,rfl,st,sn⟩,BF⟩|exact ⟨⟨ta,na,⟨tc,nc,rfl⟩,st,sn⟩,BF⟩)
   simp [results,Tryz.results38,go_sem,r0,r1]
theorem colsL_le (l:List Nd):∀ out,(z5f l out).length≤out.length+l.length:=by
 induction l with
 | nil=>intro out;simp [z5f]
 | cons x l ih =>
  intro out
  have h:=ih (if x.o=2∧memN out x=false then out++[⟨2,x.t,x.n,vz0,0⟩] else out)
  rw [z5f]
  split at h
  ·rw [if_pos (by assumption)];simp at h ⊢;omega
  ·rw [if_neg (by assumption)];simp;omega
def chkP (n:List UInt8) (l:List Co) (ck:List Nd):Prop:=ck.length=0∨(0<depN mayN ck∧∀ i (h:i<(z5f ck []).length),(z5a (List.replicate l.length n) (l.map Co.n) (z5f ck [])[i].t (z5f ck [])[i].n).2=0)
instance (n:List UInt8) (l:List Co) (ck:List Nd):Decidable (chkP n l ck):=by unfold chkP;infer_instance
theorem checkR_any (n:List UInt8) (co ko uo xo:Option Addr) (cc kn kc un uc xc:Nat) (l:List Co) (ck:List Nd) (w:World) (hc:Cw w co l) (hl:l.length≤16) (hx:Nw w xo ck) (hxl:ck.length≤140737488351232) (hs:shN ck) (hT:Tabs w) :
  Calls Tryz.prog 32 #[.agg #[.string ⟨n.toArray⟩,.slice co l.length cc,.slice ko kn kc,.slice uo un uc,.slice xo ck.length xc]] w fun e w'=>e=.returned (.bool (decide (chkP n l ck)))∧Below w.heap.size w w':=by
 obtain ⟨R,hR⟩:∃ R,R=decide (chkP n l ck):=⟨_,rfl⟩
 rw [← hR]
 have HT:Hid (chkP n l ck→R=true):=fun h=>by rw [hR];exact decide_eq_true h
 have HF:Hid (¬ chkP n l ck→R=false):=fun h=>by rw [hR];exact decide_eq_false h
 have RI:∀ W,Below w.heap.size w W→_:=fun W h=>z7w xo xc ck W (hx.later h) hxl hs (hT.later h)
 have SC:∀ W,Below w.heap.size w W→_:=fun W h=>scoped_any ⟨n.toArray⟩ co ko uo xo cc kn kc un uc ck.length xc l n W (hc.later h) hl
 have CO:∀ W,Below w.heap.size w W→_:=fun W h=>columns_any xo xc ck W (hx.later h) hxl hs (hT.later h)
 have FI:Hid (∀ ta na tc nc t m W,Sl W ta (List.replicate l.length n)→Sl W na (l.map Co.n)→Calls Tryz.prog 56 #[scv ta na l.length l.length tc nc,.string ⟨t.toArray⟩,.string ⟨m.toArray⟩] W fun e w'=>e=.returned (.tuple #[.int .i64 ((z5a (List.replicate l.length n) (l.map Co.n) t m).1:Int),.int .i64 (z5a (List.replicate l.length n) (l.map Co.n) t m).2])∧Below W.heap.size W w'):=fun ta na tc nc t m W h1 h2=>by
  have:=find_any ta na tc nc (List.replicate l.length n) (l.map Co.n) t m W h1 h2 (by rw [List.length_map];omega)
  rwa [List.length_replicate,List.length_map] at this
 have HX:Hid (ck.length=0→R=true):=fun h=>HT.out (.inl h)
 have HY:Hid (ck.length≠0→¬ 0<depN mayN ck→R=false):=fun h1 h2=>HF.out (fun c=>by rcases c with c|c;exact h1 c;exact h2 c.1)
 have HG:Hid (0<depN mayN ck→(∀ i (h:i<(z5f ck []).length),(z5a (List.replicate l.length n) (l.map Co.n) (z5f ck [])[i].t (z5f ck [])[i].n).2=0)→R=true):=fun h1 h2=>HT.out (.inr ⟨h1,h2⟩)
 have HB:Hid (ck.length≠0→∀ i (h:i<(z5f ck []).length),(z5a (List.replicate l.length n) (l.map Co.n) (z5f ck [])[i].t (z5f ck [])[i].n).2≠0→R=false):=fun h0 i h h2=>HF.out (fun c=>by rcases c with c|c;exact h0 c;exact h2 (c.2 i h))
 have HCK:Hid ((z5f ck []).length≤140737488351232):=by show _≤_;have:=colsL_le ck [];simp at this;omega
 generalize List.replicate l.length n=ts at *
 generalize l.map Co.n=ns at *
 generalize hm:l.length=m at *
 generalize hxn:ck.length=xn at *
 generalize ByteArray.mk n.toArray=NB at *
 clear hR HT HF hc hx hs hT hm hxn
 have b01:Below w.heap.size w (w.alloc (.cells #[.string NB,.slice co m cc,.slice ko kn kc,.slice uo un uc,.slice xo xn xc] 33)):=(Below.refl _ _).alloc (Nat.le_refl _) _
 have A1:Cbox (w.alloc (.cells #[.string NB,.slice co m cc,.slice ko kn kc,.slice uo un uc,.slice xo xn xc] 33)) w.heap.size #[.string NB,.slice co m cc,.slice ko kn kc,.slice uo un uc,.slice xo xn xc] 33:=Cbox.new w _ _
 by_cases h0:xn=0
 ·have HS:Hid (R=true):=HX.out h0
  subst h0
  go_enter Tryz.func32,Tryz.ntmps32
  go_wp2
  go_ret
  exact ⟨by rw [HS.out];rfl,b01⟩
 have h0':((xn:Int)==0)=false:=by simp;omega
 by_cases hd:0<depN mayN ck
 case neg =>
  have HS:Hid (R=false):=HY.out h0 hd
  have RI1:=RI _ b01
  rw [decide_eq_false hd] at RI1
  clear hd RI SC CO
  go_enter Tryz.func32,Tryz.ntmps32
  go_wp2_with (go_at_call 54;refine RI1.mono ?_;rintro e w2 ⟨rfl,b2⟩)
  go_ret
  exact ⟨by rw [HS.out];rfl,z0a b01 b2⟩
 have HD:Hid (0<depN mayN ck):=hd
 have RI1:=RI _ b01
 rw [decide_eq_true hd] at RI1
 simp only [if_pos hd] at CO
 generalize z5f ck []=C at *
 clear hd RI
 go_enter Tryz.func32,Tryz.ntmps32
 go_upto_region 1 with fail
 generalize w.alloc (.cells #[.string NB,.slice co m cc,.slice ko kn kc,.slice uo un uc,.slice xo xn xc] 33)=w1 at *
 have z0:=A1.at 0
 have z1:=A1.at 1
 have z2:=A1.at 2
 have z3:=A1.at 3
 have z4:=A1.at 4
 go_wp2_with fail
 refine RI1.mono ?_
 rintro e w2 ⟨rfl,b2⟩
 have B2:=z0a b01 b2
 have A2:=A1.later b2
 clear z0 z1 z2 z3 z4
 have z0:=A2.at 0
 have z1:=A2.at 1
 have z2:=A2.at 2
 have z3:=A2.at 3
 have z4:=A2.at 4
 go_wp2_with fail
 refine (SC _ B2).mono ?_
 rintro e w3 ⟨⟨ta,na,tc,nc,rfl,st,sn⟩,b3⟩
 have B3:=z0a B2 b3
 have A3:=A2.later b3
 have u3:Below w3.heap.size w3 (w3.alloc (.cells #[.slice ta m tc,.slice na m nc] 80)):=(Below.refl _ _).alloc (Nat.le_refl _) _
 have S4:Cbox (w3.alloc (.cells #[.slice ta m tc,.slice na m nc] 80)) w3.heap.size #[.slice ta m tc,.slice na m nc] 80:=Cbox.new w3 _ _
 have B4:=z0a B3 u3
 have A4:=A3.later u3
 have st4:=st.later u3
 have sn4:=sn.later u3
 clear z0 z1 z2 z3 z4
 go_upto_region 6 with fail
 generalize hq:w3.heap.size=q at *
 generalize w3.alloc (.cells #[.slice ta m tc,.slice na m nc] 80)=w4 at *
 have z4:=A4.at 4
 clear hq u3 st sn A1 A2 A3
 go_wp2_with fail
 refine (CO _ B4).mono ?_
 rintro e w5 ⟨⟨v5,rfl,o5⟩,b5⟩
 obtain ⟨a5,c5,rfl,q5⟩:=o5.lies
 have B5:=z0a B4 b5
 have S5:=S4.later b5
 have T5:Hid (Sl w5 ta ts):=st4.later b5
 have N5:Hid (Sl w5 na ns):=sn4.later b5
 have Q5:Hid (Nw w5 a5 C):=q5
 have hCl:=HCK.out
 clear o5 q5 st4 sn4 S4 A4 z4 CO SC
 obtain ⟨s,hsl⟩:∃ s,C.length=s:=⟨_,rfl⟩
 have HSL:Hid (C.length=s):=hsl
 rw [hsl]
 rw [hsl] at hCl
 clear hsl
 go_wp2_with fail
 go_loopw [24] (fun r wr=>∃ k:Nat,r=.int .i64 (k:Int)∧k≤s∧Below w5.heap.size w5 wr∧Hid (∀ i (h:i<C.length),i<k→(z5a ts ns C[i].t C[i].n).2=0)) (fun r _=>s - (intOf r).toNat)
 case atStart=>exact ⟨0,rfl,Nat.zero_le _,Below.refl _ _,fun i h h2=>by omega⟩
 case round =>
  obtain ⟨k,rfl,hk,G0,hH⟩:=hrel
  by_cases hlt:k<s
  ·have hlt':(k:Int)<(s:Int):=by omega
   have k0:(0:Int)≤(k:Int):=by omega
   have hkl:k<C.length:=by rw [HSL.out];exact hlt
   obtain ⟨b,off,rfl,hcc⟩:=Q5.out (by omega)
   obtain ⟨c0,c1,c2,c3,c4,c5',c6,c7⟩:=(hcc k hkl).later G0
   clear hcc
   have FK:=FI.out ta na tc nc C[k].t C[k].n
   have hgo:(z5a ts ns C[k].t C[k].n).2=0→∀ i (h:i<C.length),i<k+1→(z5a ts ns C[i].t C[i].n).2=0:=fun a1 i h h2=>by
    by_cases e:i=k
    ·subst e;exact a1
    ·exact hH.out i h (by omega)
   have hbd:=HB.out h0 k hkl
   generalize z5a ts ns C[k].t C[k].n=P at *
   generalize C[k]=c at *
   obtain ⟨xo1,xt,xn1,⟨xk,xv,xm,xb⟩,xa⟩:=c
   simp only at *
   generalize ByteArray.mk xt.toArray=XT at *
   generalize ByteArray.mk xn1.toArray=XN at *
   generalize ByteArray.mk xb.toArray=XB at *
   have u1:Below wr.heap.size wr (wr.alloc (.cells #[.int .i64 xo1,.string XT,.string XN,.int .i64 xk,.int .i64 xv,.int .i64 xm,.string XB,.int .i64 xa] 74)):=(Below.refl _ _).alloc (Nat.le_refl _) _
   have G1:=z0a G0 u1
   have F1:=FK _ (T5.out.later G1) (N5.out.later G1)
   have S6:=S5.later G1
   have y0:=S6.at 0
   have y1:=S6.at 1
   clear FK
   by_cases hp:P.2=0
   ·have HS:Hid (∀ i (h:i<C.length),i<k+1→(z5a ts ns C[i].t C[i].n).2=0):=hgo hp
    rw [hp] at F1
    clear hgo hbd hp
    generalize ((P.1:Nat):Int)=pv at *
    go_wp2_with fail
    refine F1.mono ?_
    rintro e w7 ⟨rfl,b7⟩
    go_wp2
    go_roundw
    case rel=>exact ⟨k+1,by go_num,by omega,z0a G1 b7,HS⟩
    case measure=>simp [intOf];omega
   ·have HS:Hid (R=false):=hbd hp
    have hp':(P.2==0)=false:=by simpa using hp
    have hp2:(P.2 != 0)=true:=by simpa using hp
    clear hgo hbd hp
    generalize P.2=pe at *
    generalize ((P.1:Nat):Int)=pv at *
    go_wp2_with fail
    refine F1.mono ?_
    rintro e w7 ⟨rfl,b7⟩
    go_wp2
    go_ret
    exact ⟨by rw [HS.out];rfl,z0a B5 (z0a G1 b7)⟩
  ·have hlt':¬ (k:Int)<(s:Int):=by omega
   have HS:Hid (R=true):=HG.out HD.out (fun i h=>hH.out i h (by rw [HSL.out] at h;omega))
   go_wp2
   go_ret
   exact ⟨by rw [HS.out];rfl,z0a B5 G0⟩
structure Tb where
 n:List UInt8
 cs:List Co
 key:List Int
 us:List (List Int)
 ck:List Nd
structure Tp where
 co:Option Addr
 ko:Option Addr
 uo:Option Addr
 xo:Option Addr
 cc:Nat
 kc:Nat
 uc:Nat
 xc:Nat
abbrev tbcs (t:Tb) (p:Tp):Array Value:=#[.string ⟨t.n.toArray⟩,.slice p.co t.cs.length p.cc,.slice p.ko t.key.length p.kc,.slice p.uo t.us.length p.uc,.slice p.xo t.ck.length p.xc]
structure TbW (w:World) (t:Tb) (p:Tp):Prop where
 c:Cw w p.co t.cs
 k:Iw w p.ko t.key
 u:Uw w p.uo t.us
 x:Nw w p.xo t.ck
 nl:t.n.length≤140737488351232
 cnl:∀ c∈t.cs,c.n.length≤140737488351232
 cl:t.cs.length≤140737488351232
 cap:t.cs.length≤p.cc
 kl:t.key.length≤140737488351232
 ul:t.us.length≤140737488351232
 uul:∀ u∈t.us,u.length≤140737488351232
 xl:t.ck.length≤140737488351232
 sh:shN t.ck
theorem TbW.later {w w':World} {t:Tb} {p:Tp} (h:TbW w t p) (hb:Below w.heap.size w w'):TbW w' t p :=
 ⟨h.c.later hb,h.k.later hb,h.u.later hb,h.x.later hb,h.nl,h.cnl,h.cl,h.cap,h.kl,h.ul,h.uul,h.xl,h.sh⟩
def tbP (t:Tb):Prop:=z6m t.n=true∧z9h t.cs∧z9k t.key t.us t.cs.length∧chkP t.n t.cs t.ck
instance (t:Tb):Decidable (tbP t):=by unfold tbP;infer_instance
theorem z8s (t:Tb) (p:Tp) (w:World) (hW:TbW w t p) (hT:Tabs w) :
  Calls Tryz.prog 13 #[.agg (tbcs t p)] w fun e w'=>e=.returned (.bool (decide (tbP t)))∧Below w.heap.size w w':=by
 have NA:=fun W=>sname_any t.n W hW.nl
 have CA:∀ W,Below w.heap.size w W→_:=fun W h=>columnsR_any p.co p.cc t.cs W (hW.c.later h) hW.cl hW.cap hW.cnl
 have KA:∀ W,Below w.heap.size w W→_:=fun W h=>keysR_any ⟨t.n.toArray⟩ p.co p.ko p.uo p.xo t.cs.length p.cc p.kc p.uc t.ck.length p.xc t.key t.us W (hW.k.later h) (hW.u.later h) hW.kl hW.ul hW.cl hW.uul
 have XA:t.cs.length≤16→∀ W,Below w.heap.size w W→_:=fun h16 W h=>checkR_any t.n p.co p.ko p.uo p.xo p.cc t.key.length p.kc t.us.length p.uc p.xc t.cs t.ck W (hW.c.later h) h16 (hW.x.later h) hW.xl hW.sh (hT.later h)
 unfold colsK at CA
 obtain ⟨R,hR⟩:∃ R,R=decide (tbP t):=⟨_,rfl⟩
 rw [← hR]
 have H1:Hid (z6m t.n=false→R=false):=fun h=>by rw [hR];exact decide_eq_false (fun c=>by have:=c.1;rw [h] at this;cases this)
 have H2:Hid (decide (z9h t.cs)=false→R=false):=fun h=>by rw [hR];exact decide_eq_false (fun c=>of_decide_eq_false h c.2.1)
 have H3:Hid (decide (z9k t.key t.us t.cs.length)=false→R=false):=fun h=>by rw [hR];exact decide_eq_false (fun c=>of_decide_eq_false h c.2.2.1)
 have H4:Hid (decide (chkP t.n t.cs t.ck)=false→R=false):=fun h=>by rw [hR];exact decide_eq_false (fun c=>of_decide_eq_false h c.2.2.2)
 have H5:Hid (z6m t.n=true→decide (z9h t.cs)=true→decide (z9k t.key t.us t.cs.length)=true→decide (chkP t.n t.cs t.ck)=true→R=true):=fun h1 h2 h3 h4=>by rw [hR];exact decide_eq_true ⟨h1,of_decide_eq_true h2,of_decide_eq_true h3,of_decide_eq_true h4⟩
 have h16:decide (z9h t.cs)=true→t.cs.length≤16:=fun h=>(of_decide_eq_true h).2.1
 clear hR hW hT
 generalize decide (z9k t.key t.us t.cs.length)=PK at *
 generalize decide (chkP t.n t.cs t.ck)=PX at *
 generalize decide (z9h t.cs)=PC at *
 generalize z6m t.n=pn at *
 unfold tbcs
 obtain ⟨n,cs,key,us,ck⟩:=t
 obtain ⟨co,ko,uo,xo,cc,kc,uc,xc⟩:=p
 simp only at *
 generalize ByteArray.mk n.toArray=NB at *
 generalize cs.length=m at *
 generalize key.length=kn at *
 generalize us.length=un at *
 generalize ck.length=xn at *
 have b01:Below w.heap.size w (w.alloc (.cells #[.string NB,.slice co m cc,.slice ko kn kc,.slice uo un uc,.slice xo xn xc] 33)):=(Below.refl _ _).alloc (Nat.le_refl _) _
 have A1:Cbox (w.alloc (.cells #[.string NB,.slice co m cc,.slice ko kn kc,.slice uo un uc,.slice xo xn xc] 33)) w.heap.size #[.string NB,.slice co m cc,.slice ko kn kc,.slice uo un uc,.slice xo xn xc] 33:=Cbox.new w _ _
 cases pn with
 | false =>
  have HS:Hid (R=false):=H1.out rfl
  go_enter Tryz.func13,Tryz.ntmps13
  go_upto_region 1 with fail
  generalize w.alloc (.cells #[.string NB,.slice co m cc,.slice ko kn kc,.slice uo un uc,.slice xo xn xc] 33)=w1 at *
  have z0:=A1.at 0
  have z1:=A1.at 1
  have z2:=A1.at 2
  have z3:=A1.at 3
  have z4:=A1.at 4
  go_wp2_with fail
  refine (NA _).mono ?_
  rintro e w2 ⟨rfl,rfl⟩
  go_wp2
  go_ret
  exact ⟨by rw [HS.out];rfl,b01⟩
 | true =>
 cases PC with
 | false =>
  have HS:Hid (R=false):=H2.out rfl
  go_enter Tryz.func13,Tryz.ntmps13
  go_upto_region 1 with fail
  generalize w.alloc (.cells #[.string NB,.slice co m cc,.slice ko kn kc,.slice uo un uc,.slice xo xn xc] 33)=w1 at *
  have z0:=A1.at 0
  have z1:=A1.at 1
  have z2:=A1.at 2
  have z3:=A1.at 3
  have z4:=A1.at 4
  go_wp2_with fail
  refine (NA _).mono ?_
  rintro e w2 ⟨rfl,rfl⟩
  go_wp2_with fail
  refine (CA _ b01).mono ?_
  rintro e w3 ⟨rfl,bw3⟩
  have Bw3:=z0a b01 bw3
  have Aw3:=A1.later bw3
  clear z0 z1 z2 z3 z4
  have z0:=Aw3.at 0
  have z1:=Aw3.at 1
  have z2:=Aw3.at 2
  have z3:=Aw3.at 3
  have z4:=Aw3.at 4
  go_wp2
  go_ret
  exact ⟨by rw [HS.out];rfl,Bw3⟩
 | true =>
 have XA:=XA (h16 rfl)
 cases PK with
 | false =>
  have HS:Hid (R=false):=H3.out rfl
  go_enter Tryz.func13,Tryz.ntmps13
  go_upto_region 1 with fail
  generalize w.alloc (.cells #[.string NB,.slice co m cc,.slice ko kn kc,.slice uo un uc,.slice xo xn xc] 33)=w1 at *
  have z0:=A1.at 0
  have z1:=A1.at 1
  have z2:=A1.at 2
  have z3:=A1.at 3
  have z4:=A1.at 4
  go_wp2_with fail
  refine (NA _).mono ?_
  rintro e w2 ⟨rfl,rfl⟩
  go_wp2_with fail
  refine (CA _ b01).mono ?_
  rintro e w3 ⟨rfl,bw3⟩
  have Bw3:=z0a b01 bw3
  have Aw3:=A1.later bw3
  clear z0 z1 z2 z3 z4
  have z0:=Aw3.at 0
  have z1:=Aw3.at 1
  have z2:=Aw3.at 2
  have z3:=Aw3.at 3
  have z4:=Aw3.at 4
  go_wp2_with fail
  refine (KA _ Bw3).mono ?_
  rintro e w4 ⟨rfl,bw4⟩
  have Bw4:=z0a Bw3 bw4
  have Aw4:=Aw3.later bw4
  clear z0 z1 z2 z3 z4
  have z0:=Aw4.at 0
  have z1:=Aw4.at 1
  have z2:=Aw4.at 2
  have z3:=Aw4.at 3
  have z4:=Aw4.at 4
  go_wp2
  go_ret
  exact ⟨by rw [HS.out];rfl,Bw4⟩
 | true =>
 cases PX with
 | false =>
  have HS:Hid (R=false):=H4.out rfl
  go_enter Tryz.func13,Tryz.ntmps13
  go_upto_region 1 with fail
  generalize w.alloc (.cells #[.string NB,.slice co m cc,.slice ko kn kc,.slice uo un uc,.slice xo xn xc] 33)=w1 at *
  have z0:=A1.at 0
  have z1:=A1.at 1
  have z2:=A1.at 2
  have z3:=A1.at 3
  have z4:=A1.at 4
  go_wp2_with fail
  refine (NA _).mono ?_
  rintro e w2 ⟨rfl,rfl⟩
  go_wp2_with fail
  refine (CA _ b01).mono ?_
  rintro e w3 ⟨rfl,bw3⟩
  have Bw3:=z0a b01 bw3
  have Aw3:=A1.later bw3
  clear z0 z1 z2 z3 z4
  have z0:=Aw3.at 0
  have z1:=Aw3.at 1
  have z2:=Aw3.at 2
  have z3:=Aw3.at 3
  have z4:=Aw3.at 4
  go_wp2_with fail
  refine (KA _ Bw3).mono ?_
  rintro e w4 ⟨rfl,bw4⟩
  have Bw4:=z0a Bw3 bw4
  have Aw4:=Aw3.later bw4
  clear z0 z1 z2 z3 z4
  have z0:=Aw4.at 0
  have z1:=Aw4.at 1
  have z2:=Aw4.at 2
  have z3:=Aw4.at 3
  have z4:=Aw4.at 4
  go_wp2_with fail
  refine (XA _ Bw4).mono ?_
  rintro e w5 ⟨rfl,bw5⟩
  have Bw5:=z0a Bw4 bw5
  have Aw5:=Aw4.later bw5
  clear z0 z1 z2 z3 z4
  have z0:=Aw5.at 0
  have z1:=Aw5.at 1
  have z2:=Aw5.at 2
  have z3:=Aw5.at 3
  have z4:=Aw5.at 4
  go_wp2
  go_ret
  exact ⟨by rw [HS.out];rfl,Bw5⟩
 | true =>
  have HS:Hid (R=true):=H5.out rfl rfl rfl rfl
  go_enter Tryz.func13,Tryz.ntmps13
  go_upto_region 1 with fail
  generalize w.alloc (.cells #[.string NB,.slice co m cc,.slice ko kn kc,.slice uo un uc,.slice xo xn xc] 33)=w1 at *
  have z0:=A1.at 0
  have z1:=A1.at 1
  have z2:=A1.at 2
  have z3:=A1.at 3
  have z4:=A1.at 4
  go_wp2_with fail
  refine (NA _).mono ?_
  rintro e w2 ⟨rfl,rfl⟩
  go_wp2_with fail
  refine (CA _ b01).mono ?_
  rintro e w3 ⟨rfl,bw3⟩
  have Bw3:=z0a b01 bw3
  have Aw3:=A1.later bw3
  clear z0 z1 z2 z3 z4
  have z0:=Aw3.at 0
  have z1:=Aw3.at 1
  have z2:=Aw3.at 2
  have z3:=Aw3.at 3
  have z4:=Aw3.at 4
  go_wp2_with fail
  refine (KA _ Bw3).mono ?_
  rintro e w4 ⟨rfl,bw4⟩
  have Bw4:=z0a Bw3 bw4
  have Aw4:=Aw3.later bw4
  clear z0 z1 z2 z3 z4
  have z0:=Aw4.at 0
  have z1:=Aw4.at 1
  have z2:=Aw4.at 2
  have z3:=Aw4.at 3
  have z4:=Aw4.at 4
  go_wp2_with fail
  refine (XA _ Bw4).mono ?_
  rintro e w5 ⟨rfl,bw5⟩
  have Bw5:=z0a Bw4 bw5
  have Aw5:=Aw4.later bw5
  clear z0 z1 z2 z3 z4
  have z0:=Aw5.at 0
  have z1:=Aw5.at 1
  have z2:=Aw5.at 2
  have z3:=Aw5.at 3
  have z4:=Aw5.at 4
  go_wp2
  go_ret
  exact ⟨by rw [HS.out];rfl,Bw5⟩
end Go.Proofs.YtljkonkfeiojnaaGreatDoor
