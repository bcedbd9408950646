/-
  A table that comes in.
  The keys of a row.
  The keys of a row of a table without Uniques; the table that longstoplaw08 knows.
-/
import Derived.Test.YtljkonkfeiojnaaGreatDoorMTXStp
import Derived.Test.YtljkonkfeiojnaaGreatDoorJOwn
import Derived.Test.YtljkonkfeiojnaaGreatDoorMXJOwnM
import Derived.Test.YtljkonkfeiojnaaGreatDoorMBVKeyB
import Derived.Deep.AppendLies
import Derived.Test.YtljkonkfeiojnaaGreatDoorMKJAfB
set_option maxHeartbeats 4000000
set_option maxRecDepth 100000
namespace Go.Proofs.YtljkonkfeiojnaaGreatDoor
open Go.ChangeShapes Go.WideShapes Go.ChangeAt Go.WideMaps Go.WideElems Go.RowKit Go.Shelf Go.Lib
theorem trod_struct48 {H:Type} {enc:TypeId × Value→H} {P:Program} {w:World} {base:Nat} {spare:Nat→Bool} {held:Bool} {t:TypeId} {f0 f1 f2 f3:Field} {fuel:Nat} {cs:List Value} {x:DataW H × List MemPlace} (ht:P.underlying t=some (.struct #[f0,f1,f2,f3])) (h:DataW.trod enc P w base spare held fuel t cs=some x) :
  ∃ y0 y1 y2 y3 n,x.1=.agg [y0.1,y1.1,y2.1,y3.1]∧cs.length=P.cellsOf t∧DataW.trod enc P w base spare held n f0.type ((cs.drop f0.offset).take (P.cellsOf f0.type))=some y0 ∧
   DataW.trod enc P w base spare held n f1.type ((cs.drop f1.offset).take (P.cellsOf f1.type))=some y1∧DataW.trod enc P w base spare held n f2.type ((cs.drop f2.offset).take (P.cellsOf f2.type))=some y2 ∧
   DataW.trod enc P w base spare held n f3.type ((cs.drop f3.offset).take (P.cellsOf f3.type))=some y3:=by
 obtain ⟨xs,n,_,rfl,hl,hlen,hf⟩:=DataW.trod_struct ht h
 match xs,hlen with
 | [y0,y1,y2,y3],_=>exact ⟨y0,y1,y2,y3,n,by simp,hl,by simpa using hf 0 f0 rfl,by simpa using hf 1 f1 rfl,by simpa using hf 2 f2 rfl,by simpa using hf 3 f3 rfl⟩
theorem list4 {cs:List Value} (h:cs.length=4):∃ c0 c1 c2 c3,cs=[c0,c1,c2,c3]:=by
 match cs,h with
 | [c0,c1,c2,c3],_=>exact ⟨c0,c1,c2,c3,rfl⟩
theorem list5 {cs:List Value} (h:cs.length=5):∃ c0 c1 c2 c3 c4,cs=[c0,c1,c2,c3,c4]:=by
 match cs,h with
 | [c0,c1,c2,c3,c4],_=>exact ⟨c0,c1,c2,c3,c4,rfl⟩
theorem col_cells {H:Type} {enc:TypeId × Value→H} {W:World} {fuel:Nat} {cs:List Value} {x:DataW H × List MemPlace}
  (hf:DataW.trod enc Tryz.prog W 0 (fun _=>true) true fuel 42 cs=some x) :
  ∃ v:Co,cs=c4s v∧v.n.length∈x.1.weights Tryz.prog 42:=by
 obtain ⟨y0,y1,y2,y3,m,hx,hl,h0,h1,h2,h3⟩:=trod_struct48 Tryz.underlying42 hf
 have hc:Tryz.prog.cellsOf 42=4:=by kernel_rfl
 rw [hc] at hl
 obtain ⟨c0,c1,c2,c3,rfl⟩:=list4 hl
 obtain ⟨s,es,rfl,ws⟩:=DataW.trod_string Tryz.underlying9 h0
 obtain ⟨a,ea,rfl,wa⟩:=DataW.trod_int Tryz.underlying3 h1
 obtain ⟨b,eb,rfl,wb⟩:=DataW.trod_int Tryz.underlying3 h2
 obtain ⟨d,ed,rfl⟩:=DataW.trod_bool Tryz.underlying4 h3
 have c1':Tryz.prog.cellsOf 3=1:=by kernel_rfl
 have c2':Tryz.prog.cellsOf 9=1:=by kernel_rfl
 have c3':Tryz.prog.cellsOf 4=1:=by kernel_rfl
 rw [c1'] at ea eb
 rw [c2'] at es
 rw [c3'] at ed
 simp at ea eb es ed
 subst ea;subst eb;subst es;subst ed
 refine ⟨⟨s.data.toList,a,b,d⟩,rfl,?_⟩
 rw [hx]
 simp [DataW.weights,Tryz.underlying42,DataW.weightsEach]
theorem bytesC8:Tryz.prog.bytesOf 42=40:=by kernel_rfl
theorem bytesI8:Tryz.prog.bytesOf 3=8:=by kernel_rfl
theorem bytesL8:Tryz.prog.bytesOf 23=24:=by kernel_rfl
def LeW {H:Type} (d:DataW H) (T:TypeId) (n:Nat):Prop:=∃ k,n≤k∧(k=0∨k∈d.weights Tryz.prog T)
theorem cols_open {H:Type} {enc:TypeId × Value→H} {W:World} {a:Option Addr} {len cap fuel:Nat} {cs:List Value} {x:DataW H × List MemPlace}
  (hf:DataW.trod enc Tryz.prog W 0 (fun _=>true) true fuel 22 cs=some x) (hcs:cs=[.slice a len cap]) :
  ∃ l:List Co,Cw W a l∧l.length=len∧len≤cap∧(∀ v∈l,LeW x.1 22 v.n.length)∧LeW x.1 22 (len*40):=by
 subst hcs
 have hc4:Tryz.prog.cellsOf 42=4:=by kernel_rfl
 rcases Go.Deep.open_slice Tryz.underlying22 hf with ⟨hcs,_⟩|⟨y,l,c,m,n,D,Pl,hcs,_,hl,hm,hmm,hx,hel⟩
 ·simp at hcs
  obtain ⟨rfl,rfl,rfl⟩:=hcs
  exact ⟨[],fun h=>by simp at h,rfl,Nat.le_refl _,(fun v h=>by simp at h),⟨0,by simp,.inl rfl⟩⟩
 ·simp at hcs
  obtain ⟨rfl,rfl,rfl⟩:=hcs
  have hmc:m=cap:=by simpa using hmm
  rw [hc4] at hel
  have ex:∀ i,i<len→∃ v:Co,W.cells? 0 (y.add (i*4)) 4=some (c4s v)∧v.n.length∈(D i).weights Tryz.prog 42:=by
   intro i hi
   obtain ⟨cs',h1,h2⟩:=hel i (by omega)
   obtain ⟨v,rfl,hv⟩:=col_cells h2
   exact ⟨v,h1,hv⟩
  let f:Nat→Co:=fun i=>if h:i<len then (ex i h).choose else ⟨[],0,0,false⟩
  have hf:∀ i (h:i<len),W.cells? 0 (y.add (i*4)) 4=some (c4s (f i))∧(f i).n.length∈(D i).weights Tryz.prog 42:=by
   intro i h
   have:f i=(ex i h).choose:=dif_pos h
   rw [this]
   exact (ex i h).choose_spec
  refine ⟨(List.range len).map f,?_,by simp,by omega,?_,?_⟩
  ·intro hp
   simp only [List.length_map,List.length_range] at hp
   obtain ⟨b,off,spot⟩:=y
   have h0:=cells4 (hf 0 hp).1
   have hspot:spot=none:=by simpa [Addr.add] using World.cell?_spot h0.1
   subst hspot
   refine ⟨b,off,rfl,fun i hi=>?_⟩
   simp only [List.length_map,List.length_range] at hi
   obtain ⟨g0,g1,g2,g3⟩:=cells4 (hf i hi).1
   simp only [Addr.add_lit] at g0 g1 g2 g3
   simp only [List.getElem_map,List.getElem_range]
   exact ⟨g0,g1,g2,g3⟩
  ·intro v hv
   simp only [List.mem_map,List.mem_range] at hv
   obtain ⟨i,hi,rfl⟩:=hv
   refine ⟨_,Nat.le_refl _,.inr ?_⟩
   rw [hx]
   simp only [DataW.weights,Tryz.underlying22,List.mem_cons,List.mem_append]
   exact .inr (.inl (z5w (d:=D i) (List.mem_map.2 ⟨i,by simp;omega,rfl⟩) (hf i hi).2))
  ·refine ⟨cap*40,by omega,.inr ?_⟩
   rw [hx]
   simp only [DataW.weights,Tryz.underlying22,List.mem_cons]
   left
   rw [bytesC8]
   congr 1
   simp
   omega
theorem ints_open8 {H:Type} {enc:TypeId × Value→H} {W:World} {a:Option Addr} {len cap fuel:Nat} {cs:List Value} {x:DataW H × List MemPlace}
  (hf:DataW.trod enc Tryz.prog W 0 (fun _=>true) true fuel 23 cs=some x) (hcs:cs=[.slice a len cap]) :
  ∃ zs:List Int,Iw W a zs∧zs.length=len∧LeW x.1 23 (len*8):=by
 subst hcs
 rcases open_ints Tryz.underlying23 Tryz.underlying3 gK hf with ⟨hcs,_⟩|⟨y,l,c,zs,hcs,_,hl,hm,hz,hx,hcell,hwz⟩
 ·simp at hcs
  obtain ⟨rfl,rfl,rfl⟩:=hcs
  exact ⟨[],fun h=>by simp at h,rfl,⟨0,by simp,.inl rfl⟩⟩
 ·simp at hcs
  obtain ⟨rfl,rfl,rfl⟩:=hcs
  have hzl:zs.length=cap:=by simpa using hz
  refine ⟨zs.take len,fun hp=>?_,by simp;omega,⟨cap*8,by omega,.inr ?_⟩⟩
  ·simp only [List.length_take] at hp
   obtain ⟨b,off,spot⟩:=y
   have h0:=hcell 0 (by omega)
   have hspot:spot=none:=by simpa [Addr.add] using World.cell?_spot h0
   subst hspot
   refine ⟨b,off,rfl,fun i hi=>?_⟩
   simp only [List.length_take] at hi
   have hci:=hcell i (by omega)
   rw [Addr.add_lit] at hci
   rw [hci,List.getElem_take]
   simp [List.getD,show i<zs.length by omega]
  ·rw [hx]
   simp only [DataW.weights,Tryz.underlying23,List.mem_cons]
   left
   rw [bytesI8]
   congr 1
   simp [lits]
   omega
theorem unis_open {H:Type} {enc:TypeId × Value→H} {W:World} {a:Option Addr} {len cap fuel:Nat} {cs:List Value} {x:DataW H × List MemPlace}
  (hf:DataW.trod enc Tryz.prog W 0 (fun _=>true) true fuel 24 cs=some x) (hcs:cs=[.slice a len cap]) :
  ∃ l:List (List Int),Uw W a l∧l.length=len∧(∀ v∈l,LeW x.1 24 (v.length*8))∧LeW x.1 24 (len*24):=by
 subst hcs
 have hc1:Tryz.prog.cellsOf 23=1:=by kernel_rfl
 rcases Go.Deep.open_slice Tryz.underlying24 hf with ⟨hcs,_⟩|⟨y,l,c,m,n,D,Pl,hcs,_,hl,hm,hmm,hx,hel⟩
 ·simp at hcs
  obtain ⟨rfl,rfl,rfl⟩:=hcs
  exact ⟨[],fun h=>by simp at h,rfl,(fun v h=>by simp at h),⟨0,by simp,.inl rfl⟩⟩
 ·simp at hcs
  obtain ⟨rfl,rfl,rfl⟩:=hcs
  have hmc:m=cap:=by simpa using hmm
  rw [hc1] at hel
  have ex:∀ i,i<len→∃ v:List Int,(∃ uo uc,W.cells? 0 (y.add (i*1)) 1=some [.slice uo v.length uc]∧Iw W uo v)∧LeW (D i) 23 (v.length*8):=by
   intro i hi
   obtain ⟨cs',h1,h2⟩:=hel i (by omega)
   obtain ⟨uo,ul,uc,e⟩:=Go.Joins.slice_form Tryz.underlying23 h2
   subst e
   obtain ⟨v,iw,hv,lw⟩:=ints_open8 (a:=uo) (len:=ul) (cap:=uc) h2 rfl
   subst hv
   exact ⟨v,⟨uo,uc,h1,iw⟩,lw⟩
  let f:Nat→List Int:=fun i=>if h:i<len then (ex i h).choose else []
  have hf:∀ i (h:i<len),(∃ uo uc,W.cells? 0 (y.add (i*1)) 1=some [.slice uo (f i).length uc]∧Iw W uo (f i))∧LeW (D i) 23 ((f i).length*8):=by
   intro i h
   have:f i=(ex i h).choose:=dif_pos h
   rw [this]
   exact (ex i h).choose_spec
  have cell1:∀ {a:Addr} {v:Value},W.cells? 0 a 1=some [v]→W.cell? (a.add 0)=some v:=by
   intro a v h
   unfold World.cells? at h
   rw [if_pos (Nat.zero_le _)] at h
   have e:List.range 1=[0]:=rfl
   rw [e] at h
   simp only [List.mapM_cons,List.mapM_nil] at h
   cases h0:W.cell? (a.add 0) with
   | none=>simp [h0] at h
   | some v0=>simp [h0] at h;rw [h]
  refine ⟨(List.range len).map f,?_,by simp,?_,?_⟩
  ·intro hp
   simp only [List.length_map,List.length_range] at hp
   obtain ⟨b,off,spot⟩:=y
   obtain ⟨⟨uo,uc,h0,_⟩,_⟩:=hf 0 hp
   have h0:=cell1 h0
   have hspot:spot=none:=by simpa [Addr.add] using World.cell?_spot h0
   subst hspot
   refine ⟨b,off,rfl,fun i hi=>?_⟩
   simp only [List.length_map,List.length_range] at hi
   obtain ⟨⟨uo,uc,h1,h2⟩,_⟩:=hf i hi
   have h1:=cell1 h1
   simp only [Addr.add_lit] at h1
   simp only [List.getElem_map,List.getElem_range]
   exact ⟨uo,uc,by simpa using h1,h2⟩
  ·intro v hv
   simp only [List.mem_map,List.mem_range] at hv
   obtain ⟨i,hi,rfl⟩:=hv
   obtain ⟨k,h1,h2⟩:=(hf i hi).2
   refine ⟨k,h1,?_⟩
   rcases h2 with h2|h2
   ·exact .inl h2
   ·right
    rw [hx]
    simp only [DataW.weights,Tryz.underlying24,List.mem_cons,List.mem_append]
    exact .inr (.inl (z5w (d:=D i) (List.mem_map.2 ⟨i,by simp;omega,rfl⟩) h2))
  ·refine ⟨cap*24,by omega,.inr ?_⟩
   rw [hx]
   simp only [DataW.weights,Tryz.underlying24,List.mem_cons]
   left
   rw [bytesL8]
   congr 1
   simp
   omega
theorem LeW.up {H:Type} {d e:DataW H} {T U:TypeId} {n:Nat} (h:LeW d T n) (hs:∀ k,k∈d.weights Tryz.prog T→k∈e.weights Tryz.prog U):LeW e U n:=by
 obtain ⟨k,h1,h2⟩:=h
 refine ⟨k,h1,?_⟩
 rcases h2 with h2|h2
 ·exact .inl h2
 ·exact .inr (hs k h2)
structure TbO {H:Type} (W:World) (t:Tb) (q:Tp) (d:DataW H):Prop where
 c:Cw W q.co t.cs
 k:Iw W q.ko t.key
 u:Uw W q.uo t.us
 x:Nw W q.xo t.ck
 cap:t.cs.length≤q.cc
 vi:∀ v∈t.ck,vin v.v
 nl:LeW d 27 t.n.length
 cnl:∀ c∈t.cs,LeW d 27 c.n.length
 cl:LeW d 27 (t.cs.length*40)
 kl:LeW d 27 (t.key.length*8)
 uul:∀ u∈t.us,LeW d 27 (u.length*8)
 ul:LeW d 27 (t.us.length*24)
 sh:∀ v∈t.ck,LeW d 27 v.t.length∧LeW d 27 v.n.length
 xl:LeW d 27 (t.ck.length*88)
theorem table_open {H:Type} {enc:TypeId × Value→H} {W:World} {fuel:Nat} {cs:List Value} {x:DataW H × List MemPlace}
  (hf:DataW.trod enc Tryz.prog W 0 (fun _=>true) true fuel 27 cs=some x) :
  ∃ (t:Tb) (q:Tp),cs=(tbcs t q).toList∧TbO W t q x.1:=by
 obtain ⟨y0,y1,y2,y3,y4,m,hx,hl,h0,h1,h2,h3,h4⟩:=z9f Tryz.underlying27 hf
 have hc:Tryz.prog.cellsOf 27=5:=by kernel_rfl
 rw [hc] at hl
 obtain ⟨v0,v1,v2,v3,v4,rfl⟩:=list5 hl
 have d0:Tryz.prog.cellsOf 9=1:=by kernel_rfl
 have d1:Tryz.prog.cellsOf 22=1:=by kernel_rfl
 have d2:Tryz.prog.cellsOf 23=1:=by kernel_rfl
 have d3:Tryz.prog.cellsOf 24=1:=by kernel_rfl
 have d4:Tryz.prog.cellsOf 25=1:=by kernel_rfl
 rw [d0] at h0
 rw [d1] at h1
 rw [d2] at h2
 rw [d3] at h3
 rw [d4] at h4
 have h0':DataW.trod enc Tryz.prog W 0 (fun _=>true) true m 9 [v0]=some y0:=h0
 have h1':DataW.trod enc Tryz.prog W 0 (fun _=>true) true m 22 [v1]=some y1:=h1
 have h2':DataW.trod enc Tryz.prog W 0 (fun _=>true) true m 23 [v2]=some y2:=h2
 have h3':DataW.trod enc Tryz.prog W 0 (fun _=>true) true m 24 [v3]=some y3:=h3
 have h4':DataW.trod enc Tryz.prog W 0 (fun _=>true) true m 25 [v4]=some y4:=h4
 obtain ⟨s,es,rfl,ws⟩:=DataW.trod_string Tryz.underlying9 h0'
 obtain ⟨co,cn,cc,e1⟩:=Go.Joins.slice_form Tryz.underlying22 h1'
 obtain ⟨ko,kn,kc,e2⟩:=Go.Joins.slice_form Tryz.underlying23 h2'
 obtain ⟨uo,un,uc,e3⟩:=Go.Joins.slice_form Tryz.underlying24 h3'
 obtain ⟨xo,xn,xc,e4⟩:=Go.Joins.slice_form Tryz.underlying25 h4'
 simp only [List.cons.injEq,and_true] at es e1 e2 e3 e4
 subst es;subst e1;subst e2;subst e3;subst e4
 obtain ⟨cs,a1,rfl,a3,a4,a5⟩:=cols_open (a:=co) (len:=cn) (cap:=cc) h1' rfl
 obtain ⟨key,b1,rfl,b3⟩:=ints_open8 (a:=ko) (len:=kn) (cap:=kc) h2' rfl
 obtain ⟨us,c1,rfl,c3,c4⟩:=unis_open (a:=uo) (len:=un) (cap:=uc) h3' rfl
 obtain ⟨ck,⟨f1,rfl,f3,f4,f5⟩,f6⟩:=nods_open (a:=xo) (len:=xn) (cap:=xc) h4' rfl
 have hw:x.1.weights Tryz.prog 27=(DataW.lit (H:=H) (.string s.data.toList)).weights Tryz.prog 9++(y1.1.weights Tryz.prog 22++(y2.1.weights Tryz.prog 23++(y3.1.weights Tryz.prog 24++(y4.1.weights Tryz.prog 25++[])))):=by
  rw [hx]
  simp [DataW.weights,Tryz.underlying27,DataW.weightsEach]
 have w0:∀ k,k∈(DataW.lit (H:=H) (.string s.data.toList)).weights Tryz.prog 9→k∈x.1.weights Tryz.prog 27:=fun k h=>by rw [hw];simp [h]
 have w1:∀ k,k∈y1.1.weights Tryz.prog 22→k∈x.1.weights Tryz.prog 27:=fun k h=>by rw [hw];simp [h]
 have w2:∀ k,k∈y2.1.weights Tryz.prog 23→k∈x.1.weights Tryz.prog 27:=fun k h=>by rw [hw];simp [h]
 have w3:∀ k,k∈y3.1.weights Tryz.prog 24→k∈x.1.weights Tryz.prog 27:=fun k h=>by rw [hw];simp [h]
 have w4:∀ k,k∈y4.1.weights Tryz.prog 25→k∈x.1.weights Tryz.prog 27:=fun k h=>by rw [hw];simp [h]
 refine ⟨⟨s.data.toList,cs,key,us,ck⟩,⟨co,ko,uo,xo,cc,kc,uc,xc⟩,rfl,⟨a1,b1,c1,f1,a3,f4,?_,fun c hc=>(a4 c hc).up w1,a5.up w1,b3.up w2,fun u hu=>(c3 u hu).up w3,c4.up w3,fun v hv=>⟨⟨_,Nat.le_refl _,.inr (w4 _ (f5 v hv).1)⟩,⟨_,Nat.le_refl _,.inr (w4 _ (f5 v hv).2)⟩⟩,?_⟩⟩
 ·refine ⟨_,Nat.le_refl _,.inr (w0 _ ?_)⟩
  simp [DataW.weights]
 ·rcases f6 with h|⟨es,sp,h1,h2⟩
  ·exact ⟨0,by simp;omega,.inl rfl⟩
  ·refine ⟨xc*88,by simp;omega,.inr (w4 _ ?_)⟩
   rw [h1]
   simp only [DataW.weights,Tryz.underlying25,List.mem_cons]
   left
   rw [bytes88,h2]
theorem table_sized {H:Type} {ts:List TypeId} {ds:List (DataW H)} {j:Nat} {d:DataW H} {W:World} {t:Tb} {q:Tp} (h:(DataW.weightsEach Tryz.prog ts ds).all (·≤reachBytes)=true) (ht:ts[j]?=some 27) (hd:ds[j]?=some d) (ho:TbO W t q d) :
  TbW W t q∧TbZ t∧∀ v∈t.ck,vin v.v:=by
 have le:∀ {n:Nat},LeW d 27 n→n≤140737488351232:=by
  rintro n ⟨k,h1,h2⟩
  rcases h2 with rfl|h2
  ·omega
  ·have:=List.all_eq_true.1 h _ (DataW.weights_mem_each ht hd _ h2)
   have h3:k≤140737488351232:=of_decide_eq_true this
   omega
 have l1:=le ho.cl
 have l2:=le ho.kl
 have l3:=le ho.ul
 have l4:=le ho.xl
 exact ⟨⟨ho.c,ho.k,ho.u,ho.x,le ho.nl,fun c hc=>le (ho.cnl c hc),by omega,ho.cap,by omega,by omega,fun u hu=>by have:=le (ho.uul u hu);omega,by omega,fun v hv=>⟨le (ho.sh v hv).1,le (ho.sh v hv).2⟩⟩,⟨l1,l2,l3,fun u hu=>le (ho.uul u hu),l4⟩,ho.vi⟩
end Go.Proofs.YtljkonkfeiojnaaGreatDoor

namespace Go.Proofs.YtljkonkfeiojnaaGreatDoor
open Go.RowKit Go.Shelf
attribute [local go_sem] z0f z0b z0c z0e z0m z0k z0h z0d z0g
def pckL (row:List Va) (pl:List Int):List Va:=pl.map fun p=>row.getD p.toNat nul
theorem z9u (row:List Va) (pl:List Int):(pckL row pl).length=pl.length:=by simp [pckL]
def keyL (row:List Va) (pl:List Int):List UInt8:=if (pckL row pl).any (fun v=>v.k==0)=true then [] else if pl.length=0 then [] else rkey (pckL row pl)
theorem infoVal8:(Tryz.prog.info? 44).map (fun i=>(i.zero,i.size,i.bytes))=some (some (.agg #[.int .i64 0,.int .i64 0,.int .i64 0,.string ⟨#[]⟩]),4,40):=by kernel_rfl
theorem hb_cell {w w':World} {b o:Nat} {v:Value} (h:w.cell? ⟨b,o,none⟩=some v) (hb:Below w.heap.size w w'):w'.cell? ⟨b,o,none⟩=some v:=(hb.cell (p:=⟨b,o,none⟩) (World.block_lt_of_cell? w _ h)).trans h
theorem vk_vs8 {w:World} {base:Nat} {v:Value} {l:List Va} (h:Vk w base v l):∃ ao cap,v=.slice ao l.length cap∧Vs w ao l:=by
 obtain ⟨h1,h2⟩:=h
 rcases h2 with ⟨rfl,hn⟩|⟨g,cap,cur,rfl,hb,hg,hnc,hcm,hcs,htake⟩
 ·have:l=[]:=List.eq_nil_of_length_eq_zero hn
  subst this
  exact ⟨none,0,rfl,fun h=>by simp at h⟩
 ·refine ⟨some ⟨g,0,none⟩,cap,rfl,fun _=>⟨g,0,rfl,fun i hi=>?_⟩⟩
  have hcell:∀ j,j<4→w.cell? ⟨g,i*4+j,none⟩=(vcs l[i])[j]?:=fun j hj=>by
   rw [cell_of_row w g (i*4+j) cur 44 (0,0) hg]
   have h3:cur[i*4+j]?=(cur.toList.take (l.length*4))[i*4+j]?:=by
    rw [List.getElem?_take,if_pos (by omega)];simp
   rw [h3,htake,vcells_at l i j hi hj]
  rw [Nat.zero_add]
  exact ⟨hcell 0 (by omega),hcell 1 (by omega),hcell 2 (by omega),hcell 3 (by omega)⟩
theorem keyOf_any (ro po:Option Addr) (rc pc:Nat) (row:List Va) (pl:List Int) (w:World) (hr:Vs w ro row) (hp:Iw w po pl) (_hrl:row.length≤140737488351232) (hin:∀ p∈pl,0≤p∧p.toNat<row.length) (hlen:pl.length≤64) (hvr:∀ v∈row,vr v=true) (hvi:∀ v∈row,vin v) (hT:Tabs w) :
  Calls Tryz.prog 21 #[.slice ro row.length rc,.slice po pl.length pc] w fun e w'=>e=.returned (.string ⟨(keyL row pl).toArray⟩)∧Below w.heap.size w w':=by
 obtain ⟨i0,hi,hz0,hz1,hz2⟩:=info_parts infoVal8
 obtain ⟨KB,hKB⟩:∃ KB:ByteArray,KB=⟨(keyL row pl).toArray⟩:=⟨_,rfl⟩
 rw [← hKB]
 have hmem:∀ v∈pckL row pl,v∈row:=fun v hv=>by
  simp only [pckL,List.mem_map] at hv
  obtain ⟨p,h1,rfl⟩:=hv
  have h2:=(hin p h1).2
  rw [List.getD_eq_getElem?_getD,List.getElem?_eq_getElem h2]
  exact List.getElem_mem h2
 have HNul:Hid (∀ i (h:i<pl.length),(row.getD pl[i].toNat nul).k=0→KB=⟨#[]⟩):=fun i h h2=>by
  rw [hKB]
  unfold keyL
  have hA:(pckL row pl).any (fun v=>v.k==0)=true:=List.any_eq_true.2 ⟨_,List.mem_map.2 ⟨pl[i],List.getElem_mem h,rfl⟩,by simpa using h2⟩
  rw [if_pos hA]
 have HEmp:Hid (pl.length=0→KB=⟨#[]⟩):=fun h=>by
  rw [hKB]
  unfold keyL
  rw [if_pos h]
  split <;> rfl
 have HKey:Hid (pl.length≠0→(∀ v∈pckL row pl,v.k≠0)→∀ ao cap W,Below w.heap.size w W→Vs W ao (pckL row pl)→Calls Tryz.prog 42 #[.slice ao pl.length cap] W fun e w'=>e=.returned (.tuple #[.string KB,.int .i64 0])∧Below W.heap.size W w'):=fun h0 hk ao cap W h hV=>by
  have hC:ckE (pckL row pl)=0:=by
   unfold ckE
   rw [z9u,if_neg (by omega),if_pos (List.all_eq_true.2 fun v hv=>hvr v (hmem v hv))]
  have:=key_good ao cap (pckL row pl) W (hT.later h) hV hC (fun v hv=>hvi v (hmem v hv))
  rw [z9u] at this
  rw [hKB]
  unfold keyL
  rw [if_neg (by simp only [List.any_eq_true];rintro ⟨v,h1,h2⟩;exact hk v h1 (by simpa using h2)),if_neg h0]
  exact this
 obtain ⟨n,hn⟩:∃ n,pl.length=n:=⟨_,rfl⟩
 have HN:Hid (pl.length=n):=hn
 have HP:Hid (Iw w po pl):=hp
 have HR:Hid (Vs w ro row):=hr
 have HI:Hid (∀ p∈pl,0≤p∧p.toNat<row.length):=hin
 obtain ⟨rl,hrn⟩:∃ rl,row.length=rl:=⟨_,rfl⟩
 have HRL:Hid (row.length=rl):=hrn
 rw [hn,hrn]
 rw [hn] at hlen
 clear hp hr hin hvr hvi hT hmem hKB hn hrn
 go_enter Tryz.func21,Tryz.ntmps21
 go_wp2
 go_loopw [5,12] (fun r5 r12 wr=>∃ k:Nat,r12=.int .i64 (k:Int)∧k≤n∧Below w.heap.size w wr∧Hid (Vk wr w.heap.size r5 (pckL row (pl.take k)))∧Hid (∀ v∈pckL row (pl.take k),v.k≠0)) (fun _ r _=>n - (intOf r).toNat)
 case atStart=>exact ⟨0,rfl,Nat.zero_le _,Below.refl _ _,World.ownsRow_nil _ _ _ _,fun v hv=>by simp [pckL] at hv⟩
 case round =>
  obtain ⟨k,rfl,hk,B0,hV,hZ⟩:=hrel
  by_cases hlt:k<n
  ·have hlt':(k:Int)<(n:Int):=by omega
   have k0:(0:Int)≤(k:Int):=by omega
   have hkl:k<pl.length:=by rw [HN.out];exact hlt
   obtain ⟨b,off,rfl,hcc⟩:=HP.out (by omega)
   have c0:=(hb_cell (hcc k hkl) B0)
   clear hcc
   have hpi:=HI.out pl[k] (List.getElem_mem hkl)
   have HTK:Hid (pckL row (pl.take (k+1))=pckL row (pl.take k)++[row.getD pl[k].toNat nul]):=by show _=_;unfold pckL;rw [List.take_succ_eq_append_getElem hkl,List.map_append];rfl
   have HNk:=HNul.out k hkl
   obtain ⟨i,hie⟩:∃ i:Nat,pl[k]=(i:Int):=⟨pl[k].toNat,by omega⟩
   rw [hie] at c0 hpi HTK HNk
   rw [Int.toNat_natCast] at hpi HTK HNk
   have hil:i<row.length:=hpi.2
   have hi1:(i:Int)<(rl:Int):=by have:=HRL.out;omega
   have hi2:(0:Int)≤(i:Int):=by omega
   have hge:row.getD i nul=row[i]:=by rw [List.getD_eq_getElem?_getD,List.getElem?_eq_getElem hil];rfl
   rw [hge] at HTK HNk
   obtain ⟨rb,ro2,rfl,hcr⟩:=HR.out (by omega)
   obtain ⟨a0,a1,a2,a3⟩:=(hcr i hil).later B0
   clear hcr hpi hge hie
   generalize row[i]=v at *
   obtain ⟨vk,vn,vm,vb⟩:=v
   simp only at *
   obtain ⟨VB,hVB⟩:∃ VB:ByteArray,VB=⟨vb.toArray⟩:=⟨_,rfl⟩
   have HVB:Hid (VB=⟨vb.toArray⟩):=hVB
   rw [← hVB] at a3
   clear hVB
   by_cases h0:vk=0
   ·have HS:Hid (KB=⟨#[]⟩):=HNk h0
    subst h0
    clear HNk
    go_wp2
    go_ret
    exact ⟨by rw [HS.out];rfl,B0⟩
   ·have h0':(vk==0)=false:=by simpa using h0
    have hL:(pckL row (pl.take k)).length=k:=by rw [z9u,List.length_take];omega
    have HL:Hid ((pckL row (pl.take k)).length=k):=hL
    have ow:wr.ownsRow w.heap.size 44 4 u5 k (z1t (pckL row (pl.take k))):=by have:=hV.out;unfold Vk at this;rwa [hL] at this
    have HZ2:Hid (∀ v∈pckL row (pl.take (k+1)),v.k≠0):=fun v hv=>by
     rw [HTK.out] at hv
     rcases List.mem_append.1 hv with h|h
     ·exact hZ.out v h
     ·simp only [List.mem_singleton] at h;subst h;exact h0
    have bs:=B0.size
    clear HNk h0 hL hZ
    go_wp2_with (at_builtin;refine wpList_append_lies _ rfl _ _ 28 rfl w.heap.size 44 i0 _ 4 40 Tryz.underlying28 hi hz0 hz1 hz2 rfl (by decide) _ k (z1t (pckL row (pl.take k))) rfl (World.ownsRow.alloc ow _) ⟨wr.heap.size,0,none⟩ 1 1 [.int .i64 vk,.int .i64 vn,.int .i64 vm,.string VB] rfl rfl (World.news_of_block (cs:=#[.int .i64 vk,.int .i64 vn,.int .i64 vm,.string VB]) (t:=44) (fr:=(0,0)) (heap_alloc_new wr _)) (fun x hx=>by simp at hx;rcases hx with rfl|rfl|rfl|rfl <;> rfl) (by decide) (by unfold maxLen;omega) (by omega) (by simp;omega) (wr.heap.size+1) (by simp) ?_)
    intro g cap1 w2 hown hgr hat hlt2
    have B2:Below w.heap.size w w2:=((B0.alloc bs _).grown hgr (by simp;omega) (fun x hx=>(World.ownsRow.lt ow x hx).1))
    have V2:Vk w2 w.heap.size (.slice (some ⟨g,0,none⟩) (k+1) cap1) (pckL row (pl.take (k+1))):=by
     rw [HTK.out]
     exact Vk.push (d:=⟨vk,vn,vm,vb⟩) HL.out (by rw [HVB.out] at hown;exact hown)
    clear hown hgr ow
    go_wp2
    go_roundw
    case rel=>exact ⟨k+1,by go_num,by omega,B2,V2,HZ2⟩
    case measure=>simp [intOf];omega
  ·have hlt':¬ (k:Int)<(n:Int):=by omega
   obtain rfl:k=n:=by omega
   have htk:pl.take k=pl:=List.take_of_length_le (by rw [HN.out];omega)
   rw [htk] at hV hZ
   obtain ⟨ao,cap,hsh,hVs⟩:=vk_vs8 hV.out
   rw [z9u,HN.out] at hsh
   subst hsh
   by_cases h0:k=0
   ·have HS:Hid (KB=⟨#[]⟩):=HEmp.out (by rw [HN.out];exact h0)
    subst h0
    go_wp2
    go_ret
    exact ⟨by rw [HS.out];rfl,B0⟩
   ·have h0':((k:Int)==0)=false:=by simp;omega
    have KY:=HKey.out (by rw [HN.out];exact h0) hZ.out ao cap wr B0 hVs
    rw [HN.out] at KY
    clear h0
    go_wp2_with fail
    refine KY.mono ?_
    rintro e w2 ⟨rfl,b2⟩
    go_wp2
    go_ret
    exact ⟨rfl,z0a B0 b2⟩
theorem keys0_any (t:Tb) (q:Tp) (ro:Option Addr) (rc:Nat) (row:List Va) (w:World) (hW:TbW w t q) (hT:Tabs w) (hPw:Pw w) (hr:Vs w ro row) (hi6:∀ x∈t.ck,vin x.v) (hir:∀ v∈row,vin v) (hrl:row.length≤140737488351232)
  (h0:(fitR t row).2=0) (hu:t.us.length=0) (hl:(fitR t row).1.length≤140737488351232) (hin:∀ p∈t.key,0≤p∧p.toNat<(fitR t row).1.length) (hk:t.key.length≤64) (hmr:∀ v∈(fitR t row).1,vr v=true) (hmi:∀ v∈(fitR t row).1,vin v) :
  Calls Tryz.prog 11 #[.agg (tbcs t q),.slice ro row.length rc] w fun e w'=>(∃ g,e=.returned (.tuple #[.slice (some ⟨g,0,none⟩) 1 1,.int .i64 0])∧w'.cell? ⟨g,0,none⟩=some (.string ⟨(keyL (fitR t row).1 t.key).toArray⟩))∧Below w.heap.size w w':=by
 have FI:∀ W,Below w.heap.size w W→Calls Tryz.prog 6 #[.agg (tbcs t q),.slice ro row.length rc] W fun e w'=>(∃ ao cap,e=.returned (.tuple #[.slice ao (fitR t row).1.length cap,.int .i64 0])∧Vs w' ao (fitR t row).1)∧Below W.heap.size W w':=fun W h=>by
  refine (fit_any t q ro rc row W (hW.later h) (hT.later h) (fun k hk=>by rw [h.cell (p:=⟨2,k,none⟩) hPw.pos];exact hPw k hk) (hr.later h) hi6 hir hrl).mono ?_
  rintro e w' ⟨⟨ao,cap,rfl,hV,_⟩,b⟩
  rw [h0]
  exact ⟨⟨ao,cap,rfl,hV⟩,b⟩
 have KO:∀ ao cap W,Below w.heap.size w W→Vs W ao (fitR t row).1→_:=fun ao cap W h hV=>keyOf_any ao q.ko cap q.kc (fitR t row).1 t.key W hV (hW.k.later h) hl hin hk hmr hmi (hT.later h)
 unfold tbcs at *
 generalize keyL (fitR t row).1 t.key=KL at *
 generalize hmd:(fitR t row).1=MD at *
 clear hW hT hPw hr hi6 hir h0 hin hmr hmi hk hmd
 obtain ⟨n,cs,key,us,ck⟩:=t
 obtain ⟨co,ko,uo,xo,cc,kc,uc,xc⟩:=q
 simp only at *
 rw [hu] at FI ⊢
 clear hu
 generalize ByteArray.mk n.toArray=NB at *
 generalize ByteArray.mk KL.toArray=KB at *
 generalize cs.length=m at *
 generalize key.length=kn at *
 generalize ck.length=xn at *
 generalize row.length=rl at *
 generalize hml:MD.length=ml at *
 have B1:Below w.heap.size w (w.alloc (.cells #[.string NB,.slice co m cc,.slice ko kn kc,.slice uo 0 uc,.slice xo xn xc] 33)):=(Below.refl _ _).alloc (Nat.le_refl _) _
 have A1:Cbox (w.alloc (.cells #[.string NB,.slice co m cc,.slice ko kn kc,.slice uo 0 uc,.slice xo xn xc] 33)) w.heap.size #[.string NB,.slice co m cc,.slice ko kn kc,.slice uo 0 uc,.slice xo xn xc] 33:=Cbox.new w _ _
 go_enter Tryz.func11,Tryz.ntmps11
 go_upto_region 1 with fail
 generalize w.alloc (.cells #[.string NB,.slice co m cc,.slice ko kn kc,.slice uo 0 uc,.slice xo xn xc] 33)=w1 at *
 have z0:=A1.at 0
 have z1:=A1.at 1
 have z2:=A1.at 2
 have z3:=A1.at 3
 have z4:=A1.at 4
 go_wp2_with fail
 refine (FI _ B1).mono ?_
 rintro e w2 ⟨⟨ao,cap,rfl,hV⟩,b2⟩
 have B2:=z0a B1 b2
 have A2:=A1.later b2
 clear z0 z1 z2 z3 z4
 have z2:=A2.at 2
 go_wp2_with fail
 refine (KO _ _ _ B2 hV).mono ?_
 rintro e w3 ⟨rfl,b3⟩
 have B3:=z0a B2 b3
 have A3:=A2.later b3
 have u4:Below w3.heap.size w3 (w3.alloc (.cells #[.string KB] 9)):=(Below.refl _ _).alloc (Nat.le_refl _) _
 have q4:Cbox (w3.alloc (.cells #[.string KB] 9)) w3.heap.size #[.string KB] 9:=Cbox.new w3 _ _
 have B4:=z0a B3 u4
 have A4:=A3.later u4
 clear z2
 go_upto_region 5 with fail
 generalize w3.alloc (.cells #[.string KB] 9)=w4 at *
 generalize w3.heap.size=g at *
 have z3:=A4.at 3
 have c4:=q4.at 0
 simp at z3 c4
 go_wp2_with fail
 go_loopw [8,28] (fun r8 r wr=>r8=.slice (some ⟨g,0,none⟩) 1 1∧r=.int .i64 0∧wr=w4) (fun _ _ _=>0)
 case atStart=>exact ⟨rfl,rfl,rfl⟩
 case round =>
  obtain ⟨rfl,rfl,rfl⟩:=hrel
  go_wp2
  go_ret2
  exact ⟨⟨g,rfl,c4⟩,B4⟩
abbrev TK:Tb:=⟨[116],[⟨[97],1,0,false⟩,⟨[98],2,2,false⟩],[0],[],nC⟩
theorem table_any (w:World) (hT:Tabs w) (hP:Ptab w) (hS:Sg w) :
  Calls Tryz.prog 10 #[] w fun e w'=>(∃ q:Tp,e=.returned (.agg (tbcs TK q))∧TbW w' TK q)∧Below w.heap.size w w':=by
 have b1:Below w.heap.size w (w.alloc (.cells #[.string ⟨#[]⟩,.slice none 0 0,.slice none 0 0,.slice none 0 0,.slice none 0 0] 33)):=(Below.refl _ _).alloc (Nat.le_refl _) _
 have r1:Cbox (w.alloc (.cells #[.string ⟨#[]⟩,.slice none 0 0,.slice none 0 0,.slice none 0 0,.slice none 0 0] 33)) w.heap.size #[.string ⟨#[]⟩,.slice none 0 0,.slice none 0 0,.slice none 0 0,.slice none 0 0] 33:=Cbox.new w _ _
 have PA:=parse_C _ (hT.later b1) (hP.later b1) (hS.later b1)
 clear hT hP hS
 go_enter Tryz.func10,Tryz.ntmps10
 go_wp2_with fail
 refine PA.mono ?_
 rintro e w2 ⟨⟨v,rfl,o2⟩,b2⟩
 obtain ⟨xo,xc,rfl,_⟩:=z1n.lies o2
 have B2:=z0a b1 b2
 have R2:=r1.later b2
 have y0:=R2.at 0
 have y1:=R2.at 1
 have y2:=R2.at 2
 have y3:=R2.at 3
 have y4:=R2.at 4
 have f0:=R2.free 0
 have f1:=R2.free 1
 have f2:=R2.free 2
 have f3:=R2.free 3
 have f4:=R2.free 4
 have rl:=R2.lt
 simp at y0 y1 y2 y3 y4
 have hb0:(w.alloc (.cells #[.string ⟨#[]⟩,.slice none 0 0,.slice none 0 0,.slice none 0 0,.slice none 0 0] 33)).heap.size=w.heap.size+1:=by simp
 rw [hb0] at o2
 have G5:=store5 w2 w.heap.size (.string ⟨#[116]⟩) (.slice (some ⟨w2.heap.size,0,none⟩) 2 2) (.slice (some ⟨w2.heap.size+1,0,none⟩) 1 1) (.slice none 0 0) (.slice xo 3 xc)
 have hws:(((((w2.setCell ⟨w.heap.size,0,none⟩ (.string ⟨#[116]⟩)).setCell ⟨w.heap.size,1,none⟩ (.slice (some ⟨w2.heap.size,0,none⟩) 2 2)).setCell ⟨w.heap.size,2,none⟩ (.slice (some ⟨w2.heap.size+1,0,none⟩) 1 1)).setCell ⟨w.heap.size,3,none⟩ (.slice none 0 0)).setCell ⟨w.heap.size,4,none⟩ (.slice xo 3 xc)).heap.size=w2.heap.size:=by simp [World.setCell]
 have o3:=z1c o2 G5 (fun g hg e=>by have h1:=(World.ownsRow.lt o2 g hg).1;have h2:=Option.some.inj e;omega)
 have B3:=B2.grown G5 B2.size (fun x hx=>by have:=Option.some.inj hx;omega)
 have uC:Below (((((w2.setCell ⟨w.heap.size,0,none⟩ (.string ⟨#[116]⟩)).setCell ⟨w.heap.size,1,none⟩ (.slice (some ⟨w2.heap.size,0,none⟩) 2 2)).setCell ⟨w.heap.size,2,none⟩ (.slice (some ⟨w2.heap.size+1,0,none⟩) 1 1)).setCell ⟨w.heap.size,3,none⟩ (.slice none 0 0)).setCell ⟨w.heap.size,4,none⟩ (.slice xo 3 xc)).heap.size (((((w2.setCell ⟨w.heap.size,0,none⟩ (.string ⟨#[116]⟩)).setCell ⟨w.heap.size,1,none⟩ (.slice (some ⟨w2.heap.size,0,none⟩) 2 2)).setCell ⟨w.heap.size,2,none⟩ (.slice (some ⟨w2.heap.size+1,0,none⟩) 1 1)).setCell ⟨w.heap.size,3,none⟩ (.slice none 0 0)).setCell ⟨w.heap.size,4,none⟩ (.slice xo 3 xc)) ((((((w2.setCell ⟨w.heap.size,0,none⟩ (.string ⟨#[116]⟩)).setCell ⟨w.heap.size,1,none⟩ (.slice (some ⟨w2.heap.size,0,none⟩) 2 2)).setCell ⟨w.heap.size,2,none⟩ (.slice (some ⟨w2.heap.size+1,0,none⟩) 1 1)).setCell ⟨w.heap.size,3,none⟩ (.slice none 0 0)).setCell ⟨w.heap.size,4,none⟩ (.slice xo 3 xc)).alloc (.cells #[.string ⟨#[97]⟩,.int .i64 1,.int .i64 0,.bool false,.string ⟨#[98]⟩,.int .i64 2,.int .i64 2,.bool false] 53)):=(Below.refl _ _).alloc (Nat.le_refl _) _
 have qC:Cbox ((((((w2.setCell ⟨w.heap.size,0,none⟩ (.string ⟨#[116]⟩)).setCell ⟨w.heap.size,1,none⟩ (.slice (some ⟨w2.heap.size,0,none⟩) 2 2)).setCell ⟨w.heap.size,2,none⟩ (.slice (some ⟨w2.heap.size+1,0,none⟩) 1 1)).setCell ⟨w.heap.size,3,none⟩ (.slice none 0 0)).setCell ⟨w.heap.size,4,none⟩ (.slice xo 3 xc)).alloc (.cells #[.string ⟨#[97]⟩,.int .i64 1,.int .i64 0,.bool false,.string ⟨#[98]⟩,.int .i64 2,.int .i64 2,.bool false] 53)) w2.heap.size #[.string ⟨#[97]⟩,.int .i64 1,.int .i64 0,.bool false,.string ⟨#[98]⟩,.int .i64 2,.int .i64 2,.bool false] 53:=by have:=Cbox.new (((((w2.setCell ⟨w.heap.size,0,none⟩ (.string ⟨#[116]⟩)).setCell ⟨w.heap.size,1,none⟩ (.slice (some ⟨w2.heap.size,0,none⟩) 2 2)).setCell ⟨w.heap.size,2,none⟩ (.slice (some ⟨w2.heap.size+1,0,none⟩) 1 1)).setCell ⟨w.heap.size,3,none⟩ (.slice none 0 0)).setCell ⟨w.heap.size,4,none⟩ (.slice xo 3 xc)) #[.string ⟨#[97]⟩,.int .i64 1,.int .i64 0,.bool false,.string ⟨#[98]⟩,.int .i64 2,.int .i64 2,.bool false] 53;rwa [hws] at this
 have uI:Below ((((((w2.setCell ⟨w.heap.size,0,none⟩ (.string ⟨#[116]⟩)).setCell ⟨w.heap.size,1,none⟩ (.slice (some ⟨w2.heap.size,0,none⟩) 2 2)).setCell ⟨w.heap.size,2,none⟩ (.slice (some ⟨w2.heap.size+1,0,none⟩) 1 1)).setCell ⟨w.heap.size,3,none⟩ (.slice none 0 0)).setCell ⟨w.heap.size,4,none⟩ (.slice xo 3 xc)).alloc (.cells #[.string ⟨#[97]⟩,.int .i64 1,.int .i64 0,.bool false,.string ⟨#[98]⟩,.int .i64 2,.int .i64 2,.bool false] 53)).heap.size ((((((w2.setCell ⟨w.heap.size,0,none⟩ (.string ⟨#[116]⟩)).setCell ⟨w.heap.size,1,none⟩ (.slice (some ⟨w2.heap.size,0,none⟩) 2 2)).setCell ⟨w.heap.size,2,none⟩ (.slice (some ⟨w2.heap.size+1,0,none⟩) 1 1)).setCell ⟨w.heap.size,3,none⟩ (.slice none 0 0)).setCell ⟨w.heap.size,4,none⟩ (.slice xo 3 xc)).alloc (.cells #[.string ⟨#[97]⟩,.int .i64 1,.int .i64 0,.bool false,.string ⟨#[98]⟩,.int .i64 2,.int .i64 2,.bool false] 53)) (((((((w2.setCell ⟨w.heap.size,0,none⟩ (.string ⟨#[116]⟩)).setCell ⟨w.heap.size,1,none⟩ (.slice (some ⟨w2.heap.size,0,none⟩) 2 2)).setCell ⟨w.heap.size,2,none⟩ (.slice (some ⟨w2.heap.size+1,0,none⟩) 1 1)).setCell ⟨w.heap.size,3,none⟩ (.slice none 0 0)).setCell ⟨w.heap.size,4,none⟩ (.slice xo 3 xc)).alloc (.cells #[.string ⟨#[97]⟩,.int .i64 1,.int .i64 0,.bool false,.string ⟨#[98]⟩,.int .i64 2,.int .i64 2,.bool false] 53)).alloc (.cells #[.int .i64 0] 3)):=(Below.refl _ _).alloc (Nat.le_refl _) _
 have qI3:Cbox (((((((w2.setCell ⟨w.heap.size,0,none⟩ (.string ⟨#[116]⟩)).setCell ⟨w.heap.size,1,none⟩ (.slice (some ⟨w2.heap.size,0,none⟩) 2 2)).setCell ⟨w.heap.size,2,none⟩ (.slice (some ⟨w2.heap.size+1,0,none⟩) 1 1)).setCell ⟨w.heap.size,3,none⟩ (.slice none 0 0)).setCell ⟨w.heap.size,4,none⟩ (.slice xo 3 xc)).alloc (.cells #[.string ⟨#[97]⟩,.int .i64 1,.int .i64 0,.bool false,.string ⟨#[98]⟩,.int .i64 2,.int .i64 2,.bool false] 53)).alloc (.cells #[.int .i64 0] 3)) (w2.heap.size+1) #[.int .i64 0] 3:=by have:=Cbox.new ((((((w2.setCell ⟨w.heap.size,0,none⟩ (.string ⟨#[116]⟩)).setCell ⟨w.heap.size,1,none⟩ (.slice (some ⟨w2.heap.size,0,none⟩) 2 2)).setCell ⟨w.heap.size,2,none⟩ (.slice (some ⟨w2.heap.size+1,0,none⟩) 1 1)).setCell ⟨w.heap.size,3,none⟩ (.slice none 0 0)).setCell ⟨w.heap.size,4,none⟩ (.slice xo 3 xc)).alloc (.cells #[.string ⟨#[97]⟩,.int .i64 1,.int .i64 0,.bool false,.string ⟨#[98]⟩,.int .i64 2,.int .i64 2,.bool false] 53)) #[.int .i64 0] 3;rwa [World.size_alloc,hws] at this
 have qC3:=qC.later uI
 have o4:=z1b (z1b o3 uC) uI
 have B4:=z0a (z0a B3 uC) uI
 have HQ:Hid (Cbox (((((((w2.setCell ⟨w.heap.size,0,none⟩ (.string ⟨#[116]⟩)).setCell ⟨w.heap.size,1,none⟩ (.slice (some ⟨w2.heap.size,0,none⟩) 2 2)).setCell ⟨w.heap.size,2,none⟩ (.slice (some ⟨w2.heap.size+1,0,none⟩) 1 1)).setCell ⟨w.heap.size,3,none⟩ (.slice none 0 0)).setCell ⟨w.heap.size,4,none⟩ (.slice xo 3 xc)).alloc (.cells #[.string ⟨#[97]⟩,.int .i64 1,.int .i64 0,.bool false,.string ⟨#[98]⟩,.int .i64 2,.int .i64 2,.bool false] 53)).alloc (.cells #[.int .i64 0] 3)) (w2.heap.size+1) #[.int .i64 0] 3∧Cbox (((((((w2.setCell ⟨w.heap.size,0,none⟩ (.string ⟨#[116]⟩)).setCell ⟨w.heap.size,1,none⟩ (.slice (some ⟨w2.heap.size,0,none⟩) 2 2)).setCell ⟨w.heap.size,2,none⟩ (.slice (some ⟨w2.heap.size+1,0,none⟩) 1 1)).setCell ⟨w.heap.size,3,none⟩ (.slice none 0 0)).setCell ⟨w.heap.size,4,none⟩ (.slice xo 3 xc)).alloc (.cells #[.string ⟨#[97]⟩,.int .i64 1,.int .i64 0,.bool false,.string ⟨#[98]⟩,.int .i64 2,.int .i64 2,.bool false] 53)).alloc (.cells #[.int .i64 0] 3)) w2.heap.size #[.string ⟨#[97]⟩,.int .i64 1,.int .i64 0,.bool false,.string ⟨#[98]⟩,.int .i64 2,.int .i64 2,.bool false] 53∧z1n (((((((w2.setCell ⟨w.heap.size,0,none⟩ (.string ⟨#[116]⟩)).setCell ⟨w.heap.size,1,none⟩ (.slice (some ⟨w2.heap.size,0,none⟩) 2 2)).setCell ⟨w.heap.size,2,none⟩ (.slice (some ⟨w2.heap.size+1,0,none⟩) 1 1)).setCell ⟨w.heap.size,3,none⟩ (.slice none 0 0)).setCell ⟨w.heap.size,4,none⟩ (.slice xo 3 xc)).alloc (.cells #[.string ⟨#[97]⟩,.int .i64 1,.int .i64 0,.bool false,.string ⟨#[98]⟩,.int .i64 2,.int .i64 2,.bool false] 53)).alloc (.cells #[.int .i64 0] 3)) (w.heap.size+1) (.slice xo 3 xc) nC∧Below w.heap.size w (((((((w2.setCell ⟨w.heap.size,0,none⟩ (.string ⟨#[116]⟩)).setCell ⟨w.heap.size,1,none⟩ (.slice (some ⟨w2.heap.size,0,none⟩) 2 2)).setCell ⟨w.heap.size,2,none⟩ (.slice (some ⟨w2.heap.size+1,0,none⟩) 1 1)).setCell ⟨w.heap.size,3,none⟩ (.slice none 0 0)).setCell ⟨w.heap.size,4,none⟩ (.slice xo 3 xc)).alloc (.cells #[.string ⟨#[97]⟩,.int .i64 1,.int .i64 0,.bool false,.string ⟨#[98]⟩,.int .i64 2,.int .i64 2,.bool false] 53)).alloc (.cells #[.int .i64 0] 3))):=⟨qI3,qC3,o4,B4⟩
 clear PA r1 b1 o2 b2 hb0 uC qC uI qI3 qC3 o3 o4 B3 B4 G5 R2 hws
 go_wp2
 have TWF:∀ W,Cbox W w2.heap.size #[.string ⟨#[97]⟩,.int .i64 1,.int .i64 0,.bool false,.string ⟨#[98]⟩,.int .i64 2,.int .i64 2,.bool false] 53→Cbox W (w2.heap.size+1) #[.int .i64 0] 3→z1n W (w.heap.size+1) (.slice xo 3 xc) nC→TbW W TK ⟨some ⟨w2.heap.size,0,none⟩,some ⟨w2.heap.size+1,0,none⟩,none,xo,2,1,0,xc⟩:=fun W h1 h2 h3=>by
  obtain ⟨xo',xc',e,N3⟩:=z1n.lies h3
  simp only [Value.slice.injEq] at e
  obtain ⟨rfl,_,rfl⟩:=e
  refine ⟨fun _=>⟨w2.heap.size,0,rfl,fun i hi=>?_⟩,fun _=>⟨w2.heap.size+1,0,rfl,fun i hi=>?_⟩,fun hp=>by simp at hp,N3,by simp,?_,by simp,by simp,by simp,by simp,fun u hu=>by simp at hu,by simp,sh_C⟩
  ·match i,hi with
   | 0,_=>exact ⟨h1.at 0,h1.at 1,h1.at 2,h1.at 3⟩
   | 1,_=>exact ⟨h1.at 4,h1.at 5,h1.at 6,h1.at 7⟩
  ·match i,hi with
   | 0,_=>exact h2.at 0
  ·intro c hc
   simp at hc
   rcases hc with rfl|rfl <;> simp
 refine bodyPost_ret_by (v:=.agg (tbcs TK ⟨some ⟨w2.heap.size,0,none⟩,some ⟨w2.heap.size+1,0,none⟩,none,xo,2,1,0,xc⟩)) ?_ rfl ⟨⟨_,rfl,TWF _ HQ.out.2.1 HQ.out.1 HQ.out.2.2.1⟩,HQ.out.2.2.2⟩
 simp [results,Tryz.results10,go_sem,y0,y1,y2,y3,y4,rl]
end Go.Proofs.YtljkonkfeiojnaaGreatDoor
